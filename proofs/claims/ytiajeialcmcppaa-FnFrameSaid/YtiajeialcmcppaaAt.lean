/- at: a byte of the code, or another number below 256. -/
import Derived.Test.YtiajeialcmcppaaDraw
namespace Go.Proofs.Ytiajeialcmcppaa
open Go.RowKit

/-- a number below 256 -/
def SomeByte (w : World) (e : Ending) (w' : World) : Prop := ∃ n : Nat, e = .returned (.int .i64 n) ∧ n < 256 ∧ w = w'

theorem at_any (w : World) (a : Option Addr) (len cap i : Nat) (zs : List Int) (hl : len ≤ 1048576) (hi : i ≤ 1000000) (hrow : IsRow .u8 w a len cap zs) :
    Calls Try.prog 14 #[.slice a len cap, .int .i64 i] w (SomeByte w) := by
  by_cases h : i < len
  · obtain ⟨b, off, z, rfl, hcell, hz0, hz1⟩ := hrow.at h
    obtain ⟨n, rfl⟩ := Int.eq_ofNat_of_zero_le hz0
    go_enter Try.func14, Try.ntmps14
    go_wp2_with fail
    go_ret
    exact ⟨n, rfl, by omega, rfl⟩
  · have h' : ¬ ((i : Int) < (len : Int)) := by omega
    have hm : ((i : Int) * 7 + (len : Int)) % 256 = (((i * 7 + len) % 256 : Nat) : Int) := by omega
    have HM := Lib.hid hm; clear hm
    go_enter Try.func14, Try.ntmps14
    go_wp2_with fail
    go_ret
    exact ⟨(i * 7 + len) % 256, by rw [← HM.out]; rfl, Nat.mod_lt _ (by decide), rfl⟩

/-- the number, as a function of the code -/
def atF (len : Nat) (zs : List Int) (i : Nat) : Nat := if i < len then (zs.getD i 0).toNat else (i * 7 + len) % 256

theorem at_fun (w : World) (a : Option Addr) (len cap i : Nat) (zs : List Int) (hl : len ≤ 1048576) (hi : i ≤ 1000000) (hrow : IsRow .u8 w a len cap zs) :
    Calls Try.prog 14 #[.slice a len cap, .int .i64 i] w fun e w' => e = .returned (.int .i64 (atF len zs i : Nat)) ∧ w = w' := by
  by_cases h : i < len
  · rcases hrow with ⟨_, rfl, _⟩ | ⟨x, rfl, h1, h2, h3, h4, h5⟩
    · omega
    obtain ⟨b, off, spot⟩ := x
    have hcc := h4 i (by omega)
    have hspot : spot = none := by have := World.cell?_spot (h4 0 (by omega)); simpa [Addr.add] using this
    subst hspot
    rw [Addr.add_lit] at hcc
    have hwf := h5 (zs.getD i 0) (by rw [List.getD_eq_getElem?_getD, List.getElem?_eq_getElem (by omega)]; exact List.getElem_mem _)
    have hb : 0 ≤ zs.getD i 0 ∧ zs.getD i 0 ≤ 255 := by simpa [Lit.wf, IntKind.min, IntKind.max, IntKind.signed, IntKind.bits] using hwf
    have hx : atF len zs i = (zs.getD i 0).toNat := by unfold atF; rw [if_pos h]
    rw [hx]
    generalize zs.getD i 0 = z at hcc hb
    obtain ⟨n, rfl⟩ := Int.eq_ofNat_of_zero_le hb.1
    clear h4 h5 hwf hx
    go_enter Try.func14, Try.ntmps14
    go_wp2_with fail
    go_ret
    exact ⟨rfl, rfl⟩
  · have h' : ¬ ((i : Int) < (len : Int)) := by omega
    have hx : atF len zs i = (i * 7 + len) % 256 := by unfold atF; rw [if_neg h]
    rw [hx]
    clear hx
    go_enter Try.func14, Try.ntmps14
    go_wp2_with fail
    go_ret
    exact ⟨rfl, rfl⟩
theorem atF_lt (len : Nat) (zs : List Int) (i : Nat) (w : World) (a : Option Addr) (cap : Nat) (hrow : IsRow .u8 w a len cap zs) : atF len zs i < 256 := by
  unfold atF
  split
  · rename_i h
    rcases hrow with ⟨_, rfl, _⟩ | ⟨x, rfl, h1, h2, h3, h4, h5⟩
    · omega
    have hwf := h5 (zs.getD i 0) (by rw [List.getD_eq_getElem?_getD, List.getElem?_eq_getElem (by omega)]; exact List.getElem_mem _)
    have hb : 0 ≤ zs.getD i 0 ∧ zs.getD i 0 ≤ 255 := by simpa [Lit.wf, IntKind.min, IntKind.max, IntKind.signed, IntKind.bits] using hwf
    omega
  · omega
end Go.Proofs.Ytiajeialcmcppaa
