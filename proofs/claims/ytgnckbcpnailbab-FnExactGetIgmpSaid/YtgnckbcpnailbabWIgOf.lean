/- The walks of chapter 4's exact laws, out of the program's contracts. -/
import Derived.Test.YtgnckbcpnailbabIgL
import Derived.Test.YtgnckbcpnailbabPutIgS
import Derived.Test.YtgnckbcpnailbabGetIgS
namespace Go.Proofs.Ytgnckbcpnailbab
open Go.RowKit

/-- PutIgmp's bytes, or none -/
def igBytes (g : Ig) : ByteArray := if igOk g then ⟨(igL g).toArray⟩ else ⟨#[]⟩
theorem putIgmp_all (g : Ig) (w : World) : Calls Try.prog 9 #[g.val] w fun e w' => e = .returned (.string (igBytes g)) ∧ Below w.heap.size w w' := by
  unfold igBytes
  by_cases h : igOk g
  · rw [if_pos h]; exact putIgmp_spec g h w
  · rw [if_neg h]; exact putIgmp_no g h w

theorem walk_FnExactGetIgmp_of (hi : ∀ (s : ByteArray) (w : World), s.size ≤ 1048576 → Calls Try.prog 5 #[.string s] w (GotIg w (getIg s))) (s : ByteArray) (hm : s.size ≤ maxLen) (w : World) :
    Calls Try.prog 3 #[.string s] w fun e w' => e = .returned (.bool true) ∧ Below w.heap.size w w' := by
  unfold maxLen at hm
  by_cases hl : s.size ≤ 1048576
  · have hl' : ¬ (1048576 < (s.size : Int)) := by omega
    obtain ⟨g, ok, hS, hI⟩ : ∃ (g : Ig) (ok : Bool), (∀ w, Calls Try.prog 4 #[.string s] w (GotIg w (g, ok))) ∧ (∀ w, Calls Try.prog 5 #[.string s] w (GotIg w (g, ok))) :=
      ⟨(getIg s).1, (getIg s).2, fun w => getIgmp_spec s w hl, fun w => hi s w hl⟩
    have hE := eqIgmp_same g
    obtain ⟨kind, time, group, src⟩ := g
    unfold GotIg at hS hI
    unfold Ig.val at *
    simp only at hE hS hI
    have HS := Lib.hid hS; have HI := Lib.hid hI; have HE := Lib.hid hE
    clear hS hI hE hi
    go_enter Try.func3, Try.ntmps3
    go_wp2_with fail
    refine (HS.out _).mono ?_
    rintro e w1 ⟨rfl, hb1⟩
    go_wp2_with fail
    refine (HI.out _).mono ?_
    rintro e w2 ⟨rfl, hb2⟩
    obtain ⟨k0, k1, k2, k3⟩ := cells4 hb2
    have hb3 := (hb1.alloc hb1.size _).trans (hb2.mono (Nat.le_trans hb1.size (by simp)))
    have HB3 := Lib.hid hb3
    have hlt : w1.heap.size < w2.heap.size := by have := hb2.size; simp at this; omega
    have p0 := fun o => (((Below.refl w2.heap.size w2).alloc (Nat.le_refl _) o).cell (p := ⟨w1.heap.size, 0, none⟩) hlt).trans k0
    have p1 := fun o => (((Below.refl w2.heap.size w2).alloc (Nat.le_refl _) o).cell (p := ⟨w1.heap.size, 1, none⟩) hlt).trans k1
    have p2 := fun o => (((Below.refl w2.heap.size w2).alloc (Nat.le_refl _) o).cell (p := ⟨w1.heap.size, 2, none⟩) hlt).trans k2
    have p3 := fun o => (((Below.refl w2.heap.size w2).alloc (Nat.le_refl _) o).cell (p := ⟨w1.heap.size, 3, none⟩) hlt).trans k3
    clear hb3 hb1 hb2 hlt k0 k1 k2 k3
    go_wp2_with fail
    refine (HE.out _).mono ?_
    rintro e w3 ⟨rfl, hb3⟩
    have hfin := (HB3.out.alloc HB3.out.size _).trans (hb3.mono (Nat.le_trans HB3.out.size (by simp)))
    clear hb3 p0 p1 p2 p3
    cases ok
    all_goals
      go_wp2_with fail
      go_ret
      exact ⟨rfl, hfin⟩
  · have hl' : 1048576 < (s.size : Int) := by omega
    clear hi
    go_enter Try.func3, Try.ntmps3
    go_wp2_with fail
    go_ret
    exact ⟨rfl, Below.refl _ _⟩
end Go.Proofs.Ytgnckbcpnailbab
