/- The drawn addresses: what l02Mac, l02Any, l02Ip and the draws of chapter 2 answer. -/
import Derived.Test.YtjljdkamidppbaaDoorDraw
import Derived.Test.YtjljdkamidppbaaDoorMac
namespace Go.Proofs.YtjljdkamidppbaaDoor
open Go.RowKit

theorem cur_alloc {B c len : Nat} {w : World} (hc : Cur B c len w) (cs : Array Value) (t : TypeId) : Cur B c len (w.alloc (.cells cs t)) := by
  obtain ⟨a, cap, zs, i, h, h1, h2, h3, h4, h5, h6⟩ := hc
  have hcB : c < w.heap.size := (Array.getElem?_eq_some_iff.1 h2).1
  exact ⟨a, cap, zs, i, h, h1, (Below.heap_alloc w _ c hcB).trans h2, h3.below h4 ((Below.refl _ w).alloc (by omega) _), h4, h5, h6⟩
theorem cur_lt {B c len : Nat} {w : World} (hc : Cur B c len w) : c < w.heap.size := by
  obtain ⟨a, cap, zs, i, h, h1, h2, _⟩ := hc
  exact (Array.getElem?_eq_some_iff.1 h2).1

/-- an address -/
def DrawnMac (B c len : Nat) (w : World) (e : Ending) (w' : World) : Prop := ∃ x : Int, e = .returned (.int .i64 x) ∧ isMac x ∧ Cur B c len w' ∧ w.grownBy w' (some c)

theorem ip_any (B c len : Nat) (w : World) (hl : len ≤ 1048576) (hc : Cur B c len w) :
    Calls Tryd.prog 26 #[.pointer (some ⟨c, 0, none⟩)] w (DrawnInt B c len w) := by
  have hlt := cur_lt hc
  go_enter Tryd.func26, Tryd.ntmps26
  go_wp2_with fail
  refine (pickInt_any B c len w.heap.size 11 11 [3758096385, 3774873601, 4026531839, 4026531840, 3758096384, 3232235777, 0, 4294967295, 4294967296, -1, 3767009281] (by decide) (by decide) _ hl (cur_alloc hc _ _) (by omega) ?_).mono ?_
  · intro i hi
    rw [World.cell?_alloc_at (hn := rfl)]
    match i, hi with
    | 0, _ | 1, _ | 2, _ | 3, _ | 4, _ | 5, _ | 6, _ | 7, _ | 8, _ | 9, _ | 10, _ => rfl
  · rintro e w3 ⟨i, hi, rfl, hc3, hg3⟩
    generalize hz : [3758096385, 3774873601, 4026531839, 4026531840, 3758096384, 3232235777, 0, 4294967295, 4294967296, -1, 3767009281].getD i (0 : Int) = z
    have hb : -9223372036854775808 ≤ z ∧ z ≤ 9223372036854775807 := by
      subst hz
      match i, hi with
      | 0, _ | 1, _ | 2, _ | 3, _ | 4, _ | 5, _ | 6, _ | 7, _ | 8, _ | 9, _ | 10, _ => exact ⟨by decide, by decide⟩
    have HZ := Lib.hid hz; clear hz
    have HB := Lib.hid hb; clear hb
    go_wp2_with fail
    go_ret
    exact ⟨z, rfl, HB.out.1, HB.out.2, hc3, grown_trans (World.grownBy_alloc _ _ _) hg3⟩

/-- some number is drawn; below the heap's end nothing has turned -/
def DrewInt (w : World) (e : Ending) (w' : World) : Prop := ∃ n : Int, e = .returned (.int .i64 n) ∧ -9223372036854775808 ≤ n ∧ n ≤ 9223372036854775807 ∧ Below w.heap.size w w'

theorem drawIp_any (w : World) (a : Option Addr) (len cap : Nat) (zs : List Int) (hl : len ≤ 1048576) (hrow : IsRow .u8 w a len cap zs) (hlow : ∀ x, a = some x → 0 < cap → x.block < w.heap.size) :
    Calls Tryd.prog 15 #[.slice a len cap] w (DrewInt w) := by
  go_enter Tryd.func15, Tryd.ntmps15
  go_wp2_with fail
  refine (new_any w a len cap zs hl hrow hlow).mono ?_
  rintro e w1 ⟨rfl, hc1, hb1, hs1⟩
  go_wp2_with fail
  refine (ip_any _ _ _ _ hl hc1).mono ?_
  rintro e w2 ⟨n, rfl, hn0, hn1, hc2, hg2⟩
  go_wp2_with fail
  go_ret
  exact ⟨n, rfl, hn0, hn1, hb1.trans ((grown_below hg2 (Nat.le_refl _) (by omega)).mono (by omega))⟩
end Go.Proofs.YtjljdkamidppbaaDoor
