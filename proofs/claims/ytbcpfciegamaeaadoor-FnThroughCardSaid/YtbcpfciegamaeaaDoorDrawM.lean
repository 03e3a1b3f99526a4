/- The drawn addresses: what l02Mac, l02Any, l02Ip and the draws of chapter 2 answer. -/
import Derived.Test.YtbcpfciegamaeaaDoorDraw
import Derived.Test.YtbcpfciegamaeaaDoorMac
namespace Go.Proofs.YtbcpfciegamaeaaDoor
open Go.RowKit

theorem once_any (B c len : Nat) (n : Int) (h1 : 1 ≤ n) (h2 : n ≤ 4294967296) (w : World) (hl : len ≤ 1048576) (hc : Cur B c len w) :
    Calls Tryd.prog 37 #[.pointer (some ⟨c, 0, none⟩), .int .i64 n] w fun e w' => ∃ b : Bool, e = .returned (.bool b) ∧ Cur B c len w' ∧ w.grownBy w' (some c) := by
  go_enter Tryd.func37, Tryd.ntmps37
  go_wp2_with fail
  refine (below_any B c len n h1 h2 _ hl hc).mono ?_
  rintro e w1 ⟨x, rfl, hx0, hx1, hc1, hg1⟩
  go_wp2_with fail
  go_ret
  exact ⟨_, rfl, hc1, hg1⟩

theorem cur_alloc {B c len : Nat} {w : World} (hc : Cur B c len w) (cs : Array Value) (t : TypeId) : Cur B c len (w.alloc (.cells cs t)) := by
  obtain ⟨a, cap, zs, i, h, h1, h2, h3, h4, h5, h6⟩ := hc
  have hcB : c < w.heap.size := (Array.getElem?_eq_some_iff.1 h2).1
  exact ⟨a, cap, zs, i, h, h1, (Below.heap_alloc w _ c hcB).trans h2, h3.below h4 ((Below.refl _ w).alloc (by omega) _), h4, h5, h6⟩
theorem cur_lt {B c len : Nat} {w : World} (hc : Cur B c len w) : c < w.heap.size := by
  obtain ⟨a, cap, zs, i, h, h1, h2, _⟩ := hc
  exact (Array.getElem?_eq_some_iff.1 h2).1

/-- an address -/
def DrawnMac (B c len : Nat) (w : World) (e : Ending) (w' : World) : Prop := ∃ x : Int, e = .returned (.int .i64 x) ∧ isMac x ∧ Cur B c len w' ∧ w.grownBy w' (some c)

theorem mac_any (B c len : Nat) (w : World) (hl : len ≤ 1048576) (hc : Cur B c len w) :
    Calls Tryd.prog 38 #[.pointer (some ⟨c, 0, none⟩)] w (DrawnMac B c len w) := by
  have hlt := cur_lt hc
  go_enter Tryd.func38, Tryd.ntmps38
  go_wp2_with fail
  refine (pickInt_any B c len w.heap.size 9 9 [2199023255553, 2199023255554, 2199023255555, 2199023255556, 281474976710655, 1101088686337, 1101088686593, 1652522221568, 0] (by decide) (by decide) _ hl (cur_alloc hc _ _) (by omega) ?_).mono ?_
  · intro i hi
    rw [World.cell?_alloc_at (hn := rfl)]
    match i, hi with
    | 0, _ | 1, _ | 2, _ | 3, _ | 4, _ | 5, _ | 6, _ | 7, _ | 8, _ => rfl
  · rintro e w3 ⟨i, hi, rfl, hc3, hg3⟩
    generalize hz : [2199023255553, 2199023255554, 2199023255555, 2199023255556, 281474976710655, 1101088686337, 1101088686593, 1652522221568, 0].getD i (0 : Int) = z
    have hb : isMac z := by
      subst hz
      match i, hi with
      | 0, _ | 1, _ | 2, _ | 3, _ | 4, _ | 5, _ | 6, _ | 7, _ | 8, _ => exact ⟨by decide, by decide⟩
    have HZ := Lib.hid hz; clear hz
    have HB := Lib.hid hb; clear hb
    go_wp2_with fail
    go_ret
    exact ⟨z, rfl, HB.out, hc3, grown_trans (World.grownBy_alloc _ _ _) hg3⟩

theorem any2_any (B c len : Nat) (w : World) (hl : len ≤ 1048576) (hc : Cur B c len w) :
    Calls Tryd.prog 24 #[.pointer (some ⟨c, 0, none⟩)] w (DrawnInt B c len w) := by
  go_enter Tryd.func24, Tryd.ntmps24
  go_wp2_with fail
  refine (once_any B c len 4 (by decide) (by decide) _ hl hc).mono ?_
  rintro e w1 ⟨b, rfl, hc1, hg1⟩
  cases b
  · go_wp2_with fail
    refine (mac_any B c len _ hl hc1).mono ?_
    rintro e w2 ⟨x, rfl, hx, hc2, hg2⟩
    have HX := Lib.hid hx; clear hx
    go_wp2_with fail
    go_ret
    exact ⟨x, rfl, by have := HX.out.1; omega, by have := HX.out.2; omega, hc2, grown_trans hg1 hg2⟩
  · go_wp2_with fail
    refine (int_any B c len _ hl hc1).mono ?_
    rintro e w2 ⟨x, rfl, hx0, hx1, hc2, hg2⟩
    go_wp2_with fail
    go_ret
    exact ⟨x, rfl, hx0, hx1, hc2, grown_trans hg1 hg2⟩

/-- some number is drawn; below the heap's end nothing has turned -/
def DrewInt (w : World) (e : Ending) (w' : World) : Prop := ∃ n : Int, e = .returned (.int .i64 n) ∧ -9223372036854775808 ≤ n ∧ n ≤ 9223372036854775807 ∧ Below w.heap.size w w'

end Go.Proofs.YtbcpfciegamaeaaDoor
