/- The drawn addresses: what l02Mac, l02Any, l02Ip and the draws of chapter 2 answer. -/
import Derived.Test.YtbcpfciegamaeaaDraw
import Derived.Test.YtbcpfciegamaeaaMac
namespace Go.Proofs.Ytbcpfciegamaeaa
open Go.RowKit

theorem once_any (B c len : Nat) (n : Int) (h1 : 1 ≤ n) (h2 : n ≤ 4294967296) (w : World) (hl : len ≤ 1048576) (hc : Cur B c len w) :
    Calls Try.prog 30 #[.pointer (some ⟨c, 0, none⟩), .int .i64 n] w fun e w' => ∃ b : Bool, e = .returned (.bool b) ∧ Cur B c len w' ∧ w.grownBy w' (some c) := by
  go_enter Try.func30, Try.ntmps30
  go_wp2_with fail
  refine (below_any B c len n h1 h2 _ hl hc).mono ?_
  rintro e w1 ⟨x, rfl, hx0, hx1, hc1, hg1⟩
  go_wp2_with fail
  go_ret
  exact ⟨_, rfl, hc1, hg1⟩

theorem cur_alloc {B c len : Nat} {w : World} (hc : Cur B c len w) (cs : Array Value) (t : TypeId) : Cur B c len (w.alloc (.cells cs t)) := by
  obtain ⟨a, cap, zs, i, h, h1, h2, h3, h4, h5, h6⟩ := hc
  have hcB : c < w.heap.size := (Array.getElem?_eq_some_iff.1 h2).1
  exact ⟨a, cap, zs, i, h, h1, (Below.heap_alloc w _ c hcB).trans h2, h3.below h4 ((Below.refl _ w).alloc (by omega) _), h4, h5, h6⟩
theorem cur_lt {B c len : Nat} {w : World} (hc : Cur B c len w) : c < w.heap.size := by
  obtain ⟨a, cap, zs, i, h, h1, h2, _⟩ := hc
  exact (Array.getElem?_eq_some_iff.1 h2).1

/-- an address -/
def DrawnMac (B c len : Nat) (w : World) (e : Ending) (w' : World) : Prop := ∃ x : Int, e = .returned (.int .i64 x) ∧ isMac x ∧ Cur B c len w' ∧ w.grownBy w' (some c)

/-- some number is drawn; below the heap's end nothing has turned -/
def DrewInt (w : World) (e : Ending) (w' : World) : Prop := ∃ n : Int, e = .returned (.int .i64 n) ∧ -9223372036854775808 ≤ n ∧ n ≤ 9223372036854775807 ∧ Below w.heap.size w w'

end Go.Proofs.Ytbcpfciegamaeaa
