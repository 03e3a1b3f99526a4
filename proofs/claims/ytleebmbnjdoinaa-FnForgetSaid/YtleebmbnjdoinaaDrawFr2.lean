/- The drawn frames, right or not: what l03Any and DrawPutFrame answer. -/
import Derived.Test.YtleebmbnjdoinaaDrawFr
namespace Go.Proofs.Ytleebmbnjdoinaa
open Go.RowKit

theorem grown_own' {w w' : World} {c : Option Nat} (h : w.grownBy w' none) : w.grownBy w' c := ⟨h.os, h.tape, h.output, h.size, fun k hk _ => h.block k hk (fun e => by cases e)⟩
theorem cur_grow {B c len : Nat} {w w' : World} (hc : Cur B c len w) (hg : w.grownBy w' none) : Cur B c len w' := by
  obtain ⟨zs, s, h⟩ := curF_of hc
  exact (curF_grow h hg (fun g e => by cases e)).cur

/-- some frame is drawn; below the heap's end nothing has turned -/
def DrewFr (w : World) (e : Ending) (w' : World) : Prop := ∃ f : Fr, e = .returned f.val ∧ f.body.size ≤ 1600 ∧ Below w.heap.size w w'

end Go.Proofs.Ytleebmbnjdoinaa
