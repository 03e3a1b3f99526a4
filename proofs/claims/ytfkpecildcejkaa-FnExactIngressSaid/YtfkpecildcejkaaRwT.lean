/- Rows in the laws: copied in. -/
import Derived.Test.YtfkpecildcejkaaRwM
import Derived.Deep.Slices
namespace Go.Proofs.Ytfkpecildcejkaa
open Go.RowKit

theorem add_block (x : Addr) (n : Nat) : (x.add n).block = x.block := by unfold Addr.add; split <;> rfl
/-- a slice that came in -/
def SlArg (sz : Nat) {α : Type} (cs : α → List Value) (w : World) (a : Option Addr) (xs : List α) : Prop :=
  ∀ k (h : k < xs.length), ∃ x, a = some x ∧ x.block < w.heap.size ∧ ∀ j, j < sz → w.cell? (x.add (k * sz + j)) = (cs (xs[k]'h))[j]?
theorem SlArg.after {sz : Nat} {α : Type} {cs : α → List Value} {w w' : World} {a : Option Addr} {xs : List α} (h : SlArg sz cs w a xs) (hb : Below w.heap.size w w') : SlArg sz cs w' a xs := by
  intro k hk
  obtain ⟨x, e, hl, hc⟩ := h k hk
  exact ⟨x, e, Nat.lt_of_lt_of_le hl hb.size, fun j hj => (hb.cell (by rw [add_block]; exact hl)).trans (hc j hj)⟩

/-- a table as the program holds it -/
def tabVal (a : Option Addr) (n cap : Nat) (most : Int) : Value := .agg #[.slice a n cap, .int .i64 most]

end Go.Proofs.Ytfkpecildcejkaa
