/- GetFrame of the program: its checks ahead of the fields. -/
import Derived.Test.YtfkpecildcejkaaGetFrI
namespace Go.Proofs.Ytfkpecildcejkaa
open Go.RowKit

/-- what the walk wants of a frame's block in a later world -/
theorem FrBlk.facts {w : World} {b : Nat} {g : Fr} (h : FrBlk w b g) : (∀ j, w.frozen? ⟨b, j, none⟩ = false) ∧ w.shape? b = some (28, 7) ∧
    w.cell? ⟨b, 0, none⟩ = some (.int .i64 g.dst) ∧ w.cell? ⟨b, 1, none⟩ = some (.int .i64 g.src) ∧ w.cell? ⟨b, 2, none⟩ = some (.bool g.tagged) ∧ w.cell? ⟨b, 3, none⟩ = some (.int .i64 g.vid) ∧ w.cell? ⟨b, 4, none⟩ = some (.int .i64 g.pri) ∧ w.cell? ⟨b, 5, none⟩ = some (.int .i64 g.type) ∧ w.cell? ⟨b, 6, none⟩ = some (.string g.body) := by
  have c : ∀ j, w.cell? ⟨b, j, none⟩ = (#[Value.int .i64 g.dst, .int .i64 g.src, .bool g.tagged, .int .i64 g.vid, .int .i64 g.pri, .int .i64 g.type, .string g.body] : Array Value)[j]? := fun j => Lib.cell_of_heap h j
  refine ⟨fun j => Lib.frozen_of_heap h j, ?_, c 0, c 1, c 2, c 3, c 4, c 5, c 6⟩
  simp [World.shape?, FrBlk] at h ⊢
  simp [h]

theorem FrBlk.below {w w1 : World} {b B : Nat} {g : Fr} (h : FrBlk w b g) (hb : Below B w w1) (hlt : b < B) : FrBlk w1 b g := (hb.block b hlt).trans h

end Go.Proofs.Ytfkpecildcejkaa
