/- Slices of bytes: what '[]byte(s)' lays, what 'string(b)' reads, slices.Reverse and slices.Equal over them. -/
import Derived.Test.YtfkpecildcejkaaIn
import Derived.Shelf.SlicesE.Equal
import Derived.Shelf.SlicesE.Reverse
import Derived.ArgAppend
import Derived.Laws.IdiomStrings
import Derived.Below
import Derived.Lib.Hide
namespace Go.Proofs.Ytfkpecildcejkaa
open Go.RowKit

/-- the cells from the head of block g on are the bytes l -/
def ByteAt (w : World) (g : Nat) (l : List UInt8) : Prop := ∀ j (h : j < l.length), w.cell? ⟨g, j, none⟩ = some (.int .u8 (l[j].toNat : Int))
/-- the first cells of block g are there and may be written -/
def FreeAt (w : World) (g cap : Nat) : Prop := ∀ j, j < cap → (w.cell? ⟨g, j, none⟩).isSome = true ∧ w.frozen? ⟨g, j, none⟩ = false

theorem ByteAt.same {w w' : World} {g : Nat} {l : List UInt8} (h : ByteAt w g l) (e : w'.heap[g]? = w.heap[g]?) : ByteAt w' g l := fun j hj => (World.cell?_of_block (a := ⟨g, j, none⟩) e).trans (h j hj)
theorem FreeAt.same {w w' : World} {g cap : Nat} (h : FreeAt w g cap) (e : w'.heap[g]? = w.heap[g]?) : FreeAt w' g cap := fun j hj => by
  rw [World.cell?_of_block (a := ⟨g, j, none⟩) e, World.frozen?_of_block (a := ⟨g, j, none⟩) e]
  exact h j hj
theorem ByteAt.cut {w : World} {g : Nat} {p q : List UInt8} (h : ByteAt w g (p ++ q)) : ByteAt w g p := fun j hj => by
  have e := h j (by rw [List.length_append]; omega)
  rwa [List.getElem_append_left hj] at e

theorem byteAt_list {w : World} {g : Nat} {l : List UInt8} (h : ByteAt w g l) (j : Nat) (u : Value) (hu : (byteVals l)[j]? = some u) : w.cell? ⟨g, j, none⟩ = some u := by
  have hj : j < l.length := by
    have := (List.getElem?_eq_some_iff.1 hu).1
    rwa [byteVals_length] at this
  rw [h j hj, ← hu]
  simp [byteVals, hj]
theorem byteAt_of_list {w : World} {g : Nat} {l : List UInt8} (h : ∀ j u, (byteVals l)[j]? = some u → w.cell? ⟨g, j, none⟩ = some u) : ByteAt w g l := fun j hj => h j _ (by simp [byteVals, hj])

/-- '[]byte(s)': the new block's cells -/
theorem bytesRow_at (w : World) (s : ByteArray) (C : Nat) (hC : s.size ≤ C) (t : TypeId) :
    ByteAt (w.alloc (.cells (bytesRow s C) t ((bytesRow s C).size, (bytesRow s C).size + 1))) w.heap.size s.data.toList ∧ FreeAt (w.alloc (.cells (bytesRow s C) t ((bytesRow s C).size, (bytesRow s C).size + 1))) w.heap.size C := by
  have hb : (w.alloc (.cells (bytesRow s C) t ((bytesRow s C).size, (bytesRow s C).size + 1))).heap[w.heap.size]? = some (.cells (bytesRow s C) t ((bytesRow s C).size, (bytesRow s C).size + 1)) := by
    show (w.heap.push _)[w.heap.size]? = _
    simp
  have hsz : s.data.size = s.size := rfl
  have hbs : (bytesRow s C).size = C := by unfold bytesRow; simp; omega
  refine ⟨fun j hj => ?_, fun j hj => ⟨?_, ?_⟩⟩
  · have hj' : j < s.data.size := by simpa using hj
    rw [World.cell?_alloc_mark]
    unfold bytesRow
    rw [Array.getElem?_append_left (by simpa using hj')]
    rw [Array.getElem?_map, Array.getElem?_eq_getElem hj']
    rfl
  · rw [World.cell?_alloc_mark]
    simp
    omega
  · unfold World.frozen?
    rw [hb]
    simp only [Bool.and_eq_false_iff, decide_eq_false_iff_not]
    left
    omega

/-- 'string(b)' -/
theorem run_string_at {w : World} {g cap : Nat} {l : List UInt8} (h : ByteAt w g l) :
    (convert 22 9 (.slice (some ⟨g, 0, none⟩) l.length cap)).run Try.prog w = .ok (.string ⟨l.toArray⟩) w :=
  run_convert_bytes_back w 22 9 5 ⟨g, 0, none⟩ cap l Try.underlying22 Try.underlying5 Try.underlying9 (fun j hj => by rw [Addr.add_lit, Nat.zero_add]; exact h j hj)

/-- '[]byte(s)' -/
theorem run_bytes_at (w : World) (s : ByteArray) :
    (convert 9 22 (.string s)).run Try.prog w = .ok (.slice (some ⟨w.heap.size, 0, none⟩) s.size (grownCap w s.size 0 5))
      (w.drew.alloc (.cells (bytesRow s (grownCap w s.size 0 5)) 5 ((bytesRow s (grownCap w s.size 0 5)).size, (bytesRow s (grownCap w s.size 0 5)).size + 1))) :=
  run_bytes_of_string w 9 22 5 s Try.underlying9 Try.underlying22 Try.underlying5

/-- '[]byte(s)', told at once -/
theorem bytes_new (w : World) (s : ByteArray) : ∃ (C : Nat) (ob : Obj), (convert 9 22 (.string s)).run Try.prog w = .ok (.slice (some ⟨w.heap.size, 0, none⟩) s.size C) (w.drew.alloc ob) ∧ s.size ≤ C ∧
    Hid (ByteAt (w.alloc ob).drew w.heap.size s.data.toList ∧ FreeAt (w.alloc ob).drew w.heap.size C ∧ Below w.heap.size w (w.alloc ob).drew ∧ w.heap.size < (w.alloc ob).drew.heap.size) := by
  have hC := grownCap_ge w s.size 0 5
  have hrow := bytesRow_at w s _ hC 5
  exact ⟨_, _, run_bytes_at w s, hC, Lib.hid ⟨hrow.1.same rfl, hrow.2.same rfl, ((Below.refl _ _).alloc (Nat.le_refl _) _).drew, by show w.heap.size < (w.heap.push _).size; simp⟩⟩

def encB (b : UInt8) : Value := .int .u8 (b.toNat : Int)
theorem encB_one : OneCell encB := fun _ => rfl
theorem holdsB {w : World} {g : Nat} {l : List UInt8} (h : ByteAt w g l) (hf : FreeAt w g l.length) : Go.Sort.Holds encB w g 0 l.toArray := by
  intro j hj
  have hj' : j < l.length := by simpa using hj
  refine ⟨?_, by rw [Nat.zero_add]; exact (hf j hj').2⟩
  rw [Nat.zero_add, h j hj']
  simp [encB, hj']

end Go.Proofs.Ytfkpecildcejkaa
