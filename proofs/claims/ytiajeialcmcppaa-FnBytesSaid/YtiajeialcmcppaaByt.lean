/- Slices of bytes: what '[]byte(s)' lays, what 'string(b)' reads, slices.Reverse and slices.Equal over them. -/
import Derived.Test.YtiajeialcmcppaaIn
import Derived.Shelf.SlicesE.Equal
import Derived.Shelf.SlicesE.Reverse
import Derived.ArgAppend
import Derived.Laws.IdiomStrings
import Derived.Below
import Derived.Lib.Hide
namespace Go.Proofs.Ytiajeialcmcppaa
open Go.RowKit

/-- the cells from the head of block g on are the bytes l -/
def ByteAt (w : World) (g : Nat) (l : List UInt8) : Prop := ∀ j (h : j < l.length), w.cell? ⟨g, j, none⟩ = some (.int .u8 (l[j].toNat : Int))
/-- the first cells of block g are there and may be written -/
def FreeAt (w : World) (g cap : Nat) : Prop := ∀ j, j < cap → (w.cell? ⟨g, j, none⟩).isSome = true ∧ w.frozen? ⟨g, j, none⟩ = false

theorem ByteAt.same {w w' : World} {g : Nat} {l : List UInt8} (h : ByteAt w g l) (e : w'.heap[g]? = w.heap[g]?) : ByteAt w' g l := fun j hj => (World.cell?_of_block (a := ⟨g, j, none⟩) e).trans (h j hj)
theorem FreeAt.same {w w' : World} {g cap : Nat} (h : FreeAt w g cap) (e : w'.heap[g]? = w.heap[g]?) : FreeAt w' g cap := fun j hj => by
  rw [World.cell?_of_block (a := ⟨g, j, none⟩) e, World.frozen?_of_block (a := ⟨g, j, none⟩) e]
  exact h j hj
theorem ByteAt.cut {w : World} {g : Nat} {p q : List UInt8} (h : ByteAt w g (p ++ q)) : ByteAt w g p := fun j hj => by
  have e := h j (by rw [List.length_append]; omega)
  rwa [List.getElem_append_left hj] at e

theorem byteAt_list {w : World} {g : Nat} {l : List UInt8} (h : ByteAt w g l) (j : Nat) (u : Value) (hu : (byteVals l)[j]? = some u) : w.cell? ⟨g, j, none⟩ = some u := by
  have hj : j < l.length := by
    have := (List.getElem?_eq_some_iff.1 hu).1
    rwa [byteVals_length] at this
  rw [h j hj, ← hu]
  simp [byteVals, hj]
theorem byteAt_of_list {w : World} {g : Nat} {l : List UInt8} (h : ∀ j u, (byteVals l)[j]? = some u → w.cell? ⟨g, j, none⟩ = some u) : ByteAt w g l := fun j hj => h j _ (by simp [byteVals, hj])

/-- '[]byte(s)': the new block's cells -/
theorem bytesRow_at (w : World) (s : ByteArray) (C : Nat) (hC : s.size ≤ C) (t : TypeId) :
    ByteAt (w.alloc (.cells (bytesRow s C) t ((bytesRow s C).size, (bytesRow s C).size + 1))) w.heap.size s.data.toList ∧ FreeAt (w.alloc (.cells (bytesRow s C) t ((bytesRow s C).size, (bytesRow s C).size + 1))) w.heap.size C := by
  have hb : (w.alloc (.cells (bytesRow s C) t ((bytesRow s C).size, (bytesRow s C).size + 1))).heap[w.heap.size]? = some (.cells (bytesRow s C) t ((bytesRow s C).size, (bytesRow s C).size + 1)) := by
    show (w.heap.push _)[w.heap.size]? = _
    simp
  have hsz : s.data.size = s.size := rfl
  have hbs : (bytesRow s C).size = C := by unfold bytesRow; simp; omega
  refine ⟨fun j hj => ?_, fun j hj => ⟨?_, ?_⟩⟩
  · have hj' : j < s.data.size := by simpa using hj
    rw [World.cell?_alloc_mark]
    unfold bytesRow
    rw [Array.getElem?_append_left (by simpa using hj')]
    rw [Array.getElem?_map, Array.getElem?_eq_getElem hj']
    rfl
  · rw [World.cell?_alloc_mark]
    simp
    omega
  · unfold World.frozen?
    rw [hb]
    simp only [Bool.and_eq_false_iff, decide_eq_false_iff_not]
    left
    omega

/-- 'string(b)' -/
theorem run_string_at {w : World} {g cap : Nat} {l : List UInt8} (h : ByteAt w g l) :
    (convert 22 9 (.slice (some ⟨g, 0, none⟩) l.length cap)).run Try.prog w = .ok (.string ⟨l.toArray⟩) w :=
  run_convert_bytes_back w 22 9 5 ⟨g, 0, none⟩ cap l Try.underlying22 Try.underlying5 Try.underlying9 (fun j hj => by rw [Addr.add_lit, Nat.zero_add]; exact h j hj)

/-- '[]byte(s)' -/
theorem run_bytes_at (w : World) (s : ByteArray) :
    (convert 9 22 (.string s)).run Try.prog w = .ok (.slice (some ⟨w.heap.size, 0, none⟩) s.size (grownCap w s.size 0 5))
      (w.drew.alloc (.cells (bytesRow s (grownCap w s.size 0 5)) 5 ((bytesRow s (grownCap w s.size 0 5)).size, (bytesRow s (grownCap w s.size 0 5)).size + 1))) :=
  run_bytes_of_string w 9 22 5 s Try.underlying9 Try.underlying22 Try.underlying5

/-- '[]byte(s)', told at once -/
theorem bytes_new (w : World) (s : ByteArray) : ∃ (C : Nat) (ob : Obj), (convert 9 22 (.string s)).run Try.prog w = .ok (.slice (some ⟨w.heap.size, 0, none⟩) s.size C) (w.drew.alloc ob) ∧ s.size ≤ C ∧
    Hid (ByteAt (w.alloc ob).drew w.heap.size s.data.toList ∧ FreeAt (w.alloc ob).drew w.heap.size C ∧ Below w.heap.size w (w.alloc ob).drew ∧ w.heap.size < (w.alloc ob).drew.heap.size) := by
  have hC := grownCap_ge w s.size 0 5
  have hrow := bytesRow_at w s _ hC 5
  exact ⟨_, _, run_bytes_at w s, hC, Lib.hid ⟨hrow.1.same rfl, hrow.2.same rfl, ((Below.refl _ _).alloc (Nat.le_refl _) _).drew, by show w.heap.size < (w.heap.push _).size; simp⟩⟩

def laysRev_ren : Go.Shelf.Ren := ⟨fun | 35 => 45 | n => n, fun | 22 => 22 | 23 => 5 | 3 => 3 | 4 => 4 | 0 => 0 | n => n, fun | n => n⟩
theorem laysRev : Go.Proofs.SlLaysE.n35 Try.prog laysRev_ren := {
  mixed := by kernel_rfl
  f35 := ⟨Try.f45.name, by decide, Try.func45.trans (congrArg some (by kernel_rfl))⟩
  t0 := Try.underlying0
  a0 := Try.isAgg0
  z0 := Try.sizeOf0
  v0 := Try.zeroValue0
  t3 := Try.underlying3
  a3 := Try.isAgg3
  z3 := Try.sizeOf3
  v3 := Try.zeroValue3
  t4 := Try.underlying4
  a4 := Try.isAgg4
  z4 := Try.sizeOf4
  v4 := Try.zeroValue4
  t22 := Try.underlying22
  a22 := Try.isAgg22
  z22 := Try.sizeOf22
  v22 := Try.zeroValue22
  a23 := Try.isAgg5
  z23 := Try.sizeOf5 }
def laysEq_ren : Go.Shelf.Ren := ⟨fun | 33 => 48 | n => n, fun | 22 => 22 | 23 => 5 | 4 => 4 | 3 => 3 | 0 => 0 | n => n, fun | n => n⟩
theorem laysEq : Go.Proofs.SlLaysE.n33 Try.prog laysEq_ren := {
  mixed := by kernel_rfl
  f33 := ⟨Try.f48.name, by decide, Try.func48.trans (congrArg some (by kernel_rfl))⟩
  t0 := Try.underlying0
  a0 := Try.isAgg0
  z0 := Try.sizeOf0
  v0 := Try.zeroValue0
  t3 := Try.underlying3
  a3 := Try.isAgg3
  z3 := Try.sizeOf3
  v3 := Try.zeroValue3
  t4 := Try.underlying4
  a4 := Try.isAgg4
  z4 := Try.sizeOf4
  v4 := Try.zeroValue4
  t22 := Try.underlying22
  a22 := Try.isAgg22
  z22 := Try.sizeOf22
  v22 := Try.zeroValue22
  a23 := Try.isAgg5
  z23 := Try.sizeOf5 }

def encB (b : UInt8) : Value := .int .u8 (b.toNat : Int)
theorem encB_one : OneCell encB := fun _ => rfl
theorem holdsB {w : World} {g : Nat} {l : List UInt8} (h : ByteAt w g l) (hf : FreeAt w g l.length) : Go.Sort.Holds encB w g 0 l.toArray := by
  intro j hj
  have hj' : j < l.length := by simpa using hj
  refine ⟨?_, by rw [Nat.zero_add]; exact (hf j hj').2⟩
  rw [Nat.zero_add, h j hj']
  simp [encB, hj']

/-- slices.Reverse over bytes -/
theorem rev_any (w : World) (g cap : Nat) (l : List UInt8) (h : ByteAt w g l) (hf : FreeAt w g l.length) (hl : l.length ≤ 9223372036854775807) :
    Calls Try.prog 45 #[.slice (some ⟨g, 0, none⟩) l.length cap] w fun e w' => e = .returned (.tuple #[]) ∧ ByteAt w' g l.reverse ∧ Below g w w' := by
  refine (AnyE.slices_Reverse laysRev encB encB_one g 0 cap l w (holdsB h hf) hl).mono ?_
  rintro e w' ⟨rfl, n, rfl⟩
  refine ⟨rfl, fun j hj => ?_, ⟨rfl, rfl, rfl, by simp [Go.Sort.putRow, Go.Sort.mapBlock, Go.Sort.ahead], fun k hk => ?_⟩⟩
  · have hj' : j < l.reverse.toArray.size := by simpa using hj
    have e := Go.Sort.cell?_putRow encB (Go.Sort.ahead w n) g 0 l.toArray l.reverse.toArray (Go.Sort.holds_ahead encB w n g 0 _ (holdsB h hf)) (by simp) j hj'
    rw [Nat.zero_add] at e
    rw [e]
    simp only [encB, List.size_toArray] at hj' ⊢
    rw [getElem!_pos _ _ (by simpa using hj')]
    simp
  · have : g ≠ k := by omega
    simp [Go.Sort.putRow, Go.Sort.mapBlock, Go.Sort.ahead, Array.getElem?_modify, this]

/-- slices.Equal over bytes -/
theorem equal_any (w : World) (g1 g2 c d : Nat) (x y : List UInt8) (h1 : ByteAt w g1 x) (h2 : ByteAt w g2 y) (hx : x.length ≤ 9223372036854775807) (hy : y.length ≤ 9223372036854775807) :
    Calls Try.prog 48 #[.slice (some ⟨g1, 0, none⟩) x.length c, .slice (some ⟨g2, 0, none⟩) y.length d] w fun e w' => e = .returned (.bool (decide (x = y))) ∧ Below w.heap.size w w' := by
  have hne : NeqAt Try.prog (laysEq_ren.t 23) encB (fun x y => x == y) := by
    refine ⟨fun x y w => ?_, fun op a b x y w => (NeqAt.int Try.prog _ .u8).2 op a b (x.toNat : Int) (y.toNat : Int) w⟩
    have e := (NeqAt.int Try.prog (laysEq_ren.t 23) .u8).1 (x.toNat : Int) (y.toNat : Int) w
    refine e.trans ?_
    have : ((x.toNat : Int) == (y.toNat : Int)) = (x == y) := by
      rw [Bool.eq_iff_iff]
      simp only [beq_iff_eq]
      exact ⟨fun h => UInt8.toNat_inj.1 (by omega), fun h => by rw [h]⟩
    simp only [this]
  refine (AnyE.slices_Equal laysEq encB (fun x y => x == y) hne g1 0 x.length c g2 0 y.length d x y w (Nat.le_refl _) (Nat.le_refl _) hx hy
    (fun j hj => by rw [Nat.zero_add, h1 j hj]; simp [encB, hj]) (fun j hj => by rw [Nat.zero_add, h2 j hj]; simp [encB, hj])).mono ?_
  rintro e w' ⟨rfl, q, rfl⟩
  refine ⟨?_, ⟨rfl, rfl, rfl, Nat.le_refl _, fun _ _ => rfl⟩⟩
  have e : Lib.allEq (fun x y => x == y) (x.take x.length) (y.take y.length) = decide (x = y) := by
    rw [List.take_length, List.take_length]
    clear h1 h2 hx hy
    induction x generalizing y with
    | nil => cases y <;> rfl
    | cons a x ih =>
      cases y with
      | nil => rfl
      | cons b y =>
        simp only [Lib.allEq, ih y]
        by_cases hab : a = b
        · subst hab; simp
        · simp [hab]
  rw [e]
end Go.Proofs.Ytiajeialcmcppaa
