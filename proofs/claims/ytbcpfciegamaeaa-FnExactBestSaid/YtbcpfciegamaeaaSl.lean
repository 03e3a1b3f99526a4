/- Slices whose elements are rows of cells: what a slice in memory holds, whatever its address; what leaves it as it is; stores into it. -/
import Derived.Test.YtbcpfciegamaeaaIn
namespace Go.Proofs.Ytbcpfciegamaeaa
open Go.RowKit

/-- a kind of element: its type, its cells -/
structure Kd (α : Type) where
  e : TypeId
  sz : Nat
  cs : α → List Value
  len : ∀ x, (cs x).length = sz

/-- blocks but those of B are as they were -/
structure Turned (B : List Nat) (w w' : World) : Prop where
  os : w'.os = w.os
  tape : w'.tape = w.tape
  output : w'.output = w.output
  size : w.heap.size ≤ w'.heap.size
  block : ∀ k, k < w.heap.size → k ∉ B → w'.heap[k]? = w.heap[k]?

theorem Turned.refl (B : List Nat) (w : World) : Turned B w w := ⟨rfl, rfl, rfl, Nat.le_refl _, fun _ _ _ => rfl⟩
theorem Turned.trans {B C : List Nat} {w w1 w2 : World} (h : Turned B w w1) (k : Turned C w1 w2) : Turned (B ++ C) w w2 :=
  ⟨k.os.trans h.os, k.tape.trans h.tape, k.output.trans h.output, Nat.le_trans h.size k.size,
   fun i hi hn => by
    simp only [List.mem_append, not_or] at hn
    exact (k.block i (Nat.lt_of_lt_of_le hi h.size) hn.2).trans (h.block i hi hn.1)⟩
theorem Turned.trans1 {B : List Nat} {w w1 w2 : World} (h : Turned B w w1) (k : Turned B w1 w2) : Turned B w w2 :=
  ⟨k.os.trans h.os, k.tape.trans h.tape, k.output.trans h.output, Nat.le_trans h.size k.size, fun i hi hn => (k.block i (Nat.lt_of_lt_of_le hi h.size) hn).trans (h.block i hi hn)⟩
theorem Turned.of_below {B : List Nat} {w w' : World} (h : Below w.heap.size w w') : Turned B w w' := ⟨h.os, h.tape, h.output, h.size, fun k hk _ => h.block k hk⟩
/-- what turned only at or above n: below n nothing has -/
theorem Turned.below {B : List Nat} {w w' : World} (h : Turned B w w') {n : Nat} (hn : n ≤ w.heap.size) (hB : ∀ b ∈ B, n ≤ b) : Below n w w' :=
  ⟨h.os, h.tape, h.output, h.size, fun k hk => h.block k (Nat.lt_of_lt_of_le hk hn) (fun hm => by have := hB k hm; omega)⟩
theorem Turned.setCell {B : List Nat} {w w' : World} (h : Turned B w w') {p : Addr} (hp : p.block ∈ B) (u : Value) : Turned B w (w'.setCell p u) :=
  ⟨h.os, h.tape, h.output, Nat.le_trans h.size (by simp [World.setCell]), fun k hk hn => (Below.heap_setCell w' p u k (fun e => hn (e ▸ hp))).trans (h.block k hk hn)⟩
theorem Turned.alloc {B : List Nat} {w w' : World} (h : Turned B w w') (o : Obj) : Turned B w (w'.alloc o) :=
  h.trans1 (Turned.of_below ((Below.refl _ _).alloc (Nat.le_refl _) o))
theorem Turned.drew {B : List Nat} {w w' : World} (h : Turned B w w') : Turned B w w'.drew := ⟨h.os, h.tape, h.output, h.size, h.block⟩

theorem take_step {α : Type} {xs ys : List α} {k : Nat} (hx : k < xs.length) (hy : k < ys.length) (ht : xs.take k = ys.take k) (h : xs[k] = ys[k]) : xs.take (k + 1) = ys.take (k + 1) := by
  rw [List.take_succ_eq_append_getElem hx, List.take_succ_eq_append_getElem hy, ht, h]
theorem ne_of_get {α : Type} {xs ys : List α} {k : Nat} (hx : k < xs.length) (hy : k < ys.length) (h : ¬ xs[k] = ys[k]) : ¬ xs = ys := fun e => by subst e; exact h rfl
theorem eq_of_takes {α : Type} {xs ys : List α} {n : Nat} (hx : xs.length = n) (hy : ys.length = n) (h : xs.take n = ys.take n) : xs = ys := by
  rwa [List.take_of_length_le (by omega), List.take_of_length_le (by omega)] at h

section
variable {α : Type} {K : Kd α}

/-- the slice at a holds xs -/
def SlIn (K : Kd α) (w : World) (a : Option Addr) (xs : List α) : Prop :=
  ∀ k (h : k < xs.length), ∃ g o cur, a = some ⟨g, o, none⟩ ∧ w.heap[g]? = some (.cells cur K.e (0, 0)) ∧ ∀ j, j < K.sz → cur[o + k * K.sz + j]? = (K.cs (xs[k]'h))[j]?

theorem SlIn.nil (w : World) (a : Option Addr) : SlIn K w a [] := fun k h => absurd h (by simp)
theorem SlIn.keep {w w' : World} {a : Option Addr} {xs : List α} (h : SlIn K w a xs) (hk : ∀ x, a = some x → xs ≠ [] → w'.heap[x.block]? = w.heap[x.block]?) : SlIn K w' a xs := by
  intro k hl
  obtain ⟨g, o, cur, e1, e2, e3⟩ := h k hl
  exact ⟨g, o, cur, e1, (hk _ e1 (fun e => by rw [e] at hl; exact absurd hl (by simp))).trans e2, e3⟩
theorem SlIn.lt {w : World} {a : Option Addr} {xs : List α} (h : SlIn K w a xs) : ∀ x, a = some x → xs ≠ [] → x.block < w.heap.size := by
  intro x hx hne
  obtain ⟨g, o, cur, e1, e2, _⟩ := h 0 (List.length_pos_iff.2 hne)
  rw [hx] at e1
  cases e1
  exact (Array.getElem?_eq_some_iff.1 e2).1
theorem SlIn.below {w w' : World} {a : Option Addr} {xs : List α} (h : SlIn K w a xs) {n : Nat} (hb : Below n w w') (hn : ∀ x, a = some x → xs ≠ [] → x.block < n) : SlIn K w' a xs :=
  h.keep fun x hx hne => hb.block _ (hn x hx hne)
theorem SlIn.after {w w' : World} {a : Option Addr} {xs : List α} (h : SlIn K w a xs) (hb : Below w.heap.size w w') : SlIn K w' a xs := h.below hb h.lt
theorem SlIn.turned {w w' : World} {a : Option Addr} {xs : List α} (h : SlIn K w a xs) {B : List Nat} (hT : Turned B w w') (hd : ∀ x, a = some x → xs ≠ [] → x.block ∉ B) : SlIn K w' a xs :=
  h.keep fun x hx hne => hT.block _ (h.lt x hx hne) (hd x hx hne)

/-- the cells of element k -/
theorem SlIn.at {w : World} {a : Option Addr} {xs : List α} (h : SlIn K w a xs) (k : Nat) (hk : k < xs.length) :
    ∃ g o, a = some ⟨g, o, none⟩ ∧ g < w.heap.size ∧ (∀ w', Below w.heap.size w w' → (∀ j, j < K.sz → w'.cell? ⟨g, o + k * K.sz + j, none⟩ = (K.cs (xs[k]'hk))[j]?) ∧ ∀ j, w'.frozen? ⟨g, j, none⟩ = false) := by
  obtain ⟨g, o, cur, e1, e2, e3⟩ := h k hk
  have hg := (Array.getElem?_eq_some_iff.1 e2).1
  refine ⟨g, o, e1, hg, fun w' hb => ?_⟩
  have e4 := (hb.block g hg).trans e2
  exact ⟨fun j hj => (Lib.cell_of_heap e4 _).trans (e3 j hj), fun j => Lib.frozen_of_heap e4 j⟩

theorem flat_get (K : Kd α) : ∀ (xs : List α) (k : Nat) (h : k < xs.length) (j : Nat), j < K.sz → (xs.flatMap K.cs)[k * K.sz + j]? = (K.cs (xs[k]'h))[j]?
  | x :: l, 0, _, j, hj => by
    rw [List.flatMap_cons, List.getElem?_append_left (by rw [K.len]; omega)]
    simp
  | x :: l, k + 1, h, j, hj => by
    rw [List.flatMap_cons, List.getElem?_append_right (by rw [K.len, Nat.succ_mul]; omega), K.len]
    rw [show (k + 1) * K.sz + j - K.sz = k * K.sz + j by rw [Nat.succ_mul]; omega]
    exact flat_get K l k (by simpa using h) j hj
theorem flat_len (K : Kd α) (xs : List α) : (xs.flatMap K.cs).length = xs.length * K.sz := by
  induction xs with
  | nil => simp
  | cons x l ih => rw [List.flatMap_cons, List.length_append, ih, K.len, List.length_cons, Nat.succ_mul, Nat.add_comm]
theorem flat_snoc (K : Kd α) (xs : List α) (x : α) : (xs ++ [x]).flatMap K.cs = xs.flatMap K.cs ++ K.cs x := by simp [List.flatMap_append]

/-- what the call owns is a slice in memory -/
theorem SlIn.of_owns {w : World} {base : Nat} {v : Value} {n : Nat} {xs : List α} (h : w.ownsRow base K.e K.sz v n (xs.flatMap K.cs)) (hn : xs.length = n) :
    ∃ a cap, v = .slice a n cap ∧ SlIn K w a xs ∧ (∀ x, a = some x → base ≤ x.block) ∧ (∀ x, a = some x → x.block < w.heap.size) ∧ n ≤ cap := by
  subst hn
  rcases h.2 with ⟨rfl, h0⟩ | ⟨g, cap, cur, rfl, hb, hg, hnc, _, _, htake⟩
  · obtain rfl := List.eq_nil_of_length_eq_zero h0
    exact ⟨none, 0, rfl, SlIn.nil _ _, fun x hx => (by cases hx), fun x hx => (by cases hx), Nat.zero_le _⟩
  · refine ⟨some ⟨g, 0, none⟩, cap, rfl, fun k hk => ⟨g, 0, cur, rfl, hg, fun j hj => ?_⟩, fun x hx => by cases hx; exact hb, fun x hx => by cases hx; exact (Array.getElem?_eq_some_iff.1 hg).1, hnc⟩
    rw [← flat_get K xs k hk j hj, ← htake, List.getElem?_take, if_pos (by
      have : (k + 1) * K.sz ≤ xs.length * K.sz := Nat.mul_le_mul_right _ hk
      rw [Nat.succ_mul] at this
      omega)]
    simp

/-- a store into cell j of element k -/
theorem SlIn.store {w : World} {g o : Nat} {xs : List α} (h : SlIn K w (some ⟨g, o, none⟩) xs) (k : Nat) (hk : k < xs.length) (j : Nat) (hj : j < K.sz) (u : Value) (x : α) (hx : K.cs x = (K.cs (xs[k]'hk)).set j u) :
    SlIn K (w.setCell ⟨g, o + k * K.sz + j, none⟩ u) (some ⟨g, o, none⟩) (xs.set k x) := by
  intro i hi
  rw [List.length_set] at hi
  obtain ⟨g', o', cur, e1, e2, e3⟩ := h i hi
  cases e1
  refine ⟨g, o, cur.setIfInBounds (o + k * K.sz + j) u, rfl, heap_setCell_same w g _ cur K.e u e2, fun m hm => ?_⟩
  by_cases hki : k = i
  · subst hki
    have hxx : (xs.set k x)[k]'(by simpa using hi) = x := by simp
    rw [hxx, hx]
    by_cases hjm : j = m
    · subst hjm
      have hlt : o + k * K.sz + j < cur.size := by
        have e := e3 j hm
        rw [List.getElem?_eq_getElem (by rw [K.len]; exact hm)] at e
        exact (Array.getElem?_eq_some_iff.1 e).1
      rw [Array.getElem?_setIfInBounds_self_of_lt hlt, List.getElem?_set_self (by rw [K.len]; exact hm)]
    · rw [Array.getElem?_setIfInBounds_ne (by omega), List.getElem?_set_ne hjm]
      exact e3 m hm
  · have hxx : (xs.set k x)[i]'(by simpa using hi) = xs[i] := by rw [List.getElem_set_ne hki]
    rw [hxx, Array.getElem?_setIfInBounds_ne]
    · exact e3 m hm
    · intro he
      rcases Nat.lt_or_gt_of_ne hki with h1 | h1
      · have : (k + 1) * K.sz ≤ i * K.sz := Nat.mul_le_mul_right _ h1
        rw [Nat.succ_mul] at this
        omega
      · have : (i + 1) * K.sz ≤ k * K.sz := Nat.mul_le_mul_right _ h1
        rw [Nat.succ_mul] at this
        omega

/-- values stored one behind the other -/
def setFrom (w : World) (g p : Nat) : List Value → World
  | [] => w
  | v :: l => setFrom (w.setCell ⟨g, p, none⟩ v) g (p + 1) l
theorem setFrom_spec {e : TypeId} (g : Nat) : ∀ (vs : List Value) (w : World) (p : Nat) (cur : Array Value), w.heap[g]? = some (.cells cur e (0, 0)) → p + vs.length ≤ cur.size →
    ∃ cur' : Array Value, (setFrom w g p vs).heap[g]? = some (.cells cur' e (0, 0)) ∧ cur'.size = cur.size ∧ (∀ i, cur'[i]? = if p ≤ i ∧ i < p + vs.length then vs[i - p]? else cur[i]?) ∧ Turned [g] w (setFrom w g p vs)
  | [], w, p, cur, h, _ => ⟨cur, h, rfl, fun i => by rw [if_neg (by simp only [List.length_nil]; omega)], Turned.refl _ _⟩
  | v :: l, w, p, cur, h, hp => by
    simp only [List.length_cons] at hp
    have h1 : (w.setCell ⟨g, p, none⟩ v).heap[g]? = some (.cells (cur.setIfInBounds p v) e (0, 0)) := heap_setCell_same w g p cur e v h
    obtain ⟨cur', e1, e2, e3, e4⟩ := setFrom_spec g l (w.setCell ⟨g, p, none⟩ v) (p + 1) _ h1 (by simp; omega)
    refine ⟨cur', e1, by simpa using e2, fun i => ?_, ((Turned.refl [g] w).setCell (by simp) v).trans1 e4⟩
    rw [e3 i]
    by_cases hi : p = i
    · subst hi
      rw [if_neg (by omega), if_pos (by simp), Array.getElem?_setIfInBounds_self_of_lt (by omega)]
      simp
    · rw [Array.getElem?_setIfInBounds_ne hi]
      by_cases hj : p + 1 ≤ i ∧ i < p + 1 + l.length
      · rw [if_pos hj, if_pos (by simp only [List.length_cons]; omega), show i - p = i - (p + 1) + 1 by omega, List.getElem?_cons_succ]
      · rw [if_neg hj, if_neg (by simp only [List.length_cons]; omega)]

/-- an element stored whole -/
theorem SlIn.put {w : World} {g o : Nat} {xs : List α} (h : SlIn K w (some ⟨g, o, none⟩) xs) (k : Nat) (hk : k < xs.length) (x : α) :
    SlIn K (setFrom w g (o + k * K.sz) (K.cs x)) (some ⟨g, o, none⟩) (xs.set k x) ∧ Turned [g] w (setFrom w g (o + k * K.sz) (K.cs x)) := by
  by_cases hz : K.sz = 0
  · have hnil : ∀ y, K.cs y = [] := fun y => List.eq_nil_of_length_eq_zero (by rw [K.len]; exact hz)
    rw [hnil x]
    refine ⟨fun i hi => ?_, Turned.refl _ _⟩
    rw [List.length_set] at hi
    obtain ⟨g', o', cur, e1, e2, _⟩ := h i hi
    exact ⟨g', o', cur, e1, e2, fun j hj => absurd hj (by omega)⟩
  obtain ⟨g', o', cur, e1, e2, e3⟩ := h k hk
  cases e1
  have hin : ∀ i (hi : i < xs.length) j, j < K.sz → o + i * K.sz + j < cur.size := by
    intro i hi j hj
    obtain ⟨g', o', cur1, f1, f2, f3⟩ := h i hi
    cases f1
    rw [e2] at f2
    cases f2
    have f := f3 j hj
    rw [List.getElem?_eq_getElem (by rw [K.len]; exact hj)] at f
    exact (Array.getElem?_eq_some_iff.1 f).1
  obtain ⟨cur', c1, _, c3, c4⟩ := setFrom_spec g (K.cs x) w (o + k * K.sz) cur e2 (by rw [K.len]; have := hin k hk (K.sz - 1) (by omega); omega)
  refine ⟨fun i hi => ?_, c4⟩
  rw [List.length_set] at hi
  obtain ⟨g', o', cur1, f1, f2, f3⟩ := h i hi
  cases f1
  rw [e2] at f2
  cases f2
  refine ⟨g, o, cur', rfl, c1, fun m hm => ?_⟩
  rw [c3, K.len]
  by_cases hki : k = i
  · subst hki
    have hxx : (xs.set k x)[k]'(by simpa using hi) = x := by simp
    rw [hxx, if_pos ⟨by omega, by omega⟩, show o + k * K.sz + m - (o + k * K.sz) = m by omega]
  · have hxx : (xs.set k x)[i]'(by simpa using hi) = xs[i] := by rw [List.getElem_set_ne hki]
    rw [hxx, if_neg, f3 m hm]
    rintro ⟨h1, h2⟩
    rcases Nat.lt_or_gt_of_ne hki with h3 | h3
    · have : (k + 1) * K.sz ≤ i * K.sz := Nat.mul_le_mul_right _ h3
      rw [Nat.succ_mul] at this
      omega
    · have : (i + 1) * K.sz ≤ k * K.sz := Nat.mul_le_mul_right _ h3
      rw [Nat.succ_mul] at this
      omega

/-- the blocks of a slice -/
def blkOf : Option Addr → List Nat
  | some x => [x.block]
  | none => []
/-- .. that hold something -/
def blkN (a : Option Addr) (n : Nat) : List Nat := if n = 0 then [] else blkOf a
theorem blkN_some {g o n : Nat} (h : n ≠ 0) : blkN (some ⟨g, o, none⟩) n = [g] := by unfold blkN; rw [if_neg h]; rfl
theorem SlIn.lt_blk {w : World} {a : Option Addr} {xs : List α} (h : SlIn K w a xs) : ∀ b ∈ blkN a xs.length, b < w.heap.size := by
  intro b hb
  unfold blkN at hb
  by_cases h0 : xs.length = 0
  · rw [if_pos h0] at hb; cases hb
  · rw [if_neg h0] at hb
    cases a with
    | none => cases hb
    | some x =>
      simp [blkOf] at hb
      subst hb
      exact h.lt x rfl (fun e => h0 (by rw [e]; rfl))
theorem SlIn.keep_blk {w w' : World} {a : Option Addr} {xs : List α} (h : SlIn K w a xs) (hk : ∀ b ∈ blkN a xs.length, w'.heap[b]? = w.heap[b]?) : SlIn K w' a xs :=
  h.keep fun x hx hne => hk _ (by
    subst hx
    unfold blkN
    rw [if_neg (fun e => hne (List.eq_nil_of_length_eq_zero e))]
    simp [blkOf])
theorem set_drop {ys zs : List α} {k : Nat} (hy : ys.length = k) (x : α) (hz : 0 < zs.length) : (ys ++ zs).set k x = (ys ++ [x]) ++ zs.drop 1 := by
  subst hy
  cases zs with
  | nil => exact absurd hz (by simp)
  | cons z l => simp

/-- what a new slice's cells are -/
theorem made_flat (K : Kd α) (x : α) (n : Nat) (hz : 0 < K.sz) : (madeCells (K.cs x).toArray (n * K.sz)).toList = (List.replicate n x).flatMap K.cs := by
  have hl : (K.cs x).toArray.size = K.sz := by simp [K.len]
  apply List.ext_getElem?
  intro i
  by_cases hi : i < n * K.sz
  · have hk : i / K.sz < n := (Nat.div_lt_iff_lt_mul hz).2 hi
    have hj : i % K.sz < K.sz := Nat.mod_lt _ hz
    have e := flat_get K (List.replicate n x) (i / K.sz) (by simpa using hk) (i % K.sz) hj
    rw [Nat.div_add_mod'] at e
    rw [e, List.getElem_replicate]
    simp [madeCells, hi, K.len]
    rw [List.getElem?_eq_getElem (by rw [K.len]; exact hj)]
    rfl
  · rw [List.getElem?_eq_none (by simp [madeCells]; omega), List.getElem?_eq_none (by rw [flat_len]; simp; omega)]
theorem SlIn.put0 {w : World} {g : Nat} {xs : List α} (h : SlIn K w (some ⟨g, 0, none⟩) xs) (k : Nat) (hk : k < xs.length) (x : α) :
    SlIn K (setFrom w g (k * K.sz) (K.cs x)) (some ⟨g, 0, none⟩) (xs.set k x) ∧ Turned [g] w (setFrom w g (k * K.sz) (K.cs x)) := by
  have e := h.put k hk x
  rwa [Nat.zero_add] at e
theorem set_fill {xs : List α} {n k : Nat} (hn : xs.length = n) (hk : k < n) (z : α) : (xs.take k ++ List.replicate (n - k) z).set k (xs[k]'(by omega)) = xs.take (k + 1) ++ List.replicate (n - (k + 1)) z := by
  rw [set_drop (by rw [List.length_take]; omega) _ (by simp; omega), List.drop_replicate, List.take_succ_eq_append_getElem (by omega), show n - k - 1 = n - (k + 1) by omega]
end

/-! a block of cells -/
def Blk (w : World) (b : Nat) (cs : Array Value) (t : TypeId) : Prop := w.heap[b]? = some (.cells cs t (0, 0))
theorem blk_new {w : World} {b : Nat} (cs : Array Value) (t : TypeId) (hb : b = w.heap.size) : Blk (w.alloc (.cells cs t)) b cs t := by
  subst hb
  show (w.heap.push _)[w.heap.size]? = _
  simp
theorem Blk.lt {w : World} {b : Nat} {cs : Array Value} {t : TypeId} (h : Blk w b cs t) : b < w.heap.size := (Array.getElem?_eq_some_iff.1 h).1
theorem Blk.below {w w' : World} {b n : Nat} {cs : Array Value} {t : TypeId} (h : Blk w b cs t) (hb : Below n w w') (hn : b < n) : Blk w' b cs t := (hb.block b hn).trans h
theorem Blk.after {w w' : World} {b : Nat} {cs : Array Value} {t : TypeId} (h : Blk w b cs t) (hb : Below w.heap.size w w') : Blk w' b cs t := h.below hb h.lt
theorem Blk.alloc {w : World} {b : Nat} {cs : Array Value} {t : TypeId} (h : Blk w b cs t) (o : Obj) : Blk (w.alloc o) b cs t := (Below.heap_alloc w o b h.lt).trans h
theorem Blk.drew {w : World} {b : Nat} {cs : Array Value} {t : TypeId} (h : Blk w b cs t) : Blk w.drew b cs t := h
theorem Blk.turned {w w' : World} {b : Nat} {cs : Array Value} {t : TypeId} {B : List Nat} (h : Blk w b cs t) (hT : Turned B w w') (hb : b ∉ B) : Blk w' b cs t := (hT.block b h.lt hb).trans h
theorem Blk.other {w : World} {b g j : Nat} {cs : Array Value} {t : TypeId} (h : Blk w b cs t) (hg : b ≠ g) (v : Value) : Blk (w.setCell ⟨g, j, none⟩ v) b cs t := (Below.heap_setCell w ⟨g, j, none⟩ v b hg).trans h
theorem Blk.set {w : World} {b : Nat} {cs : Array Value} {t : TypeId} (h : Blk w b cs t) (j : Nat) (v : Value) : Blk (w.setCell ⟨b, j, none⟩ v) b (cs.setIfInBounds j v) t := heap_setCell_same w b j cs t v h
theorem Blk.cell {w : World} {b : Nat} {cs : Array Value} {t : TypeId} (h : Blk w b cs t) (j : Nat) : w.cell? ⟨b, j, none⟩ = cs[j]? := Lib.cell_of_heap h j
theorem Blk.frozen {w : World} {b : Nat} {cs : Array Value} {t : TypeId} (h : Blk w b cs t) (j : Nat) : w.frozen? ⟨b, j, none⟩ = false := Lib.frozen_of_heap h j
theorem Blk.shape {w : World} {b : Nat} {cs : Array Value} {t : TypeId} (h : Blk w b cs t) : w.shape? b = some (t, cs.size) := by
  unfold Blk at h
  simp [World.shape?, h]
end Go.Proofs.Ytbcpfciegamaeaa
