/- append from whatever source onto a slice that the call owns; a part of it written over. -/
import Derived.Test.YtleebmbnjdoinaaSl
import Derived.Deep.Upon
import Derived.Deep.RegionLaw
namespace Go.Proofs.Ytleebmbnjdoinaa
open Go.RowKit

theorem setCells_eq (g : Nat) : ∀ (vs : List Value) (o : Nat) (w : World), w.setCells g o vs = setFrom w g o vs
  | [], _, _ => rfl
  | _ :: l, o, _ => setCells_eq g l (o + 1) _

theorem own_over {w : World} {base : Nat} {e : TypeId} {size g n cap : Nat} {xs : List Value} (h : w.ownsRow base e size (.slice (some ⟨g, 0, none⟩) n cap) n xs) (k m : Nat) (hk : k ≤ n) (news : List Value) (hl : news.length = m * size) (hroom : k + m ≤ cap) :
    (w.setCells g (k * size) news).ownsRow base e size (.slice (some ⟨g, 0, none⟩) (k + m) cap) (k + m) (xs.take (k * size) ++ news) ∧ w.grownBy (w.setCells g (k * size) news) (some g) := by
  obtain ⟨hx, h' | ⟨g', cap', cur, h', hb, hg, hnc, hcm, hcs, htake⟩⟩ := h
  · simp at h'
  simp only [Value.slice.injEq, Option.some.injEq, Addr.mk.injEq, and_true, true_and] at h'
  obtain ⟨rfl, rfl⟩ := h'
  have h1 : (k + m) * size ≤ cap * size := Nat.mul_le_mul_right _ hroom
  have h2 : k * size ≤ n * size := Nat.mul_le_mul_right _ hk
  have h3 : n * size ≤ cap * size := Nat.mul_le_mul_right _ hnc
  rw [Nat.add_mul] at h1
  rw [setCells_eq]
  obtain ⟨cur', c1, c2, c3, c4⟩ := setFrom_spec g news w (k * size) cur hg (by rw [hl, hcs]; exact h1)
  refine ⟨⟨?_, .inr ⟨g, cap, cur', rfl, hb, c1, hroom, hcm, by rw [c2, hcs], ?_⟩⟩, ⟨c4.os, c4.tape, c4.output, c4.size, fun i hi hne => c4.block i hi (fun hm => by simp at hm; exact hne (by rw [hm]))⟩⟩
  · rw [List.length_append, List.length_take, hx, hl, Nat.min_eq_left h2, Nat.add_mul]
  · have hcl : cur.toList.length = cap * size := by rw [Array.length_toList, hcs]
    apply List.ext_getElem?
    intro i
    by_cases hi : i < (k + m) * size
    · rw [List.getElem?_take, if_pos hi, Array.getElem?_toList, c3, hl]
      rw [Nat.add_mul] at hi
      have hxl : (xs.take (k * size)).length = k * size := by rw [List.length_take, hx, Nat.min_eq_left h2]
      by_cases hik : k * size ≤ i
      · rw [if_pos ⟨hik, hi⟩, List.getElem?_append_right (by omega), hxl]
      · rw [if_neg (by omega), List.getElem?_append_left (by omega), List.getElem?_take, if_pos (by omega), ← htake, List.getElem?_take, if_pos (by omega), Array.getElem?_toList]
    · rw [List.getElem?_eq_none (by rw [List.length_take]; omega), List.getElem?_eq_none (by rw [List.length_append, List.length_take, hx, hl, Nat.min_eq_left h2, ← Nat.add_mul]; omega)]

/-- append onto a slice that the call owns, from whatever source -/
theorem run_append_own_src {P : Program} (w : World) (base : Nat) (t tx ty e : TypeId) (i : TypeInfo) (z : Value) (size bytes : Nat) (ht : P.underlying t = some (.slice e)) (hi : P.info? e = some i) (hz : i.zero = some z) (hsize : i.size = size) (hby : i.bytes = bytes)
    (hzs : z.cells.size = size) (v : Value) (n : Nat) (xs : List Value) (hown : w.ownsRow base e size v n xs) (x : Value) (m : Nat) (news : List Value) (hs : Src P size tx x m news w) (h63 : n + m ≤ maxLen) (hbytes : (n + m) * bytes ≤ 140737488355328) (hbase : base ≤ w.heap.size) :
    ∃ v' w', (Builtin.append_ #[t, tx] ty #[v, x]).run P w = .ok v' w' ∧ w'.ownsRow base e size v' (n + m) (xs ++ news) ∧ w.grownBy w' v.ownBlock ∧ (v'.ownBlock = v.ownBlock ∨ v'.ownBlock = some w.heap.size) := by
  subst hsize
  subst hby
  have hsmall : ((n + m : Nat) : Int) ≤ 9223372036854775807 := by simp only [maxLen] at h63; omega
  have hl := hs.newsLen
  have hlen : (xs ++ news).length = (n + m) * i.size := by rw [List.length_append, hown.1, hl, Nat.add_mul]
  have grown : ∀ (old : Nat), old < n + m → ∀ (row : Option Nat),
      (w.drew.alloc (.cells ((xs ++ news).toArray ++ Builtin.zeroCells z.cells (grownCap w (n + m) old e - (n + m))) e)).ownsRow base e i.size
        (.slice (some ⟨w.heap.size, 0, none⟩) (n + m) (grownCap w (n + m) old e)) (n + m) (xs ++ news) ∧
      w.grownBy (w.drew.alloc (.cells ((xs ++ news).toArray ++ Builtin.zeroCells z.cells (grownCap w (n + m) old e - (n + m))) e)) row := by
    intro old ho row
    have hge := grownCap_ge w (n + m) old e
    have hcm : grownCap w (n + m) old e ≤ maxLen := grownCap_le_maxLen w (n + m) old e h63
    refine ⟨⟨hlen, .inr ⟨w.heap.size, _, _, rfl, hbase, heap_alloc_new w.drew _, hge, hcm, ?_, ?_⟩⟩, ⟨rfl, rfl, rfl, by simp, fun k hk _ => Below.heap_alloc w.drew _ k hk⟩⟩
    · rw [Array.size_append, List.size_toArray, hlen, size_zeroCells, hzs, ← Nat.add_mul]
      congr 1
      omega
    · rw [Array.toList_append, ← hlen]
      exact List.take_left
  obtain ⟨hxl, ⟨rfl, rfl⟩ | ⟨g, cap, cur, rfl, hbg, hg, hnc, hcm, hcs, htake⟩⟩ := hown
  · have hx : xs = [] := List.eq_nil_of_length_eq_zero (by simpa using hxl)
    subst hx
    by_cases hm : m = 0
    · subst hm
      obtain rfl : news = [] := List.eq_nil_of_length_eq_zero (by simpa using hl)
      exact ⟨_, _, run_append_nothing w t tx ty e i ht hi none 0 0 (Nat.le_refl _) x hs, World.ownsRow_nil w base e i.size, ⟨rfl, rfl, rfl, Nat.le_refl _, fun _ _ _ => rfl⟩, .inl rfl⟩
    · have hr := run_append_grow_src (P := P) w t tx ty e i z ht hi hz none 0 0 [] (by simp [Builtin.firstCells]) x m news hs (by omega) hsmall (growslice_fits (by omega) (by simpa using hbytes))
      have hgr := grown 0 (by omega) (Value.ownBlock (.slice none 0 0))
      exact ⟨_, _, hr, hgr.1, hgr.2, .inr rfl⟩
  · by_cases hroom : n + m ≤ cap
    · have hcell : ∀ j, j < news.length → (w.cell? ⟨g, 0 + n * i.size + j, none⟩).isSome = true ∧ w.frozen? ⟨g, 0 + n * i.size + j, none⟩ = false := by
        intro j hj
        have h1 : (n + m) * i.size ≤ cap * i.size := Nat.mul_le_mul_right _ hroom
        rw [Nat.add_mul] at h1
        refine ⟨?_, Lib.frozen_of_heap hg _⟩
        rw [Lib.cell_of_heap hg, Array.getElem?_eq_getElem (by rw [hcs]; omega)]
        rfl
      have hr := run_append_room_src (P := P) w t tx ty e i ht hi g 0 n cap x m news hs hroom (fun j hj => (hcell j hj).1) (fun j hj => (hcell j hj).2)
      have ho := own_over (w := w) (base := base) (e := e) (size := i.size) (g := g) (n := n) (cap := cap) (xs := xs) ⟨hxl, .inr ⟨g, cap, cur, rfl, hbg, hg, hnc, hcm, hcs, htake⟩⟩ n m (Nat.le_refl _) news hl hroom
      rw [Nat.zero_add] at hr
      refine ⟨_, _, hr, ?_, ho.2, .inl rfl⟩
      have e1 : xs.take (n * i.size) = xs := List.take_of_length_le (by omega)
      rw [e1] at ho
      exact ho.1
    · have holds : (Builtin.firstCells i.size n (.slice (some ⟨g, 0, none⟩) n cap)).run P w.drew = .ok xs.toArray w.drew := by
        have hc : ∀ j u, xs[j]? = some u → w.cell? ((⟨g, 0, none⟩ : Addr).add j) = some u := World.ownsRow.cells (w := w) (base := base) (e := e) (size := i.size) (v := .slice (some ⟨g, 0, none⟩) n cap) (n := n) ⟨hxl, .inr ⟨g, cap, cur, rfl, hbg, hg, hnc, hcm, hcs, htake⟩⟩ (g := g) rfl
        exact run_firstCells_some w.drew i.size n ⟨g, 0, none⟩ n cap xs hxl (by simpa using hc)
      have hr := run_append_grow_src (P := P) w t tx ty e i z ht hi hz (some ⟨g, 0, none⟩) n cap xs holds x m news hs (by omega) hsmall (growslice_fits (by omega) hbytes)
      have hgr := grown cap (by omega) (Value.ownBlock (.slice (some ⟨g, 0, none⟩) n cap))
      exact ⟨_, _, hr, hgr.1, hgr.2, .inr rfl⟩
end Go.Proofs.Ytleebmbnjdoinaa
