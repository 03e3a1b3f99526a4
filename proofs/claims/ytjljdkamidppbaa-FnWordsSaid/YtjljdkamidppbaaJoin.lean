/- Words and lines put together again: plain lemmas. -/
import Derived.Test.YtjljdkamidppbaaPartsL
namespace Go.Proofs.Ytjljdkamidppbaa

/-- each part with a byte behind it -/
def joinL (c : UInt8) (ws : List (List UInt8)) : List UInt8 := ws.flatMap fun p => p ++ [c]
theorem joinL_nil (c : UInt8) : joinL c [] = [] := rfl
theorem joinL_cons (c : UInt8) (p : List UInt8) (ws : List (List UInt8)) : joinL c (p :: ws) = p ++ c :: joinL c ws := by simp [joinL]
theorem joinL_append (c : UInt8) (a b : List (List UInt8)) : joinL c (a ++ b) = joinL c a ++ joinL c b := by simp [joinL]

theorem partsL_mem (sep : UInt8 → Bool) (l : List UInt8) : ∀ cur, (∀ c ∈ cur, sep c = false) → ∀ p ∈ partsL sep l cur, ∀ c ∈ p, sep c = false := by
  induction l with
  | nil => intro cur hc p hp; simp only [partsL, List.mem_singleton] at hp; subst hp; exact hc
  | cons a l ih =>
    intro cur hc p hp
    simp only [partsL] at hp
    cases ha : sep a with
    | true =>
      rw [if_pos ha] at hp
      rcases List.mem_cons.1 hp with rfl | hp
      · exact hc
      · exact ih [] (by simp) p hp
    | false =>
      rw [if_neg (by simp [ha])] at hp
      refine ih _ ?_ p hp
      intro c h
      rcases List.mem_append.1 h with h | h
      · exact hc c h
      · rw [List.mem_singleton] at h; rw [h]; exact ha

theorem wordsL_mem (l : List UInt8) (p : List UInt8) (h : p ∈ wordsL l) : p ≠ [] ∧ ∀ c ∈ p, isBL c = false := by
  unfold wordsL at h
  obtain ⟨h1, h2⟩ := List.mem_filter.1 h
  exact ⟨by intro he; subst he; simp at h2, partsL_mem isBL l [] (by simp) p h1⟩

theorem wordsL_join (ws : List (List UInt8)) (h : ∀ p ∈ ws, p ≠ [] ∧ ∀ c ∈ p, isBL c = false) : wordsL (joinL 32 ws) = ws := by
  induction ws with
  | nil => simp [joinL, wordsL, partsL]
  | cons p ws ih =>
    have hp := h p (List.mem_cons_self ..)
    rw [joinL_cons, wordsL_word p hp.2 hp.1 _ (by intro c hc; simp only [List.head?_cons, Option.some.injEq] at hc; subst hc; rfl), wordsL_blank 32 rfl, ih fun q hq => h q (List.mem_cons_of_mem _ hq)]

theorem wordsL_again (l : List UInt8) : wordsL (joinL 32 (wordsL l)) = wordsL l := wordsL_join _ (wordsL_mem l)

theorem joinL_parts (l : List UInt8) : ∀ cur, joinL 10 (partsL isNL l cur) = cur ++ l ++ [10] := by
  induction l with
  | nil => intro cur; simp [partsL, joinL]
  | cons a l ih =>
    intro cur
    simp only [partsL]
    cases ha : isNL a with
    | true =>
      have : a = 10 := by simpa [isNL] using ha
      subst this
      simp only [if_true]
      rw [joinL_cons, ih]
      simp
    | false =>
      simp only [Bool.false_eq_true, if_false]
      rw [ih]
      simp

theorem lines_again (l : List UInt8) : joinL 10 (linesL l) = l ∨ (joinL 10 (linesL l) = l ++ [10] ∧ l ≠ []) := by
  have hj := joinL_parts l []
  unfold linesL
  simp only
  by_cases h : (partsL isNL l []).getLast? = some []
  · rw [if_pos h]
    left
    obtain ⟨q, hq⟩ := List.getLast?_eq_some_iff.1 h
    rw [hq, joinL_append] at hj
    rw [hq, List.dropLast_concat]
    have e : joinL 10 [[]] = [10] := rfl
    rw [e] at hj
    have := List.append_cancel_right hj
    simpa using this
  · rw [if_neg h]
    right
    refine ⟨by simpa using hj, ?_⟩
    rintro rfl
    exact h rfl

theorem joinL_len_parts (c : UInt8) (sep : UInt8 → Bool) (l : List UInt8) : ∀ cur, (joinL c (partsL sep l cur)).length = cur.length + l.length + 1 := by
  induction l with
  | nil => intro cur; simp [partsL, joinL]
  | cons a l ih =>
    intro cur
    simp only [partsL]
    split
    · rw [joinL_cons, List.length_append, List.length_cons, ih]; simp; omega
    · rw [ih]; simp; omega
theorem joinL_len_filter (c : UInt8) (f : List UInt8 → Bool) (ws : List (List UInt8)) : (joinL c (ws.filter f)).length ≤ (joinL c ws).length := by
  induction ws with
  | nil => simp
  | cons p ws ih =>
    rw [List.filter_cons]
    split
    · simp only [joinL_cons, List.length_append, List.length_cons]; omega
    · simp only [joinL_cons, List.length_append, List.length_cons]; omega
theorem joinL_words (c : UInt8) (l : List UInt8) : (joinL c (wordsL l)).length ≤ l.length + 1 := by
  have := joinL_len_parts c isBL l []
  have h := joinL_len_filter c (fun p => !p.isEmpty) (partsL isBL l [])
  unfold wordsL
  simp only [List.length_nil, Nat.zero_add] at this
  omega
theorem joinL_lines (l : List UInt8) : (joinL 10 (linesL l)).length ≤ l.length + 1 := by
  rcases lines_again l with h | ⟨h, _⟩ <;> rw [h] <;> simp
theorem joinL_take (c : UInt8) (ws : List (List UInt8)) (k : Nat) : (joinL c (ws.take k)).length ≤ (joinL c ws).length := by
  conv => rhs; rw [← List.take_append_drop k ws]
  rw [joinL_append, List.length_append]
  omega
end Go.Proofs.Ytjljdkamidppbaa
