/- Parts of a text between separators: plain lemmas. -/
import Derived.Test.YtjljdkamidppbabDoorIn
namespace Go.Proofs.YtjljdkamidppbabDoor

/-- the parts of a text between separators, cur being the part under way -/
def partsL (sep : UInt8 → Bool) : List UInt8 → List UInt8 → List (List UInt8)
  | [], cur => [cur]
  | c :: l, cur => if sep c then cur :: partsL sep l [] else partsL sep l (cur ++ [c])


theorem partsL_skip (sep : UInt8 → Bool) (p : List UInt8) (h : ∀ c ∈ p, sep c = false) (l : List UInt8) : ∀ cur, partsL sep (p ++ l) cur = partsL sep l (cur ++ p) := by
  induction p with
  | nil => intro cur; simp
  | cons c p ih =>
    intro cur
    have hc : sep c = false := h c (List.mem_cons_self ..)
    simp only [List.cons_append, partsL, hc]
    rw [if_neg (by simp), ih (fun x hx => h x (List.mem_cons_of_mem _ hx))]
    simp

theorem extract_list (s : ByteArray) (a b : Nat) : (s.extract a b).data.toList = (s.data.toList.drop a).take (b - a) := by
  rw [ByteArray.data_extract, Array.toList_extract]

theorem drop_step (s : ByteArray) (k : Nat) (h : k < s.size) : s.data.toList.drop k = (s[k]'h) :: s.data.toList.drop (k + 1) := by
  have hl : k < s.data.toList.length := by rw [Array.length_toList]; exact h
  rw [List.drop_eq_getElem_cons hl]
  rfl

theorem take_more (l : List UInt8) (a b w : Nat) (hab : a ≤ b) : (l.drop a).take (b + w - a) = (l.drop a).take (b - a) ++ (l.drop b).take w := by
  rw [show b + w - a = (b - a) + w from by omega, List.take_add, List.drop_drop, show a + (b - a) = b from by omega]

/-- the parts' law at one step of the range -/
theorem parts_sep (sep : UInt8 → Bool) (s : ByteArray) (start pos : Nat) (hlt : pos < s.size) (h : sep (s[pos]'hlt) = true) :
    partsL sep (s.data.toList.drop pos) ((s.data.toList.drop start).take (pos - start)) = (s.extract start pos).data.toList :: partsL sep (s.data.toList.drop (pos + 1)) ((s.data.toList.drop (pos + 1)).take (pos + 1 - (pos + 1))) := by
  rw [drop_step s pos hlt]
  simp only [partsL]
  rw [if_pos h, extract_list, Nat.sub_self, List.take_zero]
theorem parts_on (sep : UInt8 → Bool) (s : ByteArray) (start pos w : Nat) (hsp : start ≤ pos) (hw : pos + w ≤ s.size) (h : ∀ j (hj : pos + j < s.size), j < w → sep (s[pos + j]'hj) = false) :
    partsL sep (s.data.toList.drop pos) ((s.data.toList.drop start).take (pos - start)) = partsL sep (s.data.toList.drop (pos + w)) ((s.data.toList.drop start).take (pos + w - start)) := by
  have e : s.data.toList.drop pos = (s.data.toList.drop pos).take w ++ s.data.toList.drop (pos + w) := by
    rw [← List.drop_drop, List.take_append_drop]
  rw [take_more _ _ _ _ hsp]
  conv => lhs; rw [e]
  refine partsL_skip sep _ ?_ _ _
  intro c hc
  obtain ⟨j, hj, rfl⟩ := List.getElem_of_mem hc
  have hjw : j < w := by rw [List.length_take] at hj; omega
  have hl : (s.data.toList.drop pos).length = s.size - pos := by rw [List.length_drop, Array.length_toList]; rfl
  have e : ((s.data.toList.drop pos).take w)[j] = s[pos + j]'(by omega) := by rw [List.getElem_take, List.getElem_drop]; rfl
  rw [e]
  exact h j (by omega) hjw
theorem parts_end (sep : UInt8 → Bool) (s : ByteArray) (start : Nat) :
    partsL sep (s.data.toList.drop s.size) ((s.data.toList.drop start).take (s.size - start)) = [(s.extract start s.size).data.toList] := by
  rw [List.drop_of_length_le (by rw [Array.length_toList]; exact Nat.le_refl _), extract_list]
  rfl

def isNL (c : UInt8) : Bool := c == 10
def nlR (c : Int) : Bool := c == 10
theorem nl_rune (c : UInt8) : nlR (c.toNat : Int) = isNL c := by
  unfold nlR isNL
  rw [Bool.eq_iff_iff, beq_iff_eq, beq_iff_eq]
  constructor
  · intro h; exact UInt8.toNat_inj.1 (by rw [show (10 : UInt8).toNat = 10 from rfl]; omega)
  · rintro rfl; rfl
theorem nl_high (c : UInt8) (h : 128 ≤ c.toNat) : isNL c = false := by
  unfold isNL
  rw [beq_eq_false_iff_ne]
  rintro rfl
  exact absurd h (by decide)
theorem nl_far (c : Int) (h : 128 ≤ c) : nlR c = false := by unfold nlR; rw [beq_eq_false_iff_ne]; omega
def isBL (c : UInt8) : Bool := c == 32 || c == 9
def blR (c : Int) : Bool := c == 32 || c == 9
theorem bl_rune (c : UInt8) : blR (c.toNat : Int) = isBL c := by
  have h : ∀ k : UInt8, (((c.toNat : Int) == (k.toNat : Int)) = (c == k)) := by
    intro k
    rw [Bool.eq_iff_iff, beq_iff_eq, beq_iff_eq]
    constructor
    · intro h; exact UInt8.toNat_inj.1 (by omega)
    · rintro rfl; rfl
  unfold blR isBL
  have h1 := h 32
  have h2 := h 9
  rw [← h1, ← h2]
  rfl
theorem bl_high (c : UInt8) (h : 128 ≤ c.toNat) : isBL c = false := by
  unfold isBL
  rw [Bool.or_eq_false_iff, beq_eq_false_iff_ne, beq_eq_false_iff_ne]
  constructor <;> (rintro rfl; exact absurd h (by decide))
theorem bl_far (c : Int) (h : 128 ≤ c) : blR c = false := by unfold blR; rw [Bool.or_eq_false_iff, beq_eq_false_iff_ne, beq_eq_false_iff_ne]; omega

/-- Lines, by the parts: the last one goes where it is empty -/
def linesL (l : List UInt8) : List (List UInt8) :=
  let p := partsL isNL l []
  if p.getLast? = some [] then p.dropLast else p

theorem partsL_ne (sep : UInt8 → Bool) (l : List UInt8) : ∀ cur, partsL sep l cur ≠ [] := by
  induction l with
  | nil => intro cur; simp [partsL]
  | cons c l ih => intro cur; simp only [partsL]; split <;> simp [ih]
theorem partsL_len (sep : UInt8 → Bool) (l : List UInt8) : ∀ cur, (partsL sep l cur).length ≤ l.length + 1 := by
  induction l with
  | nil => intro cur; simp [partsL]
  | cons c l ih =>
    intro cur
    simp only [partsL]
    split
    · simpa using ih []
    · have := ih (cur ++ [c]); simp; omega
theorem linesL_len (l : List UInt8) : (linesL l).length ≤ l.length + 1 := by
  have h := partsL_len isNL l []
  unfold linesL
  simp only
  split
  · rw [List.length_dropLast]; omega
  · exact h

/-- Words, by the parts -/
def wordsL (l : List UInt8) : List (List UInt8) := (partsL isBL l []).filter (fun p => !p.isEmpty)
theorem wordsL_len (l : List UInt8) : (wordsL l).length ≤ l.length + 1 := Nat.le_trans (List.length_filter_le _ _) (partsL_len isBL l [])
theorem wordsL_blank (c : UInt8) (h : isBL c = true) (l : List UInt8) : wordsL (c :: l) = wordsL l := by
  unfold wordsL
  simp [partsL, h]
theorem wordsL_word (p : List UInt8) (hp : ∀ c ∈ p, isBL c = false) (hne : p ≠ []) (l : List UInt8) (hl : ∀ c, l.head? = some c → isBL c = true) : wordsL (p ++ l) = p :: wordsL l := by
  have hpe : p.isEmpty = false := by cases p with
    | nil => exact absurd rfl hne
    | cons a p => rfl
  unfold wordsL
  rw [partsL_skip isBL p hp l [], List.nil_append]
  cases l with
  | nil => simp [partsL, hpe]
  | cons c l =>
    have hc := hl c rfl
    simp [partsL, hc, hpe]
end Go.Proofs.YtjljdkamidppbabDoor
