/- IP addresses and their texts: plain lemmas. -/
import Derived.Test.YtjljdkamidppbabDoorPartsL
import Derived.Test.YtjljdkamidppbabDoorReadDec
import Derived.Test.YtjljdkamidppbabDoorDecBack
import Derived.Test.YtjljdkamidppbabDoorMath
import Derived.Lib.Split
import Derived.Lib.SplitLaws
import Derived.Lib.IndexLaws
import Derived.Lib.IndexBytes
import Derived.Lib.Join
namespace Go.Proofs.YtjljdkamidppbabDoor

def isDot (c : UInt8) : Bool := c == 46
/-- a text's parts between dots -/
def ipParts (l : List UInt8) : List (List UInt8) := partsL isDot l []

theorem parts_free (sep : UInt8 → Bool) (l : List UInt8) (h : ∀ c ∈ l, sep c = false) : partsL sep l [] = [l] := by
  have e := partsL_skip sep l h [] []
  rw [List.append_nil] at e
  rw [e]
  rfl
theorem parts_cons (sep : UInt8 → Bool) (p : List UInt8) (c : UInt8) (l : List UInt8) (h : ∀ x ∈ p, sep x = false) (hc : sep c = true) : partsL sep (p ++ c :: l) [] = p :: partsL sep l [] := by
  rw [partsL_skip sep p h (c :: l) [], List.nil_append]
  simp only [partsL, hc, if_true]

theorem parts_le (sep : UInt8 → Bool) (l : List UInt8) : ∀ cur, ∀ p ∈ partsL sep l cur, p.length ≤ cur.length + l.length := by
  induction l with
  | nil => intro cur p hp; simp only [partsL, List.mem_cons, List.not_mem_nil, or_false] at hp; subst hp; simp
  | cons c l ih =>
    intro cur p hp
    simp only [partsL] at hp
    split at hp
    · rcases List.mem_cons.1 hp with rfl | hp
      · simp
      · have := ih [] p hp
        simp only [List.length_nil, List.length_cons] at this ⊢
        omega
    · have := ih _ p hp
      simp only [List.length_append, List.length_cons, List.length_nil] at this ⊢
      omega

theorem splitK_parts : ∀ (k : Nat) (l : List UInt8), l.count 46 = k → Lib.splitK [46] 0 k l = ipParts l
  | 0, l, h => by
    rw [Lib.splitK, ipParts, parts_free]
    intro c hc
    unfold isDot
    rw [beq_eq_false_iff_ne]
    rintro rfl
    exact absurd hc (List.count_eq_zero.1 h)
  | k + 1, l, h => by
    have hge := Lib.indexByte_ge l 46
    have hne : Lib.indexByte l 46 ≠ -1 := by
      intro he
      have hm : (46 : UInt8) ∈ l := List.count_pos_iff.1 (by omega)
      obtain ⟨j, hj⟩ := List.mem_iff_getElem?.1 hm
      exact Lib.indexByte_none he j hj
    obtain ⟨o, ho⟩ := Int.eq_ofNat_of_zero_le (show 0 ≤ Lib.indexByte l 46 by omega)
    obtain ⟨h1, h2⟩ := Lib.indexByte_some ho
    obtain ⟨hlt, hget⟩ := List.getElem?_eq_some_iff.1 h1
    have e : l = l.take o ++ 46 :: l.drop (o + 1) := by
      rw [← hget, ← List.drop_eq_getElem_cons hlt, List.take_append_drop]
    have hfree : ∀ x ∈ l.take o, isDot x = false := by
      intro x hx
      obtain ⟨j, hj⟩ := List.mem_iff_getElem?.1 hx
      have hjo : j < o := by
        have := (List.getElem?_eq_some_iff.1 hj).1
        rw [List.length_take] at this
        omega
      rw [List.getElem?_take_of_lt hjo] at hj
      unfold isDot
      rw [beq_eq_false_iff_ne]
      rintro rfl
      exact h2 j hjo hj
    have hc0 : (l.take o).count 46 = 0 := by
      rw [List.count_eq_zero]
      intro hm
      have := hfree 46 hm
      exact absurd this (by decide)
    have hc : (l.drop (o + 1)).count 46 = k := by
      have h3 := h
      rw [e, List.count_append, List.count_cons_self, hc0] at h3
      omega
    rw [Lib.splitK, Lib.index_one, ho, if_neg (by rw [beq_iff_eq]; omega)]
    have ih := splitK_parts k (l.drop (o + 1)) hc
    rw [show ((o : Int)).toNat + 0 = o from rfl, show ((o : Int)).toNat + [(46 : UInt8)].length = o + 1 from rfl, ih]
    have hp := parts_cons isDot (l.take o) 46 (l.drop (o + 1)) hfree rfl
    rw [← e] at hp
    exact hp.symm

theorem split_parts (s : ByteArray) : (Lib.splitB ⟨#[46]⟩ 0 (Lib.countB s ⟨#[46]⟩) s).map (·.data.toList) = ipParts s.data.toList := by
  rw [Lib.splitB_data]
  refine splitK_parts _ _ ?_
  exact (Lib.count_one 46 s.data.toList).symm

/-- the number that the parts make behind n, or -1 -/
def ipVal : List (List UInt8) → Int → Int
  | [], n => n
  | p :: ps, n => if readD p < 0 ∨ 255 < readD p then -1 else ipVal ps (n * 256 + readD p)
/-- what ReadIp answers -/
def readI (l : List UInt8) : Int := if (ipParts l).length = 4 then ipVal (ipParts l) 0 else -1

/-- .. as the model reckons it: k parts are read already -/
def specI : List (List UInt8) → Nat → Int → Int
  | [], k, n => if k = 4 then n else -1
  | p :: ps, k, n => if (readD p < 0 ∨ 255 < readD p) ∨ k = 4 then -1 else specI ps (k + 1) (n * 256 + readD p)
theorem specI_eq (ps : List (List UInt8)) : ∀ (k : Nat) (n : Int), k ≤ 4 → specI ps k n = if ps.length + k = 4 then ipVal ps n else -1 := by
  induction ps with
  | nil => intro k n _; simp only [specI, ipVal, List.length_nil, Nat.zero_add]
  | cons p ps ih =>
    intro k n hk
    simp only [specI, ipVal, List.length_cons]
    by_cases hb : readD p < 0 ∨ 255 < readD p
    · rw [if_pos (.inl hb), if_pos hb]; split <;> rfl
    · by_cases h4 : k = 4
      · rw [if_pos (.inr h4), if_neg (by omega)]
      · rw [if_neg (fun h => h.elim hb h4), if_neg hb, ih (k + 1) _ (by omega), show ps.length + (k + 1) = ps.length + 1 + k from by omega]

theorem rdL10_ge (l : List UInt8) : ∀ n : Int, 0 ≤ n → -1 ≤ rdL 10 l n ∧ rdL 10 l n < (n + 1) * 10 ^ l.length := by
  induction l with
  | nil => intro n h; simp only [rdL, List.length_nil, Int.pow_zero]; omega
  | cons c l ih =>
    intro n h
    have hb := digV_bound 10 (.inl rfl) c
    have hp : (0 : Int) < 10 ^ l.length := Int.pow_pos (by decide)
    simp only [rdL, List.length_cons]
    split
    · refine ⟨by omega, ?_⟩
      have : (0 : Int) ≤ (n + 1) * 10 ^ (l.length + 1) := Int.mul_nonneg (by omega) (Int.pow_nonneg (by decide))
      omega
    · have h2 := ih (n * (10 : Nat) + digV 10 c) (by omega)
      refine ⟨h2.1, ?_⟩
      have h3 : (n * (10 : Nat) + digV 10 c + 1) * 10 ^ l.length ≤ ((n + 1) * 10) * 10 ^ l.length := Int.mul_le_mul_of_nonneg_right (by omega) (by omega)
      rw [Int.pow_succ, Int.mul_comm (10 ^ l.length) 10, ← Int.mul_assoc]
      omega

theorem readD_range (l : List UInt8) : -1 ≤ readD l ∧ readD l ≤ 999999999 := by
  unfold readD
  split
  · omega
  · rename_i h
    have h2 := rdL10_ge l 0 (by omega)
    refine ⟨h2.1, ?_⟩
    have h3 : (10 : Int) ^ l.length ≤ 10 ^ 9 := by exact_mod_cast Nat.pow_le_pow_right (by decide : 0 < 10) (show l.length ≤ 9 by omega)
    omega

/-- ip is an IP address -/
def isIp (ip : Int) : Prop := 0 ≤ ip ∧ ip ≤ 4294967295
instance (ip : Int) : Decidable (isIp ip) := by unfold isIp; infer_instance

/-- an IP address's text -/
def ipL (ip : Int) : List UInt8 := Lib.itoa (ip / 16777216) ++ [46] ++ Lib.itoa (ip / 65536 % 256) ++ [46] ++ Lib.itoa (ip / 256 % 256) ++ [46] ++ Lib.itoa (ip % 256)
theorem join_ip (ip : Int) (h : isIp ip) : Lib.join ((putL ip 4).map fun b => Lib.itoa (b.toNat : Int)) [46] = ipL ip := by
  have h0 := h.1
  have h1 := h.2
  simp only [putL, List.map_cons, List.map_nil, ofNat_toNat_emod, Lib.join_cons, Lib.joinTail, List.flatten_cons, List.flatten_nil, ipL]
  simp only [Nat.reduceMul]
  rw [show ip / 2 ^ 24 % 256 = ip / 16777216 from by omega, show ip / 2 ^ 16 % 256 = ip / 65536 % 256 from by omega, show ip / 2 ^ 8 % 256 = ip / 256 % 256 from by omega, show ip / 2 ^ 0 % 256 = ip % 256 from by omega]
  simp only [List.append_assoc, List.append_nil]

theorem itoa_nodot (b : Int) (h : 0 ≤ b) : ∀ c ∈ Lib.itoa b, isDot c = false := by
  intro c hc
  unfold Lib.itoa at hc
  rw [if_neg (by omega)] at hc
  have hd := dec_dgt _ c hc
  unfold dgt at hd
  unfold isDot
  rw [beq_eq_false_iff_ne]
  rintro rfl
  exact absurd hd (by decide)

/-- an address comes back from its text -/
theorem readI_ip (ip : Int) (h : isIp ip) : readI (ipL ip) = ip := by
  have h0 := h.1
  have h1 := h.2
  have e : ipParts (ipL ip) = [Lib.itoa (ip / 16777216), Lib.itoa (ip / 65536 % 256), Lib.itoa (ip / 256 % 256), Lib.itoa (ip % 256)] := by
    unfold ipParts ipL
    simp only [List.append_assoc, List.cons_append, List.nil_append]
    rw [parts_cons _ _ _ _ (itoa_nodot _ (by omega)) rfl, parts_cons _ _ _ _ (itoa_nodot _ (by omega)) rfl, parts_cons _ _ _ _ (itoa_nodot _ (by omega)) rfl, parts_free _ _ (itoa_nodot _ (by omega))]
  unfold readI
  rw [e, if_pos (show List.length [Lib.itoa (ip / 16777216), Lib.itoa (ip / 65536 % 256), Lib.itoa (ip / 256 % 256), Lib.itoa (ip % 256)] = 4 from rfl)]
  simp only [ipVal, readD_itoa]
  rw [if_pos (show 0 ≤ ip / 16777216 ∧ ip / 16777216 ≤ 999999999 by omega), if_pos (show 0 ≤ ip / 65536 % 256 ∧ ip / 65536 % 256 ≤ 999999999 by omega), if_pos (show 0 ≤ ip / 256 % 256 ∧ ip / 256 % 256 ≤ 999999999 by omega), if_pos (show 0 ≤ ip % 256 ∧ ip % 256 ≤ 999999999 by omega)]
  rw [if_neg (by omega), if_neg (by omega), if_neg (by omega), if_neg (by omega)]
  omega
theorem itoa_byte (b : UInt8) : (Lib.itoa (b.toNat : Int)).length ≤ 20 := by
  have hb : b.toNat < 256 := b.toNat_lt
  unfold Lib.itoa
  rw [if_neg (by omega), Lib.decDigits_length]
  exact Nat.le_trans (nDigits_le 2 _ (by omega)) (by decide)
theorem ipL_len (ip : Int) (h : isIp ip) : (ipL ip).length ≤ 83 := by
  have t : ∀ b : Int, 0 ≤ b → b < 256 → (Lib.itoa b).length ≤ 20 := by
    intro b hb0 hb1
    have := itoa_byte (UInt8.ofNat b.toNat)
    rw [UInt8.toNat_ofNat', show ((b.toNat % 2 ^ 8 : Nat) : Int) = b from by omega] at this
    exact this
  have h0 := h.1
  have h1 := h.2
  have a := t (ip / 16777216) (by omega) (by omega)
  have b := t (ip / 65536 % 256) (by omega) (by omega)
  have c := t (ip / 256 % 256) (by omega) (by omega)
  have d := t (ip % 256) (by omega) (by omega)
  unfold ipL
  simp only [List.length_append, List.length_cons, List.length_nil]
  omega
end Go.Proofs.YtjljdkamidppbabDoor
