/- Frames and bytes: plain lemmas on what GetFrame gives of PutFrame's bytes, and the other way. -/
import Derived.Test.YtiajeialcmcppaaGetFrS
namespace Go.Proofs.Ytiajeialcmcppaa
open Go.RowKit

theorem getL_put (n : Int) (m : Nat) : ∀ a : Nat, ((getL (putL n m) a : Nat) : Int) = a * 256 ^ m + n % 256 ^ m := by
  induction m with
  | zero => intro a; simp [putL, getL, Int.emod_one]
  | succ m ih =>
    intro a
    have hp : (0 : Int) < 256 ^ m := Int.pow_pos (by decide)
    have e8 : (2 : Int) ^ (8 * m) = 256 ^ m := by rw [Int.pow_mul]; rfl
    simp only [putL, getL]
    rw [ih, e8, Int.pow_succ, emod_step n _ hp]
    have hb := ofNat_toNat_emod (n / 256 ^ m)
    rw [Int.natCast_add, Int.natCast_mul, hb]
    generalize n / 256 ^ m % 256 = q
    generalize n % 256 ^ m = r
    generalize (256 : Int) ^ m = N
    have e256 : ((256 : Nat) : Int) * N = N * 256 := Int.mul_comm _ _
    rw [Int.add_mul, Int.mul_assoc, e256, Int.add_assoc]

/-- what GetNum reads of a number's bytes, wherever they stand -/
theorem getK_put (s : ByteArray) (n : Int) (i m : Nat) (pre post : List UInt8) (h : s.data.toList = pre ++ putL n m ++ post) (hi : pre.length = i) : ((getK s i m : Nat) : Int) = n % 256 ^ m := by
  unfold getK
  have e : (s.data.toList.drop i).take m = putL n m := by
    rw [h, ← hi]
    simp only [List.append_assoc]
    rw [List.drop_left, List.take_left' (putL_length n m)]
  rw [e, getL_put]
  simp

/-- bytes of a number are the number's bytes -/
theorem put_getL (l : List UInt8) : ∀ a : Nat, putL (getL l a : Nat) l.length = l := by
  have key : ∀ (r : List UInt8) (a : Nat), putL (getL r.reverse a : Nat) r.length = r.reverse := by
    intro r
    induction r with
    | nil => intro a; rfl
    | cons b r ih =>
      intro a
      have hb : b.toNat < 256 := b.toNat_lt
      apply List.ext_getElem?
      intro j
      have hlen : (putL (getL (b :: r).reverse a : Nat) (b :: r).length).length = r.length + 1 := putL_length _ _
      by_cases hj : j < r.length + 1
      · rw [putL_get _ _ j (by simpa using hj)]
        simp only [List.reverse_cons, getL_snoc, List.length_cons]
        by_cases hl : j < r.length
        · have e := putL_get (getL r.reverse a : Nat) r.length j hl
          rw [ih a] at e
          rw [List.getElem?_append_left (by simpa using hl), e]
          congr 3
          have e8 : r.length + 1 - 1 - j = (r.length - 1 - j) + 1 := by omega
          rw [e8, Nat.mul_add, Nat.mul_one, Nat.add_comm (8 * _) 8, Int.pow_add, ← Int.ediv_ediv_of_nonneg (by decide)]
          congr 2
          have : (2 : Int) ^ 8 = 256 := by decide
          rw [this, Int.natCast_add, Int.natCast_mul]
          omega
        · obtain rfl : j = r.length := by omega
          rw [List.getElem?_append_right (by simp)]
          simp only [Nat.add_sub_cancel, Nat.sub_self, Nat.mul_zero, Int.pow_zero, Int.ediv_one, List.length_reverse, List.getElem?_cons_zero, Option.some.injEq]
          have e : (((getL r.reverse a * 256 + b.toNat : Nat) : Int) % 256).toNat = b.toNat := by omega
          rw [e]
          simp
      · rw [List.getElem?_eq_none (by omega), List.getElem?_eq_none (by simp; omega)]
  intro a
  have := key l.reverse a
  rwa [List.reverse_reverse, List.length_reverse] at this

theorem put_getK (s : ByteArray) (i m : Nat) (h : i + m ≤ s.size) : putL (getK s i m : Nat) m = (s.data.toList.drop i).take m := by
  have hl : ((s.data.toList.drop i).take m).length = m := by
    rw [List.length_take, List.length_drop, Array.length_toList]
    have : s.data.size = s.size := rfl
    omega
  have e := put_getL ((s.data.toList.drop i).take m) 0
  rw [hl] at e
  exact e

theorem getK_lt48 (s : ByteArray) (i : Nat) : getK s i 6 < 281474976710656 := by
  have h := getL_lt ((s.data.toList.drop i).take 6) 0
  have h2 : 256 ^ ((s.data.toList.drop i).take 6).length ≤ 256 ^ 6 := Nat.pow_le_pow_right (by decide) (List.length_take_le _ _)
  unfold getK
  omega

/-- a checksum's four bytes tell it -/
theorem sumL_inj {p q : List UInt8} (h : sumL p = sumL q) : crc p = crc q := by
  unfold sumL at h
  have e : putL (crc p : Nat) 4 = putL (crc q : Nat) 4 := by
    have := congrArg List.reverse h
    rwa [List.reverse_reverse, List.reverse_reverse] at this
  have hp := getL_put (crc p : Nat) 4 0
  have hq := getL_put (crc q : Nat) 4 0
  rw [e, hq] at hp
  have h1 := crc_lt p
  have h2 := crc_lt q
  have e4 : (256 : Int) ^ 4 = 4294967296 := by decide
  rw [e4] at hp
  omega

theorem head_len (f : Fr) : (frHead f).length = (if f.tagged = true then 18 else 14) + f.body.size := by
  unfold frHead
  simp only [List.length_append, putL_length, Array.length_toList]
  have e : f.body.data.size = f.body.size := rfl
  by_cases h : f.tagged = true
  · simp only [h, if_true, List.length_append, putL_length]; omega
  · simp only [h, Bool.false_eq_true, if_false, List.length_nil]; omega
theorem frL_len (f : Fr) : (frL f).length = (if f.tagged = true then 22 else 18) + f.body.size := by
  unfold frL
  rw [List.length_append, head_len, sumL_len]
  by_cases h : f.tagged = true
  · simp only [h, if_true]; omega
  · simp only [h, Bool.false_eq_true, if_false]; omega

/-- the two parts of bytes: what the checksum covers, and the checksum -/
theorem parts_of {s : ByteArray} {p q : List UInt8} (h : s.data.toList = p ++ q) (hq : q.length = 4) : (s.extract 0 (s.size - 4)).data.toList = p ∧ (s.extract (s.size - 4) s.size).data.toList = q := by
  have hs : s.size = p.length + 4 := by
    have e : s.size = s.data.toList.length := by rw [Array.length_toList]; rfl
    rw [e, h, List.length_append, hq]
  constructor
  · rw [ByteArray.data_extract, Array.toList_extract, h]
    simp only [List.extract, List.drop_zero]
    rw [show s.size - 4 - 0 = p.length by omega, List.take_left]
  · rw [ByteArray.data_extract, Array.toList_extract, h]
    simp only [List.extract]
    rw [show s.size - 4 = p.length by omega, List.drop_left, List.take_of_length_le (by omega)]

/-- a frame comes back from its bytes -/
theorem frame_back (f : Fr) (h : frOk f) (s : ByteArray) (hs : s.data.toList = frL f) : getF s = (f, 0) := by
  obtain ⟨dst, src, tagged, vid, pri, type, body⟩ := f
  obtain ⟨⟨d0, d1⟩, ⟨s0, s1⟩, hg, htag, htype, hb⟩ := h
  simp only at d0 d1 s0 s1 hg htype hb
  have hlen := frL_len ⟨dst, src, tagged, vid, pri, type, body⟩
  have hsz : s.size = (frL ⟨dst, src, tagged, vid, pri, type, body⟩).length := by rw [← hs, Array.length_toList]; rfl
  rw [hlen] at hsz
  simp only at hsz
  have hp := parts_of (p := frHead ⟨dst, src, tagged, vid, pri, type, body⟩) (q := sumL (frHead ⟨dst, src, tagged, vid, pri, type, body⟩)) hs (sumL_len _)
  have e48 : (256 : Int) ^ 6 = 281474976710656 := by decide
  have e16 : (256 : Int) ^ 2 = 65536 := by decide
  have ht := htype.1
  have h18 : ¬ s.size < 18 := by cases tagged <;> simp at hsz <;> omega
  have h22 : ¬ 1522 < s.size := by cases tagged <;> simp at hsz <;> omega
  unfold getF
  rw [if_neg h18, if_neg h22, if_pos (by rw [hp.1, hp.2])]
  have hbl : body.data.size = body.size := rfl
  cases tagged
  · have hv : vid = 0 ∧ pri = 0 := by simpa [tagOk] using htag
    obtain ⟨rfl, rfl⟩ := hv
    simp only [Bool.false_eq_true, if_false] at hsz
    have hl : s.data.toList = putL dst 6 ++ putL src 6 ++ putL type 2 ++ body.data.toList ++ sumL (frHead ⟨dst, src, false, 0, 0, type, body⟩) := by
      rw [hs]
      simp only [frL, frHead, Bool.false_eq_true, if_false, List.append_nil, List.append_assoc]
    have k0 := getK_put s dst 0 6 [] (putL src 6 ++ putL type 2 ++ body.data.toList ++ sumL (frHead ⟨dst, src, false, 0, 0, type, body⟩)) (by rw [hl]; simp) rfl
    have k6 := getK_put s src 6 6 (putL dst 6) (putL type 2 ++ body.data.toList ++ sumL (frHead ⟨dst, src, false, 0, 0, type, body⟩)) (by rw [hl]; simp) (putL_length _ _)
    have k12 := getK_put s type 12 2 (putL dst 6 ++ putL src 6) (body.data.toList ++ sumL (frHead ⟨dst, src, false, 0, 0, type, body⟩)) (by rw [hl]; simp) (by simp [putL_length])
    rw [e48] at k0 k6
    rw [e16] at k12
    have hne := htype.2
    have hbody : s.extract 14 (s.size - 4) = body := by
      apply ByteArray.ext
      apply Array.toList_inj.1
      rw [ByteArray.data_extract, Array.toList_extract, hl]
      simp only [List.extract]
      rw [show putL dst 6 ++ putL src 6 ++ putL type 2 ++ body.data.toList ++ sumL (frHead ⟨dst, src, false, 0, 0, type, body⟩) = (putL dst 6 ++ putL src 6 ++ putL type 2) ++ (body.data.toList ++ sumL (frHead ⟨dst, src, false, 0, 0, type, body⟩)) by simp]
      rw [List.drop_left' (by simp [putL_length]), List.take_left' (by rw [Array.length_toList]; omega)]
    unfold getF2
    rw [if_neg (by omega), hbody, k0, k6, k12, show dst % 281474976710656 = dst by omega, show src % 281474976710656 = src by omega, show type % 65536 = type by omega]
    unfold getF3
    simp only
    rw [if_neg (fun hh => hh htype), if_neg hg, if_neg (by omega)]
  · have hv : (1 ≤ vid ∧ vid ≤ 4094) ∧ (0 ≤ pri ∧ pri ≤ 7) := by simpa [tagOk] using htag
    simp only [if_true] at hsz
    have hl : s.data.toList = putL dst 6 ++ putL src 6 ++ putL 33024 2 ++ putL (8192 * pri + vid) 2 ++ putL type 2 ++ body.data.toList ++ sumL (frHead ⟨dst, src, true, vid, pri, type, body⟩) := by
      rw [hs]
      simp only [frL, frHead, if_true, List.append_assoc]
    have k0 := getK_put s dst 0 6 [] (putL src 6 ++ putL 33024 2 ++ putL (8192 * pri + vid) 2 ++ putL type 2 ++ body.data.toList ++ sumL (frHead ⟨dst, src, true, vid, pri, type, body⟩)) (by rw [hl]; simp) rfl
    have k6 := getK_put s src 6 6 (putL dst 6) (putL 33024 2 ++ putL (8192 * pri + vid) 2 ++ putL type 2 ++ body.data.toList ++ sumL (frHead ⟨dst, src, true, vid, pri, type, body⟩)) (by rw [hl]; simp) (putL_length _ _)
    have k12 := getK_put s 33024 12 2 (putL dst 6 ++ putL src 6) (putL (8192 * pri + vid) 2 ++ putL type 2 ++ body.data.toList ++ sumL (frHead ⟨dst, src, true, vid, pri, type, body⟩)) (by rw [hl]; simp) (by simp [putL_length])
    have k14 := getK_put s (8192 * pri + vid) 14 2 (putL dst 6 ++ putL src 6 ++ putL 33024 2) (putL type 2 ++ body.data.toList ++ sumL (frHead ⟨dst, src, true, vid, pri, type, body⟩)) (by rw [hl]; simp) (by simp [putL_length])
    have k16 := getK_put s type 16 2 (putL dst 6 ++ putL src 6 ++ putL 33024 2 ++ putL (8192 * pri + vid) 2) (body.data.toList ++ sumL (frHead ⟨dst, src, true, vid, pri, type, body⟩)) (by rw [hl]; simp) (by simp [putL_length])
    rw [e48] at k0 k6
    rw [e16] at k12 k14 k16
    have hbody : s.extract 18 (s.size - 4) = body := by
      apply ByteArray.ext
      apply Array.toList_inj.1
      rw [ByteArray.data_extract, Array.toList_extract, hl]
      simp only [List.extract]
      rw [show putL dst 6 ++ putL src 6 ++ putL 33024 2 ++ putL (8192 * pri + vid) 2 ++ putL type 2 ++ body.data.toList ++ sumL (frHead ⟨dst, src, true, vid, pri, type, body⟩) = (putL dst 6 ++ putL src 6 ++ putL 33024 2 ++ putL (8192 * pri + vid) 2 ++ putL type 2) ++ (body.data.toList ++ sumL (frHead ⟨dst, src, true, vid, pri, type, body⟩)) by simp]
      rw [List.drop_left' (by simp [putL_length]), List.take_left' (by rw [Array.length_toList]; omega)]
    unfold getF2
    rw [if_pos (by omega), if_neg (by omega), if_pos (by omega), hbody, k0, k6, k14, k16, show dst % 281474976710656 = dst by omega, show src % 281474976710656 = src by omega, show type % 65536 = type by omega,
      show (8192 * pri + vid) % 65536 % 4096 = vid by omega, show (8192 * pri + vid) % 65536 / 8192 = pri by omega]
    unfold getF3
    simp only
    rw [if_neg (fun hh => hh htype), if_neg hg, if_neg (by omega)]

theorem take_drop (l : List UInt8) (i m : Nat) : (l.drop i).take m ++ l.drop (i + m) = l.drop i := by
  rw [← List.drop_drop, List.take_append_drop]

theorem getF3_ok {f g : Fr} (h : getF3 f = (g, 0)) : g = f ∧ typeOk f.type ∧ ¬ isGrp f.src ∧ f.body.size ≤ 1500 := by
  unfold getF3 at h
  split at h
  · cases h
  · rename_i h1
    split at h
    · cases h
    · rename_i h2
      split at h
      · cases h
      · rename_i h3
        cases h
        exact ⟨rfl, Classical.not_not.1 h1, h2, by omega⟩

/-- bytes that are a frame are its bytes -/
theorem bytes_back (s : ByteArray) (f : Fr) (h : getF s = (f, 0)) : frOk f ∧ frL f = s.data.toList := by
  unfold getF at h
  split at h
  · cases h
  rename_i h18
  split at h
  · cases h
  rename_i h1522
  split at h
  case isFalse => cases h
  rename_i hsum
  have hsz : s.data.toList.length = s.size := by rw [Array.length_toList]; rfl
  have hall : (s.extract 0 (s.size - 4)).data.toList ++ (s.extract (s.size - 4) s.size).data.toList = s.data.toList := by
    rw [ByteArray.data_extract, Array.toList_extract, ByteArray.data_extract, Array.toList_extract]
    simp only [List.extract, List.drop_zero, Nat.sub_zero]
    rw [List.take_of_length_le (l := s.data.toList.drop (s.size - 4)) (by rw [List.length_drop]; omega), List.take_append_drop]
  rw [← hsum] at hall
  have m0 := getK_lt48 s 0
  have m6 := getK_lt48 s 6
  have p0 := put_getK s 0 6 (by omega)
  have p6 := put_getK s 6 6 (by omega)
  have p12 := put_getK s 12 2 (by omega)
  have hx : (s.extract 0 (s.size - 4)).data.toList = s.data.toList.take (s.size - 4) := by
    rw [ByteArray.data_extract, Array.toList_extract]
    simp only [List.extract, List.drop_zero, Nat.sub_zero]
  have hd : ∀ i, ((s.data.toList.take (s.size - 4)).drop i) = (s.data.toList.drop i).take (s.size - 4 - i) := fun i => by rw [List.drop_take]
  unfold getF2 at h
  split at h
  · rename_i hty
    split at h
    · cases h
    rename_i h22
    split at h
    case isFalse => cases h
    rename_i hv
    obtain ⟨rfl, g1, g2, g3⟩ := getF3_ok h
    have p14 := put_getK s 14 2 (by omega)
    have p16 := put_getK s 16 2 (by omega)
    have htw := getK_two s 14
    refine ⟨⟨⟨by simp only; omega, by simp only; omega⟩, ⟨by simp only; omega, by simp only; omega⟩, g2, ?_, g1, g3⟩, ?_⟩
    · unfold tagOk
      simp only [if_true]
      omega
    · unfold frL
      rw [← hall]
      have e : frHead ⟨(getK s 0 6 : Nat), (getK s 6 6 : Nat), true, (getK s 14 2 : Int) % 4096, (getK s 14 2 : Int) / 8192, (getK s 16 2 : Nat), s.extract 18 (s.size - 4)⟩ = (s.extract 0 (s.size - 4)).data.toList := by
        unfold frHead
        simp only [if_true]
        rw [show 8192 * ((getK s 14 2 : Int) / 8192) + (getK s 14 2 : Int) % 4096 = ((getK s 14 2 : Nat) : Int) by omega]
        rw [show (33024 : Int) = ((getK s 12 2 : Nat) : Int) by omega, p0, p6, p12, p14, p16, hx]
        rw [ByteArray.data_extract, Array.toList_extract]
        simp only [List.extract, List.drop_zero, List.append_assoc]
        have c0 := take_drop (s.data.toList.take (s.size - 4)) 0 6
        have c1 := take_drop (s.data.toList.take (s.size - 4)) 6 6
        have c2 := take_drop (s.data.toList.take (s.size - 4)) 12 2
        have c3 := take_drop (s.data.toList.take (s.size - 4)) 14 2
        have c4 := take_drop (s.data.toList.take (s.size - 4)) 16 2
        simp only [hd, List.take_take, List.drop_zero, Nat.zero_add, Nat.sub_zero] at c0 c1 c2 c3 c4
        rw [show min 6 (s.size - 4) = 6 by omega] at c0
        rw [show min 6 (s.size - 4 - 6) = 6 by omega] at c1
        rw [show min 2 (s.size - 4 - 12) = 2 by omega] at c2
        rw [show min 2 (s.size - 4 - 14) = 2 by omega] at c3
        rw [show min 2 (s.size - 4 - 16) = 2 by omega] at c4
        rw [← c0, ← c1, ← c2, ← c3, ← c4]
      rw [e]
  · rename_i hty
    obtain ⟨rfl, g1, g2, g3⟩ := getF3_ok h
    refine ⟨⟨⟨by simp only; omega, by simp only; omega⟩, ⟨by simp only; omega, by simp only; omega⟩, g2, ⟨rfl, rfl⟩, g1, g3⟩, ?_⟩
    unfold frL
    rw [← hall]
    have e : frHead ⟨(getK s 0 6 : Nat), (getK s 6 6 : Nat), false, 0, 0, (getK s 12 2 : Nat), s.extract 14 (s.size - 4)⟩ = (s.extract 0 (s.size - 4)).data.toList := by
      unfold frHead
      simp only [Bool.false_eq_true, if_false, List.append_nil]
      rw [p0, p6, p12, hx]
      rw [ByteArray.data_extract, Array.toList_extract]
      simp only [List.extract, List.drop_zero, List.append_assoc]
      have c0 := take_drop (s.data.toList.take (s.size - 4)) 0 6
      have c1 := take_drop (s.data.toList.take (s.size - 4)) 6 6
      have c2 := take_drop (s.data.toList.take (s.size - 4)) 12 2
      simp only [hd, List.take_take, List.drop_zero, Nat.zero_add, Nat.sub_zero] at c0 c1 c2
      rw [show min 6 (s.size - 4) = 6 by omega] at c0
      rw [show min 6 (s.size - 4 - 6) = 6 by omega] at c1
      rw [show min 2 (s.size - 4 - 12) = 2 by omega] at c2
      rw [← c0, ← c1, ← c2]
    rw [e]

/-- with a byte of a frame's bytes turned the checksum is wrong -/
theorem turned_sum (f : Fr) (h : frOk f) (s : ByteArray) (p q : List UInt8) (a b : UInt8) (hf : frL f = p ++ a :: q) (hs : s.data.toList = p ++ b :: q) (hab : a ≠ b) : getF s = (Fr.zero, 3) := by
  have hlen := frL_len f
  have hb : f.body.size ≤ 1500 := h.2.2.2.2.2
  have hsz : s.size = (frL f).length := by
    have e : s.size = s.data.toList.length := by rw [Array.length_toList]; rfl
    rw [e, hs, hf]; simp
  rw [hlen] at hsz
  have h18 : ¬ s.size < 18 := by split at hsz <;> omega
  have h22 : ¬ 1522 < s.size := by split at hsz <;> omega
  unfold getF
  rw [if_neg h18, if_neg h22, if_neg ?_]
  intro hsum
  have hs4 := sumL_len (frHead f)
  have inHead : ∀ q1, frHead f = p ++ a :: q1 → q = q1 ++ sumL (frHead f) → False := by
    intro q1 e1 e2
    have hp := parts_of (s := s) (p := p ++ b :: q1) (q := sumL (frHead f)) (by rw [hs]; conv => { lhs; rw [e2] }; simp) hs4
    rw [hp.1, hp.2] at hsum
    have hc := sumL_inj hsum
    rw [e1] at hc
    exact hab (crc_other _ _ _ _ hc).symm
  have inSum : ∀ r, p = frHead f ++ r → sumL (frHead f) = r ++ a :: q → False := by
    intro r e1 e2
    have hl : (r ++ b :: q).length = 4 := by rw [← hs4, e2]; simp
    have hp := parts_of (s := s) (p := frHead f) (q := r ++ b :: q) (by rw [hs, e1]; simp) hl
    rw [hp.1, hp.2, e2] at hsum
    have := List.append_cancel_left hsum
    cases this
    exact hab rfl
  unfold frL at hf
  rcases List.append_eq_append_iff.1 hf with ⟨r, e1, e2⟩ | ⟨r, e1, e2⟩
  · exact inSum r e1 e2
  · cases r with
    | nil => exact inSum [] (by simpa using e1.symm) (by simpa using e2.symm)
    | cons x r =>
      simp only [List.cons_append, List.cons.injEq] at e2
      obtain ⟨rfl, e2⟩ := e2
      exact inHead r e1 e2
end Go.Proofs.Ytiajeialcmcppaa
