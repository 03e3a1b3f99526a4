/- ReadDec: what the program and the model answer. -/
import Derived.Test.YtjljdkamidppbabDoorDec
namespace Go.Proofs.YtjljdkamidppbabDoor
open Go.RowKit

def dgt (c : UInt8) : Prop := 48 ≤ c.toNat ∧ c.toNat ≤ 57
/-- the number that decimal digits make behind n -/
def dval : List UInt8 → Nat → Nat
  | [], n => n
  | c :: l, n => dval l (n * 10 + (c.toNat - 48))
theorem dval_append (p q : List UInt8) : ∀ n, dval (p ++ q) n = dval q (dval p n) := by
  induction p with
  | nil => intro n; rfl
  | cons c p ih => intro n; exact ih _
theorem dval_lt (l : List UInt8) (h : ∀ c ∈ l, dgt c) : ∀ n, dval l n < (n + 1) * 10 ^ l.length := by
  induction l with
  | nil => intro n; simp [dval]
  | cons c l ih =>
    intro n
    have hc : dgt c := h c (List.mem_cons_self ..)
    have h1 := ih (fun x hx => h x (List.mem_cons_of_mem _ hx)) (n * 10 + (c.toNat - 48))
    unfold dgt at hc
    simp only [dval, List.length_cons]
    calc dval l (n * 10 + (c.toNat - 48)) < (n * 10 + (c.toNat - 48) + 1) * 10 ^ l.length := h1
      _ ≤ ((n + 1) * 10) * 10 ^ l.length := Nat.mul_le_mul_right _ (by omega)
      _ = (n + 1) * 10 ^ (l.length + 1) := by rw [Nat.pow_succ, Nat.mul_assoc, Nat.mul_comm 10]
theorem dval_ge (l : List UInt8) : ∀ n, n ≤ dval l n := by
  induction l with
  | nil => intro n; exact Nat.le_refl _
  | cons c l ih => intro n; have := ih (n * 10 + (c.toNat - 48)); simp only [dval]; omega

/-- digits without a nought ahead are their number's text -/
theorem dec_of_digits (l : List UInt8) (h : ∀ c ∈ l, dgt c) (h1 : 1 ≤ l.length) (h0 : l.length = 1 ∨ l.head? ≠ some 48) : Lib.decDigits (dval l 0) = l := by
  induction hl : l.length using Nat.strongRecOn generalizing l with
  | _ n ih =>
    have hne : l ≠ [] := by intro e; subst e; simp at h1
    obtain ⟨p, c, rfl⟩ : ∃ p c, l = p ++ [c] := ⟨l.dropLast, l.getLast hne, (List.dropLast_concat_getLast hne).symm⟩
    have hc : dgt c := h c (by simp)
    unfold dgt at hc
    have hcc : UInt8.ofNat (48 + (c.toNat - 48)) = c := by rw [show 48 + (c.toNat - 48) = c.toNat from by omega]; exact UInt8.ofNat_toNat
    rw [dval_append]
    simp only [dval]
    cases p with
    | nil =>
      simp only [dval, Nat.zero_mul, Nat.zero_add, List.nil_append]
      rw [Lib.decDigits_one (by omega), hcc]
    | cons d p =>
      have hh : d ≠ 48 := by
        rcases h0 with h0 | h0
        · simp at h0
        · intro e; subst e; simp at h0
      have hd : dgt d := h d (by simp)
      have hp := ih (d :: p).length (by rw [← hl]; simp) (d :: p) (fun x hx => h x (List.mem_append_left _ hx)) (by simp) (.inr (by simpa using hh)) rfl
      have hv : 1 ≤ dval (d :: p) 0 := by
        have h2 := dval_ge p (0 * 10 + (d.toNat - 48))
        unfold dgt at hd
        have h3 : d.toNat ≠ 48 := fun e => hh (UInt8.toNat_inj.1 (by rw [e]; rfl))
        simp only [dval]
        omega
      generalize dval (d :: p) 0 = v at hp hv
      rw [Lib.decDigits, dif_neg (by omega), show (v * 10 + (c.toNat - 48)) / 10 = v from by omega, show (v * 10 + (c.toNat - 48)) % 10 = c.toNat - 48 from by omega, hcc, hp]

theorem dec_of_zeros (l : List UInt8) (h : ∀ c ∈ l, dgt c) (h1 : 2 ≤ l.length) (h0 : l.head? = some 48) : Lib.decDigits (dval l 0) ≠ l := by
  intro e
  have hlen := congrArg List.length e
  rw [Lib.decDigits_length] at hlen
  cases l with
  | nil => simp at h1
  | cons d t =>
    simp only [List.head?_cons, Option.some.injEq] at h0
    subst h0
    have h2 := dval_lt t (fun x hx => h x (List.mem_cons_of_mem _ hx)) (0 * 10 + ((48 : UInt8).toNat - 48))
    simp only [dval] at hlen
    obtain ⟨k, hk⟩ : ∃ k, t.length = k + 1 := ⟨t.length - 1, by simp at h1; omega⟩
    have h3 := nDigits_le k (dval t (0 * 10 + ((48 : UInt8).toNat - 48))) (by rw [← hk]; simpa using h2)
    simp only [List.length_cons] at hlen
    omega

theorem rdL_digits (l : List UInt8) (h : ∀ c ∈ l, dgt c) : ∀ n : Nat, rdL 10 l n = dval l n := by
  induction l with
  | nil => intro n; rfl
  | cons c l ih =>
    intro n
    have hc : dgt c := h c (List.mem_cons_self ..)
    have hv := digV10 c
    unfold dgt at hc
    rw [if_pos hc] at hv
    simp only [rdL, dval, hv]
    rw [if_neg (by omega), ← ih (fun x hx => h x (List.mem_cons_of_mem _ hx))]
    congr 1
    omega

theorem rdL_bad (p : List UInt8) (h : ∀ c ∈ p, dgt c) (c : UInt8) (hc : ¬ dgt c) (r : List UInt8) : ∀ n : Nat, rdL 10 (p ++ c :: r) n = -1 := by
  induction p with
  | nil =>
    intro n
    have hv := digV10 c
    unfold dgt at hc
    rw [if_neg hc] at hv
    simp only [List.nil_append, rdL, hv]
    rw [if_pos (by decide)]
  | cons d p ih =>
    intro n
    have hd : dgt d := h d (List.mem_cons_self ..)
    have hv := digV10 d
    unfold dgt at hd
    rw [if_pos hd] at hv
    simp only [List.cons_append, rdL, hv]
    rw [if_neg (by omega)]
    have e : (n : Int) * (10 : Nat) + ((d.toNat : Int) - 48) = ((n * 10 + (d.toNat - 48) : Nat) : Int) := by omega
    rw [e]
    exact ih (fun x hx => h x (List.mem_cons_of_mem _ hx)) _

/-- what ReadDec answers -/
def readD (l : List UInt8) : Int := if l.length = 0 ∨ 9 < l.length ∨ (2 ≤ l.length ∧ l.head? = some 48) then -1 else rdL 10 l 0

theorem lead_yes (s : ByteArray) (w : World) (h2 : 2 ≤ s.size) (h3 : s.size ≤ 1048576) (h : s.data.toList.head? = some 48) :
    Calls Tryd.prog 22 #[.string s] w fun e w' => e = .returned (.bool true) ∧ w = w' := by
  have h0 : (s[0]'(by omega)) = 48 := by
    have e : s.data.toList.head? = some (s[0]'(by omega)) := by
      rw [List.head?_eq_getElem?, Array.getElem?_toList, Array.getElem?_eq_getElem (show 0 < s.data.size from Nat.lt_of_lt_of_le (by decide) h2)]; rfl
    rw [e] at h
    exact Option.some.inj h
  have hb : (((s[0]'(by omega)).toNat : Int) == 48) = true := by rw [h0]; rfl
  go_enter Tryd.func22, Tryd.ntmps22
  go_wp2_with fail
  go_ret
  exact ⟨rfl, rfl⟩

theorem lead_no (s : ByteArray) (w : World) (h3 : s.size ≤ 1048576) (h : ¬ (2 ≤ s.size ∧ s.data.toList.head? = some 48)) :
    Calls Tryd.prog 22 #[.string s] w fun e w' => e = .returned (.bool false) ∧ w = w' := by
  by_cases h2 : 2 ≤ s.size
  · have h0 : (s[0]'(by omega)) ≠ 48 := by
      intro e
      apply h
      refine ⟨h2, ?_⟩
      rw [List.head?_eq_getElem?, Array.getElem?_toList, Array.getElem?_eq_getElem (show 0 < s.data.size from Nat.lt_of_lt_of_le (by decide) h2)]
      exact congrArg some e
    have h4 : (s[0]'(by omega)).toNat ≠ 48 := fun e => h0 (UInt8.toNat_inj.1 (by rw [e]; rfl))
    have hb : (((s[0]'(by omega)).toNat : Int) == 48) = false := by rw [beq_eq_false_iff_ne]; omega
    clear h h0
    go_enter Tryd.func22, Tryd.ntmps22
    go_wp2_with fail
    go_ret
    exact ⟨rfl, rfl⟩
  · have h4 : (s.size : Int) ≤ 1 := by omega
    clear h
    go_enter Tryd.func22, Tryd.ntmps22
    go_wp2_with fail
    go_ret
    exact ⟨rfl, rfl⟩

theorem len_eq (s : ByteArray) : s.data.toList.length = s.size := by rw [Array.length_toList]; rfl

theorem readDec_impl (s : ByteArray) (w : World) (h3 : s.size ≤ 1048576) :
    Calls Tryd.prog 17 #[.string s] w fun e w' => e = .returned (.int .i64 (readD s.data.toList)) ∧ Below w.heap.size w w' := by
  unfold readD
  rw [len_eq]
  by_cases h9 : 9 < s.size
  · rw [if_pos (.inr (.inl h9))]
    go_enter Tryd.func17, Tryd.ntmps17
    go_wp2_with fail
    go_ret
    exact ⟨rfl, Below.refl _ _⟩
  · by_cases hz : 2 ≤ s.size ∧ s.data.toList.head? = some 48
    · rw [if_pos (.inr (.inr hz))]
      have HZ := Lib.hid hz; clear hz
      go_enter Tryd.func17, Tryd.ntmps17
      go_wp2_with (go_at_call 22; refine (lead_yes s _ HZ.out.1 h3 HZ.out.2).mono ?_; rintro e w' ⟨rfl, rfl⟩)
      go_ret
      exact ⟨rfl, Below.refl _ _⟩
    · by_cases h0 : s.size = 0
      · rw [if_pos (.inl h0)]
        have HZ := Lib.hid hz; clear hz
        have h0' : (s.size : Int) ≤ 0 := by omega
        have H0 := Lib.hid h0; clear h0
        go_enter Tryd.func17, Tryd.ntmps17
        go_wp2_with (first | (go_at_call 22; refine (lead_no s _ h3 HZ.out).mono ?_; rintro e w' ⟨rfl, rfl⟩) | (go_at_call 23; refine (digits_none s 10 _ H0.out).mono ?_; rintro e w' ⟨rfl, rfl⟩))
        go_ret
        exact ⟨rfl, Below.refl _ _⟩
      · rw [if_neg (fun h => h.elim h0 (fun h => h.elim h9 hz))]
        have HZ := Lib.hid hz; clear hz
        go_enter Tryd.func17, Tryd.ntmps17
        go_wp2_with (first | (go_at_call 22; refine (lead_no s _ h3 HZ.out).mono ?_; rintro e w' ⟨rfl, rfl⟩) | (go_at_call 23; refine (digits_impl s 10 (.inl rfl) _ (by omega) (by omega)).mono ?_; rintro e w' ⟨rfl, hb⟩))
        go_ret
        exact ⟨rfl, hb⟩

theorem dec_nat (N : Nat) (w : World) (h1 : N ≤ 9223372036854775807) :
    Calls Tryd.prog 10 #[.int .i64 (N : Int)] w fun e w' => e = .returned (.string ⟨(Lib.decDigits N).toArray⟩) ∧ w = w' := by
  by_cases h : N = 0
  · subst h; exact dec_zero w
  · exact dec_pos N w h h1

theorem readDec_spec (s : ByteArray) (w : World) (h3 : s.size ≤ 1048576) :
    Calls Tryd.prog 15 #[.string s] w fun e w' => e = .returned (.int .i64 (readD s.data.toList)) ∧ w = w' := by
  by_cases h9 : 9 < s.size
  · have hr : readD s.data.toList = -1 := by unfold readD; rw [len_eq, if_pos (.inr (.inl h9))]
    rw [hr]
    clear hr
    go_enter Tryd.func15, Tryd.ntmps15
    go_wp2_with fail
    refine wp_loop_rounds 1 ?_
    rw [rounds_succ]
    by_cases h1 : 48 ≤ (s[0]'(by omega)).toNat ∧ (s[0]'(by omega)).toNat ≤ 57
    · go_wp2_with (go_at_call 20; refine (digit_yes _ _ h1).mono ?_; rintro e w' ⟨rfl, rfl⟩)
      go_ret
      exact ⟨rfl, rfl⟩
    · go_wp2_with (go_at_call 20; refine (digit_no _ _ h1).mono ?_; rintro e w' ⟨rfl, rfl⟩)
      go_ret
      exact ⟨rfl, rfl⟩
  · go_enter Tryd.func15, Tryd.ntmps15
    go_wp2_with fail
    go_loop [3, 4] (fun v i => ∃ (k n : Nat), i = .int .i64 k ∧ v = .int .i64 n ∧ k ≤ s.size ∧ n ≤ 9999999999 ∧ Hid (n = dval (s.data.toList.take k) 0 ∧ ∀ c ∈ s.data.toList.take k, dgt c)) (fun _ i => s.size - (intOf i).toNat)
    case atStart => exact ⟨0, 0, rfl, rfl, Nat.zero_le _, by omega, Lib.hid ⟨rfl, by simp⟩⟩
    case round =>
      obtain ⟨k, n, rfl, rfl, hk, hn, Hr⟩ := hrel
      by_cases hlt : k < s.size
      · have hc : (s[k]'hlt).toNat < 256 := UInt8.toNat_lt _
        have htk : s.data.toList.take (k + 1) = s.data.toList.take k ++ [s[k]'hlt] := take_snoc_get _ k _ (by rw [Array.getElem?_toList, Array.getElem?_eq_getElem (show k < s.data.size from hlt)]; rfl)
        have HT := Lib.hid htk; clear htk
        by_cases h1 : 48 ≤ (s[k]'hlt).toNat ∧ (s[k]'hlt).toNat ≤ 57
        · have hn' : n ≤ 99999999 := by
            have h4 := dval_lt _ Hr.out.2 0
            have h5 : (s.data.toList.take k).length ≤ 8 := Nat.le_trans (List.length_take_le _ _) (by omega)
            have h6 : 10 ^ (s.data.toList.take k).length ≤ 10 ^ 8 := Nat.pow_le_pow_right (by decide) h5
            have h7 := Hr.out.1
            omega
          go_wp2_with (go_at_call 20; refine (digit_yes _ _ h1).mono ?_; rintro e w' ⟨rfl, rfl⟩)
          go_round
          case rel =>
            refine ⟨k + 1, n * 10 + ((s[k]'hlt).toNat - 48), by go_num, by go_num, by omega, by omega, Lib.hid ⟨?_, ?_⟩⟩
            · rw [HT.out, dval_append, ← Hr.out.1]; rfl
            · intro c hcm
              rw [HT.out] at hcm
              rcases List.mem_append.1 hcm with hcm | hcm
              · exact Hr.out.2 c hcm
              · simp only [List.mem_cons, List.not_mem_nil, or_false] at hcm; subst hcm; exact h1
          case measure => simp [intOf]; omega
        · have hr : readD s.data.toList = -1 := by
            have hx : rdL 10 s.data.toList 0 = -1 := by
              have hl : k < s.data.toList.length := by rw [Array.length_toList]; exact hlt
              have e : s.data.toList = s.data.toList.take k ++ (s[k]'hlt) :: s.data.toList.drop (k + 1) := by
                rw [← show s.data.toList[k] = s[k]'hlt from rfl, ← List.drop_eq_getElem_cons hl, List.take_append_drop]
              rw [e]
              exact rdL_bad _ Hr.out.2 _ h1 _ 0
            unfold readD
            rw [hx]
            split <;> rfl
          have HR := Lib.hid hr; clear hr
          go_wp2_with (go_at_call 20; refine (digit_no _ _ h1).mono ?_; rintro e w' ⟨rfl, rfl⟩)
          go_ret
          exact ⟨by rw [HR.out]; rfl, rfl⟩
      · obtain rfl : k = s.size := by omega
        have hall : n = dval s.data.toList 0 ∧ ∀ c ∈ s.data.toList, dgt c := by
          have h := Hr.out
          rw [List.take_of_length_le (by rw [len_eq]; exact Nat.le_refl _)] at h
          exact h
        have HA := Lib.hid hall; clear hall
        by_cases h0 : s.size = 0
        · have he := is_empty s h0
          have hr : readD s.data.toList = -1 := by unfold readD; rw [len_eq, if_pos (.inl h0)]
          have HR := Lib.hid hr; clear hr
          have H0 := Lib.hid h0; clear h0
          go_wp2_with fail
          go_ret
          exact ⟨by rw [HR.out]; rfl, rfl⟩
        · have he := not_empty s (by omega)
          have hlen : s.data.toList.length = s.size := len_eq s
          by_cases hz : 2 ≤ s.size ∧ s.data.toList.head? = some 48
          · have hr : readD s.data.toList = -1 := by unfold readD; rw [len_eq, if_pos (.inr (.inr hz))]
            have hd : (Lib.decDigits n == s.toList) = false := by
              rw [beq_eq_false_iff_ne, ByteArray.toList_eq, HA.out.1]
              exact dec_of_zeros _ HA.out.2 (by rw [hlen]; exact hz.1) hz.2
            have HR := Lib.hid hr; clear hr hz hlen
            go_wp2_with (go_at_call 10; refine (dec_nat n _ (by omega)).mono ?_; rintro e w' ⟨rfl, rfl⟩)
            go_ret
            exact ⟨by rw [HR.out]; rfl, rfl⟩
          · have hr : readD s.data.toList = n := by
              unfold readD
              rw [len_eq, if_neg (fun h => h.elim h0 (fun h => h.elim h9 hz)), show (0 : Int) = ((0 : Nat) : Int) from rfl, rdL_digits _ HA.out.2, ← HA.out.1]
            have hd : (Lib.decDigits n == s.toList) = true := by
              rw [beq_iff_eq, ByteArray.toList_eq, HA.out.1]
              refine dec_of_digits _ HA.out.2 (by rw [hlen]; omega) ?_
              by_cases h1 : s.size = 1
              · exact .inl (by rw [hlen]; exact h1)
              · exact .inr (fun h => hz ⟨by omega, h⟩)
            have HR := Lib.hid hr; clear hr hz hlen
            go_wp2_with (go_at_call 10; refine (dec_nat n _ (by omega)).mono ?_; rintro e w' ⟨rfl, rfl⟩)
            go_ret
            exact ⟨by rw [HR.out]; rfl, rfl⟩
end Go.Proofs.YtjljdkamidppbabDoor
