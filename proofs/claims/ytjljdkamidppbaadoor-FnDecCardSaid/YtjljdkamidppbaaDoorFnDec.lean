/- FnDec: numbers come back from their texts. -/
import Derived.Test.YtjljdkamidppbaaDoorDecText
import Derived.Test.YtjljdkamidppbaaDoorReadDec
import Derived.Test.YtjljdkamidppbaaDoorDraw
import Derived.Test.YtjljdkamidppbaaDoorBig
import Derived.Deep.RegionHeld3
namespace Go.Proofs.YtjljdkamidppbaaDoor
open Go.RowKit

def DrawnHex (w : World) (e : Ending) (w' : World) : Prop :=
  ∃ n k : Int, e = .returned (.tuple #[.int .i64 n, .int .i64 k]) ∧ -9223372036854775808 ≤ n ∧ n ≤ 9223372036854775807 ∧ -1 ≤ k ∧ k ≤ 13 ∧ Below w.heap.size w w'
theorem drawHex_any (w : World) (a : Option Addr) (len cap : Nat) (zs : List Int) (hl : len ≤ 1048576) (hrow : IsRow .u8 w a len cap zs) (hlow : ∀ x, a = some x → 0 < cap → x.block < w.heap.size) :
    Calls Tryd.prog 8 #[.slice a len cap] w (DrawnHex w) := by
  go_enter Tryd.func8, Tryd.ntmps8
  go_wp2_with fail
  refine (new_any w a len cap zs hl hrow hlow).mono ?_
  rintro e w1 ⟨rfl, hc1, hb1, hs1⟩
  go_wp2_with fail
  refine (int_any _ _ _ _ hl hc1).mono ?_
  rintro e w2 ⟨n, rfl, hn0, hn1, hc2, hg2⟩
  go_wp2_with fail
  refine (below_any _ _ _ 15 (by decide) (by decide) _ hl hc2).mono ?_
  rintro e w3 ⟨k, rfl, hk0, hk1, hc3, hg3⟩
  go_wp2_with fail
  go_ret2
  exact ⟨n, k - 1, rfl, hn0, hn1, by omega, by omega, hb1.trans ((grown_below (grown_trans hg2 hg3) (Nat.le_refl _) (by omega)).mono (by omega))⟩

def DrawnDec (w : World) (e : Ending) (w' : World) : Prop :=
  ∃ n : Int, e = .returned (.int .i64 n) ∧ -9223372036854775808 ≤ n ∧ n ≤ 9223372036854775807 ∧ Below w.heap.size w w'
theorem drawDec_any (w : World) (a : Option Addr) (len cap : Nat) (zs : List Int) (hl : len ≤ 1048576) (hrow : IsRow .u8 w a len cap zs) (hlow : ∀ x, a = some x → 0 < cap → x.block < w.heap.size) :
    Calls Tryd.prog 7 #[.slice a len cap] w (DrawnDec w) := by
  go_enter Tryd.func7, Tryd.ntmps7
  go_wp2_with fail
  refine (new_any w a len cap zs hl hrow hlow).mono ?_
  rintro e w1 ⟨rfl, hc1, hb1, hs1⟩
  go_wp2_with fail
  refine (int_any _ _ _ _ hl hc1).mono ?_
  rintro e w2 ⟨n, rfl, hn0, hn1, hc2, hg2⟩
  go_wp2_with fail
  go_ret
  exact ⟨n, rfl, hn0, hn1, hb1.trans ((grown_below hg2 (Nat.le_refl _) (by omega)).mono (by omega))⟩

theorem hex_back (n : Int) (m : Nat) : ∀ a : Nat, rdL 16 (hexL n m) a = a * 16 ^ m + n % 16 ^ m := by
  induction m with
  | zero => intro a; simp [hexL, rdL, Int.emod_one]
  | succ m ih =>
    intro a
    have hp : (0 : Int) < 16 ^ m := Int.pow_pos (by decide)
    have e4 : (2 : Int) ^ (4 * m) = 16 ^ m := by rw [Int.pow_mul]; rfl
    have hd : ∀ d : Int, 0 ≤ d → d < 16 → digV 16 (hexD d) = d := by
      intro d h0 h1
      have h : d = 0 ∨ d = 1 ∨ d = 2 ∨ d = 3 ∨ d = 4 ∨ d = 5 ∨ d = 6 ∨ d = 7 ∨ d = 8 ∨ d = 9 ∨ d = 10 ∨ d = 11 ∨ d = 12 ∨ d = 13 ∨ d = 14 ∨ d = 15 := by omega
      rcases h with rfl | rfl | rfl | rfl | rfl | rfl | rfl | rfl | rfl | rfl | rfl | rfl | rfl | rfl | rfl | rfl <;> decide +kernel
    have hv := hd (n / 2 ^ (4 * m) % 16) (by omega) (by omega)
    simp only [hexL, rdL, hv]
    rw [if_neg (by omega), e4]
    obtain ⟨q, hq⟩ := Int.eq_ofNat_of_zero_le (show 0 ≤ n / 16 ^ m % 16 by omega)
    have e1 : (a : Int) * (16 : Nat) + n / 16 ^ m % 16 = ((a * 16 + q : Nat) : Int) := by rw [hq]; simp
    rw [e1, ih, Int.pow_succ, emod_step16 n _ hp, hq]
    rw [Int.natCast_add, Int.natCast_mul, Int.add_mul, Int.mul_assoc, show ((16 : Nat) : Int) * (16 : Int) ^ m = 16 ^ m * 16 from Int.mul_comm _ _, Int.add_assoc]

theorem dec_dgt (n : Nat) : ∀ c ∈ Lib.decDigits n, dgt c := by
  induction n using Nat.strongRecOn with
  | _ n ih =>
    have hd : ∀ k : Nat, k < 10 → dgt (UInt8.ofNat (48 + k)) := by
      intro k hk
      unfold dgt
      rw [UInt8.toNat_ofNat']
      omega
    intro c hc
    rw [Lib.decDigits] at hc
    by_cases h : n < 10
    · rw [dif_pos h] at hc
      simp only [List.mem_cons, List.not_mem_nil, or_false] at hc
      subst hc
      exact hd n h
    · rw [dif_neg h] at hc
      rcases List.mem_append.1 hc with hc | hc
      · exact ih (n / 10) (by omega) c hc
      · simp only [List.mem_cons, List.not_mem_nil, or_false] at hc
        subst hc
        exact hd (n % 10) (by omega)

theorem dec_val (n : Nat) : dval (Lib.decDigits n) 0 = n := by
  induction n using Nat.strongRecOn with
  | _ n ih =>
    rw [Lib.decDigits]
    by_cases h : n < 10
    · rw [dif_pos h]
      simp only [dval]
      rw [UInt8.toNat_ofNat']
      omega
    · rw [dif_neg h, dval_append, ih (n / 10) (by omega)]
      simp only [dval]
      rw [UInt8.toNat_ofNat']
      omega

theorem dec_head (n : Nat) (h1 : 1 ≤ n) : (Lib.decDigits n).head? ≠ some 48 := by
  induction n using Nat.strongRecOn with
  | _ n ih =>
    rw [Lib.decDigits]
    by_cases h : n < 10
    · rw [dif_pos h]
      simp only [List.head?_cons, ne_eq, Option.some.injEq]
      intro e
      have := congrArg UInt8.toNat e
      rw [UInt8.toNat_ofNat'] at this
      have e48 : (48 : UInt8).toNat = 48 := rfl
      omega
    · rw [dif_neg h]
      have hl : 1 ≤ (Lib.decDigits (n / 10)).length := by rw [Lib.decDigits_length]; exact Lib.nDigits_pos _
      have := ih (n / 10) (by omega) (by omega)
      cases hd : Lib.decDigits (n / 10) with
      | nil => rw [hd] at hl; simp at hl
      | cons c l => rw [hd] at this; simpa using this

theorem nDigits_gt (k : Nat) : ∀ u, 10 ^ k ≤ u → k < Lib.nDigits u := by
  induction k with
  | zero => intro u _; exact Lib.nDigits_pos u
  | succ k ih =>
    intro u h
    have hp : 1 ≤ 10 ^ k := Nat.one_le_pow _ _ (by decide)
    rw [Nat.pow_succ] at h
    rw [Lib.nDigits_big (by omega)]
    have := ih (u / 10) (by omega)
    omega

/-- what ReadDec answers at a number's text -/
theorem readD_itoa (n : Int) : readD (Lib.itoa n) = if 0 ≤ n ∧ n ≤ 999999999 then n else -1 := by
  by_cases h0 : n < 0
  · have e : Lib.itoa n = 45 :: Lib.decDigits n.natAbs := by unfold Lib.itoa; rw [if_pos h0]
    rw [e, if_neg (by omega)]
    unfold readD
    have hv : digV 10 45 = -1 := by decide +kernel
    simp only [rdL, hv]
    split
    · rfl
    · rw [if_pos (by decide)]
  · obtain ⟨N, rfl⟩ := Int.eq_ofNat_of_zero_le (show 0 ≤ n by omega)
    have e : Lib.itoa (N : Int) = Lib.decDigits N := by unfold Lib.itoa; rw [if_neg (by omega)]; rfl
    rw [e]
    unfold readD
    have hl := Lib.decDigits_length N
    have hp := Lib.nDigits_pos N
    by_cases h9 : N ≤ 999999999
    · have hn := nDigits_le 8 N (by omega)
      rw [if_neg, if_pos (by omega), show (0 : Int) = ((0 : Nat) : Int) from rfl, rdL_digits _ (dec_dgt N), dec_val]
      rintro (h | h | ⟨h1, h2⟩)
      · omega
      · omega
      · by_cases hN : 1 ≤ N
        · exact dec_head N hN h2
        · obtain rfl : N = 0 := by omega
          rw [Lib.decDigits_length, Lib.nDigits_small (by decide)] at h1
          omega
    · have hn := nDigits_gt 9 N (by omega)
      rw [if_pos (.inr (.inl (by omega))), if_neg (by omega)]

theorem itoa_len (n : Int) (h0 : -9223372036854775808 ≤ n) (h1 : n ≤ 9223372036854775807) : (Lib.itoa n).length ≤ 21 := by
  unfold Lib.itoa
  split
  · rw [List.length_cons, Lib.decDigits_length]
    have := nDigits_le 19 n.natAbs (by omega)
    omega
  · rw [Lib.decDigits_length]
    have := nDigits_le 19 n.toNat (by omega)
    omega

theorem Tab.below {w w' : World} {B : Nat} (h : Tab w) (hb : Below B w w') (hB : 1 < B) : Tab w' := by
  unfold Tab Lib.TabIs at *
  exact var?_below hb tab_global hB h

set_option maxHeartbeats 1000000 in
set_option maxRecDepth 100000 in
theorem walk_FnDec (a : Option Addr) (len cap : Nat) (zs : List Int) (w : World) (hrow : IsRow .u8 w a len cap zs) (ht : Tab w) :
    Calls Tryd.prog 3 #[.slice a len cap] w fun e w' => e = .returned (.bool true) ∧ Below w.heap.size w w' := by
  have hlow := hrow.low
  have hmax : len ≤ 9223372036854775807 := by
    rcases hrow with ⟨_, rfl, _⟩ | ⟨_, _, h1, h2, _⟩
    · omega
    · unfold maxLen at h2; omega
  have hg : 1 < w.heap.size := World.block_lt_of_cell? _ _ (Lib.TabIs.cell ht tab_global 0 (by rw [Lib.pow10Tab_length]; decide))
  have hil : ∀ n : Int, -9223372036854775808 ≤ n → n ≤ 9223372036854775807 → (Lib.itoa n).length ≤ 21 := fun n h0 h1 => itoa_len n h0 h1
  have HI := Lib.hid hil; clear hil
  have HT := Lib.hid ht; clear ht
  have HG := Lib.hid hg; clear hg
  by_cases hl : len ≤ 1048576
  · go_enter Tryd.func3, Tryd.ntmps3
    go_wp2_with fail
    refine (big_no a len cap w hl).mono ?_
    rintro e w' ⟨rfl, rfl⟩
    go_wp2_with fail
    refine (drawDec_any w a len cap zs hl hrow hlow).mono ?_
    rintro e w1 ⟨n, rfl, hn0, hn1, hb1⟩
    have hil := HI.out n hn0 hn1
    go_wp2_with fail
    refine (drawHex_any w1 a len cap zs hl (hrow.below hlow hb1) (fun x hx hc => Nat.lt_of_lt_of_le (hlow x hx hc) hb1.size)).mono ?_
    rintro e w2 ⟨m, d, rfl, hm0, hm1, hd0, hd1, hb2⟩
    go_wp2_with fail
    have ht2 := (HT.out.below hb1 HG.out).below hb2 (Nat.lt_of_lt_of_le HG.out hb1.size)
    refine (dec_impl n w2 hn0 hn1 ht2).mono ?_
    clear ht2
    rintro e w3 ⟨rfl, hb3⟩
    go_wp2_with fail
    by_cases h : 0 ≤ m ∧ 1 ≤ d ∧ d ≤ 12
    · obtain ⟨hm0', hd1', hd2'⟩ := h
      obtain ⟨k, rfl⟩ := Int.eq_ofNat_of_zero_le (show 0 ≤ d by omega)
      refine (hex_impl m k _ hm0' hd1' hd2').mono ?_
      rintro e w4 ⟨rfl, hb4⟩
      go_wp2_with fail
      have hlen : (hexL m k).length = k := hexL_length m k
      have hl1 : 1 ≤ (hexL m k).length := by omega
      have hl2 : (hexL m k).length ≤ 12 := by omega
      have HL := Lib.hid hlen; clear hlen
      have hnil1 : (hexL m k).isEmpty = false := by cases hx : hexL m k with | nil => rw [hx] at hl1; simp at hl1 | cons a l => rfl
      have hnil2 : ¬ hexL m k = [] := by intro hx; rw [hx] at hl1; simp at hl1
      have hlq : (((hexL m k).length : Int) == (k : Int)) = true := by rw [HL.out]; simp
      have hlq' : (((hexL m k).length : Int) != (k : Int)) = false := by rw [HL.out]; simp
      have hback := hex_back m k 0
      have hpow : (2 : Int) ^ (4 * k) = 16 ^ k := by rw [Int.pow_mul]; rfl
      rw [← hpow] at hback
      have hP1 : 1 ≤ (2 : Int) ^ (4 * k) ∧ (2 : Int) ^ (4 * k) ≤ 281474976710656 := by
        have h : k = 1 ∨ k = 2 ∨ k = 3 ∨ k = 4 ∨ k = 5 ∨ k = 6 ∨ k = 7 ∨ k = 8 ∨ k = 9 ∨ k = 10 ∨ k = 11 ∨ k = 12 := by omega
        rcases h with rfl | rfl | rfl | rfl | rfl | rfl | rfl | rfl | rfl | rfl | rfl | rfl <;> decide
      generalize hPe : (2 : Int) ^ (4 * k) = P at hback hP1
      obtain ⟨hP1, hP2⟩ := hP1
      have e1 : IntKind.i64.wrap (4 * (k : Int)) = 4 * (k : Int) := IntWalk.i64_in _ (by omega)
      have e2 : IntKind.u64.wrap (4 * (k : Int)) = 4 * (k : Int) := by simp [IntKind.wrap, IntKind.bits, IntKind.signed]; omega
      have e3 : IntKind.i64.wrap P = P := IntWalk.i64_in _ (by omega)
      have e3' : wrap64 P = P := IntWalk.wrap64_in _ ⟨by omega, by omega⟩
      have e4 : (2 : Int) ^ min (4 * k) 64 = P := by rw [show min (4 * k) 64 = 4 * k from by omega, hPe]
      have e5 : m.tmod P = m % P := Int.tmod_eq_emod_of_nonneg hm0'
      have e9 : (2 : Int) ^ (4 * (k : Int)).toNat = P := by rw [show (4 * (k : Int)).toNat = 4 * k from by omega, hPe]
      have e10 : ¬ P = 0 := by omega
      have e6 : (P == 0) = false := by rw [beq_eq_false_iff_ne]; omega
      have e7 : (rdL 16 (hexL m k) 0 == m % P) = true := by rw [beq_iff_eq]; simpa using hback
      have e8 : (rdL 16 (hexL m k) 0 != m % P) = false := by rw [bne_eq_false_iff_eq]; simpa using hback
      clear hback hpow hPe
      have hb44 : Below w4.heap.size w4 w4 := Below.refl _ _
      go_region_held3 (fun w' => Below w4.heap.size w4 w') (first | assumption | exact Below.drew (by assumption)) (first | (go_at_call 11; refine (dec_any n _ hn0 hn1).mono ?_; rintro e w5 ⟨rfl, rfl⟩) | (go_at_call 12; refine (hex_spec m k _ hm0' hd1' hd2' hm1).mono ?_; rintro e w6 ⟨rfl, rfl⟩) | (go_at_call 13; refine (readHex_impl ⟨(hexL m k).toArray⟩ _ hl1 hl2).mono ?_; rintro e w7 ⟨rfl, hb7⟩; have hb8 : Below w4.heap.size w4 w7 := carry_below (by assumption) hb7))
      clear e1 e2 e3 e3' e4 e5 e9 e10 e6 e7 e8 hlq hlq' hnil1 hnil2
      by_cases hr : 0 ≤ n ∧ n ≤ 999999999
      · have hv := readD_itoa n
        rw [if_pos hr] at hv
        have hq : (readD (Lib.itoa n) == n) = true := by rw [beq_iff_eq]; exact hv
        clear hv
        obtain ⟨hr1, hr2⟩ := hr
        go_wp2_with (go_at_call 14; refine (readDec_impl ⟨(Lib.itoa n).toArray⟩ _ (by show (Lib.itoa n).length ≤ _; omega)).mono ?_; rintro e w9 ⟨rfl, hb9⟩)
        go_ret
        exact ⟨rfl, carry_below (carry_below (carry_below (carry_below (carry_below hb1 hb2) hb3) hb4) hb8) hb9⟩
      · have hv := readD_itoa n
        rw [if_neg hr] at hv
        have hq : (readD (Lib.itoa n) == -1) = true := by rw [beq_iff_eq]; exact hv
        clear hv
        by_cases hr1 : 0 ≤ n
        · have hr2 : 999999999 < n := by omega
          go_wp2_with (go_at_call 14; refine (readDec_impl ⟨(Lib.itoa n).toArray⟩ _ (by show (Lib.itoa n).length ≤ _; omega)).mono ?_; rintro e w9 ⟨rfl, hb9⟩)
          go_ret
          exact ⟨rfl, carry_below (carry_below (carry_below (carry_below (carry_below hb1 hb2) hb3) hb4) hb8) hb9⟩
        · go_wp2_with (go_at_call 14; refine (readDec_impl ⟨(Lib.itoa n).toArray⟩ _ (by show (Lib.itoa n).length ≤ _; omega)).mono ?_; rintro e w9 ⟨rfl, hb9⟩)
          go_ret
          exact ⟨rfl, carry_below (carry_below (carry_below (carry_below (carry_below hb1 hb2) hb3) hb4) hb8) hb9⟩
    · refine (hex_impl_no m d _ h).mono ?_
      rintro e w4 ⟨rfl, rfl⟩
      go_wp2_with fail
      go_quiet ((first | (go_at_call 11; exact Calls.quiet_of_same ((dec_any n _ hn0 hn1).mono fun e w' h => ⟨h.1, h.2.symm⟩)) | (go_at_call 12; exact Calls.quiet_of_same ((hex_spec_no m d _ h).mono fun e w' h => ⟨h.1, h.2.symm⟩))))
      generalize hw5 : w3.drewN nq = w5
      have hb5 : Below w3.heap.size w3 w5 := by rw [← hw5]; exact below_drewN (Below.refl _ _) nq
      clear hw5
      by_cases hr : 0 ≤ n ∧ n ≤ 999999999
      · have hv := readD_itoa n
        rw [if_pos hr] at hv
        have hq : (readD (Lib.itoa n) == n) = true := by rw [beq_iff_eq]; exact hv
        clear hv
        obtain ⟨hr1, hr2⟩ := hr
        go_wp2_with (go_at_call 14; refine (readDec_impl ⟨(Lib.itoa n).toArray⟩ _ (by show (Lib.itoa n).length ≤ _; omega)).mono ?_; rintro e w9 ⟨rfl, hb9⟩)
        go_ret
        exact ⟨rfl, carry_below (carry_below (carry_below (carry_below hb1 hb2) hb3) hb5) hb9⟩
      · have hv := readD_itoa n
        rw [if_neg hr] at hv
        have hq : (readD (Lib.itoa n) == -1) = true := by rw [beq_iff_eq]; exact hv
        clear hv
        by_cases hr1 : 0 ≤ n
        · have hr2 : 999999999 < n := by omega
          go_wp2_with (go_at_call 14; refine (readDec_impl ⟨(Lib.itoa n).toArray⟩ _ (by show (Lib.itoa n).length ≤ _; omega)).mono ?_; rintro e w9 ⟨rfl, hb9⟩)
          go_ret
          exact ⟨rfl, carry_below (carry_below (carry_below (carry_below hb1 hb2) hb3) hb5) hb9⟩
        · go_wp2_with (go_at_call 14; refine (readDec_impl ⟨(Lib.itoa n).toArray⟩ _ (by show (Lib.itoa n).length ≤ _; omega)).mono ?_; rintro e w9 ⟨rfl, hb9⟩)
          go_ret
          exact ⟨rfl, carry_below (carry_below (carry_below (carry_below hb1 hb2) hb3) hb5) hb9⟩
  · go_enter Tryd.func3, Tryd.ntmps3
    go_wp2_with (go_at_call 6; refine (big_yes a len cap _ (by omega)).mono ?_; rintro e w' ⟨rfl, rfl⟩)
    go_ret
    exact ⟨rfl, Below.refl _ _⟩
end Go.Proofs.YtjljdkamidppbaaDoor
