/- FnNum: a number of so many bytes comes back from them. -/
import Derived.Test.YtjljdkamidppbaaGet
import Derived.Test.YtjljdkamidppbaaPut
import Derived.Test.YtjljdkamidppbaaDraw
import Derived.Test.YtjljdkamidppbaaBig
namespace Go.Proofs.Ytjljdkamidppbaa
open Go.RowKit

theorem getL_putL (n : Int) (m : Nat) : ∀ a : Nat, ((getL (putL n m) a : Nat) : Int) = a * 256 ^ m + n % 256 ^ m := by
  induction m with
  | zero => intro a; simp [putL, getL, Int.emod_one]
  | succ m ih =>
    intro a
    have hp : (0 : Int) < 256 ^ m := Int.pow_pos (by decide)
    have e8 : (2 : Int) ^ (8 * m) = 256 ^ m := by rw [Int.pow_mul]; rfl
    simp only [putL, getL]
    rw [ih, e8, Int.pow_succ, emod_step n _ hp]
    have hb := ofNat_toNat_emod (n / 256 ^ m)
    rw [Int.natCast_add, Int.natCast_mul, hb]
    generalize n / 256 ^ m % 256 = q
    generalize n % 256 ^ m = r
    generalize (256 : Int) ^ m = N
    have e256 : ((256 : Nat) : Int) * N = N * 256 := Int.mul_comm _ _
    rw [Int.add_mul, Int.mul_assoc, e256, Int.add_assoc]

theorem pow_256 (m : Nat) : (2 : Int) ^ (8 * m) = 256 ^ m := by rw [Int.pow_mul]; rfl

/-- what GetNum reads of a number's bytes, wherever they stand -/
theorem getK_putL (n : Int) (m : Nat) (pre post : List UInt8) : ((getK ⟨(pre ++ putL n m ++ post).toArray⟩ pre.length m : Nat) : Int) = n % 2 ^ (8 * m) := by
  unfold getK
  have e : ((pre ++ putL n m ++ post).toArray.toList.drop pre.length).take m = putL n m := by
    simp only [List.append_assoc]
    rw [List.drop_left, List.take_left' (putL_length n m)]
  rw [e, getL_putL, pow_256]
  simp

theorem mask_low (n : Int) (m : Nat) (h1 : 1 ≤ m) (h6 : m ≤ 6) : bits .and .i64 n (wrap64 (wrap64 (2 ^ (8 * m)) - 1)) = n % 2 ^ (8 * m) := by
  have key : ∀ k : Nat, k ≤ 62 → bits .and .i64 n (2 ^ k - 1) = n % 2 ^ k := by
    intro k hk
    have hp : (2 : Nat) ^ k ≤ 2 ^ 62 := Nat.pow_le_pow_right (by decide) hk
    have hp1 : 1 ≤ (2 : Nat) ^ k := Nat.one_le_pow _ _ (by decide)
    have ec : (2 : Int) ^ k = ((2 ^ k : Nat) : Int) := by simp
    show IntKind.i64.wrap (((BitVec.ofInt 64 n &&& BitVec.ofInt 64 (2 ^ k - 1)).toNat : Nat) : Int) = n % 2 ^ k
    rw [BitVec.toNat_and, ofInt64_toNat, ofInt64_toNat, ec]
    have e2 : (((2 ^ k : Nat) : Int) - 1) % 18446744073709551616 = ((2 ^ k - 1 : Nat) : Int) := by
      rw [Int.emod_eq_of_lt (by omega) (by omega)]; omega
    rw [e2, Int.toNat_natCast, Nat.and_two_pow_sub_one_eq_mod]
    have e3 : (((n % 18446744073709551616).toNat % 2 ^ k : Nat) : Int) = n % ((2 ^ k : Nat) : Int) := by
      rw [Int.natCast_emod, Int.toNat_of_nonneg (by omega)]
      refine Int.emod_emod_of_dvd n ?_
      have : (18446744073709551616 : Int) = ((2 ^ 64 : Nat) : Int) := by decide
      rw [this]
      exact Int.natCast_dvd_natCast.2 (Nat.pow_dvd_pow 2 (by omega))
    rw [e3]
    have r0 := Int.emod_nonneg n (show ((2 ^ k : Nat) : Int) ≠ 0 by omega)
    have r1 := Int.emod_lt_of_pos n (show (0 : Int) < ((2 ^ k : Nat) : Int) by omega)
    generalize n % ((2 ^ k : Nat) : Int) = r at r0 r1
    simp [IntKind.wrap, IntKind.bits, IntKind.signed]
    omega
  have hk : (2 : Int) ^ (8 * m) ≤ 281474976710656 ∧ 1 ≤ (2 : Int) ^ (8 * m) := by
    have h : m = 1 ∨ m = 2 ∨ m = 3 ∨ m = 4 ∨ m = 5 ∨ m = 6 := by omega
    rcases h with rfl | rfl | rfl | rfl | rfl | rfl <;> decide
  rw [IntWalk.wrap64_in (2 ^ (8 * m)) ⟨by omega, by omega⟩, IntWalk.wrap64_in (2 ^ (8 * m) - 1) ⟨by omega, by omega⟩]
  exact key _ (by omega)

theorem cat3 (l : List UInt8) : ({ data := #[120] } : ByteArray) ++ { data := l.toArray } ++ { data := #[121] } = { data := (120 :: (l ++ [121])).toArray } := by
  apply ByteArray.ext
  rw [ByteArray.data_append, ByteArray.data_append]
  simp

def DrawnPut (w : World) (e : Ending) (w' : World) : Prop :=
  ∃ n k : Int, e = .returned (.tuple #[.int .i64 n, .int .i64 k]) ∧ -9223372036854775808 ≤ n ∧ n ≤ 9223372036854775807 ∧ -1 ≤ k ∧ k ≤ 7 ∧ Below w.heap.size w w'
theorem drawPut_any (w : World) (a : Option Addr) (len cap : Nat) (zs : List Int) (hl : len ≤ 1048576) (hrow : IsRow .u8 w a len cap zs) (hlow : ∀ x, a = some x → 0 < cap → x.block < w.heap.size) :
    Calls Try.prog 13 #[.slice a len cap] w (DrawnPut w) := by
  go_enter Try.func13, Try.ntmps13
  go_wp2_with fail
  refine (new_any w a len cap zs hl hrow hlow).mono ?_
  rintro e w1 ⟨rfl, hc1, hb1, hs1⟩
  go_wp2_with fail
  refine (int_any _ _ _ _ hl hc1).mono ?_
  rintro e w2 ⟨n, rfl, hn0, hn1, hc2, hg2⟩
  go_wp2_with fail
  refine (below_any _ _ _ 9 (by decide) (by decide) _ hl hc2).mono ?_
  rintro e w3 ⟨k, rfl, hk0, hk1, hc3, hg3⟩
  go_wp2_with fail
  go_ret2
  exact ⟨n, k - 1, rfl, hn0, hn1, by omega, by omega, hb1.trans ((grown_below (grown_trans hg2 hg3) (Nat.le_refl _) (by omega)).mono (by omega))⟩

theorem walk_FnNum (a : Option Addr) (len cap : Nat) (zs : List Int) (w : World) (hrow : IsRow .u8 w a len cap zs) :
    Calls Try.prog 3 #[.slice a len cap] w fun e w' => e = .returned (.bool true) ∧ Below w.heap.size w w' := by
  have hlow := hrow.low
  have hmax : len ≤ 9223372036854775807 := by
    rcases hrow with ⟨_, rfl, _⟩ | ⟨_, _, h1, h2, _⟩
    · omega
    · unfold maxLen at h2; omega
  by_cases hl : len ≤ 1048576
  · go_enter Try.func3, Try.ntmps3
    go_wp2_with fail
    refine (big_no a len cap w hl).mono ?_
    rintro e w' ⟨rfl, rfl⟩
    go_wp2_with fail
    refine (drawPut_any w a len cap zs hl hrow hlow).mono ?_
    rintro e w1 ⟨n, k, rfl, hn0, hn1, hk0, hk1, hbA⟩
    go_wp2_with fail
    by_cases h : 1 ≤ k ∧ k ≤ 6
    · obtain ⟨h1, h6⟩ := h
      obtain ⟨m, rfl⟩ := Int.eq_ofNat_of_zero_le (show 0 ≤ k by omega)
      refine (put_impl n m _ h1 h6).mono ?_
      rintro e w2 ⟨rfl, hb2⟩
      go_wp2_with fail
      refine (put_spec n m _ h1 h6).mono ?_
      rintro e w3 ⟨rfl, hb3⟩
      have hlw := mask_low n m (by omega) (by omega)
      have hlen : (((putL n m).length : Int) == (m : Int)) = true := by rw [putL_length]; simp
      have hl6 : (putL n m).length ≤ 6 := by rw [putL_length]; omega
      have hk0 := getK_putL n m [] []
      have hk1 := getK_putL n m [120] [121]
      simp only [List.nil_append, List.append_nil, List.length_nil, List.length_cons, Nat.zero_add] at hk0 hk1
      have K0 := Lib.hid hk0; have K1 := Lib.hid hk1
      clear hk0 hk1
      go_wp2_with fail
      refine (get_impl ⟨(putL n m).toArray⟩ 0 m _ (by show (putL n m).length ≤ _; omega) (by omega) (by omega) (by omega) (by show _ ≤ (((putL n m).length : Nat) : Int); rw [putL_length]; omega)).mono ?_
      rintro e w4 ⟨rfl, rfl⟩
      have hb0 : (((getK ⟨(putL n m).toArray⟩ (0 : Int).toNat (m : Int).toNat : Nat) : Int) == n % 2 ^ (8 * m)) = true := by rw [beq_iff_eq]; exact K0.out
      go_wp2_with fail
      rw [cat3]
      have hsz : (ByteArray.mk (120 :: (putL n m ++ [121])).toArray).size = m + 2 := by
        show (120 :: (putL n m ++ [121])).toArray.size = m + 2
        simp [putL_length]
      refine (get_impl ⟨(120 :: (putL n m ++ [121])).toArray⟩ 1 m _ (by rw [hsz]; omega) (by omega) (by omega) (by omega) (by rw [hsz]; omega)).mono ?_
      rintro e w5 ⟨rfl, rfl⟩
      have hb1 : (((getK ⟨(120 :: (putL n m ++ [121])).toArray⟩ (1 : Int).toNat (m : Int).toNat : Nat) : Int) == n % 2 ^ (8 * m)) = true := by rw [beq_iff_eq]; exact K1.out
      clear hsz
      go_wp2_with fail
      refine (get_impl_no ⟨(putL n m).toArray⟩ 1 m _ (by show (putL n m).length ≤ _; omega) (by show ¬ (1 ≤ (m : Int) ∧ (m : Int) ≤ 6 ∧ 0 ≤ (1 : Int) ∧ 1 ≤ ((putL n m).length : Int) - m); rw [putL_length]; omega)).mono ?_
      rintro e w6 ⟨rfl, rfl⟩
      go_wp2_with fail
      go_ret
      exact ⟨rfl, hbA.trans ((hb2.trans (hb3.mono hb2.size)).mono hbA.size)⟩
    · refine (put_impl_no n k _ h).mono ?_
      rintro e w2 ⟨rfl, rfl⟩
      go_wp2_with fail
      refine (put_spec_no n k _ h).mono ?_
      rintro e w3 ⟨rfl, rfl⟩
      go_wp2_with fail
      all_goals go_ret
      all_goals exact ⟨rfl, hbA⟩
  · go_enter Try.func3, Try.ntmps3
    go_wp2_with (go_at_call 12; refine (big_yes a len cap _ (by omega)).mono ?_; rintro e w' ⟨rfl, rfl⟩)
    go_ret
    exact ⟨rfl, Below.refl _ _⟩
end Go.Proofs.Ytjljdkamidppbaa
