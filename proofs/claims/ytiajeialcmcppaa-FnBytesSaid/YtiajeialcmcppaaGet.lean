/- GetNum: what the program and the model answer. -/
import Derived.Test.YtiajeialcmcppaaIn
import Derived.WalkKit
import Derived.Outline
import Derived.Lib.Hide
import Derived.WalkLawsBesides
import Derived.WalkSpells
namespace Go.Proofs.Ytiajeialcmcppaa
open Go.RowKit

/-- the number that the first k bytes from place j on make -/
def getK (s : ByteArray) (j k : Nat) : Nat := getL ((s.data.toList.drop j).take k) 0
theorem getK_zero (s : ByteArray) (j : Nat) : getK s j 0 = 0 := rfl
theorem getK_succ (s : ByteArray) (j k : Nat) (h : j + k < s.size) : getK s j (k + 1) = getK s j k * 256 + (s[j + k]).toNat := by
  unfold getK
  rw [take_snoc_get _ k (s[j + k]) (by rw [List.getElem?_drop, Array.getElem?_toList, Array.getElem?_eq_getElem (show j + k < s.data.size from h)]; rfl), getL_snoc]
theorem getK_lt (s : ByteArray) (j k : Nat) (h : k ≤ 5) : getK s j k < 1099511627776 := by
  have h1 := getL_lt ((s.data.toList.drop j).take k) 0
  have h2 : ((s.data.toList.drop j).take k).length ≤ 5 := Nat.le_trans (List.length_take_le _ _) h
  have h3 : 256 ^ ((s.data.toList.drop j).take k).length ≤ 256 ^ 5 := Nat.pow_le_pow_right (by decide) h2
  unfold getK
  omega

theorem get_impl (s : ByteArray) (i many : Int) (w : World) (hs : s.size ≤ 1048576) (h1 : 1 ≤ many) (h2 : many ≤ 6) (h3 : 0 ≤ i) (h4 : i + many ≤ s.size) :
    Calls Try.prog 49 #[.string s, .int .i64 i, .int .i64 many] w fun e w' => e = .returned (.int .i64 (getK s i.toNat many.toNat)) ∧ w = w' := by
  obtain ⟨m, rfl⟩ := Int.eq_ofNat_of_zero_le (show 0 ≤ many by omega)
  obtain ⟨j, rfl⟩ := Int.eq_ofNat_of_zero_le h3
  simp only [Int.toNat_natCast]
  go_enter Try.func49, Try.ntmps49
  go_wp2
  go_loop [7, 26] (fun n i => ∃ k : Nat, k ≤ m ∧ i = .int .i64 k ∧ n = .int .i64 (getK s j k)) (fun _ i => m - (intOf i).toNat)
  case atStart => exact ⟨0, Nat.zero_le _, rfl, rfl⟩
  case round =>
    obtain ⟨k, hk, rfl, rfl⟩ := hrel
    by_cases hlt : k < m
    · have hg := getK_lt s j k (by omega)
      have hx := getK_succ s j k (by omega)
      have HX := Lib.hid hx; clear hx
      have hb : (s[j + k]'(by omega)).toNat < 256 := UInt8.toNat_lt _
      go_wp2
      go_round
      case rel => exact ⟨k + 1, by omega, by go_num, by rw [HX.out, bits_or_256 _ _ (by omega) (by omega) (by omega) (by omega)]; go_num⟩
      case measure => simp [intOf]; omega
    · obtain rfl : k = m := by omega
      go_wp2
      go_ret
      exact ⟨rfl, rfl⟩
theorem get_spec (s : ByteArray) (i many : Int) (w : World) (hs : s.size ≤ 1048576) (h1 : 1 ≤ many) (h2 : many ≤ 6) (h3 : 0 ≤ i) (h4 : i + many ≤ s.size) :
    Calls Try.prog 40 #[.string s, .int .i64 i, .int .i64 many] w fun e w' => e = .returned (.int .i64 (getK s i.toNat many.toNat)) ∧ w = w' := by
  obtain ⟨m, rfl⟩ := Int.eq_ofNat_of_zero_le (show 0 ≤ many by omega)
  obtain ⟨j, rfl⟩ := Int.eq_ofNat_of_zero_le h3
  simp only [Int.toNat_natCast]
  go_enter Try.func40, Try.ntmps40
  go_wp2_with (go_at_call 25; refine (in_yes _ _ _ _ (by omega) (by omega)).mono ?_; rintro e w' ⟨rfl, rfl⟩)
  go_loop [7, 8] (fun n i => ∃ k : Nat, k ≤ m ∧ i = .int .i64 k ∧ n = .int .i64 (getK s j k)) (fun _ i => m - (intOf i).toNat)
  case atStart => exact ⟨0, Nat.zero_le _, rfl, rfl⟩
  case round =>
    obtain ⟨k, hk, rfl, rfl⟩ := hrel
    by_cases hlt : k < m
    · have hg := getK_lt s j k (by omega)
      have hx := getK_succ s j k (by omega)
      have HX := Lib.hid hx; clear hx
      have hb : (s[j + k]'(by omega)).toNat < 256 := UInt8.toNat_lt _
      go_wp2
      go_round
      case rel => exact ⟨k + 1, by omega, by go_num, by rw [HX.out]; go_num⟩
      case measure => simp [intOf]; omega
    · obtain rfl : k = m := by omega
      go_wp2
      go_ret
      exact ⟨rfl, rfl⟩

theorem get_impl_no (s : ByteArray) (i many : Int) (w : World) (hs : s.size ≤ 1048576) (h : ¬ (1 ≤ many ∧ many ≤ 6 ∧ 0 ≤ i ∧ i ≤ s.size - many)) :
    Calls Try.prog 49 #[.string s, .int .i64 i, .int .i64 many] w fun e w' => e = .returned (.int .i64 (-1)) ∧ w = w' := by
  by_cases h1 : 1 ≤ many
  · by_cases h2 : many ≤ 6
    · by_cases h3 : 0 ≤ i
      · have h4 : s.size - many < i := by omega
        go_enter Try.func49, Try.ntmps49
        go_wp2
        go_ret
        exact ⟨rfl, rfl⟩
      · have h4 : i < 0 := by omega
        go_enter Try.func49, Try.ntmps49
        go_wp2
        go_ret
        exact ⟨rfl, rfl⟩
    · have h2 : 6 < many := by omega
      go_enter Try.func49, Try.ntmps49
      go_wp2
      go_ret
      exact ⟨rfl, rfl⟩
  · go_enter Try.func49, Try.ntmps49
    go_wp2
    go_ret
    exact ⟨rfl, rfl⟩
theorem get_spec_no (s : ByteArray) (i many : Int) (w : World) (hs : s.size ≤ 1048576) (h : ¬ (1 ≤ many ∧ many ≤ 6 ∧ 0 ≤ i ∧ i ≤ s.size - many)) :
    Calls Try.prog 40 #[.string s, .int .i64 i, .int .i64 many] w fun e w' => e = .returned (.int .i64 (-1)) ∧ w = w' := by
  by_cases h1 : 1 ≤ many ∧ many ≤ 6
  · by_cases h3 : 0 ≤ i
    · have h4 : s.size - many < i := by omega
      go_enter Try.func40, Try.ntmps40
      go_wp2_with (go_at_call 25; refine (in_yes _ _ _ _ (by omega) (by omega)).mono ?_; rintro e w' ⟨rfl, rfl⟩)
      go_ret
      exact ⟨rfl, rfl⟩
    · have h4 : i < 0 := by omega
      go_enter Try.func40, Try.ntmps40
      go_wp2_with (go_at_call 25; refine (in_yes _ _ _ _ (by omega) (by omega)).mono ?_; rintro e w' ⟨rfl, rfl⟩)
      go_ret
      exact ⟨rfl, rfl⟩
  · go_enter Try.func40, Try.ntmps40
    go_wp2_with (go_at_call 25; refine (in_no _ _ _ _ h1).mono ?_; rintro e w' ⟨rfl, rfl⟩)
    go_ret
    exact ⟨rfl, rfl⟩
end Go.Proofs.Ytiajeialcmcppaa
