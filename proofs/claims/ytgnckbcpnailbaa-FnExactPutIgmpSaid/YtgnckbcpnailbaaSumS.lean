/- Sum16 of the model. -/
import Derived.Test.YtgnckbcpnailbaaSumL
import Derived.Test.YtgnckbcpnailbaaGet
namespace Go.Proofs.Ytgnckbcpnailbaa
open Go.RowKit

theorem getK_pair (s : ByteArray) (i : Nat) (h : i + 2 ≤ s.size) : ∃ a b, s.data.toList.drop i = a :: b :: s.data.toList.drop (i + 2) ∧ getK s i 2 = a.toNat * 256 + b.toNat := by
  have hl : s.data.toList.length = s.size := by rw [Array.length_toList]; rfl
  have e1 := List.drop_eq_getElem_cons (show i < s.data.toList.length by omega)
  have e2 := List.drop_eq_getElem_cons (show i + 1 < s.data.toList.length by omega)
  rw [e2] at e1
  refine ⟨_, _, e1, ?_⟩
  unfold getK
  rw [e1]
  simp [getL]

/-- the loop of Sum16, over an even number of bytes -/
theorem sum16_even (s : ByteArray) (he : s.size % 2 = 0) (w : World) (hs : s.size ≤ 1048576) :
    Calls Try.prog 18 #[.string s] w fun e w' => e = .returned (.int .i64 (sum16 s.data.toList : Nat)) ∧ w = w' := by
  rw [sum16_int]
  have hodd : ((s.size : Int) % 2 == 1) = false := by simp; omega
  go_enter Try.func18, Try.ntmps18
  go_wp2_with fail
  go_loop [3, 4] (fun v i => ∃ k n : Nat, i = .int .i64 ((2 * k : Nat) : Int) ∧ v = .int .i64 n ∧ 2 * k ≤ s.size ∧ n ≤ 65535 ∧ Hid (sumW (s.data.toList.drop (2 * k)) n = sumW s.data.toList 0)) (fun _ i => s.size - (intOf i).toNat)
  case atStart => exact ⟨0, 0, rfl, rfl, by omega, by omega, Lib.hid rfl⟩
  case round =>
    obtain ⟨k, n, rfl, rfl, hk, hn, HR⟩ := hrel
    by_cases hlt : 2 * k < s.size
    · obtain ⟨a, b, hd, hg⟩ := getK_pair s (2 * k) (by omega)
      have hle := two_le a b
      have hst := sumStep_le n (a.toNat * 256 + b.toNat) hn hle
      have hr : sumW (s.data.toList.drop (2 * (k + 1))) (sumStep n (a.toNat * 256 + b.toNat)) = sumW s.data.toList 0 := by
        rw [← HR.out, hd]
        rfl
      have hv : ((sumStep n (a.toNat * 256 + b.toNat) : Nat) : Int) = ((n : Int) + ((a.toNat * 256 + b.toNat : Nat) : Int)) % 65536 + ((n : Int) + ((a.toNat * 256 + b.toNat : Nat) : Int)) / 65536 := by unfold sumStep; omega
      generalize a.toNat * 256 + b.toNat = x at hg hle hst hr hv
      have HG := Lib.hid hg; have HR2 := Lib.hid hr; have HV := Lib.hid hv; have HST := Lib.hid hst
      clear hg hr hv hst hd HR
      have hlt' : 2 * (k : Int) < (s.size : Int) := by omega
      go_wp2_with fail
      refine (get_spec s _ 2 _ hs (by decide) (by decide) (by omega) (by omega)).mono ?_
      rintro e w1 ⟨rfl, rfl⟩
      rw [show (2 * (k : Int)).toNat = 2 * k by omega, show (2 : Int).toNat = 2 from rfl, HG.out]
      go_wp2_with fail
      go_round
      case rel => exact ⟨k + 1, _, by go_num, by rw [HV.out], by omega, HST.out, HR2⟩
      case measure => simp [intOf]; omega
    · have hke : 2 * k = s.size := by omega
      have hr : sumW s.data.toList 0 = n := by
        rw [← HR.out, hke, List.drop_of_length_le (by rw [Array.length_toList]; exact Nat.le_refl _)]
        rfl
      have hlt' : ¬ (2 * (k : Int) < (s.size : Int)) := by omega
      have HR2 := Lib.hid hr
      clear hr hke HR
      go_wp2_with fail
      go_ret
      exact ⟨by rw [HR2.out]; rfl, rfl⟩

theorem sum16_odd (s : ByteArray) (ho : s.size % 2 = 1) (w : World) (hs1 : s.size ≤ 1048575) :
    Calls Try.prog 18 #[.string s] w fun e w' => e = .returned (.int .i64 (sum16 s.data.toList : Nat)) ∧ w = w' := by
  have hl : s.data.toList.length = s.size := by rw [Array.length_toList]; rfl
  obtain ⟨t, ht⟩ : ∃ t, s ++ ({ data := #[0] } : ByteArray) = t := ⟨_, rfl⟩
  have htl : t.data.toList = s.data.toList ++ [0] := by rw [← ht, ByteArray.data_append, Array.toList_append]
  have hts : t.size = s.size + 1 := by rw [← ht, ByteArray.size_append]; rfl
  have hsum : sum16 s.data.toList = sum16 t.data.toList := by
    unfold sum16
    rw [htl, sumW_pad _ _ (by omega)]
  rw [hsum, sum16_int]
  have he : t.size % 2 = 0 := by omega
  have hs : t.size ≤ 1048576 := by omega
  have hodd : ((s.size : Int) % 2 == 1) = true := by simp; omega
  have hcat : ¬ 9223372036854775807 < s.size + 1 := by omega
  clear hsum htl hts hl ho
  go_enter Try.func18, Try.ntmps18
  go_wp2_with fail
  clear hcat
  try rw [ht]
  clear ht hodd
  go_loop [3, 4] (fun v i => ∃ k n : Nat, i = .int .i64 ((2 * k : Nat) : Int) ∧ v = .int .i64 n ∧ 2 * k ≤ t.size ∧ n ≤ 65535 ∧ Hid (sumW (t.data.toList.drop (2 * k)) n = sumW t.data.toList 0)) (fun _ i => t.size - (intOf i).toNat)
  case atStart => exact ⟨0, 0, rfl, rfl, by omega, by omega, Lib.hid rfl⟩
  case round =>
    obtain ⟨k, n, rfl, rfl, hk, hn, HR⟩ := hrel
    by_cases hlt : 2 * k < t.size
    · obtain ⟨a, b, hd, hg⟩ := getK_pair t (2 * k) (by omega)
      have hle := two_le a b
      have hst := sumStep_le n (a.toNat * 256 + b.toNat) hn hle
      have hr : sumW (t.data.toList.drop (2 * (k + 1))) (sumStep n (a.toNat * 256 + b.toNat)) = sumW t.data.toList 0 := by
        rw [← HR.out, hd]
        rfl
      have hv : ((sumStep n (a.toNat * 256 + b.toNat) : Nat) : Int) = ((n : Int) + ((a.toNat * 256 + b.toNat : Nat) : Int)) % 65536 + ((n : Int) + ((a.toNat * 256 + b.toNat : Nat) : Int)) / 65536 := by unfold sumStep; omega
      generalize a.toNat * 256 + b.toNat = x at hg hle hst hr hv
      have HG := Lib.hid hg; have HR2 := Lib.hid hr; have HV := Lib.hid hv; have HST := Lib.hid hst
      clear hg hr hv hst hd HR
      have hlt' : 2 * (k : Int) < (t.size : Int) := by omega
      go_wp2_with fail
      refine (get_spec t _ 2 _ hs (by decide) (by decide) (by omega) (by omega)).mono ?_
      rintro e w1 ⟨rfl, rfl⟩
      rw [show (2 * (k : Int)).toNat = 2 * k by omega, show (2 : Int).toNat = 2 from rfl, HG.out]
      go_wp2_with fail
      go_round
      case rel => exact ⟨k + 1, _, by go_num, by rw [HV.out], by omega, HST.out, HR2⟩
      case measure => simp [intOf]; omega
    · have hke : 2 * k = t.size := by omega
      have hr : sumW t.data.toList 0 = n := by
        rw [← HR.out, hke, List.drop_of_length_le (by rw [Array.length_toList]; exact Nat.le_refl _)]
        rfl
      have hlt' : ¬ (2 * (k : Int) < (t.size : Int)) := by omega
      have HR2 := Lib.hid hr
      clear hr hke HR
      go_wp2_with fail
      go_ret
      exact ⟨by rw [HR2.out]; rfl, rfl⟩

theorem sum16_spec (s : ByteArray) (w : World) (hs : s.size ≤ 1048576) :
    Calls Try.prog 18 #[.string s] w fun e w' => e = .returned (.int .i64 (sum16 s.data.toList : Nat)) ∧ w = w' := by
  by_cases h : s.size % 2 = 0
  · exact sum16_even s h w hs
  · exact sum16_odd s (by omega) w (by omega)
end Go.Proofs.Ytgnckbcpnailbaa
