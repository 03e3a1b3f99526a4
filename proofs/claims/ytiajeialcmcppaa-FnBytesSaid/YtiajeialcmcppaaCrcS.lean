/- Crc of the model. -/
import Derived.Test.YtiajeialcmcppaaCrcL
import Derived.Test.YtiajeialcmcppaaIn
import Derived.WalkKit
import Derived.Outline
import Derived.Lib.Hide
import Derived.WalkLawsBesides
import Derived.WalkSpells
namespace Go.Proofs.Ytiajeialcmcppaa
open Go.RowKit

theorem crc_spec (s : ByteArray) (w : World) (hs : s.size ≤ 9223372036854775806) :
    Calls Try.prog 56 #[.string s] w fun e w' => e = .returned (.int .i64 (crc s.data.toList : Nat)) ∧ w = w' := by
  go_enter Try.func56, Try.ntmps56
  go_wp2_with fail
  go_loop [3, 4] (fun v i => ∃ k x : Nat, i = .int .i64 k ∧ v = .int .u32 x ∧ k ≤ s.size ∧ x < 4294967296 ∧ Hid (crcL (s.data.toList.drop k) x = crcL s.data.toList 4294967295)) (fun _ i => s.size - (intOf i).toNat)
  case atStart => exact ⟨0, 4294967295, rfl, rfl, Nat.zero_le _, by decide, Lib.hid rfl⟩
  case round =>
    obtain ⟨k, x, rfl, rfl, hk, hx, Hr⟩ := hrel
    by_cases hlt : k < s.size
    · have hb : (s[k]'hlt).toNat < 256 := (s[k]'hlt).toNat_lt
      have hxor := u32_xor_nat x (s[k]'hlt).toNat hx (by omega)
      have hy : x ^^^ (s[k]'hlt).toNat < 4294967296 := Nat.xor_lt_two_pow (n := 32) hx (by omega)
      have hdr : crcL (s.data.toList.drop k) x = crcL (s.data.toList.drop (k + 1)) (crcN 8 (x ^^^ (s[k]'hlt).toNat)) := by
        rw [List.drop_eq_getElem_cons (show k < s.data.toList.length by rw [Array.length_toList]; exact hlt)]
        rfl
      rw [hdr] at Hr
      clear hdr
      go_wp2_with fail
      generalize x ^^^ (s[k]'hlt).toNat = y at hy Hr hxor ⊢
      clear hxor
      go_loop [3, 5] (fun v j => ∃ m : Nat, m ≤ 8 ∧ j = .int .i64 m ∧ v = .int .u32 (crcN m y : Nat)) (fun _ j => 8 - (intOf j).toNat)
      case atStart => exact ⟨0, by omega, rfl, rfl⟩
      case round =>
        obtain ⟨m, hm, rfl, rfl⟩ := hrel
        by_cases hm8 : m < 8
        · have hz := crcN_lt m y hy
          have hs1 := crcN_succ m y
          unfold crcB at hs1
          generalize crcN m y = z at hz hs1 ⊢
          have hx2 : bits .xor .u32 ((z : Int) / 2) 3988292384 = ((z / 2 ^^^ 3988292384 : Nat) : Int) := u32_xor_nat (z / 2) 3988292384 (by omega) (by decide)
          by_cases ho : z % 2 = 1
          · rw [if_pos ho] at hs1
            have ho' : (z : Int) % 2 = 1 := by omega
            have HS := Lib.hid hs1; clear hs1 ho
            go_wp2_with fail
            go_round
            case rel => exact ⟨m + 1, by omega, by go_num, by rw [HS.out]⟩
            case measure => simp [intOf]; omega
          · rw [if_neg ho] at hs1
            have ho' : ¬ ((z : Int) % 2 = 1) := by omega
            have HS := Lib.hid hs1; clear hs1 ho hx2
            go_wp2_with fail
            go_round
            case rel => exact ⟨m + 1, by omega, by go_num, by rw [HS.out]; rfl⟩
            case measure => simp [intOf]; omega
        · obtain rfl : m = 8 := by omega
          have hz := crcN_lt 8 y hy
          have HY := Lib.hid hz; clear hz
          go_wp2_with fail
          go_round
          case rel => exact ⟨k + 1, crcN 8 y, by go_num, rfl, by omega, HY.out, Hr⟩
          case measure => simp [intOf]; omega
    · obtain rfl : k = s.size := by omega
      have hr : crcL s.data.toList 4294967295 = x := by
        rw [← Hr.out, List.drop_of_length_le (by rw [Array.length_toList]; exact Nat.le_refl _)]
        rfl
      have hx2 : bits .xor .u32 (x : Int) 4294967295 = ((x ^^^ 4294967295 : Nat) : Int) := u32_xor_nat x 4294967295 hx (by decide)
      have hlt2 : x ^^^ 4294967295 < 4294967296 := Nat.xor_lt_two_pow (n := 32) hx (by decide)
      have HR := Lib.hid hr; clear hr
      go_wp2_with fail
      go_ret
      refine ⟨?_, rfl⟩
      unfold crc
      rw [HR.out]
      rfl
end Go.Proofs.Ytiajeialcmcppaa
