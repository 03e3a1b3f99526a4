/- Crc of the program. -/
import Derived.Test.YtiajeialcmcppaaCrcS
namespace Go.Proofs.Ytiajeialcmcppaa
open Go.RowKit

theorem crcB_split (r c : Nat) : crcB (r ^^^ c) = (if (r ^^^ c) % 2 = 1 then r / 2 ^^^ 3988292384 else r / 2) ^^^ (c / 2) := by
  have h2 : (r ^^^ c) / 2 = r / 2 ^^^ c / 2 := by
    have := Nat.shiftRight_xor_distrib (i := 1) (a := r) (b := c)
    simpa [Nat.shiftRight_eq_div_pow] using this
  unfold crcB
  split
  · rw [h2, Nat.xor_assoc, Nat.xor_assoc, Nat.xor_comm (c / 2)]
  · rw [h2]

theorem u32_low (x c m : Nat) (hx : x < 4294967296) (hc : c < 256) : bits .and .u32 (bits .xor .u32 (x : Int) ((c : Int) / 2 ^ m % 4294967296)) 1 = (((x ^^^ c / 2 ^ m) % 2 : Nat) : Int) := by
  have hcm : c / 2 ^ m < 256 := Nat.lt_of_le_of_lt (Nat.div_le_self _ _) hc
  have e : ((c : Int) / 2 ^ m % 4294967296) = ((c / 2 ^ m : Nat) : Int) := by
    have e1 : ((c / 2 ^ m : Nat) : Int) = (c : Int) / 2 ^ m := by simp
    rw [← e1]
    generalize c / 2 ^ m = q at hcm
    omega
  have hy : x ^^^ c / 2 ^ m < 4294967296 := Nat.xor_lt_two_pow (n := 32) hx (by omega)
  rw [e, u32_xor_nat x (c / 2 ^ m) hx (by omega)]
  have h1 : bits .and .u32 ((x ^^^ c / 2 ^ m : Nat) : Int) ((1 : Nat) : Int) = _ := u32_and_nat (x ^^^ c / 2 ^ m) 1 hy (by decide)
  rw [Nat.and_one_is_mod] at h1
  exact h1

set_option maxHeartbeats 1000000 in
theorem crcByte_impl (x0 : Nat) (b : UInt8) (w : World) (hx0 : x0 < 4294967296) :
    Calls Try.prog 58 #[.int .u32 x0, .int .u8 (b.toNat : Nat)] w fun e w' => e = .returned (.int .u32 (crcS x0 b : Nat)) ∧ w = w' := by
  have hb : b.toNat < 256 := b.toNat_lt
  unfold crcS
  generalize b.toNat = c at hb ⊢
  go_enter Try.func58, Try.ntmps58
  go_wp2_with fail
  go_loop [0, 7] (fun v i => ∃ m x : Nat, i = .int .i64 m ∧ v = .int .u32 x ∧ m ≤ 8 ∧ x < 4294967296 ∧ Hid (x ^^^ (c / 2 ^ m) = crcN m (x0 ^^^ c))) (fun _ i => 8 - (intOf i).toNat)
  case atStart => exact ⟨0, x0, rfl, rfl, by omega, hx0, Lib.hid (by simp [crcN])⟩
  case round =>
    obtain ⟨m, x, rfl, rfl, hm, hx, HR⟩ := hrel
    by_cases hlt : m < 8
    · have hlow := u32_low x c m hx hb
      have hsp := crcB_split x (c / 2 ^ m)
      rw [HR.out, Nat.div_div_eq_div_mul, ← Nat.pow_succ] at hsp
      rw [HR.out] at hlow
      have hx2 : bits .xor .u32 ((x : Int) / 2) 3988292384 = ((x / 2 ^^^ 3988292384 : Nat) : Int) := u32_xor_nat (x / 2) 3988292384 (by omega) (by decide)
      have hx3 : x / 2 ^^^ 3988292384 < 4294967296 := Nat.xor_lt_two_pow (n := 32) (by omega) (by decide)
      by_cases ho : crcN m (x0 ^^^ c) % 2 = 1
      · rw [if_pos ho] at hsp
        rw [ho] at hlow
        have hq : (bits .and .u32 (bits .xor .u32 (x : Int) ((c : Int) / 2 ^ m % 4294967296)) 1 != 0) = true := by rw [hlow]; rfl
        have HS := Lib.hid hsp; have HX := Lib.hid hx3
        clear hsp ho hlow hx3
        go_wp2_with fail
        go_round
        case rel => exact ⟨m + 1, _, by go_num, rfl, by omega, HX.out, Lib.hid (by rw [crcN_succ]; exact HS.out.symm)⟩
        case measure => simp [intOf]; omega
      · rw [if_neg ho] at hsp
        rw [show crcN m (x0 ^^^ c) % 2 = 0 by omega] at hlow
        have hq : (bits .and .u32 (bits .xor .u32 (x : Int) ((c : Int) / 2 ^ m % 4294967296)) 1 != 0) = false := by rw [hlow]; rfl
        have HS := Lib.hid hsp
        clear hsp ho hlow hx3 hx2
        go_wp2_with fail
        go_round
        case rel => exact ⟨m + 1, x / 2, by go_num, rfl, by omega, by omega, Lib.hid (by rw [crcN_succ]; exact HS.out.symm)⟩
        case measure => simp [intOf]; omega
    · obtain rfl : m = 8 := by omega
      have h8 : c / 2 ^ 8 = 0 := by omega
      have hr := HR.out
      rw [h8, Nat.xor_zero] at hr
      have HRR := Lib.hid hr
      clear hr h8 HR
      go_wp2_with fail
      go_ret
      exact ⟨by rw [← HRR.out]; rfl, rfl⟩

theorem u32_not (x : Nat) (h : x < 4294967296) : bits .xor .u32 IntKind.u32.max (x : Int) = ((x ^^^ 4294967295 : Nat) : Int) := by
  have h1 : bits .xor .u32 ((4294967295 : Nat) : Int) (x : Int) = _ := u32_xor_nat 4294967295 x (by decide) h
  rw [Nat.xor_comm] at h1
  exact h1

theorem crc_impl (s : ByteArray) (w : World) (hs : s.size ≤ 9223372036854775806) :
    Calls Try.prog 44 #[.string s] w fun e w' => e = .returned (.int .i64 (crc s.data.toList : Nat)) ∧ w = w' := by
  go_enter Try.func44, Try.ntmps44
  go_wp2_with fail
  go_loop [3, 7] (fun v i => ∃ k x : Nat, i = .int .i64 k ∧ v = .int .u32 x ∧ k ≤ s.size ∧ x < 4294967296 ∧ Hid (crcL (s.data.toList.drop k) x = crcL s.data.toList 4294967295)) (fun _ i => s.size - (intOf i).toNat)
  case atStart => exact ⟨0, 4294967295, rfl, rfl, Nat.zero_le _, by decide, Lib.hid rfl⟩
  case round =>
    obtain ⟨k, x, rfl, rfl, hk, hx, Hr⟩ := hrel
    by_cases hlt : k < s.size
    · have hdr : crcL (s.data.toList.drop k) x = crcL (s.data.toList.drop (k + 1)) (crcS x (s[k]'hlt)) := by
        rw [List.drop_eq_getElem_cons (show k < s.data.toList.length by rw [Array.length_toList]; exact hlt)]
        rfl
      rw [hdr] at Hr
      clear hdr
      have hcl := crcS_lt x (s[k]'hlt) hx
      have HC := Lib.hid hcl; clear hcl
      go_wp2_with (go_at_call 58; refine (crcByte_impl x (s[k]'hlt) _ hx).mono ?_; rintro e w' ⟨rfl, rfl⟩)
      go_round
      case rel => exact ⟨k + 1, _, by go_num, rfl, by omega, HC.out, Hr⟩
      case measure => simp [intOf]; omega
    · obtain rfl : k = s.size := by omega
      have hr : crcL s.data.toList 4294967295 = x := by
        rw [← Hr.out, List.drop_of_length_le (by rw [Array.length_toList]; exact Nat.le_refl _)]
        rfl
      have hx2 := u32_not x hx
      have hsg : IntKind.u32.signed = false := rfl
      have hlt2 : x ^^^ 4294967295 < 4294967296 := Nat.xor_lt_two_pow (n := 32) hx (by decide)
      have HR := Lib.hid hr; clear hr
      go_wp2_with fail
      go_ret
      refine ⟨?_, rfl⟩
      unfold crc
      rw [HR.out]
      rfl
end Go.Proofs.Ytiajeialcmcppaa
