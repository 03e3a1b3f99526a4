/- DecText and ReadDec of the model, and ReadDec of the program. -/
import Derived.Test.YtbcpfciegamaeaaDoorRead
import Derived.Test.YtbcpfciegamaeaaDoorDig
namespace Go.Proofs.YtbcpfciegamaeaaDoor
open Go.RowKit

theorem dec_slice (d : Nat) (h1 : d < 10) (l : List UInt8) :
    ({ data := #[48, 49, 50, 51, 52, 53, 54, 55, 56, 57] } : ByteArray).extract d (d + 1) ++ { data := l.toArray } = { data := (UInt8.ofNat (48 + d) :: l).toArray } := by
  have e : ({ data := #[48, 49, 50, 51, 52, 53, 54, 55, 56, 57] } : ByteArray).extract d (d + 1) = { data := #[UInt8.ofNat (48 + d)] } := by
    have h : d = 0 ∨ d = 1 ∨ d = 2 ∨ d = 3 ∨ d = 4 ∨ d = 5 ∨ d = 6 ∨ d = 7 ∨ d = 8 ∨ d = 9 := by omega
    rcases h with rfl | rfl | rfl | rfl | rfl | rfl | rfl | rfl | rfl | rfl <;> decide +kernel
  rw [e]
  apply ByteArray.ext
  rw [ByteArray.data_append]
  simp

theorem dec_zero (w : World) : Calls Tryd.prog 13 #[.int .i64 0] w fun e w' => e = .returned (.string ⟨(Lib.itoa 0).toArray⟩) ∧ w = w' := by
  go_enter Tryd.func13, Tryd.ntmps13
  go_wp2_with fail
  go_ret
  refine ⟨?_, rfl⟩
  have e : Lib.itoa 0 = [48] := by rw [Lib.itoa, if_neg (by decide)]; exact Lib.decDigits_one (by decide)
  rw [e]
  rfl

theorem dec_pos (N : Nat) (w : World) (h0 : N ≠ 0) (h1 : N ≤ 9223372036854775807) :
    Calls Tryd.prog 13 #[.int .i64 (N : Int)] w fun e w' => e = .returned (.string ⟨(Lib.decDigits N).toArray⟩) ∧ w = w' := by
  have hlen : Lib.nDigits N ≤ 20 := nDigits_le 19 N (by omega)
  have hN0 : (0 : Int) < N := by omega
  have hb : ((N : Int) == 0) = false := by rw [beq_eq_false_iff_ne]; omega
  go_enter Tryd.func13, Tryd.ntmps13
  go_wp2_with fail
  go_loop [3, 4, 5] (fun v i _ => ∃ (m : Nat) (o : List UInt8), i = .int .i64 m ∧ v = .string ⟨o.toArray⟩ ∧ m ≤ N ∧ o.length ≤ 20 ∧ Hid (decR m ++ o = Lib.decDigits N)) (fun _ i _ => (intOf i).toNat)
  case atStart => exact ⟨N, [], rfl, rfl, Nat.le_refl _, by simp, Lib.hid (by simp [decR, h0])⟩
  case round =>
    obtain ⟨m, o, rfl, rfl, hm, ho, Hr⟩ := hrel
    by_cases hz : m = 0
    · subst hz
      go_wp2_with fail
      go_ret
      refine ⟨?_, rfl⟩
      rw [← Hr.out]
      rfl
    · have hs := decR_step m hz o
      have hl : (UInt8.ofNat (48 + m % 10) :: o).length ≤ 20 := by
        have h2 := congrArg List.length (hs.symm.trans Hr.out)
        rw [List.length_append, Lib.decDigits_length] at h2
        omega
      have Hl := Lib.hid hl; clear hl
      have HS := Lib.hid hs; clear hs
      have hmz : ((m : Int) == 0) = false := by rw [beq_eq_false_iff_ne]; omega
      have hmz' : ((m : Int) != 0) = true := by rw [bne_iff_ne]; omega
      go_wp2_with fail
      go_round
      case rel => exact ⟨m / 10, UInt8.ofNat (48 + m % 10) :: o, by go_num, by rw [dec_slice _ (by omega)], by omega, Hl.out, Lib.hid (HS.out.symm.trans Hr.out)⟩
      case measure => simp [intOf]; omega

theorem dec_neg (N : Nat) (w : World) (h0 : N ≠ 0) (h1 : N ≤ 9223372036854775808) :
    Calls Tryd.prog 13 #[.int .i64 (-(N : Int))] w fun e w' => e = .returned (.string ⟨(45 :: Lib.decDigits N).toArray⟩) ∧ w = w' := by
  have hlen : Lib.nDigits N ≤ 20 := nDigits_le 19 N (by omega)
  have hN0 : -(N : Int) < 0 := by omega
  have hb : (-(N : Int) == 0) = false := by rw [beq_eq_false_iff_ne]; omega
  go_enter Tryd.func13, Tryd.ntmps13
  go_wp2_with fail
  go_loop [3, 4, 5] (fun v i _ => ∃ (m : Nat) (o : List UInt8), i = .int .i64 (-(m : Int)) ∧ v = .string ⟨o.toArray⟩ ∧ m ≤ N ∧ o.length ≤ 20 ∧ Hid (decR m ++ o = Lib.decDigits N)) (fun _ i _ => (intOf i).natAbs)
  case atStart => exact ⟨N, [], rfl, rfl, Nat.le_refl _, by simp, Lib.hid (by simp [decR, h0])⟩
  case round =>
    obtain ⟨m, o, rfl, rfl, hm, ho, Hr⟩ := hrel
    by_cases hz : m = 0
    · subst hz
      go_wp2_with fail
      go_ret
      refine ⟨?_, rfl⟩
      rw [← Hr.out]
      rfl
    · have hs := decR_step m hz o
      have hl : (UInt8.ofNat (48 + m % 10) :: o).length ≤ 20 := by
        have h2 := congrArg List.length (hs.symm.trans Hr.out)
        rw [List.length_append, Lib.decDigits_length] at h2
        omega
      have Hl := Lib.hid hl; clear hl
      have HS := Lib.hid hs; clear hs
      have hmz : (-(m : Int) == 0) = false := by rw [beq_eq_false_iff_ne]; omega
      have hmz' : (-(m : Int) != 0) = true := by rw [bne_iff_ne]; omega
      have hr : (-(m : Int)).tmod 10 = -((m % 10 : Nat) : Int) := by rw [Int.neg_tmod, Int.tmod_eq_emod_of_nonneg (by omega)]; rfl
      have hq : (-(m : Int)).tdiv 10 = -((m / 10 : Nat) : Int) := by rw [Int.neg_tdiv, Int.tdiv_eq_ediv_of_nonneg (by omega)]; rfl
      go_wp2_with fail
      · go_round
        case rel => exact ⟨m / 10, UInt8.ofNat (48 + m % 10) :: o, by go_num, by rw [dec_slice _ (by omega)], by omega, Hl.out, Lib.hid (HS.out.symm.trans Hr.out)⟩
        case measure => simp [intOf]; omega
      · have hle : (m : Int) % 10 ≤ 0 := by assumption
        go_round
        case rel => exact ⟨m / 10, UInt8.ofNat (48 + m % 10) :: o, by go_num, by rw [show (-((m : Int) % 10)).toNat = m % 10 from by omega, show (-((m : Int) % 10) + 1).toNat = m % 10 + 1 from by omega, dec_slice _ (by omega)], by omega, Hl.out, Lib.hid (HS.out.symm.trans Hr.out)⟩
        case measure => simp [intOf]; omega
end Go.Proofs.YtbcpfciegamaeaaDoor
