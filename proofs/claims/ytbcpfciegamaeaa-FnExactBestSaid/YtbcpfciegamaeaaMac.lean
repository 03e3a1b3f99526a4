/- MacOk, IsGroup, GroupOf: what the program and the model answer. -/
import Derived.Test.YtbcpfciegamaeaaIn
import Derived.Test.YtbcpfciegamaeaaMath
import Derived.WalkKit
import Derived.Outline
import Derived.Lib.Hide
import Derived.WalkLawsBesides
import Derived.WalkSpells
namespace Go.Proofs.Ytbcpfciegamaeaa
open Go.RowKit

theorem and_40 (n : Nat) : n &&& 2 ^ 40 = n / 2 ^ 40 % 2 * 2 ^ 40 := by
  have e : n / 2 ^ 40 % 2 = (n.testBit 40).toNat := (Nat.toNat_testBit n 40).symm
  rw [e]
  apply Nat.eq_of_testBit_eq
  intro j
  rw [Nat.testBit_and, Nat.testBit_two_pow]
  cases h : n.testBit 40
  · by_cases hj : 40 = j
    · subst hj; simp [h]
    · simp [hj]
  · by_cases hj : 40 = j
    · subst hj; rw [h]; decide
    · simp only [Bool.toNat_true, Nat.one_mul, Nat.testBit_two_pow, hj, decide_false, Bool.and_false]

/-- 'x & 1<<40' on an int that isn't negative -/
theorem bits_and_40 (x : Int) (h0 : 0 ≤ x) (h1 : x ≤ 9223372036854775807) : bits .and .i64 x 1099511627776 = x / 1099511627776 % 2 * 1099511627776 := by
  obtain ⟨n, rfl⟩ := Int.eq_ofNat_of_zero_le h0
  show IntKind.i64.wrap (((BitVec.ofInt 64 (n : Int) &&& BitVec.ofInt 64 1099511627776).toNat : Nat) : Int) = _
  rw [BitVec.toNat_and, ofInt64_toNat, show (BitVec.ofInt 64 1099511627776).toNat = 2 ^ 40 from by decide]
  have e : ((n : Int) % 18446744073709551616).toNat = n := by omega
  rw [e, and_40]
  simp [IntKind.wrap, IntKind.bits, IntKind.signed]
  omega

/-- 'x & (1<<23 - 1)' on an int, also where x is negative -/
theorem bits_and_23 (x : Int) : bits .and .i64 x 8388607 = x % 8388608 := by
  show IntKind.i64.wrap (((BitVec.ofInt 64 x &&& BitVec.ofInt 64 8388607).toNat : Nat) : Int) = x % 8388608
  rw [BitVec.toNat_and, ofInt64_toNat, show (BitVec.ofInt 64 8388607).toNat = 2 ^ 23 - 1 from by decide, Nat.and_two_pow_sub_one_eq_mod]
  simp [IntKind.wrap, IntKind.bits, IntKind.signed]
  omega

/-- m is an address -/
def isMac (m : Int) : Prop := 0 ≤ m ∧ m ≤ 281474976710655
instance (m : Int) : Decidable (isMac m) := by unfold isMac; infer_instance

theorem macOk_spec (m : Int) (w : World) : Calls Try.prog 39 #[.int .i64 m] w fun e w' => e = .returned (.bool (decide (isMac m))) ∧ w = w' := by
  by_cases h : 0 ≤ m ∧ m ≤ 281474976710655
  · go_enter Try.func39, Try.ntmps39
    go_wp2_with (go_at_call 37; refine (in_yes _ _ _ _ h.1 h.2).mono ?_; rintro e w' ⟨rfl, rfl⟩)
    go_ret
    exact ⟨by rw [show decide (isMac m) = true from decide_eq_true h]; rfl, rfl⟩
  · go_enter Try.func39, Try.ntmps39
    go_wp2_with (go_at_call 37; refine (in_no _ _ _ _ h).mono ?_; rintro e w' ⟨rfl, rfl⟩)
    go_ret
    exact ⟨by rw [show decide (isMac m) = false from decide_eq_false h]; rfl, rfl⟩

theorem macOk_impl (m : Int) (w : World) : Calls Try.prog 46 #[.int .i64 m] w fun e w' => e = .returned (.bool (decide (isMac m))) ∧ w = w' := by
  unfold isMac
  by_cases h0 : 0 ≤ m
  · by_cases h1 : m ≤ 281474976710655
    · go_enter Try.func46, Try.ntmps46
      go_wp2_with fail
      go_ret
      exact ⟨by simp [h0, h1], rfl⟩
    · have h1' : 281474976710655 < m := by omega
      go_enter Try.func46, Try.ntmps46
      go_wp2_with fail
      go_ret
      exact ⟨by simp [show ¬ (m ≤ 281474976710655) by omega], rfl⟩
  · have h0' : m < 0 := by omega
    go_enter Try.func46, Try.ntmps46
    go_wp2_with fail
    go_ret
    exact ⟨by rw [decide_eq_false (show ¬ (0 ≤ m ∧ m ≤ 281474976710655) by omega)]; rfl, rfl⟩

/-- m is a group's address -/
def isGrp (m : Int) : Prop := isMac m ∧ m / 1099511627776 % 2 = 1
instance (m : Int) : Decidable (isGrp m) := by unfold isGrp; infer_instance

theorem grp_beq {m : Int} (h : isMac m) : decide (isGrp m) = (m / 1099511627776 % 2 == 1) := by
  rw [Bool.eq_iff_iff]
  simp [isGrp, h]

theorem grp_bne {m : Int} (h : isMac m) : decide (isGrp m) = (m / 1099511627776 % 2 * 1099511627776 != 0) := by
  have h0 := h.1
  rw [Bool.eq_iff_iff]
  simp [isGrp, h]
  omega

theorem group_spec (m : Int) (w : World) : Calls Try.prog 40 #[.int .i64 m] w fun e w' => e = .returned (.bool (decide (isGrp m))) ∧ w = w' := by
  by_cases hm : isMac m
  · have h0 := hm.1
    have h1 := hm.2
    have hd := decide_eq_true hm
    have HM := Lib.hid hm; clear hm
    go_enter Try.func40, Try.ntmps40
    go_wp2_with (go_at_call 39; refine (macOk_spec m _).mono ?_; rintro e w' ⟨rfl, rfl⟩; rw [hd])
    all_goals (go_ret; exact ⟨by rw [grp_beq HM.out]; rfl, rfl⟩)
  · have hd := decide_eq_false hm
    have HM := Lib.hid hm; clear hm
    go_enter Try.func40, Try.ntmps40
    go_wp2_with (go_at_call 39; refine (macOk_spec m _).mono ?_; rintro e w' ⟨rfl, rfl⟩; rw [hd])
    all_goals (go_ret; exact ⟨by unfold isGrp; simp [HM.out], rfl⟩)

theorem group_impl (m : Int) (w : World) : Calls Try.prog 47 #[.int .i64 m] w fun e w' => e = .returned (.bool (decide (isGrp m))) ∧ w = w' := by
  by_cases hm : isMac m
  · have h0 := hm.1
    have h1 := hm.2
    have hd := decide_eq_true hm
    have HM := Lib.hid hm; clear hm
    have hb := bits_and_40 m h0 (by omega)
    go_enter Try.func47, Try.ntmps47
    go_wp2_with (go_at_call 46; refine (macOk_impl m _).mono ?_; rintro e w' ⟨rfl, rfl⟩; rw [hd])
    all_goals (go_ret; exact ⟨by rw [grp_bne HM.out]; rfl, rfl⟩)
  · have hd := decide_eq_false hm
    have HM := Lib.hid hm; clear hm
    go_enter Try.func47, Try.ntmps47
    go_wp2_with (go_at_call 46; refine (macOk_impl m _).mono ?_; rintro e w' ⟨rfl, rfl⟩; rw [hd])
    all_goals (go_ret; exact ⟨by unfold isGrp; simp [HM.out], rfl⟩)

/-- the address of a group's number, or -1 -/
def grpOf (ip : Int) : Int := if 3758096384 ≤ ip ∧ ip ≤ 4026531839 then 1101088686080 + ip % 8388608 else -1

end Go.Proofs.Ytbcpfciegamaeaa
