/- MacOk, IsGroup, GroupOf: what the program and the model answer. -/
import Derived.Test.YtjpimcckpbpahaaIn
import Derived.Test.YtjpimcckpbpahaaMath
import Derived.WalkKit
import Derived.Outline
import Derived.Lib.Hide
import Derived.WalkLawsBesides
import Derived.WalkSpells
namespace Go.Proofs.Ytjpimcckpbpahaa
open Go.RowKit

theorem and_40 (n : Nat) : n &&& 2 ^ 40 = n / 2 ^ 40 % 2 * 2 ^ 40 := by
  have e : n / 2 ^ 40 % 2 = (n.testBit 40).toNat := (Nat.toNat_testBit n 40).symm
  rw [e]
  apply Nat.eq_of_testBit_eq
  intro j
  rw [Nat.testBit_and, Nat.testBit_two_pow]
  cases h : n.testBit 40
  · by_cases hj : 40 = j
    · subst hj; simp [h]
    · simp [hj]
  · by_cases hj : 40 = j
    · subst hj; rw [h]; decide
    · simp only [Bool.toNat_true, Nat.one_mul, Nat.testBit_two_pow, hj, decide_false, Bool.and_false]

/-- 'x & 1<<40' on an int that isn't negative -/
theorem bits_and_40 (x : Int) (h0 : 0 ≤ x) (h1 : x ≤ 9223372036854775807) : bits .and .i64 x 1099511627776 = x / 1099511627776 % 2 * 1099511627776 := by
  obtain ⟨n, rfl⟩ := Int.eq_ofNat_of_zero_le h0
  show IntKind.i64.wrap (((BitVec.ofInt 64 (n : Int) &&& BitVec.ofInt 64 1099511627776).toNat : Nat) : Int) = _
  rw [BitVec.toNat_and, ofInt64_toNat, show (BitVec.ofInt 64 1099511627776).toNat = 2 ^ 40 from by decide]
  have e : ((n : Int) % 18446744073709551616).toNat = n := by omega
  rw [e, and_40]
  simp [IntKind.wrap, IntKind.bits, IntKind.signed]
  omega

/-- 'x & (1<<23 - 1)' on an int, also where x is negative -/
theorem bits_and_23 (x : Int) : bits .and .i64 x 8388607 = x % 8388608 := by
  show IntKind.i64.wrap (((BitVec.ofInt 64 x &&& BitVec.ofInt 64 8388607).toNat : Nat) : Int) = x % 8388608
  rw [BitVec.toNat_and, ofInt64_toNat, show (BitVec.ofInt 64 8388607).toNat = 2 ^ 23 - 1 from by decide, Nat.and_two_pow_sub_one_eq_mod]
  simp [IntKind.wrap, IntKind.bits, IntKind.signed]
  omega

/-- m is an address -/
def isMac (m : Int) : Prop := 0 ≤ m ∧ m ≤ 281474976710655
instance (m : Int) : Decidable (isMac m) := by unfold isMac; infer_instance

/-- m is a group's address -/
def isGrp (m : Int) : Prop := isMac m ∧ m / 1099511627776 % 2 = 1
instance (m : Int) : Decidable (isGrp m) := by unfold isGrp; infer_instance

theorem grp_beq {m : Int} (h : isMac m) : decide (isGrp m) = (m / 1099511627776 % 2 == 1) := by
  rw [Bool.eq_iff_iff]
  simp [isGrp, h]

theorem grp_bne {m : Int} (h : isMac m) : decide (isGrp m) = (m / 1099511627776 % 2 * 1099511627776 != 0) := by
  have h0 := h.1
  rw [Bool.eq_iff_iff]
  simp [isGrp, h]
  omega

/-- the address of a group's number, or -1 -/
def grpOf (ip : Int) : Int := if 3758096384 ≤ ip ∧ ip ≤ 4026531839 then 1101088686080 + ip % 8388608 else -1

end Go.Proofs.Ytjpimcckpbpahaa
