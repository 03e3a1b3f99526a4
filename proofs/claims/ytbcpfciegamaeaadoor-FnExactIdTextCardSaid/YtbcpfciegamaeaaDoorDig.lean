/- Decimal digits, plain lemmas. -/
import Derived.Test.YtbcpfciegamaeaaDoorMath
import Derived.Lib.ItoaNum
namespace Go.Proofs.YtbcpfciegamaeaaDoor

/-- the digits of m, none for 0 -/
def decR (m : Nat) : List UInt8 := if m = 0 then [] else Lib.decDigits m
theorem decR_step (m : Nat) (h : m ≠ 0) (o : List UInt8) : decR m ++ o = decR (m / 10) ++ (UInt8.ofNat (48 + m % 10) :: o) := by
  unfold decR
  rw [if_neg h, Lib.decDigits]
  by_cases h10 : m < 10
  · rw [dif_pos h10, if_pos (by omega), Nat.mod_eq_of_lt h10]; rfl
  · rw [dif_neg h10, if_neg (by omega), List.append_assoc]; rfl
theorem nDigits_le (k : Nat) : ∀ u, u < 10 ^ (k + 1) → Lib.nDigits u ≤ k + 1 := by
  induction k with
  | zero => intro u h; rw [Lib.nDigits_small (by simpa using h)]; exact Nat.le_refl _
  | succ k ih =>
    intro u h
    by_cases h10 : u < 10
    · rw [Lib.nDigits_small h10]; omega
    · rw [Lib.nDigits_big h10]
      have := ih (u / 10) (by rw [Nat.pow_succ] at h; omega)
      omega
end Go.Proofs.YtbcpfciegamaeaaDoor
