/- A number comes back from its hexadecimal text: plain lemmas. -/
import Derived.Test.YtjljdkamidppbaaRead
namespace Go.Proofs.Ytjljdkamidppbaa
open Go.RowKit

theorem hex_back (n : Int) (m : Nat) : ∀ a : Nat, rdL 16 (hexL n m) a = a * 16 ^ m + n % 16 ^ m := by
  induction m with
  | zero => intro a; simp [hexL, rdL, Int.emod_one]
  | succ m ih =>
    intro a
    have hp : (0 : Int) < 16 ^ m := Int.pow_pos (by decide)
    have e4 : (2 : Int) ^ (4 * m) = 16 ^ m := by rw [Int.pow_mul]; rfl
    have hd : ∀ d : Int, 0 ≤ d → d < 16 → digV 16 (hexD d) = d := by
      intro d h0 h1
      have h : d = 0 ∨ d = 1 ∨ d = 2 ∨ d = 3 ∨ d = 4 ∨ d = 5 ∨ d = 6 ∨ d = 7 ∨ d = 8 ∨ d = 9 ∨ d = 10 ∨ d = 11 ∨ d = 12 ∨ d = 13 ∨ d = 14 ∨ d = 15 := by omega
      rcases h with rfl | rfl | rfl | rfl | rfl | rfl | rfl | rfl | rfl | rfl | rfl | rfl | rfl | rfl | rfl | rfl <;> decide +kernel
    have hv := hd (n / 2 ^ (4 * m) % 16) (by omega) (by omega)
    simp only [hexL, rdL, hv]
    rw [if_neg (by omega), e4]
    obtain ⟨q, hq⟩ := Int.eq_ofNat_of_zero_le (show 0 ≤ n / 16 ^ m % 16 by omega)
    have e1 : (a : Int) * (16 : Nat) + n / 16 ^ m % 16 = ((a * 16 + q : Nat) : Int) := by rw [hq]; simp
    rw [e1, ih, Int.pow_succ, emod_step16 n _ hp, hq]
    rw [Int.natCast_add, Int.natCast_mul, Int.add_mul, Int.mul_assoc, show ((16 : Nat) : Int) * (16 : Int) ^ m = 16 ^ m * 16 from Int.mul_comm _ _, Int.add_assoc]
end Go.Proofs.Ytjljdkamidppbaa
