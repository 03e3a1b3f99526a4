/- Crc of the program. -/
import Derived.Test.YtfkpecildcejkaaCrcS
namespace Go.Proofs.Ytfkpecildcejkaa
open Go.RowKit

theorem crcB_split (r c : Nat) : crcB (r ^^^ c) = (if (r ^^^ c) % 2 = 1 then r / 2 ^^^ 3988292384 else r / 2) ^^^ (c / 2) := by
  have h2 : (r ^^^ c) / 2 = r / 2 ^^^ c / 2 := by
    have := Nat.shiftRight_xor_distrib (i := 1) (a := r) (b := c)
    simpa [Nat.shiftRight_eq_div_pow] using this
  unfold crcB
  split
  · rw [h2, Nat.xor_assoc, Nat.xor_assoc, Nat.xor_comm (c / 2)]
  · rw [h2]

theorem u32_low (x c m : Nat) (hx : x < 4294967296) (hc : c < 256) : bits .and .u32 (bits .xor .u32 (x : Int) ((c : Int) / 2 ^ m % 4294967296)) 1 = (((x ^^^ c / 2 ^ m) % 2 : Nat) : Int) := by
  have hcm : c / 2 ^ m < 256 := Nat.lt_of_le_of_lt (Nat.div_le_self _ _) hc
  have e : ((c : Int) / 2 ^ m % 4294967296) = ((c / 2 ^ m : Nat) : Int) := by
    have e1 : ((c / 2 ^ m : Nat) : Int) = (c : Int) / 2 ^ m := by simp
    rw [← e1]
    generalize c / 2 ^ m = q at hcm
    omega
  have hy : x ^^^ c / 2 ^ m < 4294967296 := Nat.xor_lt_two_pow (n := 32) hx (by omega)
  rw [e, u32_xor_nat x (c / 2 ^ m) hx (by omega)]
  have h1 : bits .and .u32 ((x ^^^ c / 2 ^ m : Nat) : Int) ((1 : Nat) : Int) = _ := u32_and_nat (x ^^^ c / 2 ^ m) 1 hy (by decide)
  rw [Nat.and_one_is_mod] at h1
  exact h1

theorem u32_not (x : Nat) (h : x < 4294967296) : bits .xor .u32 IntKind.u32.max (x : Int) = ((x ^^^ 4294967295 : Nat) : Int) := by
  have h1 : bits .xor .u32 ((4294967295 : Nat) : Int) (x : Int) = _ := u32_xor_nat 4294967295 x (by decide) h
  rw [Nat.xor_comm] at h1
  exact h1

end Go.Proofs.Ytfkpecildcejkaa
