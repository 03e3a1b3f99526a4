/- The checksum of chapter 3: plain definitions and lemmas. -/
import Derived.Test.YtfkpecildcejkaaRows
import Derived.Laws.BitsAllLaws
namespace Go.Proofs.Ytfkpecildcejkaa

/-- one bit's step of the register -/
def crcB (x : Nat) : Nat := if x % 2 = 1 then x / 2 ^^^ 3988292384 else x / 2
def crcN : Nat → Nat → Nat
  | 0, x => x
  | k + 1, x => crcB (crcN k x)
theorem crcN_succ (k x : Nat) : crcN (k + 1) x = crcB (crcN k x) := rfl
theorem crcB_lt (x : Nat) (h : x < 4294967296) : crcB x < 4294967296 := by
  unfold crcB
  split
  · exact Nat.xor_lt_two_pow (n := 32) (by omega) (by decide)
  · omega
theorem crcN_lt (k : Nat) : ∀ x, x < 4294967296 → crcN k x < 4294967296 := by
  induction k with
  | zero => intro x h; exact h
  | succ k ih => intro x h; exact crcB_lt _ (ih x h)
/-- the register behind a byte -/
def crcS (x : Nat) (b : UInt8) : Nat := crcN 8 (x ^^^ b.toNat)
theorem crcS_lt (x : Nat) (b : UInt8) (h : x < 4294967296) : crcS x b < 4294967296 :=
  crcN_lt 8 _ (Nat.xor_lt_two_pow (n := 32) h (by have := b.toNat_lt; omega))
/-- the register behind bytes -/
def crcL : List UInt8 → Nat → Nat
  | [], x => x
  | b :: l, x => crcL l (crcS x b)
theorem crcL_lt (l : List UInt8) : ∀ x, x < 4294967296 → crcL l x < 4294967296 := by
  induction l with
  | nil => intro x h; exact h
  | cons b l ih => intro x h; exact ih _ (crcS_lt x b h)
/-- the checksum -/
def crc (l : List UInt8) : Nat := crcL l 4294967295 ^^^ 4294967295
theorem crc_lt (l : List UInt8) : crc l < 4294967296 := Nat.xor_lt_two_pow (n := 32) (crcL_lt l _ (by decide)) (by decide)

theorem crcL_append (p q : List UInt8) : ∀ x, crcL (p ++ q) x = crcL q (crcL p x) := by
  induction p with
  | nil => intro x; rfl
  | cons b p ih => intro x; exact ih _

/-! a turned bit is seen: each step of the register is one-to-one -/
theorem crcB_inj (x y : Nat) (hx : x < 4294967296) (hy : y < 4294967296) (h : crcB x = crcB y) : x = y := by
  have hbit : ∀ z, z < 4294967296 → (crcB z).testBit 31 = decide (z % 2 = 1) := by
    intro z hz
    have h31 : (z / 2).testBit 31 = false := Nat.testBit_lt_two_pow (by omega)
    unfold crcB
    by_cases ho : z % 2 = 1
    · rw [if_pos ho, Nat.testBit_xor, h31, decide_eq_true ho]
      decide
    · rw [if_neg ho, h31, decide_eq_false ho]
  have hp : decide (x % 2 = 1) = decide (y % 2 = 1) := by rw [← hbit x hx, ← hbit y hy, h]
  rw [decide_eq_decide] at hp
  by_cases ho : x % 2 = 1
  · have hq := hp.1 ho
    unfold crcB at h
    rw [if_pos ho, if_pos hq] at h
    have h2 := congrArg (· ^^^ 3988292384) h
    simp only [Nat.xor_assoc, Nat.xor_self, Nat.xor_zero] at h2
    omega
  · have hq : ¬ y % 2 = 1 := fun e => ho (hp.2 e)
    unfold crcB at h
    rw [if_neg ho, if_neg hq] at h
    omega
theorem crcN_inj (k : Nat) : ∀ x y, x < 4294967296 → y < 4294967296 → crcN k x = crcN k y → x = y := by
  induction k with
  | zero => intro x y _ _ h; exact h
  | succ k ih => intro x y hx hy h; exact ih x y hx hy (crcB_inj _ _ (crcN_lt k x hx) (crcN_lt k y hy) h)
theorem xor_cancel (a b c : Nat) (h : a ^^^ c = b ^^^ c) : a = b := by
  have h2 := congrArg (· ^^^ c) h
  simpa only [Nat.xor_assoc, Nat.xor_self, Nat.xor_zero] using h2
theorem crcS_inj (x y : Nat) (b : UInt8) (hx : x < 4294967296) (hy : y < 4294967296) (h : crcS x b = crcS y b) : x = y := by
  have hb := b.toNat_lt
  exact xor_cancel _ _ _ (crcN_inj 8 _ _ (Nat.xor_lt_two_pow (n := 32) hx (by omega)) (Nat.xor_lt_two_pow (n := 32) hy (by omega)) h)
theorem crcL_inj (l : List UInt8) : ∀ x y, x < 4294967296 → y < 4294967296 → crcL l x = crcL l y → x = y := by
  induction l with
  | nil => intro x y _ _ h; exact h
  | cons b l ih => intro x y hx hy h; exact crcS_inj x y b hx hy (ih _ _ (crcS_lt x b hx) (crcS_lt y b hy) h)
/-- one byte that is another gives another checksum -/
theorem crc_other (p q : List UInt8) (a b : UInt8) (h : crc (p ++ a :: q) = crc (p ++ b :: q)) : a = b := by
  have h1 := xor_cancel _ _ _ h
  have hp := crcL_lt p 4294967295 (by decide)
  rw [crcL_append, crcL_append] at h1
  simp only [crcL] at h1
  have h2 := crcL_inj q _ _ (crcS_lt _ a hp) (crcS_lt _ b hp) h1
  have ha := a.toNat_lt
  have hb := b.toNat_lt
  have h3 := crcN_inj 8 _ _ (Nat.xor_lt_two_pow (n := 32) hp (by omega)) (Nat.xor_lt_two_pow (n := 32) hp (by omega)) h2
  rw [Nat.xor_comm _ a.toNat, Nat.xor_comm _ b.toNat] at h3
  exact UInt8.toNat_inj.1 (xor_cancel _ _ _ h3)
end Go.Proofs.Ytfkpecildcejkaa
