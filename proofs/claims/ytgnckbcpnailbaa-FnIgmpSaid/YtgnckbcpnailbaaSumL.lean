/- The Internet checksum of chapter 4: plain definitions and lemmas. -/
import Derived.Test.YtgnckbcpnailbaaMath
namespace Go.Proofs.Ytgnckbcpnailbaa

/-- one more number of two bytes, the carry brought round -/
def sumStep (n x : Nat) : Nat := (n + x) % 65536 + (n + x) / 65536
/-- the sum of a text's numbers of two bytes; a single last byte is followed by a nought -/
def sumW : List UInt8 → Nat → Nat
  | a :: b :: l, n => sumW l (sumStep n (a.toNat * 256 + b.toNat))
  | [a], n => sumStep n (a.toNat * 256)
  | [], n => n
/-- the checksum -/
def sum16 (l : List UInt8) : Nat := 65535 - sumW l 0

theorem sumStep_le (n x : Nat) (hn : n ≤ 65535) (hx : x ≤ 65535) : sumStep n x ≤ 65535 := by unfold sumStep; omega
theorem two_le (a b : UInt8) : a.toNat * 256 + b.toNat ≤ 65535 := by have := a.toNat_lt; have := b.toNat_lt; omega
theorem sumW_le : ∀ (l : List UInt8) (n : Nat), n ≤ 65535 → sumW l n ≤ 65535
  | a :: b :: l, n, h => sumW_le l _ (sumStep_le n _ h (two_le a b))
  | [a], n, h => sumStep_le n _ h (by have := a.toNat_lt; omega)
  | [], _, h => h
theorem sum16_le (l : List UInt8) : sum16 l ≤ 65535 := by unfold sum16; omega
theorem sum16_int (l : List UInt8) : ((sum16 l : Nat) : Int) = 65535 - (sumW l 0 : Nat) := by
  have := sumW_le l 0 (by decide)
  unfold sum16
  omega

/-- a nought behind an odd number of bytes doesn't matter -/
theorem sumW_pad : ∀ (l : List UInt8) (n : Nat), l.length % 2 = 1 → sumW (l ++ [0]) n = sumW l n
  | a :: b :: l, n, h => by
    simp only [List.cons_append, sumW]
    exact sumW_pad l _ (by simp only [List.length_cons] at h; omega)
  | [a], n, _ => by simp [sumW]
  | [], _, h => by simp at h

/-! the sum as a number modulo 65535 that is 0 only where all is nought -/
theorem sumStep_mod (n x : Nat) : sumStep n x % 65535 = (n + x) % 65535 := by unfold sumStep; omega
theorem sumStep_zero (n x : Nat) : sumStep n x = 0 ↔ n = 0 ∧ x = 0 := by unfold sumStep; omega
/-- the plain sum -/
def sumP : List UInt8 → Nat
  | a :: b :: l => a.toNat * 256 + b.toNat + sumP l
  | [a] => a.toNat * 256
  | [] => 0
theorem sumW_mod : ∀ (l : List UInt8) (n : Nat), sumW l n % 65535 = (n + sumP l) % 65535
  | a :: b :: l, n => by
    simp only [sumW, sumP]
    rw [sumW_mod l, Nat.add_mod, sumStep_mod, ← Nat.add_mod]
    congr 1
    omega
  | [a], n => by simp only [sumW, sumP]; exact sumStep_mod n _
  | [], n => by simp only [sumW, sumP, Nat.add_zero]
theorem sumW_zero : ∀ (l : List UInt8) (n : Nat), sumW l n = 0 ↔ n = 0 ∧ sumP l = 0
  | a :: b :: l, n => by
    simp only [sumW, sumP]
    rw [sumW_zero l, sumStep_zero]
    omega
  | [a], n => by simp only [sumW, sumP]; exact sumStep_zero n _
  | [], n => by simp [sumW, sumP]
/-- the sum is told by the plain sum -/
theorem sumW_of_sumP (l m : List UInt8) (h : sumP l = sumP m) : sumW l 0 = sumW m 0 := by
  have h1 := sumW_mod l 0
  have h2 := sumW_mod m 0
  have z1 := sumW_zero l 0
  have z2 := sumW_zero m 0
  have b1 := sumW_le l 0 (by decide)
  have b2 := sumW_le m 0 (by decide)
  rw [h] at h1 z1
  by_cases h0 : sumP m = 0
  · rw [z1.2 ⟨rfl, h0⟩, z2.2 ⟨rfl, h0⟩]
  · have n1 : sumW l 0 ≠ 0 := fun e => h0 (z1.1 e).2
    have n2 : sumW m 0 ≠ 0 := fun e => h0 (z2.1 e).2
    omega
theorem sumP_append : ∀ (p q : List UInt8), p.length % 2 = 0 → sumP (p ++ q) = sumP p + sumP q
  | a :: b :: l, q, h => by
    simp only [List.cons_append, sumP]
    rw [sumP_append l q (by simp only [List.length_cons] at h; omega)]
    omega
  | [a], _, h => by simp at h
  | [], q, _ => by simp [sumP]
/-- the two parts' order doesn't matter -/
theorem sum16_turn (p q : List UInt8) (hp : p.length % 2 = 0) (hq : q.length % 2 = 0) : sum16 (q ++ p) = sum16 (p ++ q) := by
  unfold sum16
  rw [sumW_of_sumP (q ++ p) (p ++ q) (by rw [sumP_append q p hq, sumP_append p q hp, Nat.add_comm])]
/-- a pair of noughts doesn't matter -/
theorem sum16_noughts (l : List UInt8) (h : l.length % 2 = 0) : sum16 (l ++ [0, 0]) = sum16 l := by
  unfold sum16
  rw [sumW_of_sumP (l ++ [0, 0]) l (by rw [sumP_append l _ h]; rfl)]
/-- with its checksum in the place of a pair of noughts a text's sum is all ones -/
theorem sum16_own (p q : List UInt8) (hp : p.length % 2 = 0) : sum16 (p ++ putL (sum16 (p ++ [0, 0] ++ q) : Nat) 2 ++ q) = 0 := by
  have h2 : ∀ n : Nat, n ≤ 65535 → sumP (putL n 2) = n := by
    intro n hn
    have e : putL (n : Int) 2 = [UInt8.ofNat ((n : Int) / 2 ^ (8 * 1) % 256).toNat, UInt8.ofNat ((n : Int) / 2 ^ (8 * 0) % 256).toNat] := rfl
    have e1 := ofNat_toNat_emod ((n : Int) / 2 ^ (8 * 1))
    have e0 := ofNat_toNat_emod ((n : Int) / 2 ^ (8 * 0))
    rw [e]
    simp only [sumP]
    have t1 : (2 : Int) ^ (8 * 1) = 256 := by decide
    have t0 : (2 : Int) ^ (8 * 0) = 1 := by decide
    rw [t1] at e1 ⊢
    rw [t0] at e0 ⊢
    omega
  have hb := sum16_le (p ++ [0, 0] ++ q)
  have e1 : sumP (p ++ [0, 0] ++ q) = sumP p + sumP q := by
    rw [List.append_assoc, sumP_append p _ hp]
    simp [sumP]
  have e2 : sumP (p ++ putL (sum16 (p ++ [0, 0] ++ q) : Nat) 2 ++ q) = sumP p + sum16 (p ++ [0, 0] ++ q) + sumP q := by
    rw [List.append_assoc, sumP_append p _ hp, sumP_append _ q (by rw [putL_length]), h2 _ hb]
    omega
  have m1 := sumW_mod (p ++ [0, 0] ++ q) 0
  have z1 := sumW_zero (p ++ [0, 0] ++ q) 0
  have b1 := sumW_le (p ++ [0, 0] ++ q) 0 (by decide)
  have m2 := sumW_mod (p ++ putL (sum16 (p ++ [0, 0] ++ q) : Nat) 2 ++ q) 0
  have z2 := sumW_zero (p ++ putL (sum16 (p ++ [0, 0] ++ q) : Nat) 2 ++ q) 0
  have b2 := sumW_le (p ++ putL (sum16 (p ++ [0, 0] ++ q) : Nat) 2 ++ q) 0 (by decide)
  rw [e1] at m1 z1
  rw [e2] at m2 z2
  have hs : sum16 (p ++ [0, 0] ++ q) = 65535 - sumW (p ++ [0, 0] ++ q) 0 := rfl
  unfold sum16 at hs ⊢
  unfold sum16 at m2 z2 b2
  generalize sumW (p ++ [0, 0] ++ q) 0 = C at m1 z1 b1 hs m2 z2 b2 ⊢
  generalize sumW (p ++ putL ((65535 - C : Nat) : Int) 2 ++ q) 0 = Z at m2 z2 b2 ⊢
  simp only [true_and] at z1 z2
  by_cases hC : C = 0
  · have := z1.1 hC
    omega
  · have hP : ¬ (sumP p + sumP q = 0) := fun e => hC (z1.2 e)
    have hZ : ¬ Z = 0 := fun e => hP (by have := z2.1 e; omega)
    omega
end Go.Proofs.Ytgnckbcpnailbaa
