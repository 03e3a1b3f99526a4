/- ReadHex and ReadDec: what the program and the model answer. -/
import Derived.Test.YtbcpfciegamaeaaDoorHex
import Derived.Test.YtbcpfciegamaeaaDoorIdx
import Derived.WalkSmall
namespace Go.Proofs.YtbcpfciegamaeaaDoor
open Go.RowKit

/-- "0123456789abcdef"[:b] -/
def digS (b : Nat) : ByteArray := ({ data := #[48, 49, 50, 51, 52, 53, 54, 55, 56, 57, 97, 98, 99, 100, 101, 102] } : ByteArray).extract 0 b
/-- a digit's value, or -1 -/
def digV (b : Nat) (c : UInt8) : Int := firstIdx (digS b) c

theorem digV_ten : ∀ n : Fin 256, digV 10 (UInt8.ofNat n.val) = if 48 ≤ n.val ∧ n.val ≤ 57 then (n.val : Int) - 48 else -1 := by decide +kernel
theorem digV_sixteen : ∀ n : Fin 256, digV 16 (UInt8.ofNat n.val) = if 48 ≤ n.val ∧ n.val ≤ 57 then (n.val : Int) - 48 else if 97 ≤ n.val ∧ n.val ≤ 102 then (n.val : Int) - 87 else -1 := by decide +kernel
theorem digV_bound (b : Nat) (hb : b = 10 ∨ b = 16) (c : UInt8) : -1 ≤ digV b c ∧ digV b c < b := by
  have hc : c = UInt8.ofNat (⟨c.toNat, c.toNat_lt⟩ : Fin 256).val := by simp
  rcases hb with rfl | rfl
  · rw [hc, digV_ten]; split <;> omega
  · rw [hc, digV_sixteen]; repeat' split
    all_goals omega
theorem digV_high (b : Nat) (hb : b = 10 ∨ b = 16) (c : UInt8) (h : 128 ≤ c.toNat) : digV b c = -1 := by
  have hc : c = UInt8.ofNat (⟨c.toNat, c.toNat_lt⟩ : Fin 256).val := by simp
  rcases hb with rfl | rfl
  · rw [hc, digV_ten, if_neg (by simp; omega)]
  · rw [hc, digV_sixteen, if_neg (by simp; omega), if_neg (by simp; omega)]
theorem digS_ascii (b : Nat) : ∀ x ∈ (digS b).data.toList, x.toNat < 128 := by
  intro x hx
  have h := mem_extract hx
  revert h
  simp only [List.mem_cons, List.not_mem_nil, or_false]
  rintro (rfl | rfl | rfl | rfl | rfl | rfl | rfl | rfl | rfl | rfl | rfl | rfl | rfl | rfl | rfl | rfl) <;> decide

/-- the number that the digits of l make behind n, or -1 -/
def rdL (b : Nat) : List UInt8 → Int → Int
  | [], n => n
  | c :: l, n => if digV b c < 0 then -1 else rdL b l (n * b + digV b c)

theorem rd_yes (b : Nat) (s : ByteArray) (k : Nat) (hlt : k < s.size) (n : Int) (h : ¬ digV b (s[k]'hlt) < 0) : rdL b (s.data.toList.drop k) n = rdL b (s.data.toList.drop (k + 1)) (n * b + digV b (s[k]'hlt)) := by
  have hl : k < s.data.toList.length := by rw [Array.length_toList]; exact hlt
  rw [List.drop_eq_getElem_cons hl]
  have e : s.data.toList[k] = s[k]'hlt := rfl
  rw [e]
  simp only [rdL, if_neg h]
theorem rd_no (b : Nat) (s : ByteArray) (k : Nat) (hlt : k < s.size) (n : Int) (h : digV b (s[k]'hlt) < 0) : rdL b (s.data.toList.drop k) n = -1 := by
  have hl : k < s.data.toList.length := by rw [Array.length_toList]; exact hlt
  rw [List.drop_eq_getElem_cons hl]
  have e : s.data.toList[k] = s[k]'hlt := rfl
  rw [e]
  simp only [rdL, if_pos h]
theorem rd_end (b : Nat) (s : ByteArray) (n : Int) : rdL b (s.data.toList.drop s.size) n = n := by
  rw [List.drop_of_length_le (by rw [Array.length_toList]; exact Nat.le_refl _)]; rfl

theorem digV16 (c : UInt8) : digV 16 c = if 48 ≤ c.toNat ∧ c.toNat ≤ 57 then (c.toNat : Int) - 48 else if 97 ≤ c.toNat ∧ c.toNat ≤ 102 then (c.toNat : Int) - 87 else -1 := by
  have hc : c = UInt8.ofNat (⟨c.toNat, c.toNat_lt⟩ : Fin 256).val := by simp
  have h := digV_sixteen ⟨c.toNat, c.toNat_lt⟩
  rw [← hc] at h
  exact h
theorem digV10 (c : UInt8) : digV 10 c = if 48 ≤ c.toNat ∧ c.toNat ≤ 57 then (c.toNat : Int) - 48 else -1 := by
  have hc : c = UInt8.ofNat (⟨c.toNat, c.toNat_lt⟩ : Fin 256).val := by simp
  have h := digV_ten ⟨c.toNat, c.toNat_lt⟩
  rw [← hc] at h
  exact h

end Go.Proofs.YtbcpfciegamaeaaDoor
