/- HexText and ReadHex: what the program and the model answer. -/
import Derived.Test.YtjljdkamidppbabDoorIn
import Derived.WalkKit
import Derived.Outline
import Derived.Lib.Hide
import Derived.WalkLawsBesides
import Derived.WalkSpells
namespace Go.Proofs.YtjljdkamidppbabDoor
open Go.RowKit

/-- the digit of a number below 16 -/
def hexD (x : Int) : UInt8 := UInt8.ofNat (if x < 10 then 48 + x else 87 + x).toNat
/-- the lowest m digits of n, the highest first -/
def hexL (n : Int) : Nat → List UInt8
  | 0 => []
  | m + 1 => hexD (n / 2 ^ (4 * m) % 16) :: hexL n m

theorem hexL_length (n : Int) (m : Nat) : (hexL n m).length = m := by
  induction m with
  | zero => rfl
  | succ m ih => simp [hexL, ih]

theorem hexL_get (n : Int) (m : Nat) : ∀ i, i < m → (hexL n m)[i]? = some (hexD (n / 2 ^ (4 * (m - 1 - i)) % 16)) := by
  induction m with
  | zero => intro i h; omega
  | succ m ih =>
    intro i h
    cases i with
    | zero => simp [hexL]
    | succ i =>
      simp only [hexL, List.getElem?_cons_succ]
      rw [ih i (by omega), show m + 1 - 1 - (i + 1) = m - 1 - i from by omega]

/-- '"0123456789abcdef"[d:d+1] + rest' -/
theorem hex_slice (d : Int) (h0 : 0 ≤ d) (h1 : d < 16) (l : List UInt8) :
    ({ data := #[48, 49, 50, 51, 52, 53, 54, 55, 56, 57, 97, 98, 99, 100, 101, 102] } : ByteArray).extract d.toNat (d + 1).toNat ++ { data := l.toArray } = { data := (hexD d :: l).toArray } := by
  have e : ({ data := #[48, 49, 50, 51, 52, 53, 54, 55, 56, 57, 97, 98, 99, 100, 101, 102] } : ByteArray).extract d.toNat (d + 1).toNat = { data := #[hexD d] } := by
    have h : d = 0 ∨ d = 1 ∨ d = 2 ∨ d = 3 ∨ d = 4 ∨ d = 5 ∨ d = 6 ∨ d = 7 ∨ d = 8 ∨ d = 9 ∨ d = 10 ∨ d = 11 ∨ d = 12 ∨ d = 13 ∨ d = 14 ∨ d = 15 := by omega
    rcases h with rfl | rfl | rfl | rfl | rfl | rfl | rfl | rfl | rfl | rfl | rfl | rfl | rfl | rfl | rfl | rfl <;> decide +kernel
  rw [e]
  apply ByteArray.ext
  rw [ByteArray.data_append]
  simp

theorem hexL_step (n : Int) (k : Nat) (x : Int) (hx : n / 2 ^ (4 * k) = x) : hexD (x % 16) :: hexL n k = hexL n (k + 1) := by rw [← hx]; rfl
theorem div_step (n : Int) (k : Nat) (x : Int) (hx : n / 2 ^ (4 * k) = x) : x / 16 = n / 2 ^ (4 * (k + 1)) := by
  rw [← hx, Int.ediv_ediv_of_nonneg (Int.pow_nonneg (by decide)), show 4 * (k + 1) = 4 * k + 4 from by omega, Int.pow_add]; rfl

theorem hex_index (d : Int) (h0 : 0 ≤ d) (h1 : d < 16) (h : d.toNat < ({ data := #[48, 49, 50, 51, 52, 53, 54, 55, 56, 57, 97, 98, 99, 100, 101, 102] } : ByteArray).size) :
    (({ data := #[48, 49, 50, 51, 52, 53, 54, 55, 56, 57, 97, 98, 99, 100, 101, 102] } : ByteArray)[d.toNat]'h).toNat = (hexD d).toNat := by
  have h : d = 0 ∨ d = 1 ∨ d = 2 ∨ d = 3 ∨ d = 4 ∨ d = 5 ∨ d = 6 ∨ d = 7 ∨ d = 8 ∨ d = 9 ∨ d = 10 ∨ d = 11 ∨ d = 12 ∨ d = 13 ∨ d = 14 ∨ d = 15 := by omega
  rcases h with rfl | rfl | rfl | rfl | rfl | rfl | rfl | rfl | rfl | rfl | rfl | rfl | rfl | rfl | rfl | rfl <;> rfl

end Go.Proofs.YtjljdkamidppbabDoor
