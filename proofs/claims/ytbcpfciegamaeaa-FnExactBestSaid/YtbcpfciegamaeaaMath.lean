/- Plain lemmas on integers, bits and lists of bytes for the chapter on numbers and text. No Go program is named here. -/
import Derived.WalkKit
import Derived.Laws.BitsAllLaws
namespace Go.Proofs.Ytbcpfciegamaeaa

theorem ofInt64_toNat (x : Int) : (BitVec.ofInt 64 x).toNat = (x % 18446744073709551616).toNat := by
  simp [BitVec.toNat_ofInt]

/-- 'x & (2^k - 1)' on an int, also where x is negative. -/
theorem bits_and_255 (x : Int) : bits .and .i64 x 255 = x % 256 := by
  show IntKind.i64.wrap (((BitVec.ofInt 64 x &&& BitVec.ofInt 64 255).toNat : Nat) : Int) = x % 256
  rw [BitVec.toNat_and, ofInt64_toNat, show (BitVec.ofInt 64 255).toNat = 2 ^ 8 - 1 from by decide, Nat.and_two_pow_sub_one_eq_mod]
  simp [IntKind.wrap, IntKind.bits, IntKind.signed]
  omega

theorem bits_and_15 (x : Int) : bits .and .i64 x 15 = x % 16 := by
  show IntKind.i64.wrap (((BitVec.ofInt 64 x &&& BitVec.ofInt 64 15).toNat : Nat) : Int) = x % 16
  rw [BitVec.toNat_and, ofInt64_toNat, show (BitVec.ofInt 64 15).toNat = 2 ^ 4 - 1 from by decide, Nat.and_two_pow_sub_one_eq_mod]
  simp [IntKind.wrap, IntKind.bits, IntKind.signed]
  omega

/-- 'n<<8 | b' where nothing is lost. -/
theorem bits_or_256 (n b : Int) (h0 : 0 ≤ n) (h1 : n < 36028797018963968) (h2 : 0 ≤ b) (h3 : b < 256) : bits .or .i64 (n * 256) b = n * 256 + b := by
  obtain ⟨n, rfl⟩ := Int.eq_ofNat_of_zero_le h0
  obtain ⟨b, rfl⟩ := Int.eq_ofNat_of_zero_le h2
  show IntKind.i64.wrap (((BitVec.ofInt 64 ((n : Int) * 256) ||| BitVec.ofInt 64 (b : Int)).toNat : Nat) : Int) = _
  rw [BitVec.toNat_or, ofInt64_toNat, ofInt64_toNat]
  have e1 : ((n : Int) * 256 % 18446744073709551616).toNat = n * 256 := by omega
  have e2 : ((b : Int) % 18446744073709551616).toNat = b := by omega
  rw [e1, e2, nat_join 8 (n * 256) b (by omega) (by omega)]
  simp [IntKind.wrap, IntKind.bits, IntKind.signed]
  omega

/-- the lowest m bytes of n, the highest first -/
def putL (n : Int) : Nat → List UInt8
  | 0 => []
  | m + 1 => UInt8.ofNat (n / 2 ^ (8 * m) % 256).toNat :: putL n m

theorem putL_length (n : Int) (m : Nat) : (putL n m).length = m := by
  induction m with
  | zero => rfl
  | succ m ih => simp [putL, ih]

theorem putL_get (n : Int) (m : Nat) : ∀ i, i < m → (putL n m)[i]? = some (UInt8.ofNat (n / 2 ^ (8 * (m - 1 - i)) % 256).toNat) := by
  induction m with
  | zero => intro i h; omega
  | succ m ih =>
    intro i h
    cases i with
    | zero => simp [putL]
    | succ i =>
      simp only [putL, List.getElem?_cons_succ]
      rw [ih i (by omega), show m + 1 - 1 - (i + 1) = m - 1 - i from by omega]

/-- the number that bytes make, the highest first -/
def getL : List UInt8 → Nat → Nat
  | [], n => n
  | b :: l, n => getL l (n * 256 + b.toNat)

theorem getL_snoc (l : List UInt8) (b : UInt8) : ∀ n, getL (l ++ [b]) n = getL l n * 256 + b.toNat := by
  induction l with
  | nil => intro n; rfl
  | cons x l ih => intro n; simp only [List.cons_append, getL]; exact ih _

theorem getL_lt (l : List UInt8) : ∀ n, getL l n < (n + 1) * 256 ^ l.length := by
  induction l with
  | nil => intro n; simp [getL]
  | cons x l ih =>
    intro n
    have h := ih (n * 256 + x.toNat)
    have hx : x.toNat < 256 := x.toNat_lt
    simp only [getL, List.length_cons]
    calc getL l (n * 256 + x.toNat) < (n * 256 + x.toNat + 1) * 256 ^ l.length := h
      _ ≤ ((n + 1) * 256) * 256 ^ l.length := Nat.mul_le_mul_right _ (by omega)
      _ = (n + 1) * 256 ^ (l.length + 1) := by rw [Nat.pow_succ, Nat.mul_assoc, Nat.mul_comm 256]

/-- bytes as cells -/
def byteVals (l : List UInt8) : List Value := l.map fun b => .int .u8 (b.toNat : Int)
theorem byteVals_length (l : List UInt8) : (byteVals l).length = l.length := by simp [byteVals]
theorem byteVals_snoc (l : List UInt8) (b : UInt8) : byteVals (l ++ [b]) = byteVals l ++ [.int .u8 (b.toNat : Int)] := by simp [byteVals]

theorem ofNat_toNat_emod (x : Int) : (((UInt8.ofNat (x % 256).toNat).toNat : Nat) : Int) = x % 256 := by
  have h0 : 0 ≤ x % 256 := by omega
  have h1 : x % 256 < 256 := by omega
  rw [UInt8.toNat_ofNat']
  omega

theorem take_snoc_get (l : List UInt8) (k : Nat) (b : UInt8) (h : l[k]? = some b) : l.take (k + 1) = l.take k ++ [b] := by
  rw [List.take_add_one, h]; rfl

/-- a row of m bytes that is filled from its head on: its k-th byte is nought yet -/
theorem filled_at (l : List UInt8) (k m : Nat) (hk : k < m) (hl : l.length = m) : (byteVals (l.take k ++ List.replicate (m - k) 0))[k]? = some (.int .u8 0) := by
  have e : (l.take k).length = k := by rw [List.length_take]; omega
  simp only [byteVals, List.getElem?_map]
  rw [List.getElem?_append_right (by omega), e]
  simp [show 0 < m - k by omega]

theorem filled_set (l : List UInt8) (k m : Nat) (b : UInt8) (hk : k < m) (hl : l.length = m) (hb : l[k]? = some b) :
    (byteVals (l.take k ++ List.replicate (m - k) 0)).set k (.int .u8 (b.toNat : Int)) = byteVals (l.take (k + 1) ++ List.replicate (m - (k + 1)) 0) := by
  have e : (l.take k).length = k := by rw [List.length_take]; omega
  rw [take_snoc_get l k b hb, show m - k = (m - (k + 1)) + 1 from by omega, List.replicate_succ]
  simp only [byteVals, List.map_append, List.map_cons]
  have e' : (List.map (fun b : UInt8 => Value.int .u8 (b.toNat : Int)) (l.take k)).length = k := by rw [List.length_map]; exact e
  rw [List.set_append_right _ _ (Nat.le_of_eq e'), e', Nat.sub_self]
  simp

theorem emod_step (n N : Int) (hN : 0 < N) : n % (N * 256) = n / N % 256 * N + n % N := by
  have h1 := Int.mul_ediv_add_emod n N
  have h2 := Int.mul_ediv_add_emod (n / N) 256
  have r0 := Int.emod_nonneg n (show N ≠ 0 by omega)
  have r1 := Int.emod_lt_of_pos n hN
  have q0 : 0 ≤ n / N % 256 := by omega
  have q1 : n / N % 256 ≤ 255 := by omega
  have e : n = (n / N % 256 * N + n % N) + N * 256 * (n / N / 256) := by
    have e1 : N * (n / N) = N * (256 * (n / N / 256) + n / N % 256) := by rw [h2]
    rw [Int.mul_add, ← Int.mul_assoc] at e1
    have e2 : n / N % 256 * N = N * (n / N % 256) := Int.mul_comm _ _
    omega
  have b0 : 0 ≤ n / N % 256 * N := Int.mul_nonneg q0 (by omega)
  have b1 : n / N % 256 * N ≤ 255 * N := Int.mul_le_mul_of_nonneg_right q1 (by omega)
  conv => lhs; rw [e]
  rw [Int.add_mul_emod_self_left, Int.emod_eq_of_lt (by omega) (by omega)]

theorem emod_step16 (n N : Int) (hN : 0 < N) : n % (N * 16) = n / N % 16 * N + n % N := by
  have h1 := Int.mul_ediv_add_emod n N
  have h2 := Int.mul_ediv_add_emod (n / N) 16
  have r0 := Int.emod_nonneg n (show N ≠ 0 by omega)
  have r1 := Int.emod_lt_of_pos n hN
  have q0 : 0 ≤ n / N % 16 := by omega
  have q1 : n / N % 16 ≤ 15 := by omega
  have e : n = (n / N % 16 * N + n % N) + N * 16 * (n / N / 16) := by
    have e1 : N * (n / N) = N * (16 * (n / N / 16) + n / N % 16) := by rw [h2]
    rw [Int.mul_add, ← Int.mul_assoc] at e1
    have e2 : n / N % 16 * N = N * (n / N % 16) := Int.mul_comm _ _
    omega
  have b0 : 0 ≤ n / N % 16 * N := Int.mul_nonneg q0 (by omega)
  have b1 : n / N % 16 * N ≤ 15 * N := Int.mul_le_mul_of_nonneg_right q1 (by omega)
  conv => lhs; rw [e]
  rw [Int.add_mul_emod_self_left, Int.emod_eq_of_lt (by omega) (by omega)]

end Go.Proofs.Ytbcpfciegamaeaa
