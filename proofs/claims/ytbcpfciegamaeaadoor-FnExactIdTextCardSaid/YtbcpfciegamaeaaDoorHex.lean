/- HexText and ReadHex: what the program and the model answer. -/
import Derived.Test.YtbcpfciegamaeaaDoorIn
import Derived.WalkKit
import Derived.Outline
import Derived.Lib.Hide
import Derived.WalkLawsBesides
import Derived.WalkSpells
namespace Go.Proofs.YtbcpfciegamaeaaDoor
open Go.RowKit

/-- the digit of a number below 16 -/
def hexD (x : Int) : UInt8 := UInt8.ofNat (if x < 10 then 48 + x else 87 + x).toNat
/-- the lowest m digits of n, the highest first -/
def hexL (n : Int) : Nat → List UInt8
  | 0 => []
  | m + 1 => hexD (n / 2 ^ (4 * m) % 16) :: hexL n m

theorem hexL_length (n : Int) (m : Nat) : (hexL n m).length = m := by
  induction m with
  | zero => rfl
  | succ m ih => simp [hexL, ih]

theorem hexL_get (n : Int) (m : Nat) : ∀ i, i < m → (hexL n m)[i]? = some (hexD (n / 2 ^ (4 * (m - 1 - i)) % 16)) := by
  induction m with
  | zero => intro i h; omega
  | succ m ih =>
    intro i h
    cases i with
    | zero => simp [hexL]
    | succ i =>
      simp only [hexL, List.getElem?_cons_succ]
      rw [ih i (by omega), show m + 1 - 1 - (i + 1) = m - 1 - i from by omega]

/-- '"0123456789abcdef"[d:d+1] + rest' -/
theorem hex_slice (d : Int) (h0 : 0 ≤ d) (h1 : d < 16) (l : List UInt8) :
    ({ data := #[48, 49, 50, 51, 52, 53, 54, 55, 56, 57, 97, 98, 99, 100, 101, 102] } : ByteArray).extract d.toNat (d + 1).toNat ++ { data := l.toArray } = { data := (hexD d :: l).toArray } := by
  have e : ({ data := #[48, 49, 50, 51, 52, 53, 54, 55, 56, 57, 97, 98, 99, 100, 101, 102] } : ByteArray).extract d.toNat (d + 1).toNat = { data := #[hexD d] } := by
    have h : d = 0 ∨ d = 1 ∨ d = 2 ∨ d = 3 ∨ d = 4 ∨ d = 5 ∨ d = 6 ∨ d = 7 ∨ d = 8 ∨ d = 9 ∨ d = 10 ∨ d = 11 ∨ d = 12 ∨ d = 13 ∨ d = 14 ∨ d = 15 := by omega
    rcases h with rfl | rfl | rfl | rfl | rfl | rfl | rfl | rfl | rfl | rfl | rfl | rfl | rfl | rfl | rfl | rfl <;> decide +kernel
  rw [e]
  apply ByteArray.ext
  rw [ByteArray.data_append]
  simp

theorem hexL_step (n : Int) (k : Nat) (x : Int) (hx : n / 2 ^ (4 * k) = x) : hexD (x % 16) :: hexL n k = hexL n (k + 1) := by rw [← hx]; rfl
theorem div_step (n : Int) (k : Nat) (x : Int) (hx : n / 2 ^ (4 * k) = x) : x / 16 = n / 2 ^ (4 * (k + 1)) := by
  rw [← hx, Int.ediv_ediv_of_nonneg (Int.pow_nonneg (by decide)), show 4 * (k + 1) = 4 * k + 4 from by omega, Int.pow_add]; rfl

theorem hex_index (d : Int) (h0 : 0 ≤ d) (h1 : d < 16) (h : d.toNat < ({ data := #[48, 49, 50, 51, 52, 53, 54, 55, 56, 57, 97, 98, 99, 100, 101, 102] } : ByteArray).size) :
    (({ data := #[48, 49, 50, 51, 52, 53, 54, 55, 56, 57, 97, 98, 99, 100, 101, 102] } : ByteArray)[d.toNat]'h).toNat = (hexD d).toNat := by
  have h : d = 0 ∨ d = 1 ∨ d = 2 ∨ d = 3 ∨ d = 4 ∨ d = 5 ∨ d = 6 ∨ d = 7 ∨ d = 8 ∨ d = 9 ∨ d = 10 ∨ d = 11 ∨ d = 12 ∨ d = 13 ∨ d = 14 ∨ d = 15 := by omega
  rcases h with rfl | rfl | rfl | rfl | rfl | rfl | rfl | rfl | rfl | rfl | rfl | rfl | rfl | rfl | rfl | rfl <;> rfl

theorem hex_impl (n digits : Int) (w : World) (h0 : 0 ≤ n) (h1 : 1 ≤ digits) (h2 : digits ≤ 12) :
    Calls Tryd.prog 45 #[.int .i64 n, .int .i64 digits] w fun e w' => e = .returned (.string ⟨(hexL n digits.toNat).toArray⟩) ∧ Below w.heap.size w w' := by
  obtain ⟨m, rfl⟩ := Int.eq_ofNat_of_zero_le (show 0 ≤ digits by omega)
  obtain ⟨i0, hi, hz0, hz1, hz2⟩ := info_parts info5
  go_enter Tryd.func45, Tryd.ntmps45
  go_wp2_with (at_make; refine wpList_make_full _ rfl _ _ 22 rfl w.heap.size 5 i0 (.int .u8 0) 1 Tryd.underlying22 hi hz0 hz1 .i64 .i64 _ _ m rfl rfl rfl rfl (by rw [hz2]; omega) (by unfold maxLen; omega) (Nat.le_refl _) ?_)
  intro w1 hown hgrow
  have hb1 : Below w.heap.size w w1 := (Below.refl _ _).grown hgrow (Nat.le_refl _) (fun k e => by cases e)
  have hown0 : w1.ownsRow w.heap.size 5 1 (.slice (some ⟨w.heap.size, 0, none⟩) m m) m (byteVals ((hexL n m).take 0 ++ List.replicate (m - 0) 0)) := by
    have e : (madeCells #[Value.int .u8 0] m).toList = byteVals ((hexL n m).take 0 ++ List.replicate (m - 0) 0) := by
      rw [toList_madeCells_one]; simp [byteVals]
    rw [← e]; exact hown
  clear hown hgrow
  go_wp2
  go_loopw [22] (fun i wr => ∃ k : Nat, k ≤ m ∧ i = .int .i64 k ∧ wr.ownsRow w.heap.size 5 1 (.slice (some ⟨w.heap.size, 0, none⟩) m m) m (byteVals ((hexL n m).take k ++ List.replicate (m - k) 0)) ∧ Below w.heap.size w wr)
    (fun i _ => m - (intOf i).toNat)
  case atStart => exact ⟨0, Nat.zero_le _, rfl, hown0, hb1⟩
  case round =>
    obtain ⟨k, hk, rfl, hown, hb⟩ := hrel
    by_cases hlt : k < m
    · have hfz := World.ownsRow.frozenAt hown k
      have hca : wr.cell? ⟨w.heap.size, k, none⟩ = some (.int .u8 0) := by rw [World.ownsRow.cellAt hown k (by omega)]; exact filled_at _ k m hlt (hexL_length n m)
      have hst := World.ownsRow.stored hown k (.int .u8 (((hexD (n / 2 ^ (4 * (m - 1 - k)) % 16)).toNat : Nat) : Int))
      rw [filled_set _ k m _ hlt (hexL_length n m) (hexL_get n m k hlt)] at hst
      have HS := Lib.hid hst; clear hst
      have b15 := bits_and_15
      go_wp2
      go_roundw
      case rel => exact ⟨k + 1, by omega, by go_num, by rw [hex_index _ (by omega) (by omega)]; exact HS.out.1, hb.setCell (Nat.le_refl _) _⟩
      case measure => simp [intOf]; omega
    · obtain rfl : k = m := by omega
      have hown' : wr.ownsRow w.heap.size 5 1 (.slice (some ⟨w.heap.size, 0, none⟩) k k) k (byteVals (hexL n k)) := by
        have e : (hexL n k).take k ++ List.replicate (k - k) 0 = hexL n k := by
          rw [List.take_of_length_le (by rw [hexL_length]; omega)]; simp
        rw [e] at hown; exact hown
      have hcv := run_string_owned hown'
      go_wp2
      go_ret
      exact ⟨rfl, hb⟩

theorem hex_spec (n digits : Int) (w : World) (h0 : 0 ≤ n) (h1 : 1 ≤ digits) (h2 : digits ≤ 12) (h3 : n ≤ 9223372036854775807) :
    Calls Tryd.prog 31 #[.int .i64 n, .int .i64 digits] w fun e w' => e = .returned (.string ⟨(hexL n digits.toNat).toArray⟩) ∧ w = w' := by
  obtain ⟨m, rfl⟩ := Int.eq_ofNat_of_zero_le (show 0 ≤ digits by omega)
  go_enter Tryd.func31, Tryd.ntmps31
  go_wp2_with (go_at_call 23; refine (in_yes _ _ _ _ (by omega) (by omega)).mono ?_; rintro e w' ⟨rfl, rfl⟩)
  go_loop [0, 5, 6] (fun v o i => ∃ k : Nat, k ≤ m ∧ i = .int .i64 k ∧ o = .string ⟨(hexL n k).toArray⟩ ∧ v = .int .i64 (n / 2 ^ (4 * k))) (fun _ _ i => m - (intOf i).toNat)
  case atStart => exact ⟨0, Nat.zero_le _, rfl, rfl, by simp⟩
  case round =>
    obtain ⟨k, hk, rfl, rfl, rfl⟩ := hrel
    by_cases hlt : k < m
    · obtain ⟨x, hx⟩ : ∃ x, n / 2 ^ (4 * k) = x := ⟨_, rfl⟩
      have hx0 : 0 ≤ x := by rw [← hx]; exact Int.ediv_nonneg h0 (Int.pow_nonneg (by decide))
      have hx1 : x ≤ 9223372036854775807 := by rw [← hx]; exact Int.le_trans (Int.ediv_le_self _ h0) h3
      rw [hx]
      have HX := Lib.hid hx; clear hx
      have hl : (hexL n k).length ≤ 12 := by rw [hexL_length]; omega
      go_wp2
      go_round
      case rel =>
        refine ⟨k + 1, by omega, by go_num, ?_, ?_⟩
        · rw [hex_slice _ (by omega) (by omega), hexL_step n k x HX.out]
        · rw [div_step n k x HX.out]
      case measure => simp [intOf]; omega
    · obtain rfl : k = m := by omega
      go_wp2
      go_ret
      exact ⟨rfl, rfl⟩

theorem hex_impl_no (n digits : Int) (w : World) (h : ¬ (0 ≤ n ∧ 1 ≤ digits ∧ digits ≤ 12)) :
    Calls Tryd.prog 45 #[.int .i64 n, .int .i64 digits] w fun e w' => e = .returned (.string ⟨#[]⟩) ∧ w = w' := by
  by_cases h0 : 0 ≤ n
  · by_cases h1 : 1 ≤ digits
    · have h2 : 12 < digits := by omega
      go_enter Tryd.func45, Tryd.ntmps45
      go_wp2
      go_ret
      exact ⟨rfl, rfl⟩
    · go_enter Tryd.func45, Tryd.ntmps45
      go_wp2
      go_ret
      exact ⟨rfl, rfl⟩
  · go_enter Tryd.func45, Tryd.ntmps45
    go_wp2
    go_ret
    exact ⟨rfl, rfl⟩

theorem hex_spec_no (n digits : Int) (w : World) (h : ¬ (0 ≤ n ∧ 1 ≤ digits ∧ digits ≤ 12)) :
    Calls Tryd.prog 31 #[.int .i64 n, .int .i64 digits] w fun e w' => e = .returned (.string ⟨#[]⟩) ∧ w = w' := by
  by_cases h0 : 0 ≤ n
  · go_enter Tryd.func31, Tryd.ntmps31
    go_wp2_with (go_at_call 23; refine (in_no _ _ _ _ (by omega)).mono ?_; rintro e w' ⟨rfl, rfl⟩)
    go_ret
    exact ⟨rfl, rfl⟩
  · go_enter Tryd.func31, Tryd.ntmps31
    go_wp2_with fail
    go_ret
    exact ⟨rfl, rfl⟩
end Go.Proofs.YtbcpfciegamaeaaDoor
