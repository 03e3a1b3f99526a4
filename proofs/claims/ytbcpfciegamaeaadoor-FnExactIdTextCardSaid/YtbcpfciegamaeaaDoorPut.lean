/- PutNum: what the program and the model answer. -/
import Derived.Test.YtbcpfciegamaeaaDoorIn
import Derived.WalkKit
import Derived.Outline
import Derived.Lib.Hide
import Derived.WalkLawsBesides
import Derived.WalkSpells
import Derived.Laws.OwnMore
import Derived.Laws.IdiomStrings
import Derived.Maps.AppendAt
namespace Go.Proofs.YtbcpfciegamaeaaDoor
open Go.RowKit

theorem put_impl (n : Int) (many : Int) (w : World) (h1 : 1 ≤ many) (h2 : many ≤ 6) :
    Calls Tryd.prog 43 #[.int .i64 n, .int .i64 many] w fun e w' => e = .returned (.string ⟨(putL n many.toNat).toArray⟩) ∧ Below w.heap.size w w' := by
  obtain ⟨m, rfl⟩ := Int.eq_ofNat_of_zero_le (show 0 ≤ many by omega)
  obtain ⟨i0, hi, hz0, hz1, hz2⟩ := info_parts info5
  go_enter Tryd.func43, Tryd.ntmps43
  go_wp2_with (at_make; refine wpList_make_full _ rfl _ _ 22 rfl w.heap.size 5 i0 (.int .u8 0) 1 Tryd.underlying22 hi hz0 hz1 .i64 .i64 _ _ m rfl rfl rfl rfl (by rw [hz2]; omega) (by unfold maxLen; omega) (Nat.le_refl _) ?_)
  intro w1 hown hgrow
  have hb1 : Below w.heap.size w w1 := (Below.refl _ _).grown hgrow (Nat.le_refl _) (fun k e => by cases e)
  have hown0 : w1.ownsRow w.heap.size 5 1 (.slice (some ⟨w.heap.size, 0, none⟩) m m) m (byteVals ((putL n m).take 0 ++ List.replicate (m - 0) 0)) := by
    have e : (madeCells #[Value.int .u8 0] m).toList = byteVals ((putL n m).take 0 ++ List.replicate (m - 0) 0) := by
      rw [toList_madeCells_one]; simp [byteVals]
    rw [← e]; exact hown
  clear hown hgrow
  go_wp2
  go_loopw [18] (fun i wr => ∃ k : Nat, k ≤ m ∧ i = .int .i64 k ∧ wr.ownsRow w.heap.size 5 1 (.slice (some ⟨w.heap.size, 0, none⟩) m m) m (byteVals ((putL n m).take k ++ List.replicate (m - k) 0)) ∧ Below w.heap.size w wr)
    (fun i _ => m - (intOf i).toNat)
  case atStart => exact ⟨0, Nat.zero_le _, rfl, hown0, hb1⟩
  case round =>
    obtain ⟨k, hk, rfl, hown, hb⟩ := hrel
    by_cases hlt : k < m
    · have hfz := World.ownsRow.frozenAt hown k
      have hca : wr.cell? ⟨w.heap.size, k, none⟩ = some (.int .u8 0) := by rw [World.ownsRow.cellAt hown k (by omega)]; exact filled_at _ k m hlt (putL_length n m)
      have hst := World.ownsRow.stored hown k (.int .u8 (((UInt8.ofNat (n / 2 ^ (8 * (m - 1 - k)) % 256).toNat).toNat : Nat) : Int))
      rw [filled_set _ k m _ hlt (putL_length n m) (putL_get n m k hlt), ofNat_toNat_emod] at hst
      have HS := Lib.hid hst; clear hst
      go_wp2
      go_roundw
      case rel => exact ⟨k + 1, by omega, by go_num, HS.out.1, hb.setCell (Nat.le_refl _) _⟩
      case measure => simp [intOf]; omega
    · obtain rfl : k = m := by omega
      have hown' : wr.ownsRow w.heap.size 5 1 (.slice (some ⟨w.heap.size, 0, none⟩) k k) k (byteVals (putL n k)) := by
        have e : (putL n k).take k ++ List.replicate (k - k) 0 = putL n k := by
          rw [List.take_of_length_le (by rw [putL_length]; omega)]; simp
        rw [e] at hown; exact hown
      have hcv := run_string_owned hown'
      go_wp2
      go_ret
      exact ⟨rfl, hb⟩

theorem put_impl_no (n : Int) (many : Int) (w : World) (h : ¬ (1 ≤ many ∧ many ≤ 6)) :
    Calls Tryd.prog 43 #[.int .i64 n, .int .i64 many] w fun e w' => e = .returned (.string ⟨#[]⟩) ∧ w = w' := by
  by_cases h1 : 1 ≤ many
  · have h2 : 6 < many := by omega
    go_enter Tryd.func43, Tryd.ntmps43
    go_wp2
    go_ret
    exact ⟨rfl, rfl⟩
  · go_enter Tryd.func43, Tryd.ntmps43
    go_wp2
    go_ret
    exact ⟨rfl, rfl⟩

end Go.Proofs.YtbcpfciegamaeaaDoor
