/- Lines of the model, and the walk of FnExactLines. -/
import Derived.Test.YtjljdkamidppbaaPartsL
import Derived.Test.YtjljdkamidppbaaStrs
import Derived.Maps.AppendAt
namespace Go.Proofs.Ytjljdkamidppbaa
open Go.RowKit

theorem lines_cut (l : List UInt8) (ps : List (List UInt8)) (last : List UInt8) (h : ps ++ [last] = partsL isNL l []) : linesL l = if last = [] then ps else ps ++ [last] := by
  unfold linesL
  rw [← h]
  by_cases hl : last = []
  · simp [hl]
  · simp [hl]

set_option maxHeartbeats 400000 in
theorem lines_spec (s : ByteArray) (hsz : s.size ≤ 1048576) (w : World) :
    Calls Try.prog 39 #[.string s] w (GotStrs w (linesL s.data.toList)) := by
  obtain ⟨i0, hi, hz0, hz1, hz2⟩ := info_parts infoS
  go_enter Try.func39, Try.ntmps39
  go_wp2_with fail
  have hb0 : Below w.heap.size w (w.alloc (Obj.cells #[] 9)) := (Below.refl _ _).alloc (Nat.le_refl _) _
  go_loopw [3, 4, 5] (fun v f i wr => ∃ (k from_ : Nat) (ys : List ByteArray), i = .int .i64 k ∧ f = .int .i64 from_ ∧ from_ ≤ k ∧ k ≤ s.size ∧ ys.length ≤ from_ ∧
      Hid (ys.map (·.data.toList) ++ partsL isNL (s.data.toList.drop k) ((s.data.toList.drop from_).take (k - from_)) = partsL isNL s.data.toList []) ∧
      wr.ownsRow w.heap.size 9 1 v ys.length (strVals ys) ∧ Below w.heap.size w wr)
    (fun _ _ i _ => s.size - (intOf i).toNat)
  case atStart => exact ⟨0, 0, [], rfl, rfl, Nat.le_refl _, Nat.zero_le _, Nat.le_refl _, Lib.hid (by simp), World.ownsRow_made _ _ 0 (Nat.le_refl _) (by unfold maxLen; omega) rfl, hb0⟩
  case round =>
    obtain ⟨k, f, ys, rfl, rfl, hfk, hk, hyl, Hx, hown, hb⟩ := hrel
    have hmono : s.size ≤ 9223372036854775807 := by omega
    by_cases hlt : k < s.size
    · cases hsep : isNL (s[k]'hlt) with
      | true =>
        have hs1 : (((s[k]'hlt).toNat : Int) == 10) = true := by have h := (nl_rune (s[k]'hlt)).trans hsep; exact h
        have HX := Lib.hid (parts_sep isNL s f k hlt hsep)
        clear hsep
        have hsl : (s.extract f k).size ≤ 1048576 := by rw [ByteArray.size_extract]; omega
        go_wp2_with (at_builtin; refine wpList_append_own _ rfl _ _ 29 rfl w.heap.size 9 i0 (.string .empty) 1 16 Try.underlying29 hi hz0 hz1 hz2 rfl (by decide) _ _ _ rfl (hown.alloc _) ⟨wr.heap.size, 0, none⟩ 1 1 [_] rfl rfl (cell_one_new _ _ _) (by simp [Value.oneCell']) (by unfold maxLen; omega) (by omega) (by have := hb.size; simp; omega) ?_)
        intro v' w1 hown1 hgrow1 _
        have hown2 : w1.ownsRow w.heap.size 9 1 v' (ys ++ [s.extract f k]).length (strVals (ys ++ [s.extract f k])) := by
          simpa [strVals] using hown1
        have hb2 : Below w.heap.size w w1 := (hb.alloc hb.size _).grown hgrow1 (by have := hb.size; simp; omega) (fun g e => (hown.lt g e).1)
        clear hown hown1 hgrow1
        go_wp2_with fail
        go_roundw
        case rel =>
          refine ⟨k + 1, k + 1, ys ++ [s.extract f k], by go_num, by go_num, Nat.le_refl _, by omega, by simp; omega, Lib.hid ?_, hown2, hb2⟩
          rw [← Hx.out, HX.out]
          simp
        case measure => simp [intOf]; omega
      | false =>
        have hs1 : (((s[k]'hlt).toNat : Int) == 10) = false := by have h := (nl_rune (s[k]'hlt)).trans hsep; exact h
        have HX := Lib.hid (parts_on isNL s f k 1 hfk (by omega) (fun j hj hj1 => by (obtain rfl : j = 0 := by omega); exact hsep))
        clear hsep
        go_wp2_with fail
        go_roundw
        case rel => exact ⟨k + 1, f, ys, by go_num, rfl, by omega, by omega, hyl, Lib.hid (by rw [← Hx.out, HX.out]), hown, hb⟩
        case measure => simp [intOf]; omega
    · obtain rfl : k = s.size := by omega
      have hx := Hx.out
      rw [parts_end] at hx
      have hcut := lines_cut _ _ _ hx
      have hlen : (s.extract f s.size).size = s.size - f := by rw [ByteArray.size_extract]; omega
      by_cases hlast : f < s.size
      · have hne : (s.extract f s.size).data.toList ≠ [] := by
          intro h
          have h2 := congrArg List.length h
          rw [Array.length_toList] at h2
          have h3 : (s.extract f s.size).size = 0 := h2
          omega
        rw [if_neg hne] at hcut
        have HC := Lib.hid hcut; clear hcut hx hne hlen
        go_wp2_with (at_builtin; refine wpList_append_own _ rfl _ _ 29 rfl w.heap.size 9 i0 (.string .empty) 1 16 Try.underlying29 hi hz0 hz1 hz2 rfl (by decide) _ _ _ rfl (hown.alloc _) ⟨wr.heap.size, 0, none⟩ 1 1 [_] rfl rfl (cell_one_new _ _ _) (by simp [Value.oneCell']) (by unfold maxLen; omega) (by omega) (by have := hb.size; simp; omega) ?_)
        intro v' w1 hown1 hgrow1 _
        have hown2 : w1.ownsRow w.heap.size 9 1 v' (ys ++ [s.extract f s.size]).length (strVals (ys ++ [s.extract f s.size])) := by
          simpa [strVals] using hown1
        have hb2 : Below w.heap.size w w1 := (hb.alloc hb.size _).grown hgrow1 (by have := hb.size; simp; omega) (fun g e => (hown.lt g e).1)
        clear hown hown1 hgrow1
        go_wp2_with fail
        go_ret
        exact ⟨_, ys ++ [s.extract f s.size], rfl, by rw [HC.out]; simp, hown2, hb2⟩
      · have he : (s.extract f s.size).data.toList = [] := by
          apply List.eq_nil_of_length_eq_zero
          rw [Array.length_toList]
          show (s.extract f s.size).size = 0
          omega
        rw [if_pos he] at hcut
        have HC := Lib.hid hcut; clear hcut hx he hlen
        go_wp2_with fail
        go_ret
        exact ⟨_, ys, rfl, HC.out.symm, hown, hb⟩
end Go.Proofs.Ytjljdkamidppbaa
