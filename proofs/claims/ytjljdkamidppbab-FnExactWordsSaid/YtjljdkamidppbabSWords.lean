/- Words of the model. -/
import Derived.Test.YtjljdkamidppbabPartsL
import Derived.Test.YtjljdkamidppbabStrs
import Derived.Maps.AppendAt
namespace Go.Proofs.Ytjljdkamidppbab
open Go.RowKit

theorem blank_val (c : UInt8) (w : World) (b : Bool) (h : isBL c = b) : Calls Try.prog 24 #[.int .u8 (c.toNat : Int)] w fun e w' => e = .returned (.bool b) ∧ w = w' := by
  have hs1 : blR (c.toNat : Int) = b := (bl_rune c).trans h
  unfold blR at hs1
  go_enter Try.func24, Try.ntmps24
  go_wp2
  all_goals go_ret
  all_goals simp_all

/-- the word that begins at i and ends at e -/
theorem words_cut (s : ByteArray) (i e : Nat) (hie : i < e) (he : e ≤ s.size) (hw : ∀ j (hj : j < s.size), i ≤ j → j < e → isBL (s[j]'hj) = false) (hend : ∀ h : e < s.size, isBL (s[e]'h) = true) :
    wordsL (s.data.toList.drop i) = (s.extract i e).data.toList :: wordsL (s.data.toList.drop e) := by
  have e1 : s.data.toList.drop i = (s.data.toList.drop i).take (e - i) ++ s.data.toList.drop e := by
    conv => lhs; rw [← List.take_append_drop (e - i) (s.data.toList.drop i)]
    rw [List.drop_drop, show i + (e - i) = e from by omega]
  rw [e1, extract_list]
  have hl : (s.data.toList.drop i).length = s.size - i := by rw [List.length_drop, Array.length_toList]; rfl
  refine wordsL_word _ ?_ ?_ _ ?_
  · intro c hc
    obtain ⟨j, hj, rfl⟩ := List.getElem_of_mem hc
    have hj' : j < e - i := by rw [List.length_take] at hj; omega
    have e2 : ((s.data.toList.drop i).take (e - i))[j] = s[i + j]'(by omega) := by rw [List.getElem_take, List.getElem_drop]; rfl
    rw [e2]
    exact hw (i + j) (by omega) (by omega) (by omega)
  · intro h
    have := congrArg List.length h
    rw [List.length_take, List.length_nil] at this
    omega
  · intro c hc
    by_cases h : e < s.size
    · rw [drop_step s e h] at hc
      simp only [List.head?_cons, Option.some.injEq] at hc
      rw [← hc]
      exact hend h
    · rw [List.drop_of_length_le (by rw [Array.length_toList]; exact Nat.not_lt.1 h)] at hc
      cases hc

set_option maxHeartbeats 1000000 in
theorem words_spec (s : ByteArray) (hsz : s.size ≤ 1048576) (w : World) :
    Calls Try.prog 9 #[.string s] w (GotStrs w (wordsL s.data.toList)) := by
  obtain ⟨i0, hi, hz0, hz1, hz2⟩ := info_parts infoS
  go_enter Try.func9, Try.ntmps9
  go_wp2_with fail
  have hb0 : Below w.heap.size w (w.alloc (Obj.cells #[] 9)) := (Below.refl _ _).alloc (Nat.le_refl _) _
  go_loopw [3, 4, 5] (fun v i _ wr => ∃ (k : Nat) (ys : List ByteArray), i = .int .i64 k ∧ k ≤ s.size ∧ ys.length ≤ k ∧
      Hid (ys.map (·.data.toList) ++ wordsL (s.data.toList.drop k) = wordsL s.data.toList) ∧
      wr.ownsRow w.heap.size 9 1 v ys.length (strVals ys) ∧ Below w.heap.size w wr)
    (fun _ i _ _ => s.size - (intOf i).toNat)
  case atStart => exact ⟨0, [], rfl, Nat.zero_le _, Nat.le_refl _, Lib.hid (by simp), World.ownsRow_made _ _ 0 (Nat.le_refl _) (by unfold maxLen; omega) rfl, hb0⟩
  case round =>
    obtain ⟨k, ys, rfl, hk, hyl, Hx, hown, hb⟩ := hrel
    have hmono : s.size ≤ 9223372036854775807 := by omega
    by_cases hlt : k < s.size
    · cases hsep : isBL (s[k]'hlt) with
      | true =>
        have HX : Hid (wordsL (s.data.toList.drop k) = wordsL (s.data.toList.drop (k + 1))) := Lib.hid (by rw [drop_step s k hlt]; exact wordsL_blank _ hsep _)
        have HS := Lib.hid hsep; clear hsep
        go_wp2_with (go_at_call 24; refine (blank_val _ _ true HS.out).mono ?_; rintro e w' ⟨rfl, rfl⟩)
        go_roundw
        case rel => exact ⟨k + 1, ys, by go_num, by omega, by omega, Lib.hid (by rw [← Hx.out, HX.out]), hown, hb⟩
        case measure => simp [intOf]; omega
      | false =>
        have HS := Lib.hid hsep; clear hsep
        go_wp2_with (go_at_call 24; refine (blank_val _ _ false HS.out).mono ?_; rintro e w' ⟨rfl, rfl⟩)
        go_loop [5] (fun q => ∃ e : Nat, q = .int .i64 e ∧ k ≤ e ∧ e ≤ s.size ∧ Hid (∀ j (hj : j < s.size), k ≤ j → j < e → isBL (s[j]'hj) = false)) (fun q => s.size - (intOf q).toNat)
        case atStart => exact ⟨k, rfl, Nat.le_refl _, hk, Lib.hid (fun j hj h1 h2 => by omega)⟩
        case round =>
          obtain ⟨e, rfl, hke, hes, hall⟩ := hrel
          by_cases hlt2 : e < s.size
          · cases hsep2 : isBL (s[e]'hlt2) with
            | false =>
              have HS2 := Lib.hid hsep2; clear hsep2
              go_wp2_with (go_at_call 24; refine (blank_val _ _ false HS2.out).mono ?_; rintro e w' ⟨rfl, rfl⟩)
              go_roundw
              case rel =>
                refine ⟨e + 1, by go_num, by omega, by omega, Lib.hid (fun j hj h1 h2 => ?_)⟩
                by_cases hje : j = e
                · subst hje; exact HS2.out
                · exact hall.out j hj h1 (by omega)
              case measure => simp [intOf]; omega
            | true =>
              have hne : k ≠ e := by
                rintro rfl
                rw [HS.out] at hsep2
                cases hsep2
              have HX := Lib.hid (words_cut s k e (by omega) hes hall.out (fun _ => hsep2))
              have HS2 := Lib.hid hsep2; clear hsep2
              have hsl : (s.extract k e).size ≤ 1048576 := by rw [ByteArray.size_extract]; omega
              go_wp2_with (first | (go_at_call 24; refine (blank_val _ _ true HS2.out).mono ?_; rintro e w' ⟨rfl, rfl⟩) | (at_builtin; refine wpList_append_own _ rfl _ _ 22 rfl w.heap.size 9 i0 (.string .empty) 1 16 Try.underlying22 hi hz0 hz1 hz2 rfl (by decide) _ _ _ rfl (hown.alloc _) ⟨wr.heap.size, 0, none⟩ 1 1 [_] rfl rfl (cell_one_new _ _ _) (by simp [Value.oneCell']) (by unfold maxLen; omega) (by omega) (by have := hb.size; simp; omega) ?_))
              intro v' w1 hown1 hgrow1 _
              have hown2 : w1.ownsRow w.heap.size 9 1 v' (ys ++ [s.extract k e]).length (strVals (ys ++ [s.extract k e])) := by
                simpa [strVals] using hown1
              have hb2 : Below w.heap.size w w1 := (hb.alloc hb.size _).grown hgrow1 (by have := hb.size; simp; omega) (fun g e => (hown.lt g e).1)
              clear hown hown1 hgrow1
              go_wp2_with fail
              go_roundw
              case rel =>
                refine ⟨e, ys ++ [s.extract k e], rfl, by omega, by simp; omega, Lib.hid ?_, hown2, hb2⟩
                rw [← Hx.out, HX.out]
                simp
              case measure => simp [intOf]; omega
          · obtain rfl : e = s.size := by omega
            have HX := Lib.hid (words_cut s k s.size (by omega) (Nat.le_refl _) hall.out (fun h => absurd h (by omega)))
            have hsl : (s.extract k s.size).size ≤ 1048576 := by rw [ByteArray.size_extract]; omega
            go_wp2_with (at_builtin; refine wpList_append_own _ rfl _ _ 22 rfl w.heap.size 9 i0 (.string .empty) 1 16 Try.underlying22 hi hz0 hz1 hz2 rfl (by decide) _ _ _ rfl (hown.alloc _) ⟨wr.heap.size, 0, none⟩ 1 1 [_] rfl rfl (cell_one_new _ _ _) (by simp [Value.oneCell']) (by unfold maxLen; omega) (by omega) (by have := hb.size; simp; omega) ?_)
            intro v' w1 hown1 hgrow1 _
            have hown2 : w1.ownsRow w.heap.size 9 1 v' (ys ++ [s.extract k s.size]).length (strVals (ys ++ [s.extract k s.size])) := by
              simpa [strVals] using hown1
            have hb2 : Below w.heap.size w w1 := (hb.alloc hb.size _).grown hgrow1 (by have := hb.size; simp; omega) (fun g e => (hown.lt g e).1)
            clear hown hown1 hgrow1
            go_wp2_with fail
            go_roundw
            case rel =>
              refine ⟨s.size, ys ++ [s.extract k s.size], rfl, by omega, by simp; omega, Lib.hid ?_, hown2, hb2⟩
              rw [← Hx.out, HX.out]
              simp
            case measure => simp [intOf]; omega
    · obtain rfl : k = s.size := by omega
      have hx := Hx.out
      rw [List.drop_of_length_le (by rw [Array.length_toList]; exact Nat.le_refl _)] at hx
      have hx2 : ys.map (·.data.toList) = wordsL s.data.toList := by rw [← hx]; simp [wordsL, partsL]
      have HC := Lib.hid hx2; clear hx hx2
      go_wp2_with fail
      go_ret
      exact ⟨_, ys, rfl, HC.out, hown, hb⟩
end Go.Proofs.Ytjljdkamidppbab
