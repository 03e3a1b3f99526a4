/- TableOk and Look of the program. -/
import Derived.Test.YtleebmbnjdoinaaOrd
import Derived.Test.YtleebmbnjdoinaaTbL
import Derived.IntWalk
namespace Go.Proofs.Ytleebmbnjdoinaa
open Go.RowKit

theorem time_impl (x : Int) (w : World) : Calls Try.prog 52 #[.int .i64 x] w fun e w' => e = .returned (.bool (decide (0 ≤ x ∧ x ≤ 1000000000))) ∧ w = w' := by
  obtain ⟨d, hd⟩ : ∃ d, decide (0 ≤ x ∧ x ≤ 1000000000) = d := ⟨_, rfl⟩
  rw [hd]
  by_cases h0 : 0 ≤ x
  · by_cases h1 : x ≤ 1000000000
    · obtain rfl : d = true := by rw [← hd]; exact decide_eq_true (by omega)
      clear hd
      go_enter Try.func52, Try.ntmps52
      go_wp2_with fail
      go_ret
      exact ⟨rfl, rfl⟩
    · obtain rfl : d = false := by rw [← hd]; exact decide_eq_false (by omega)
      clear hd
      go_enter Try.func52, Try.ntmps52
      go_wp2_with fail
      go_ret
      exact ⟨rfl, rfl⟩
  · obtain rfl : d = false := by rw [← hd]; exact decide_eq_false (by omega)
    clear hd
    go_enter Try.func52, Try.ntmps52
    go_wp2_with fail
    go_ret
    exact ⟨rfl, rfl⟩
theorem port_impl (x : Int) (w : World) : Calls Try.prog 69 #[.int .i64 x] w fun e w' => e = .returned (.bool (decide (0 ≤ x ∧ x ≤ 15))) ∧ w = w' := by
  obtain ⟨d, hd⟩ : ∃ d, decide (0 ≤ x ∧ x ≤ 15) = d := ⟨_, rfl⟩
  rw [hd]
  by_cases h0 : 0 ≤ x
  · by_cases h1 : x < 16
    · obtain rfl : d = true := by rw [← hd]; exact decide_eq_true (by omega)
      clear hd
      go_enter Try.func69, Try.ntmps69
      go_wp2_with fail
      go_ret
      exact ⟨rfl, rfl⟩
    · obtain rfl : d = false := by rw [← hd]; exact decide_eq_false (by omega)
      clear hd
      go_enter Try.func69, Try.ntmps69
      go_wp2_with fail
      go_ret
      exact ⟨rfl, rfl⟩
  · obtain rfl : d = false := by rw [← hd]; exact decide_eq_false (by omega)
    clear hd
    go_enter Try.func69, Try.ntmps69
    go_wp2_with fail
    go_ret
    exact ⟨rfl, rfl⟩
theorem vid5_impl (x : Int) (w : World) : Calls Try.prog 67 #[.int .i64 x] w fun e w' => e = .returned (.bool (decide (1 ≤ x ∧ x ≤ 4094))) ∧ w = w' := by
  obtain ⟨d, hd⟩ : ∃ d, decide (1 ≤ x ∧ x ≤ 4094) = d := ⟨_, rfl⟩
  rw [hd]
  by_cases h0 : 1 ≤ x
  · by_cases h1 : x ≤ 4094
    · obtain rfl : d = true := by rw [← hd]; exact decide_eq_true (by omega)
      clear hd
      go_enter Try.func67, Try.ntmps67
      go_wp2_with fail
      go_ret
      exact ⟨rfl, rfl⟩
    · obtain rfl : d = false := by rw [← hd]; exact decide_eq_false (by omega)
      clear hd
      go_enter Try.func67, Try.ntmps67
      go_wp2_with fail
      go_ret
      exact ⟨rfl, rfl⟩
  · obtain rfl : d = false := by rw [← hd]; exact decide_eq_false (by omega)
    clear hd
    go_enter Try.func67, Try.ntmps67
    go_wp2_with fail
    go_ret
    exact ⟨rfl, rfl⟩

theorem single_impl (m : Int) (w : World) : Calls Try.prog 68 #[.int .i64 m] w fun e w' => e = .returned (.bool (decide (isMac m) && !decide (isGrp m))) ∧ w = w' := by
  have h2 := macOk_impl m
  have h3 := group_impl m
  generalize decide (isMac m) = b2 at *
  generalize decide (isGrp m) = b3 at *
  have H2 := Lib.hid h2; have H3 := Lib.hid h3
  clear h2 h3
  go_enter Try.func68, Try.ntmps68
  go_wp2_with fail
  refine (H2.out _).mono ?_
  rintro e w1 ⟨rfl, rfl⟩
  cases b2
  · go_wp2_with fail
    go_ret
    exact ⟨rfl, rfl⟩
  go_wp2_with fail
  refine (H3.out _).mono ?_
  rintro e w1 ⟨rfl, rfl⟩
  go_wp2_with fail
  go_ret
  exact ⟨by cases b3 <;> rfl, rfl⟩

theorem rowOk_impl (r : Rw) (w : World) : Calls Try.prog 41 #[r.val] w fun e w' => e = .returned (.bool (decide (rowOk r))) ∧ Below w.heap.size w w' := by
  have h1 := vid5_impl r.vid
  have h2 := single_impl r.mac
  have h4 := port_impl r.port
  have h5 := time_impl r.at_
  have hd : decide (rowOk r) = (decide (1 ≤ r.vid ∧ r.vid ≤ 4094) && ((decide (isMac r.mac) && !decide (isGrp r.mac)) && (decide (0 ≤ r.port ∧ r.port ≤ 15) && decide (0 ≤ r.at_ ∧ r.at_ ≤ 1000000000)))) := by
    rw [Bool.eq_iff_iff, decide_eq_true_iff]
    unfold rowOk
    simp only [decide_eq_true_iff, Bool.and_eq_true, Bool.not_eq_true', decide_eq_false_iff_not, and_assoc]
  rw [hd]
  clear hd
  generalize decide (1 ≤ r.vid ∧ r.vid ≤ 4094) = b1 at *
  generalize (decide (isMac r.mac) && !decide (isGrp r.mac)) = b2 at *
  generalize decide (0 ≤ r.port ∧ r.port ≤ 15) = b4 at *
  generalize decide (0 ≤ r.at_ ∧ r.at_ ≤ 1000000000) = b5 at *
  obtain ⟨a0, a1, a2, a3, a4⟩ := r
  unfold Rw.val at *
  simp only at h1 h2 h4 h5 ⊢
  have H1 := Lib.hid h1; have H2 := Lib.hid h2; have H4 := Lib.hid h4; have H5 := Lib.hid h5
  have HB := Lib.hid (fun o => (Below.refl w.heap.size w).alloc (Nat.le_refl _) o)
  clear h1 h2 h4 h5
  go_enter Try.func41, Try.ntmps41
  go_wp2_with fail
  refine (H1.out _).mono ?_
  rintro e w1 ⟨rfl, rfl⟩
  cases b1
  · go_wp2_with fail
    go_ret
    exact ⟨rfl, HB.out _⟩
  go_wp2_with fail
  refine (H2.out _).mono ?_
  rintro e w1 ⟨rfl, rfl⟩
  cases b2
  · go_wp2_with fail
    go_ret
    exact ⟨rfl, HB.out _⟩
  go_wp2_with fail
  refine (H4.out _).mono ?_
  rintro e w1 ⟨rfl, rfl⟩
  cases b4
  · go_wp2_with fail
    go_ret
    exact ⟨rfl, HB.out _⟩
  go_wp2_with fail
  refine (H5.out _).mono ?_
  rintro e w1 ⟨rfl, rfl⟩
  go_wp2_with fail
  go_ret
  exact ⟨by cases b5 <;> rfl, HB.out _⟩

set_option linter.unusedSimpArgs false in
set_option maxHeartbeats 2000000 in
theorem tableOk_impl {w : World} {B : List Nat} {v : Value} {t : Tb} (h : TabIn w B v t) : Calls Try.prog 19 #[v] w fun e w' => e = .returned (.bool (decide (tabOk t))) ∧ Below w.heap.size w w' := by
  obtain ⟨a, cap, rfl, hs, _, hl, _⟩ := h
  obtain ⟨rs, most⟩ := t
  simp only at hs hl ⊢
  have hb1 : Below w.heap.size w (w.alloc (.cells #[.slice a rs.length cap, .int .i64 most] 26)) := (Below.refl _ _).alloc (Nat.le_refl _) _
  have kA : Blk (w.alloc (.cells #[.slice a rs.length cap, .int .i64 most] 26)) w.heap.size #[.slice a rs.length cap, .int .i64 most] 26 := blk_new _ _ rfl
  replace hs := hs.after hb1
  have HB1 := Lib.hid hb1; have HKA := Lib.hid kA; have HSL := Lib.hid hs
  unfold tabVal
  by_cases hm0 : most < 0
  · rw [decide_eq_false (fun h : tabOk ⟨rs, most⟩ => absurd h.1.1 (by simp only; omega))]
    clear hs kA hb1
    go_enter Try.func19, Try.ntmps19
    go_wp2_with fail
    go_ret
    exact ⟨rfl, HB1.out⟩
  by_cases hm1 : 64 < most
  · rw [decide_eq_false (fun h : tabOk ⟨rs, most⟩ => absurd h.1.2 (by simp only; omega))]
    clear hs kA hb1
    go_enter Try.func19, Try.ntmps19
    go_wp2_with fail
    go_ret
    exact ⟨rfl, HB1.out⟩
  by_cases hlm : most < (rs.length : Int)
  · rw [decide_eq_false (fun h : tabOk ⟨rs, most⟩ => absurd h.2.1 (by simp only; omega))]
    clear hs kA hb1
    go_enter Try.func19, Try.ntmps19
    go_wp2_with fail
    go_ret
    exact ⟨rfl, HB1.out⟩
  have HM0 := Lib.hid (show 0 ≤ most by omega); have HM1 := Lib.hid (show most ≤ 64 by omega); have HLM := Lib.hid (show (rs.length : Int) ≤ most by omega)
  clear hs kA hb1
  have hs64 : rs.length ≤ 64 := by omega
  obtain ⟨n, hn⟩ : ∃ n, rs.length = n := ⟨_, rfl⟩
  rw [hn] at HB1 HKA HSL hs64 hlm HLM ⊢
  have HN := Lib.hid hn
  clear hn hl
  go_enter Try.func19, Try.ntmps19
  go_wp2_with fail
  generalize w.alloc (.cells #[.slice a n cap, .int .i64 most] 26) = w1 at HB1 HKA HSL ⊢
  clear hm0 hm1 hlm
  go_loopw [24] (fun i wr => ∃ k : Nat, i = .int .i64 (k : Nat) ∧ k ≤ n ∧ Below w1.heap.size w1 wr ∧ Hid (goodTo rs k))
    (fun i _ => n - (intOf i).toNat)
  case atStart => exact ⟨0, rfl, Nat.zero_le _, Below.refl _ _, Lib.hid (fun j hj => absurd hj (by omega))⟩
  case round =>
    obtain ⟨k, rfl, hk, hWR, HG⟩ := hrel
    have kA := HKA.out.after hWR
    have HWR := Lib.hid hWR
    clear hWR
    by_cases hlt : k < n
    · have hkx : k < rs.length := by rw [HN.out]; exact hlt
      obtain ⟨g, o, rfl, _, hK'⟩ := rowAt HSL.out k hkx
      obtain ⟨d0, d1, d2, d3, d4⟩ := (hK' wr HWR.out).1
      clear hK'
      have hRO := rowOk_impl rs[k]
      obtain ⟨x0, hx0⟩ : ∃ x, rs[k].vid = x := ⟨_, rfl⟩
      obtain ⟨x1, hx1⟩ : ∃ x, rs[k].mac = x := ⟨_, rfl⟩
      obtain ⟨x2, hx2⟩ : ∃ x, rs[k].port = x := ⟨_, rfl⟩
      obtain ⟨x3, hx3⟩ : ∃ x, rs[k].at_ = x := ⟨_, rfl⟩
      obtain ⟨x4, hx4⟩ : ∃ x, rs[k].fixed = x := ⟨_, rfl⟩
      have hval : rs[k].val = .agg #[.int .i64 x0, .int .i64 x1, .int .i64 x2, .int .i64 x3, .bool x4] := by unfold Rw.val; rw [hx0, hx1, hx2, hx3, hx4]
      rw [hx0] at d0
      rw [hx1] at d1
      rw [hx2] at d2
      rw [hx3] at d3
      rw [hx4] at d4
      have hKX := fun w' => key_any rs[k] w'
      rw [hval] at hRO hKX
      rw [hx0, hx1] at hKX
      clear hx2 hx3 hx4 hval
      have HRO := Lib.hid hRO; have HKX := Lib.hid hKX; have HX0 := Lib.hid hx0; have HX1 := Lib.hid hx1
      clear hRO hKX hx0 hx1
      have hb2 : Below wr.heap.size wr (wr.alloc (.cells #[.int .i64 x0, .int .i64 x1, .int .i64 x2, .int .i64 x3, .bool x4] 34)) := (Below.refl _ _).alloc (Nat.le_refl _) _
      have kR : Blk (wr.alloc (.cells #[.int .i64 x0, .int .i64 x1, .int .i64 x2, .int .i64 x3, .bool x4] 34)) wr.heap.size #[.int .i64 x0, .int .i64 x1, .int .i64 x2, .int .i64 x3, .bool x4] 34 := blk_new _ _ rfl
      have HB2 := Lib.hid hb2; have HKR := Lib.hid kR; have HKA2 := Lib.hid kA
      clear hb2 kR kA
      go_wp2_with fail
      generalize wr.alloc (.cells #[.int .i64 x0, .int .i64 x1, .int .i64 x2, .int .i64 x3, .bool x4] 34) = w2 at HB2 HKR ⊢
      refine (HRO.out _).mono ?_
      rintro e w4 ⟨rfl, hb4⟩
      have HB4 := Lib.hid (HB2.out.trans (hb4.mono HB2.out.size))
      have kR4 := HKR.out.after hb4
      clear hb4 d0 d1 d2 d3 d4
      by_cases hrk : rowOk rs[k]
      · rw [decide_eq_true hrk]
        have HRK := Lib.hid hrk
        clear hrk
        by_cases hk0 : k = 0
        · subst hk0
          have hGd := Lib.hid (good_step HG.out hkx HRK.out (fun h => absurd h (by decide)))
          clear kR4
          go_upto_region 8 with fail
          refine wp_region_held_drew (S := fun w' => Below w4.heap.size w4 w') (by kernel_rfl) (Below.drew (Below.refl _ _)) (fun hHeld => ?_)
          refine wpAnyH_take (i := 0) (v := ?v13) rfl (by kernel_rfl) (by kernel_rfl) (by kernel_rfl) (fun _ _ _ h => h) (Or.inl ⟨by rfl, ?h13⟩) hHeld ?r13
          case h13 => intro wq hS; go_simp; with_reducible rfl
          try simp only [Act.put, List.getElem_toArray, List.getElem_cons_zero, List.getElem_cons_succ, List.setIfInBounds_toArray, List.set_cons_zero, List.set_cons_succ]
          refine wpAnyH_take (i := 1) (v := ?v14) rfl (by kernel_rfl) (by kernel_rfl) (by kernel_rfl) (fun _ _ _ h => h) (Or.inl ⟨by rfl, ?h14⟩) hHeld ?r14
          case h14 => intro wq hS; go_simp; with_reducible rfl
          try simp only [Act.put, List.getElem_toArray, List.getElem_cons_zero, List.getElem_cons_succ, List.setIfInBounds_toArray, List.set_cons_zero, List.set_cons_succ]
          refine wpAnyH_take (i := 2) (v := ?v15) rfl (by kernel_rfl) (by kernel_rfl) (by kernel_rfl) (fun _ _ _ h => h) (Or.inl ⟨by rfl, ?h15⟩) hHeld ?r15
          case h15 => intro wq hS; go_simp; with_reducible rfl
          try simp only [Act.put, List.getElem_toArray, List.getElem_cons_zero, List.getElem_cons_succ, List.setIfInBounds_toArray, List.set_cons_zero, List.set_cons_succ]
          refine wpAnyH_take (i := 3) (v := undef) rfl (by kernel_rfl) (by kernel_rfl) (by kernel_rfl) (fun _ _ _ h => h) (Or.inr ⟨by rfl, rfl⟩) hHeld ?r16
          try simp only [Act.put, List.getElem_toArray, List.getElem_cons_zero, List.getElem_cons_succ, List.setIfInBounds_toArray, List.set_cons_zero, List.set_cons_succ]
          refine wpAnyH_take (i := 4) (v := undef) rfl (by kernel_rfl) (by kernel_rfl) (by kernel_rfl) (fun _ _ _ h => h) (Or.inr ⟨by rfl, rfl⟩) hHeld ?r17
          try simp only [Act.put, List.getElem_toArray, List.getElem_cons_zero, List.getElem_cons_succ, List.setIfInBounds_toArray, List.set_cons_zero, List.set_cons_succ]
          refine wpAnyH_take (i := 5) (v := undef) rfl (by kernel_rfl) (by kernel_rfl) (by kernel_rfl) (fun _ _ _ h => h) (Or.inr ⟨by rfl, rfl⟩) hHeld ?r18
          try simp only [Act.put, List.getElem_toArray, List.getElem_cons_zero, List.getElem_cons_succ, List.setIfInBounds_toArray, List.set_cons_zero, List.set_cons_succ]
          refine wpAnyH_take (i := 6) (v := undef) rfl (by kernel_rfl) (by kernel_rfl) (by kernel_rfl) (fun _ _ _ h => h) (Or.inr ⟨by rfl, rfl⟩) hHeld ?r19
          try simp only [Act.put, List.getElem_toArray, List.getElem_cons_zero, List.getElem_cons_succ, List.setIfInBounds_toArray, List.set_cons_zero, List.set_cons_succ]
          refine wpAnyH_take (i := 7) (v := undef) rfl (by kernel_rfl) (by kernel_rfl) (by kernel_rfl) (fun _ _ _ h => h) (Or.inr ⟨by rfl, rfl⟩) hHeld ?r20
          try simp only [Act.put, List.getElem_toArray, List.getElem_cons_zero, List.getElem_cons_succ, List.setIfInBounds_toArray, List.set_cons_zero, List.set_cons_succ]
          refine wpAnyH_take (i := 8) (v := undef) rfl (by kernel_rfl) (by kernel_rfl) (by kernel_rfl) (fun _ _ _ h => h) (Or.inr ⟨by rfl, rfl⟩) hHeld ?r21
          try simp only [Act.put, List.getElem_toArray, List.getElem_cons_zero, List.getElem_cons_succ, List.setIfInBounds_toArray, List.set_cons_zero, List.set_cons_succ]
          refine wpAnyH_take (i := 9) (v := undef) rfl (by kernel_rfl) (by kernel_rfl) (by kernel_rfl) (fun _ _ _ h => h) (Or.inr ⟨by rfl, rfl⟩) hHeld ?r22
          try simp only [Act.put, List.getElem_toArray, List.getElem_cons_zero, List.getElem_cons_succ, List.setIfInBounds_toArray, List.set_cons_zero, List.set_cons_succ]
          refine wpAnyH_take (i := 10) (v := undef) rfl (by kernel_rfl) (by kernel_rfl) (by kernel_rfl) (fun _ _ _ h => h) (Or.inr ⟨by rfl, rfl⟩) hHeld ?r23
          try simp only [Act.put, List.getElem_toArray, List.getElem_cons_zero, List.getElem_cons_succ, List.setIfInBounds_toArray, List.set_cons_zero, List.set_cons_succ]
          refine wpAnyH_take (i := 11) (v := undef) rfl (by kernel_rfl) (by kernel_rfl) (by kernel_rfl) (fun _ _ _ h => h) (Or.inr ⟨by rfl, rfl⟩) hHeld ?r24
          try simp only [Act.put, List.getElem_toArray, List.getElem_cons_zero, List.getElem_cons_succ, List.setIfInBounds_toArray, List.set_cons_zero, List.set_cons_succ]
          refine wpAnyH_take (i := 12) (v := undef) rfl (by kernel_rfl) (by kernel_rfl) (by kernel_rfl) (fun _ _ _ h => h) (Or.inr ⟨by rfl, rfl⟩) hHeld ?r25
          try simp only [Act.put, List.getElem_toArray, List.getElem_cons_zero, List.getElem_cons_succ, List.setIfInBounds_toArray, List.set_cons_zero, List.set_cons_succ]
          refine wpAnyH_take (i := 13) (v := undef) rfl (by kernel_rfl) (by kernel_rfl) (by kernel_rfl) (fun _ _ _ h => h) (Or.inr ⟨by rfl, rfl⟩) hHeld ?r26
          try simp only [Act.put, List.getElem_toArray, List.getElem_cons_zero, List.getElem_cons_succ, List.setIfInBounds_toArray, List.set_cons_zero, List.set_cons_succ]
          refine wpAnyH_take (i := 14) (v := ?v27) rfl (by kernel_rfl) (by kernel_rfl) (by kernel_rfl) (fun _ _ _ h => h) (Or.inl ⟨by rfl, ?h27⟩) hHeld ?r27
          case h27 => intro wq hS; go_simp; with_reducible rfl
          try simp only [Act.put, List.getElem_toArray, List.getElem_cons_zero, List.getElem_cons_succ, List.setIfInBounds_toArray, List.set_cons_zero, List.set_cons_succ]
          refine wpAnyH_done (by kernel_rfl) ?_ _
          have hbf := HB4.out.trans (hHeld.mono HB4.out.size)
          have HBF := Lib.hid hbf
          clear hHeld hbf
          go_wp2_with fail
          go_roundw
          case rel => exact ⟨0 + 1, by go_num, by omega, HWR.out.trans (HBF.out.mono HWR.out.size), hGd⟩
          case measure => simp [intOf]; omega
        · obtain ⟨k', rfl⟩ : ∃ k', k = k' + 1 := ⟨k - 1, by omega⟩
          have hpx : k' < rs.length := by omega
          have hw1 : IntKind.i64.wrap (k' : Int) = (k' : Int) := IntWalk.i64_in _ (by omega)
          have hi0 : 0 ≤ (k' : Int) + 1 := by omega
          have hi1 : (k' : Int) < (n : Int) := by omega
          have hi2 : 0 < (k' : Int) + 1 := by omega
          obtain ⟨_, _, e, _, hP'⟩ := rowAt HSL.out k' hpx
          cases e
          have hP := fun w' (hb : Below w4.heap.size w4 w') => (hP' w' ((HWR.out.trans (HB4.out.mono HWR.out.size)).trans (hb.mono (HWR.out.trans (HB4.out.mono HWR.out.size)).size))).1
          have hCA : ∀ w', Below w4.heap.size w4 w' → w'.cell? ⟨w.heap.size, 0, none⟩ = some (.slice (some ⟨g, o, none⟩) n cap) := fun w' hb => ((HKA2.out.after HB4.out).after hb).cell 0
          have hK : ∀ w', Below w4.heap.size w4 w' → RowAt w' wr.heap.size 0 ⟨x0, x1, x2, x3, x4⟩ := fun w' hb => ⟨(kR4.after hb).cell 0, (kR4.after hb).cell 1, (kR4.after hb).cell 2, (kR4.after hb).cell 3, (kR4.after hb).cell 4⟩
          unfold RowAt at hK
          simp only [Nat.zero_add] at hK
          have hKY := fun w' => key_any rs[k'] w'
          have hKC := kcompare_any rs[k'].vid rs[k'].mac x0 x1
          have hkeq : keyCmp rs[k'] rs[k' + 1] = orI (cmpI rs[k'].vid x0) (cmpI rs[k'].mac x1) := by rw [← HX0.out, ← HX1.out]; rfl
          obtain ⟨y0, hy0⟩ : ∃ x, rs[k'].vid = x := ⟨_, rfl⟩
          obtain ⟨y1, hy1⟩ : ∃ x, rs[k'].mac = x := ⟨_, rfl⟩
          unfold Rw.val RowAt at *
          rw [hy0, hy1] at hKY hKC hkeq hP
          generalize orI (cmpI y0 x0) (cmpI y1 x1) = kc at hKC hkeq
          have HKEQ := Lib.hid hkeq
          generalize rs[k'].port = y2 at hP hKY
          generalize rs[k'].at_ = y3 at hP hKY
          generalize rs[k'].fixed = y4 at hP hKY
          have HKY := Lib.hid hKY; have HKC := Lib.hid hKC
          clear hKY hKC hP' hkeq hy0 hy1 kR4
          go_upto_region 8 with fail
          refine wp_region_held_drew (S := fun w' => Below w4.heap.size w4 w') (by kernel_rfl) (Below.drew (Below.refl _ _)) (fun hHeld => ?_)
          refine wpAnyH_take (i := 0) (v := ?v1) rfl (by kernel_rfl) (by kernel_rfl) (by kernel_rfl) (fun _ _ _ h => h) (Or.inl ⟨by rfl, ?h1⟩) hHeld ?r1
          case h1 => intro wq hS; go_simp; with_reducible rfl
          try simp only [Act.put, List.getElem_toArray, List.getElem_cons_zero, List.getElem_cons_succ, List.setIfInBounds_toArray, List.set_cons_zero, List.set_cons_succ]
          refine wpAnyH_take (i := 1) (v := ?v2) rfl (by kernel_rfl) (by kernel_rfl) (by kernel_rfl) (fun _ _ _ h => h) (Or.inl ⟨by rfl, ?h2⟩) hHeld ?r2
          case h2 => intro wq hS; go_simp; with_reducible rfl
          try simp only [Act.put, List.getElem_toArray, List.getElem_cons_zero, List.getElem_cons_succ, List.setIfInBounds_toArray, List.set_cons_zero, List.set_cons_succ]
          refine wpAnyH_take (i := 2) (v := ?v3) rfl (by kernel_rfl) (by kernel_rfl) (by kernel_rfl) (fun _ _ _ h => h) (Or.inl ⟨by rfl, ?h3⟩) hHeld ?r3
          case h3 => intro wq hS; go_simp; with_reducible rfl
          try simp only [Act.put, List.getElem_toArray, List.getElem_cons_zero, List.getElem_cons_succ, List.setIfInBounds_toArray, List.set_cons_zero, List.set_cons_succ]
          refine wpAnyH_take (i := 3) (v := ?v4) rfl (by kernel_rfl) (by kernel_rfl) (by kernel_rfl) (fun _ _ _ h => h) (Or.inl ⟨by rfl, ?h4⟩) hHeld ?r4
          case h4 => intro wq hS; go_simp; with_reducible rfl
          try simp only [Act.put, List.getElem_toArray, List.getElem_cons_zero, List.getElem_cons_succ, List.setIfInBounds_toArray, List.set_cons_zero, List.set_cons_succ]
          refine wpAnyH_take (i := 4) (v := ?v5) rfl (by kernel_rfl) (by kernel_rfl) (by kernel_rfl) (fun _ _ _ h => h) (Or.inl ⟨by rfl, ?h5⟩) hHeld ?r5
          case h5 => intro wq hS; have cA := hCA wq hS; go_simp; with_reducible rfl
          try simp only [Act.put, List.getElem_toArray, List.getElem_cons_zero, List.getElem_cons_succ, List.setIfInBounds_toArray, List.set_cons_zero, List.set_cons_succ]
          refine wpAnyH_take (i := 5) (v := ?v6) rfl (by kernel_rfl) (by kernel_rfl) (by kernel_rfl) (fun _ _ _ h => h) (Or.inl ⟨by rfl, ?h6⟩) hHeld ?r6
          case h6 => intro wq hS; go_simp; with_reducible rfl
          try simp only [Act.put, List.getElem_toArray, List.getElem_cons_zero, List.getElem_cons_succ, List.setIfInBounds_toArray, List.set_cons_zero, List.set_cons_succ]
          refine wpAnyH_take (i := 6) (v := ?v7) rfl (by kernel_rfl) (by kernel_rfl) (by kernel_rfl) (fun _ _ _ h => h) (Or.inl ⟨by rfl, ?h7⟩) hHeld ?r7
          case h7 => intro wq hS; go_simp; with_reducible rfl
          try simp only [Act.put, List.getElem_toArray, List.getElem_cons_zero, List.getElem_cons_succ, List.setIfInBounds_toArray, List.set_cons_zero, List.set_cons_succ]
          refine wpAnyH_take (i := 7) (v := ?v8) rfl (by kernel_rfl) (by kernel_rfl) (by kernel_rfl) (fun _ _ _ h => h) (Or.inl ⟨by rfl, ?h8⟩) hHeld ?r8
          case h8 => intro wq hS; go_simp; with_reducible rfl
          try simp only [Act.put, List.getElem_toArray, List.getElem_cons_zero, List.getElem_cons_succ, List.setIfInBounds_toArray, List.set_cons_zero, List.set_cons_succ]
          refine wpAnyH_take (i := 8) (v := ?v9) rfl (by kernel_rfl) (by kernel_rfl) (by kernel_rfl) (fun _ _ _ h => h) (Or.inl ⟨by rfl, ?h9⟩) hHeld ?r9
          case h9 => intro wq hS; obtain ⟨p0, p1, p2, p3, p4⟩ := hP wq hS; go_simp; with_reducible rfl
          try simp only [Act.put, List.getElem_toArray, List.getElem_cons_zero, List.getElem_cons_succ, List.setIfInBounds_toArray, List.set_cons_zero, List.set_cons_succ]
          refine wpAnyH_take (i := 10) (v := ?v10) rfl (by kernel_rfl) (by kernel_rfl) (by kernel_rfl) (fun _ _ _ h => h) (Or.inl ⟨by rfl, ?h10⟩) hHeld ?r10
          case h10 => intro wq hS; obtain ⟨c0, c1, c2, c3, c4⟩ := hK wq hS; go_simp; with_reducible rfl
          try simp only [Act.put, List.getElem_toArray, List.getElem_cons_zero, List.getElem_cons_succ, List.setIfInBounds_toArray, List.set_cons_zero, List.set_cons_succ]
          refine wpAnyH_ready (rs := [9]) (by kernel_rfl) (by simp) ?_
          refine AllReadyH.cons rfl (fun K hK => ?_) AllReadyH.nil
          go_simp
          refine (HKY.out _).mono ?_
          rintro e w5 ⟨rfl, hg5⟩
          have hb5 := hg5.below
          refine hK.out _ _ (hHeld.trans (hb5.mono hHeld.size)) (fun hHeld => ?_)
          clear hK K
          try simp only [Act.put, List.getElem_toArray, List.getElem_cons_zero, List.getElem_cons_succ, List.setIfInBounds_toArray, List.set_cons_zero, List.set_cons_succ]
          refine wpAnyH_ready (rs := [11]) (by kernel_rfl) (by simp) ?_
          refine AllReadyH.cons rfl (fun K hK => ?_) AllReadyH.nil
          go_simp
          refine (HKX.out _).mono ?_
          rintro e w6 ⟨rfl, hg6⟩
          have hb6 := hg6.below
          refine hK.out _ _ (hHeld.trans (hb6.mono hHeld.size)) (fun hHeld => ?_)
          clear hK K
          try simp only [Act.put, List.getElem_toArray, List.getElem_cons_zero, List.getElem_cons_succ, List.setIfInBounds_toArray, List.set_cons_zero, List.set_cons_succ]
          refine wpAnyH_ready (rs := [12]) (by kernel_rfl) (by simp) ?_
          refine AllReadyH.cons rfl (fun K hK => ?_) AllReadyH.nil
          go_simp
          refine (HKC.out _).mono ?_
          rintro e w7 ⟨rfl, hg7⟩
          have hb7 := hg7.below
          refine hK.out _ _ (hHeld.trans (hb7.mono hHeld.size)) (fun hHeld => ?_)
          clear hK K
          try simp only [Act.put, List.getElem_toArray, List.getElem_cons_zero, List.getElem_cons_succ, List.setIfInBounds_toArray, List.set_cons_zero, List.set_cons_succ]
          refine wpAnyH_take (i := 13) (v := ?v11) rfl (by kernel_rfl) (by kernel_rfl) (by kernel_rfl) (fun _ _ _ h => h) (Or.inl ⟨by rfl, ?h11⟩) hHeld ?r11
          case h11 => intro wq hS; go_simp; with_reducible rfl
          try simp only [Act.put, List.getElem_toArray, List.getElem_cons_zero, List.getElem_cons_succ, List.setIfInBounds_toArray, List.set_cons_zero, List.set_cons_succ]
          refine wpAnyH_take (i := 14) (v := ?v12) rfl (by kernel_rfl) (by kernel_rfl) (by kernel_rfl) (fun _ _ _ h => h) (Or.inl ⟨by rfl, ?h12⟩) hHeld ?r12
          case h12 => intro wq hS; go_simp; with_reducible rfl
          try simp only [Act.put, List.getElem_toArray, List.getElem_cons_zero, List.getElem_cons_succ, List.setIfInBounds_toArray, List.set_cons_zero, List.set_cons_succ]
          refine wpAnyH_done (by kernel_rfl) ?_ _
          have hbf := HB4.out.trans (hHeld.mono HB4.out.size)
          have HBF := Lib.hid hbf
          clear hHeld hbf hb5 hb6 hb7 hg5 hg6 hg7 hK hP hCA
          by_cases hah : ahead rs[k'] rs[k' + 1]
          · have hq : ¬ (0 ≤ keyCmp rs[k'] rs[k' + 1]) := by have := (keyCmp_lt _ _).2 hah; omega
            rw [HKEQ.out] at hq
            have hGd := Lib.hid (good_step HG.out hkx HRK.out (fun _ => hah))
            go_wp2_with fail
            go_roundw
            case rel => exact ⟨k' + 1 + 1, by go_num, by omega, HWR.out.trans (HBF.out.mono HWR.out.size), hGd⟩
            case measure => simp [intOf]; omega
          · have hq : 0 ≤ keyCmp rs[k'] rs[k' + 1] := by have := mt (keyCmp_lt _ _).1 hah; omega
            rw [HKEQ.out] at hq
            have hno : ¬ tabOk ⟨rs, most⟩ := fun h => hah ((h.2.2 (k' + 1) hkx).2 (Nat.succ_pos _))
            have HNO := Lib.hid hno
            clear hno hah
            go_wp2_with fail
            go_ret
            exact ⟨by rw [decide_eq_false HNO.out]; rfl, HB1.out.trans ((HWR.out.trans (HBF.out.mono HWR.out.size)).mono HB1.out.size)⟩
      · have hno : ¬ tabOk ⟨rs, most⟩ := fun h => hrk (h.2.2 k hkx).1
        rw [decide_eq_false hrk]
        have HNO := Lib.hid hno
        clear hno hrk kR4
        go_wp2_with fail
        go_ret
        exact ⟨by rw [decide_eq_false HNO.out]; rfl, HB1.out.trans ((HWR.out.trans (HB4.out.mono HWR.out.size)).mono HB1.out.size)⟩
    · have hke : k = n := by omega
      have hlt' : ¬ ((k : Int) < (n : Int)) := by omega
      have hall : tabOk ⟨rs, most⟩ := ⟨⟨HM0.out, HM1.out⟩, by rw [HN.out]; exact HLM.out, fun j hj => HG.out j (by rw [HN.out] at hj; omega) hj⟩
      have HALL := Lib.hid hall
      clear hall kA
      go_wp2_with fail
      go_ret
      exact ⟨by rw [decide_eq_true HALL.out]; rfl, HB1.out.trans (HWR.out.mono HB1.out.size)⟩
end Go.Proofs.Ytleebmbnjdoinaa

