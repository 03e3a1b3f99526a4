/- FrameOk of the program. -/
import Derived.Test.YtfkpecildcejkaaFr
namespace Go.Proofs.Ytfkpecildcejkaa
open Go.RowKit

theorem vid_impl (n : Int) (w : World) : Calls Try.prog 55 #[.int .i64 n] w fun e w' => e = .returned (.bool (decide (1 ≤ n ∧ n ≤ 4094))) ∧ w = w' := by
  by_cases h1 : 1 ≤ n
  · go_enter Try.func55, Try.ntmps55
    go_wp2_with fail
    go_ret
    exact ⟨by simp [h1], rfl⟩
  · have h1' : n < 1 := by omega
    go_enter Try.func55, Try.ntmps55
    go_wp2_with fail
    go_ret
    exact ⟨by simp [show ¬ (1 ≤ n) by omega], rfl⟩

theorem type_impl (t : Int) (w : World) : Calls Try.prog 50 #[.int .i64 t] w fun e w' => e = .returned (.bool (decide (typeOk t))) ∧ w = w' := by
  unfold typeOk
  by_cases h1 : 1536 ≤ t
  · by_cases h2 : t ≤ 65535
    · go_enter Try.func50, Try.ntmps50
      go_wp2_with fail
      go_ret
      exact ⟨by simp [h1, h2, bne]; rfl, rfl⟩
    · have h2' : 65535 < t := by omega
      go_enter Try.func50, Try.ntmps50
      go_wp2_with fail
      go_ret
      exact ⟨by simp [show ¬ (t ≤ 65535) by omega], rfl⟩
  · have h1' : t < 1536 := by omega
    go_enter Try.func50, Try.ntmps50
    go_wp2_with fail
    go_ret
    exact ⟨by simp [show ¬ (1536 ≤ t) by omega], rfl⟩

theorem tag_impl (f : Fr) (w : World) : Calls Try.prog 49 #[f.val] w fun e w' => e = .returned (.bool (decide (tagOk f))) ∧ Below w.heap.size w w' := by
  obtain ⟨dst, src, tagged, vid, pri, type, body⟩ := f
  unfold Fr.val tagOk
  simp only
  cases tagged
  · simp only [Bool.false_eq_true, if_false]
    by_cases hv : vid = 0
    · subst hv
      go_enter Try.func49, Try.ntmps49
      go_wp2_with fail
      go_ret
      refine ⟨?_, (Below.refl _ _).alloc (Nat.le_refl _) _⟩
      simp
      rfl
    · go_enter Try.func49, Try.ntmps49
      go_wp2_with fail
      go_ret
      refine ⟨?_, (Below.refl _ _).alloc (Nat.le_refl _) _⟩
      simp [hv]
  · simp only [if_true]
    have hV := vid_impl vid
    by_cases hv : 1 ≤ vid ∧ vid ≤ 4094
    · rw [decide_eq_true hv] at hV
      have HV := Lib.hid hV; clear hV
      by_cases h0 : 0 ≤ pri
      · have Hv := Lib.hid hv; clear hv
        go_enter Try.func49, Try.ntmps49
        go_wp2_with fail
        refine (HV.out _).mono ?_
        rintro e w1 ⟨rfl, rfl⟩
        go_wp2_with fail
        go_ret
        refine ⟨?_, (Below.refl _ _).alloc (Nat.le_refl _) _⟩
        simp [Hv.out, h0]
      · have h0' : pri < 0 := by omega
        have Hv := Lib.hid hv; clear hv
        go_enter Try.func49, Try.ntmps49
        go_wp2_with fail
        refine (HV.out _).mono ?_
        rintro e w1 ⟨rfl, rfl⟩
        go_wp2_with fail
        go_ret
        refine ⟨?_, (Below.refl _ _).alloc (Nat.le_refl _) _⟩
        simp [Hv.out, show ¬ (0 ≤ pri) by omega]
    · rw [decide_eq_false hv] at hV
      have HV := Lib.hid hV; clear hV
      have Hv := Lib.hid hv; clear hv
      go_enter Try.func49, Try.ntmps49
      go_wp2_with fail
      refine (HV.out _).mono ?_
      rintro e w1 ⟨rfl, rfl⟩
      go_wp2_with fail
      go_ret
      refine ⟨?_, (Below.refl _ _).alloc (Nat.le_refl _) _⟩
      rw [decide_eq_false (fun h => Hv.out h.1)]
      rfl

theorem single_fr (m : Int) (w : World) : Calls Try.prog 48 #[.int .i64 m] w fun e w' => e = .returned (.bool (decide (isMac m) && !decide (isGrp m))) ∧ w = w' := by
  have h2 := macOk_impl m
  have h3 := group_impl m
  generalize decide (isMac m) = b2 at *
  generalize decide (isGrp m) = b3 at *
  have H2 := Lib.hid h2; have H3 := Lib.hid h3
  clear h2 h3
  go_enter Try.func48, Try.ntmps48
  go_wp2_with fail
  refine (H2.out _).mono ?_
  rintro e w1 ⟨rfl, rfl⟩
  cases b2
  · go_wp2_with fail
    go_ret
    exact ⟨rfl, rfl⟩
  go_wp2_with fail
  refine (H3.out _).mono ?_
  rintro e w1 ⟨rfl, rfl⟩
  go_wp2_with fail
  go_ret
  exact ⟨by cases b3 <;> rfl, rfl⟩

set_option maxHeartbeats 2000000 in
theorem frameOk_impl (f : Fr) (hbs : f.body.size ≤ 1048576) (w : World) :
    Calls Try.prog 17 #[f.val] w fun e w' => e = .returned (.bool (decide (frOk f))) ∧ Below w.heap.size w w' := by
  have hT := tag_impl f
  obtain ⟨dst, src, tagged, vid, pri, type, body⟩ := f
  unfold Fr.val at *
  simp only at hbs hT ⊢
  have hM1 := macOk_impl dst
  by_cases h1 : isMac dst
  case neg =>
    rw [decide_eq_false h1] at hM1
    have HM1 := Lib.hid hM1; have H1 := Lib.hid h1; clear hM1 h1 hT
    go_enter Try.func17, Try.ntmps17
    go_wp2_with fail
    refine (HM1.out _).mono ?_
    rintro e w1 ⟨rfl, rfl⟩
    go_wp2_with fail
    go_ret
    exact ⟨by rw [decide_eq_false (fun k : frOk ⟨dst, src, tagged, vid, pri, type, body⟩ => H1.out k.1)]; rfl, (Below.refl _ _).alloc (Nat.le_refl _) _⟩
  rw [decide_eq_true h1] at hM1
  have HM1 := Lib.hid hM1; have H1 := Lib.hid h1; clear hM1 h1
  have hM2 := single_fr src
  by_cases h2 : isMac src ∧ ¬ isGrp src
  case neg =>
    have hd : (decide (isMac src) && !decide (isGrp src)) = false := by
      by_cases k1 : isMac src
      · by_cases k2 : isGrp src
        · simp [k2]
        · exact absurd ⟨k1, k2⟩ h2
      · simp [k1]
    rw [hd] at hM2
    have HM2 := Lib.hid hM2; have H2 := Lib.hid h2; clear hM2 h2 hT hd
    go_enter Try.func17, Try.ntmps17
    go_wp2_with fail
    refine (HM1.out _).mono ?_
    rintro e w1 ⟨rfl, rfl⟩
    go_wp2_with fail
    refine (HM2.out _).mono ?_
    rintro e w1 ⟨rfl, rfl⟩
    go_wp2_with fail
    go_ret
    exact ⟨by rw [decide_eq_false (fun k : frOk ⟨dst, src, tagged, vid, pri, type, body⟩ => H2.out ⟨k.2.1, k.2.2.1⟩)]; rfl, (Below.refl _ _).alloc (Nat.le_refl _) _⟩
  have hd : (decide (isMac src) && !decide (isGrp src)) = true := by simp [h2.1, h2.2]
  rw [hd] at hM2
  have HM2 := Lib.hid hM2; have H2 := Lib.hid h2; clear hM2 h2 hd
  by_cases h4 : tagOk ⟨dst, src, tagged, vid, pri, type, body⟩
  case neg =>
    rw [decide_eq_false h4] at hT
    have HT := Lib.hid hT; have H4 := Lib.hid h4; clear hT h4
    go_enter Try.func17, Try.ntmps17
    go_wp2_with fail
    refine (HM1.out _).mono ?_
    rintro e w1 ⟨rfl, rfl⟩
    go_wp2_with fail
    refine (HM2.out _).mono ?_
    rintro e w1 ⟨rfl, rfl⟩
    go_wp2_with fail
    refine (HT.out _).mono ?_
    rintro e w1 ⟨rfl, hb1⟩
    go_wp2_with fail
    go_ret
    exact ⟨by rw [decide_eq_false (fun k : frOk ⟨dst, src, tagged, vid, pri, type, body⟩ => H4.out k.2.2.2.1)]; rfl, ((Below.refl _ _).alloc (Nat.le_refl _) _).trans (hb1.mono (by simp))⟩
  rw [decide_eq_true h4] at hT
  have HT := Lib.hid hT; have H4 := Lib.hid h4; clear hT h4
  have hY := type_impl type
  by_cases h5 : typeOk type
  case neg =>
    rw [decide_eq_false h5] at hY
    have HY := Lib.hid hY; have H5 := Lib.hid h5; clear hY h5
    go_enter Try.func17, Try.ntmps17
    go_wp2_with fail
    refine (HM1.out _).mono ?_
    rintro e w1 ⟨rfl, rfl⟩
    go_wp2_with fail
    refine (HM2.out _).mono ?_
    rintro e w1 ⟨rfl, rfl⟩
    go_wp2_with fail
    refine (HT.out _).mono ?_
    rintro e w1 ⟨rfl, hb1⟩
    have k5 : w1.cell? ⟨w.heap.size, 5, none⟩ = some (.int .i64 type) := by rw [hb1.cell (p := ⟨w.heap.size, 5, none⟩) (by simp), World.cell?_alloc_at (hn := rfl)]; rfl
    go_wp2_with fail
    refine (HY.out _).mono ?_
    rintro e w2 ⟨rfl, rfl⟩
    go_wp2_with fail
    go_ret
    exact ⟨by rw [decide_eq_false (fun k : frOk ⟨dst, src, tagged, vid, pri, type, body⟩ => H5.out k.2.2.2.2.1)]; rfl, ((Below.refl _ _).alloc (Nat.le_refl _) _).trans (hb1.mono (by simp))⟩
  rw [decide_eq_true h5] at hY
  have HY := Lib.hid hY; have H5 := Lib.hid h5; clear hY h5
  go_enter Try.func17, Try.ntmps17
  go_wp2_with fail
  refine (HM1.out _).mono ?_
  rintro e w1 ⟨rfl, rfl⟩
  go_wp2_with fail
  refine (HM2.out _).mono ?_
  rintro e w1 ⟨rfl, rfl⟩
  go_wp2_with fail
  refine (HT.out _).mono ?_
  rintro e w1 ⟨rfl, hb1⟩
  have k5 : w1.cell? ⟨w.heap.size, 5, none⟩ = some (.int .i64 type) := by rw [hb1.cell (p := ⟨w.heap.size, 5, none⟩) (by simp), World.cell?_alloc_at (hn := rfl)]; rfl
  have k6 : w1.cell? ⟨w.heap.size, 6, none⟩ = some (.string body) := by rw [hb1.cell (p := ⟨w.heap.size, 6, none⟩) (by simp), World.cell?_alloc_at (hn := rfl)]; rfl
  go_wp2_with fail
  refine (HY.out _).mono ?_
  rintro e w2 ⟨rfl, rfl⟩
  go_wp2_with fail
  go_ret
  refine ⟨?_, ((Below.refl _ _).alloc (Nat.le_refl _) _).trans (hb1.mono (by simp))⟩
  have e : decide (frOk ⟨dst, src, tagged, vid, pri, type, body⟩) = decide ((body.size : Int) ≤ 1500) := by
    rw [decide_eq_decide]
    refine ⟨fun k => ?_, fun k => ⟨H1.out, H2.out.1, H2.out.2, H4.out, H5.out, ?_⟩⟩
    · have h : body.size ≤ 1500 := k.2.2.2.2.2
      omega
    · show body.size ≤ 1500
      omega
  rw [e]
  rfl
end Go.Proofs.Ytfkpecildcejkaa
