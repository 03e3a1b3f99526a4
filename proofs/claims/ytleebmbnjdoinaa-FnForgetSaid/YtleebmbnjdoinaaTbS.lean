/- Rows and tables of the model: what is right; l05Row, l05Ahead. -/
import Derived.Test.YtleebmbnjdoinaaTb
import Derived.Test.YtleebmbnjdoinaaMac
namespace Go.Proofs.Ytleebmbnjdoinaa
open Go.RowKit

theorem in_any5 (x a b : Int) (w : World) : Calls Try.prog 49 #[.int .i64 x, .int .i64 a, .int .i64 b] w fun e w' => e = .returned (.bool (decide (a ≤ x ∧ x ≤ b))) ∧ w = w' := by
  by_cases h : a ≤ x ∧ x ≤ b
  · refine (in_yes x a b w h.1 h.2).mono ?_
    rintro e w' ⟨rfl, rfl⟩
    exact ⟨by rw [decide_eq_true h], rfl⟩
  · refine (in_no x a b w h).mono ?_
    rintro e w' ⟨rfl, rfl⟩
    exact ⟨by rw [decide_eq_false h], rfl⟩

theorem vid5_spec (x : Int) (w : World) : Calls Try.prog 76 #[.int .i64 x] w fun e w' => e = .returned (.bool (decide (1 ≤ x ∧ x ≤ 4094))) ∧ w = w' := by
  have h := in_any5 x 1 4094
  generalize decide (1 ≤ x ∧ x ≤ 4094) = b at h ⊢
  have H := Lib.hid h
  clear h
  go_enter Try.func76, Try.ntmps76
  go_wp2_with fail
  refine (H.out _).mono ?_
  rintro e w1 ⟨rfl, rfl⟩
  go_wp2_with fail
  go_ret
  exact ⟨rfl, rfl⟩
theorem port5_spec (x : Int) (w : World) : Calls Try.prog 79 #[.int .i64 x] w fun e w' => e = .returned (.bool (decide (0 ≤ x ∧ x ≤ 15))) ∧ w = w' := by
  have h := in_any5 x 0 15
  generalize decide (0 ≤ x ∧ x ≤ 15) = b at h ⊢
  have H := Lib.hid h
  clear h
  go_enter Try.func79, Try.ntmps79
  go_wp2_with fail
  refine (H.out _).mono ?_
  rintro e w1 ⟨rfl, rfl⟩
  go_wp2_with fail
  go_ret
  exact ⟨rfl, rfl⟩
theorem time5_spec (x : Int) (w : World) : Calls Try.prog 56 #[.int .i64 x] w fun e w' => e = .returned (.bool (decide (0 ≤ x ∧ x ≤ 1000000000))) ∧ w = w' := by
  have h := in_any5 x 0 1000000000
  generalize decide (0 ≤ x ∧ x ≤ 1000000000) = b at h ⊢
  have H := Lib.hid h
  clear h
  go_enter Try.func56, Try.ntmps56
  go_wp2_with fail
  refine (H.out _).mono ?_
  rintro e w1 ⟨rfl, rfl⟩
  go_wp2_with fail
  go_ret
  exact ⟨rfl, rfl⟩

/-- a row is right -/
def rowOk (r : Rw) : Prop := (1 ≤ r.vid ∧ r.vid ≤ 4094) ∧ isMac r.mac ∧ ¬ isGrp r.mac ∧ (0 ≤ r.port ∧ r.port ≤ 15) ∧ (0 ≤ r.at_ ∧ r.at_ ≤ 1000000000)
instance (r : Rw) : Decidable (rowOk r) := by unfold rowOk; infer_instance
/-- a row stands ahead of another one -/
def ahead (a b : Rw) : Prop := a.vid < b.vid ∨ a.vid = b.vid ∧ a.mac < b.mac
instance (a b : Rw) : Decidable (ahead a b) := by unfold ahead; infer_instance

theorem row5_spec (r : Rw) (w : World) : Calls Try.prog 46 #[r.val] w fun e w' => e = .returned (.bool (decide (rowOk r))) ∧ Below w.heap.size w w' := by
  have h1 := vid5_spec r.vid
  have h2 := macOk_spec r.mac
  have h3 := group_spec r.mac
  have h4 := port5_spec r.port
  have h5 := time5_spec r.at_
  have hd : decide (rowOk r) = (decide (1 ≤ r.vid ∧ r.vid ≤ 4094) && (decide (isMac r.mac) && (!decide (isGrp r.mac) && (decide (0 ≤ r.port ∧ r.port ≤ 15) && decide (0 ≤ r.at_ ∧ r.at_ ≤ 1000000000))))) := by
    rw [Bool.eq_iff_iff, decide_eq_true_iff]
    unfold rowOk
    simp only [decide_eq_true_iff, Bool.and_eq_true, Bool.not_eq_true', decide_eq_false_iff_not]
  rw [hd]
  clear hd
  generalize decide (1 ≤ r.vid ∧ r.vid ≤ 4094) = b1 at *
  generalize decide (isMac r.mac) = b2 at *
  generalize decide (isGrp r.mac) = b3 at *
  generalize decide (0 ≤ r.port ∧ r.port ≤ 15) = b4 at *
  generalize decide (0 ≤ r.at_ ∧ r.at_ ≤ 1000000000) = b5 at *
  obtain ⟨a0, a1, a2, a3, a4⟩ := r
  unfold Rw.val at *
  simp only at h1 h2 h3 h4 h5 ⊢
  have H1 := Lib.hid h1; have H2 := Lib.hid h2; have H3 := Lib.hid h3; have H4 := Lib.hid h4; have H5 := Lib.hid h5
  have HB := Lib.hid (fun o => (Below.refl w.heap.size w).alloc (Nat.le_refl _) o)
  clear h1 h2 h3 h4 h5
  go_enter Try.func46, Try.ntmps46
  go_wp2_with fail
  refine (H1.out _).mono ?_
  rintro e w1 ⟨rfl, rfl⟩
  cases b1
  · go_wp2_with fail
    go_ret
    exact ⟨rfl, HB.out _⟩
  go_wp2_with fail
  refine (H2.out _).mono ?_
  rintro e w1 ⟨rfl, rfl⟩
  cases b2
  · go_wp2_with fail
    go_ret
    exact ⟨rfl, HB.out _⟩
  go_wp2_with fail
  refine (H3.out _).mono ?_
  rintro e w1 ⟨rfl, rfl⟩
  cases b3
  case true =>
    go_wp2_with fail
    go_ret
    exact ⟨rfl, HB.out _⟩
  go_wp2_with fail
  refine (H4.out _).mono ?_
  rintro e w1 ⟨rfl, rfl⟩
  cases b4
  · go_wp2_with fail
    go_ret
    exact ⟨rfl, HB.out _⟩
  go_wp2_with fail
  refine (H5.out _).mono ?_
  rintro e w1 ⟨rfl, rfl⟩
  go_wp2_with fail
  go_ret
  exact ⟨by cases b5 <;> rfl, HB.out _⟩

theorem ahead5_spec (a b : Rw) (w : World) : Calls Try.prog 50 #[a.val, b.val] w fun e w' => e = .returned (.bool (decide (ahead a b))) ∧ Below w.heap.size w w' := by
  have HB := Lib.hid (fun o o' => (((Below.refl w.heap.size w).alloc (Nat.le_refl _) o).alloc (by simp) o'))
  have hd : ahead a b ↔ (a.vid < b.vid ∨ a.vid = b.vid ∧ a.mac < b.mac) := Iff.rfl
  obtain ⟨s, hs⟩ : ∃ s, decide (ahead a b) = s := ⟨_, rfl⟩
  rw [hs]
  have HS := Lib.hid hs; have HD := Lib.hid hd
  clear hs hd
  obtain ⟨a0, a1, a2, a3, a4⟩ := a
  obtain ⟨b0, b1, b2, b3, b4⟩ := b
  unfold Rw.val
  simp only
  by_cases h0 : a0 < b0
  · have e : s = true := by rw [← HS.out]; exact decide_eq_true (HD.out.2 (.inl h0))
    subst e
    go_enter Try.func50, Try.ntmps50
    go_wp2_with fail
    go_ret
    exact ⟨rfl, HB.out _ _⟩
  · have h0' : ¬ (a0 < b0) := h0
    by_cases h1 : a0 = b0
    · subst h1
      have e : s = decide (a1 < b1) := by
        rw [← HS.out, Bool.eq_iff_iff, decide_eq_true_iff, decide_eq_true_iff]
        exact HD.out.trans (by simp)
      subst e
      go_enter Try.func50, Try.ntmps50
      go_wp2_with fail
      go_ret
      exact ⟨by simp, HB.out _ _⟩
    · have e : s = false := by
        rw [← HS.out, decide_eq_false_iff_not]
        exact fun h => by have := HD.out.1 h; simp only at this; omega
      have hq : (a0 == b0) = false := by simp [h1]
      subst e
      go_enter Try.func50, Try.ntmps50
      go_wp2_with fail
      go_ret
      exact ⟨by simp, HB.out _ _⟩
end Go.Proofs.Ytleebmbnjdoinaa
