/- rowSetOf of the program. -/
import Derived.Test.YtleebmbnjdoinaaRmap
import Derived.Test.YtleebmbnjdoinaaTiLook
namespace Go.Proofs.Ytleebmbnjdoinaa
open Go.RowKit

theorem take_put {rs : List Rw} (h : Rows rs) {k : Nat} (hk : k < rs.length) : (rs[k] :: (rs.take k).filter (fun x => !hit rs[k].vid rs[k].mac x)).Perm (rs.take (k + 1)) := by
  have e : (rs.take k).filter (fun x => !hit rs[k].vid rs[k].mac x) = rs.take k := by
    refine List.filter_eq_self.2 (fun x hx => ?_)
    obtain ⟨i, hi, rfl⟩ := List.getElem_of_mem hx
    rw [List.length_take] at hi
    rw [List.getElem_take]
    unfold hit
    rw [Bool.not_eq_true', decide_eq_false_iff_not]
    exact List.pairwise_iff_getElem.1 h.1 i k (by omega) hk (by omega)
  rw [e, List.take_succ_eq_append_getElem hk]
  exact (List.perm_append_singleton _ _).symm

set_option linter.unusedSimpArgs false in
set_option maxRecDepth 20000 in
set_option maxHeartbeats 1000000 in
theorem rowSetOf_impl {w : World} {B : List Nat} {v : Value} {t : Tb} (h : TabIn w B v t) (hr : Rows t.rows) (hs64 : t.rows.length ≤ 64) :
    Calls Try.prog 39 #[v] w fun e w' => ∃ b, e = .returned (.map (some b)) ∧ RM w' b t.rows.length t.rows ∧ w.heap.size ≤ b ∧ Below w.heap.size w w' := by
  have hlt := h.lt
  obtain ⟨a, cap, rfl, hs, ⟨hB, _⟩, _, hf⟩ := h
  obtain ⟨rs, most⟩ := t
  unfold tabVal
  simp only at hs hr hs64 hB hlt hf ⊢
  have hmm := @run_makeMap Try.prog
  have hb1 : Below w.heap.size w ((w.alloc (.cells #[.slice a rs.length cap, .int .i64 most] 26)).alloc (.map #[] 0)) := ((Below.refl _ _).alloc (Nat.le_refl _) _).alloc (by simp) _
  have kA : Blk ((w.alloc (.cells #[.slice a rs.length cap, .int .i64 most] 26)).alloc (.map #[] 0)) w.heap.size #[.slice a rs.length cap, .int .i64 most] 26 := (blk_new _ _ rfl).alloc _
  have hM : RM ((w.alloc (.cells #[.slice a rs.length cap, .int .i64 most] 26)).alloc (.map #[] 0)) (w.heap.size + 1) 0 [] := by
    have e := RM.made (w.alloc (.cells #[.slice a rs.length cap, .int .i64 most] 26))
    simpa using e
  have HSL := Lib.hid (hs.after hb1)
  have HSB := Lib.hid (fun x (hx : a = some x) (hne : rs ≠ []) => hs.lt x hx hne)
  have HB1 := Lib.hid hb1; have HKA := Lib.hid kA; have HM := Lib.hid hM; have HROWS := Lib.hid hr
  have HFA := Lib.hid hf.1
  clear hs hr hM hb1 kA hlt hB hf
  obtain ⟨n, hn⟩ : ∃ n, rs.length = n := ⟨_, rfl⟩
  rw [hn] at HB1 HKA HSL HM hs64 ⊢
  have HN := Lib.hid hn
  clear hn
  go_enter Try.func39, Try.ntmps39
  go_wp2_with fail
  have c0 := HKA.out.cell 0
  generalize (w.alloc (.cells #[.slice a n cap, .int .i64 most] 26)).alloc (.map #[] 0) = w1 at HB1 HKA HSL HM c0 ⊢
  clear c0
  go_loopw [10] (fun i wr => ∃ k : Nat, i = .int .i64 (k : Nat) ∧ k ≤ n ∧ Turned [w.heap.size + 1] w1 wr ∧ RM wr (w.heap.size + 1) k (rs.take k))
    (fun i _ => n - (intOf i).toNat)
  case atStart => exact ⟨0, rfl, Nat.zero_le _, Turned.refl _ _, HM.out⟩
  case round =>
    obtain ⟨k, rfl, hk, hWR, hRM⟩ := hrel
    have HWR := Lib.hid hWR; have HRM := Lib.hid hRM
    clear hWR hRM
    by_cases hlt : k < n
    · have hkx : k < rs.length := by rw [HN.out]; exact hlt
      have hSLr := HSL.out.turned HWR.out (fun x hx hne => by have := HSB.out x hx hne; simp; omega)
      obtain ⟨g, o, rfl, _, hK'⟩ := rowAt hSLr k hkx
      obtain ⟨d0, d1, d2, d3, d4⟩ := (hK' wr (Below.refl _ _)).1
      clear hK' hSLr
      have HFIT := Lib.hid (HFA.out rs[k] (List.getElem_mem hkx))
      have HPERM := Lib.hid (take_put HROWS.out hkx)
      have hKX := fun w' => key_any rs[k] w'
      obtain ⟨x0, hx0⟩ : ∃ x, rs[k].vid = x := ⟨_, rfl⟩
      obtain ⟨x1, hx1⟩ : ∃ x, rs[k].mac = x := ⟨_, rfl⟩
      obtain ⟨x2, hx2⟩ : ∃ x, rs[k].port = x := ⟨_, rfl⟩
      obtain ⟨x3, hx3⟩ : ∃ x, rs[k].at_ = x := ⟨_, rfl⟩
      obtain ⟨x4, hx4⟩ : ∃ x, rs[k].fixed = x := ⟨_, rfl⟩
      have hval : rs[k].val = .agg #[.int .i64 x0, .int .i64 x1, .int .i64 x2, .int .i64 x3, .bool x4] := by unfold Rw.val; rw [hx0, hx1, hx2, hx3, hx4]
      rw [hx0] at d0
      rw [hx1] at d1
      rw [hx2] at d2
      rw [hx3] at d3
      rw [hx4] at d4
      rw [hval, hx0, hx1] at hKX
      have HKX := Lib.hid hKX; have HX0 := Lib.hid hx0; have HX1 := Lib.hid hx1; have HX2 := Lib.hid hx2; have HX3 := Lib.hid hx3; have HX4 := Lib.hid hx4
      have HB4 := Lib.hid (Below.alloc (Below.refl wr.heap.size wr) (Nat.le_refl _) (.cells #[.int .i64 x0, .int .i64 x1, .int .i64 x2, .int .i64 x3, .bool x4] 34))
      have HKR := Lib.hid (blk_new (w := wr) (b := wr.heap.size) #[.int .i64 x0, .int .i64 x1, .int .i64 x2, .int .i64 x3, .bool x4] 34 rfl)
      clear hKX hx0 hx1 hx2 hx3 hx4 hval
      go_upto_region 5 with fail
      clear d0 d1 d2 d3 d4
      generalize wr.alloc (.cells #[.int .i64 x0, .int .i64 x1, .int .i64 x2, .int .i64 x3, .bool x4] 34) = w4 at HB4 HKR ⊢
      have hnb : wr.heap.size ∉ [w.heap.size + 1] := by have := HRM.out.lt; simp; omega
      have hK : ∀ w', Turned [w.heap.size + 1] w4 w' → RowAt w' wr.heap.size 0 ⟨x0, x1, x2, x3, x4⟩ := fun w' hb => ⟨(HKR.out.turned hb hnb).cell 0, (HKR.out.turned hb hnb).cell 1, (HKR.out.turned hb hnb).cell 2, (HKR.out.turned hb hnb).cell 3, (HKR.out.turned hb hnb).cell 4⟩
      unfold RowAt at hK
      simp only [Nat.zero_add] at hK
      refine wp_region_held_drew (S := fun w' => Turned [w.heap.size + 1] w4 w') (by kernel_rfl) ((Turned.refl _ _).drew) (fun hHeld => ?_)
      refine wpAnyH_take (i := 0) (v := ?v1) rfl (by kernel_rfl) (by kernel_rfl) (by kernel_rfl) (fun _ _ _ h => h) (Or.inl ⟨by rfl, ?h1⟩) hHeld ?r1
      case h1 => intro wq hS; go_simp; with_reducible rfl
      try simp only [Act.put, List.getElem_toArray, List.getElem_cons_zero, List.getElem_cons_succ, List.setIfInBounds_toArray, List.set_cons_zero, List.set_cons_succ]
      refine wpAnyH_take (i := 1) (v := ?v2) rfl (by kernel_rfl) (by kernel_rfl) (by kernel_rfl) (fun _ _ _ h => h) (Or.inl ⟨by rfl, ?h2⟩) hHeld ?r2
      case h2 => intro wq hS; obtain ⟨c0, c1, c2, c3, c4⟩ := hK wq hS; go_simp; with_reducible rfl
      try simp only [Act.put, List.getElem_toArray, List.getElem_cons_zero, List.getElem_cons_succ, List.setIfInBounds_toArray, List.set_cons_zero, List.set_cons_succ]
      refine wpAnyH_take (i := 3) (v := ?v3) rfl (by kernel_rfl) (by kernel_rfl) (by kernel_rfl) (fun _ _ _ h => h) (Or.inl ⟨by rfl, ?h3⟩) hHeld ?r3
      case h3 => intro wq hS; obtain ⟨c0, c1, c2, c3, c4⟩ := hK wq hS; go_simp; with_reducible rfl
      try simp only [Act.put, List.getElem_toArray, List.getElem_cons_zero, List.getElem_cons_succ, List.setIfInBounds_toArray, List.set_cons_zero, List.set_cons_succ]
      refine wpAnyH_ready (rs := [2]) (by kernel_rfl) (by simp) ?_
      refine AllReadyH.cons rfl (fun K hK => ?_) AllReadyH.nil
      go_simp
      refine (HKX.out _).mono ?_
      rintro e w5 ⟨rfl, hg5⟩
      have HB5 := Lib.hid (Below.trans (Below.drew (Below.refl w4.heap.size w4)) hg5.below)
      have hb5 := hg5.below
      refine hK.out _ _ (hHeld.trans1 (Turned.of_below hb5)) (fun hHeld => ?_)
      clear hK K
      try simp only [Act.put, List.getElem_toArray, List.getElem_cons_zero, List.getElem_cons_succ, List.setIfInBounds_toArray, List.set_cons_zero, List.set_cons_succ]
      refine wpAnyH_ready (rs := [4]) (by kernel_rfl) (by simp) ?_
      refine AllReadyH.cons rfl (fun K hK => ?_) AllReadyH.nil
      have hRM5 := ((HRM.out.after HB4.out).after HB5.out)
      obtain ⟨w6, hrun, hRM6, hT6⟩ := hRM5.store HFIT.out (by omega)
      unfold keyV Rw.val at hrun
      rw [HX0.out, HX1.out, HX2.out, HX3.out, HX4.out] at hrun
      have HR6 := Lib.hid hRM6; have HT6 := Lib.hid hT6
      clear hRM5 hRM6 hT6 hb5 hg5
      go_simp
      clear hrun
      refine hK.out _ _ (hHeld.trans1 HT6.out) (fun hHeld => ?_)
      clear hK K
      try simp only [Act.put, List.getElem_toArray, List.getElem_cons_zero, List.getElem_cons_succ, List.setIfInBounds_toArray, List.set_cons_zero, List.set_cons_succ]
      refine wpAnyH_done (by kernel_rfl) ?_ _
      have hTf := ((Turned.of_below (B := [w.heap.size + 1]) HB4.out).trans1 hHeld)
      have HTF := Lib.hid (HWR.out.trans1 hTf)
      have HRF := Lib.hid ((HR6.out.perm HPERM.out))
      clear hHeld hTf
      go_wp2_with fail
      go_roundw
      case rel => exact ⟨k + 1, by go_num, by omega, HTF.out, HRF.out⟩
      case measure => simp [intOf]; omega
    · have hke : k = n := by omega
      subst hke
      have hlt' : ¬ ((k : Int) < (k : Int)) := by omega
      have HF := Lib.hid (show RM wr (w.heap.size + 1) k rs by have e := HRM.out; rwa [List.take_of_length_le (by rw [HN.out]; exact Nat.le_refl _)] at e)
      have HBf := Lib.hid (Below.trans HB1.out (HWR.out.below HB1.out.size (fun b hb => by simp at hb; omega)))
      go_wp2_with fail
      go_ret
      exact ⟨_, rfl, HF.out, by omega, HBf.out⟩
end Go.Proofs.Ytleebmbnjdoinaa

