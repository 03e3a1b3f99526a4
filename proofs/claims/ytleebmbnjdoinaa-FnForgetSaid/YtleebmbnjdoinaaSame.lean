/- The laws' sameTable. -/
import Derived.Test.YtleebmbnjdoinaaTbS
import Derived.Deep.RegionWith
import Derived.Deep.RegionHeld3
import Derived.Deep.DeepCutAuto
namespace Go.Proofs.Ytleebmbnjdoinaa
open Go.RowKit

set_option linter.unusedSimpArgs false in
set_option maxHeartbeats 1000000 in
theorem sameTable_any {w : World} {B C : List Nat} {va vb : Value} {s t : Tb} (hs : TabIn w B va s) (ht : TabIn w C vb t) :
    Calls Try.prog 15 #[va, vb] w fun e w' => e = .returned (.bool (decide (s = t))) ∧ Below w.heap.size w w' := by
  obtain ⟨a, cap, rfl, hsx, _, hl, _⟩ := hs
  obtain ⟨b, cap', rfl, hsy, _, hl', _⟩ := ht
  obtain ⟨xs, p⟩ := s
  obtain ⟨ys, q⟩ := t
  unfold tabVal
  simp only at hsx hsy hl hl' ⊢
  obtain ⟨n, hn⟩ : ∃ n, xs.length = n := ⟨_, rfl⟩
  obtain ⟨m, hm⟩ : ∃ n, ys.length = n := ⟨_, rfl⟩
  rw [hn] at hl ⊢
  rw [hm] at hl' ⊢
  have hb2 : Below w.heap.size w ((w.alloc (.cells #[.slice a n cap, .int .i64 p] 26)).alloc (.cells #[.slice b m cap', .int .i64 q] 26)) := ((Below.refl _ _).alloc (Nat.le_refl _) _).alloc (by simp) _
  have g0 : Blk ((w.alloc (.cells #[.slice a n cap, .int .i64 p] 26)).alloc (.cells #[.slice b m cap', .int .i64 q] 26)) w.heap.size #[.slice a n cap, .int .i64 p] 26 := (blk_new _ _ rfl).alloc _
  have g1 : Blk ((w.alloc (.cells #[.slice a n cap, .int .i64 p] 26)).alloc (.cells #[.slice b m cap', .int .i64 q] 26)) (w.heap.size + 1) #[.slice b m cap', .int .i64 q] 26 := blk_new _ _ (by simp)
  have hx2 := hsx.after hb2
  have hy2 := hsy.after hb2
  have c0 : ((w.alloc (.cells #[.slice a n cap, .int .i64 p] 26)).alloc (.cells #[.slice b m cap', .int .i64 q] 26)).cell? ⟨w.heap.size, 0, none⟩ = some (.slice a n cap) := g0.cell 0
  have c1 : ((w.alloc (.cells #[.slice a n cap, .int .i64 p] 26)).alloc (.cells #[.slice b m cap', .int .i64 q] 26)).cell? ⟨w.heap.size, 1, none⟩ = some (.int .i64 p) := g0.cell 1
  have c2 : ((w.alloc (.cells #[.slice a n cap, .int .i64 p] 26)).alloc (.cells #[.slice b m cap', .int .i64 q] 26)).cell? ⟨w.heap.size + 1, 0, none⟩ = some (.slice b m cap') := g1.cell 0
  have c3 : ((w.alloc (.cells #[.slice a n cap, .int .i64 p] 26)).alloc (.cells #[.slice b m cap', .int .i64 q] 26)).cell? ⟨w.heap.size + 1, 1, none⟩ = some (.int .i64 q) := g1.cell 1
  have HX := Lib.hid hx2; have HY := Lib.hid hy2; have HN := Lib.hid hn; have HM := Lib.hid hm; have HB2 := Lib.hid hb2; have G0 := Lib.hid g0; have G1 := Lib.hid g1
  clear hsx hsy hn hm hx2 hy2 hb2 g0 g1
  by_cases hpq : p = q
  case neg =>
    have hq : (p != q) = true := by simp [hpq]
    rw [decide_eq_false (fun e => hpq (congrArg Tb.most e))]
    go_enter Try.func15, Try.ntmps15
    go_wp2_with fail
    go_ret
    exact ⟨rfl, HB2.out⟩
  subst hpq
  have hq : (p != p) = false := by simp
  by_cases hl2 : n = m
  case neg =>
    have hne : ((n : Int) != (m : Int)) = true := by simp; omega
    rw [decide_eq_false (fun e => hl2 (by have h : xs = ys := congrArg Tb.rows e; rw [← HN.out, ← HM.out, h]))]
    go_enter Try.func15, Try.ntmps15
    go_wp2_with fail
    go_ret
    exact ⟨rfl, HB2.out⟩
  subst hl2
  have hdec : decide ((⟨xs, p⟩ : Tb) = ⟨ys, p⟩) = decide (xs = ys) := decide_eq_decide.2 ⟨fun e => congrArg Tb.rows e, fun e => by rw [e]⟩
  rw [hdec]
  clear hdec
  go_enter Try.func15, Try.ntmps15
  go_wp2_with fail
  generalize ((w.alloc (.cells #[.slice a n cap, .int .i64 p] 26)).alloc (.cells #[.slice b n cap', .int .i64 p] 26)) = w2 at HX HY HB2 G0 G1 c0 c1 c2 c3 ⊢
  clear c1 c3 hq hl'
  have hF : ∀ w', Below w2.heap.size w2 w' → w'.cell? ⟨w.heap.size, 0, none⟩ = some (.slice a n cap) ∧ w'.cell? ⟨w.heap.size + 1, 0, none⟩ = some (.slice b n cap') := fun w' hb => ⟨(G0.out.after hb).cell 0, (G1.out.after hb).cell 0⟩
  have HF := Lib.hid hF
  clear hF c0 c2
  go_loopw [5] (fun i wr => ∃ k : Nat, i = .int .i64 (k : Nat) ∧ k ≤ n ∧ Below w2.heap.size w2 wr ∧ Hid (xs.take k = ys.take k))
    (fun i _ => n - (intOf i).toNat)
  case atStart => exact ⟨0, rfl, Nat.zero_le _, Below.refl _ _, Lib.hid rfl⟩
  case round =>
    obtain ⟨k, rfl, hk, hB0, HT⟩ := hrel
    obtain ⟨c0, c1⟩ := HF.out wr hB0
    by_cases hlt : k < n
    · have hkx : k < xs.length := by rw [HN.out]; exact hlt
      have hky : k < ys.length := by rw [HM.out]; exact hlt
      obtain ⟨g, o, rfl, _, hA'⟩ := rowAt HX.out k hkx
      obtain ⟨g', o', rfl, _, hB'⟩ := rowAt HY.out k hky
      have hA := fun w' (hb : Below wr.heap.size wr w') => (hA' w' (hB0.trans (hb.mono hB0.size))).1
      have hB := fun w' (hb : Below wr.heap.size wr w') => (hB' w' (hB0.trans (hb.mono hB0.size))).1
      have hF := fun w' (hb : Below wr.heap.size wr w') => HF.out w' (hB0.trans (hb.mono hB0.size))
      clear hA' hB'
      obtain ⟨r, hr⟩ : ∃ r, decide (xs[k] = ys[k]) = r := ⟨_, rfl⟩
      have HR := Lib.hid hr
      clear hr
      obtain ⟨x, hxk⟩ : ∃ x, xs[k] = x := ⟨_, rfl⟩
      obtain ⟨y, hyk⟩ : ∃ y, ys[k] = y := ⟨_, rfl⟩
      rw [hxk] at hA HR
      rw [hyk] at hB HR
      have HXK := Lib.hid hxk; have HYK := Lib.hid hyk
      clear hxk hyk
      obtain ⟨x0, x1, x2, x3, x4⟩ := x
      obtain ⟨y0, y1, y2, y3, y4⟩ := y
      unfold RowAt at hA hB
      simp only at hA hB
      go_upto_region 6 with fail
      refine wp_region_held_drew (S := fun w' => Below wr.heap.size wr w') (by kernel_rfl) (Below.drew (Below.refl _ _)) (fun hHeld => ?_)
      refine wpAnyH_take (i := 0) (v := ?v1) rfl (by kernel_rfl) (by kernel_rfl) (by kernel_rfl) (fun _ _ _ h => h) (Or.inl ⟨by rfl, ?h1⟩) hHeld ?r1
      case h1 => intro wq hS; go_simp; with_reducible rfl
      try simp only [Act.put, List.getElem_toArray, List.getElem_cons_zero, List.getElem_cons_succ, List.setIfInBounds_toArray, List.set_cons_zero, List.set_cons_succ]
      refine wpAnyH_take (i := 1) (v := ?v2) rfl (by kernel_rfl) (by kernel_rfl) (by kernel_rfl) (fun _ _ _ h => h) (Or.inl ⟨by rfl, ?h2⟩) hHeld ?r2
      case h2 => intro wq hS; obtain ⟨c0, c1⟩ := hF wq hS; go_simp; with_reducible rfl
      try simp only [Act.put, List.getElem_toArray, List.getElem_cons_zero, List.getElem_cons_succ, List.setIfInBounds_toArray, List.set_cons_zero, List.set_cons_succ]
      refine wpAnyH_take (i := 2) (v := ?v3) rfl (by kernel_rfl) (by kernel_rfl) (by kernel_rfl) (fun _ _ _ h => h) (Or.inl ⟨by rfl, ?h3⟩) hHeld ?r3
      case h3 => intro wq hS; go_simp; with_reducible rfl
      try simp only [Act.put, List.getElem_toArray, List.getElem_cons_zero, List.getElem_cons_succ, List.setIfInBounds_toArray, List.set_cons_zero, List.set_cons_succ]
      refine wpAnyH_take (i := 3) (v := ?v4) rfl (by kernel_rfl) (by kernel_rfl) (by kernel_rfl) (fun _ _ _ h => h) (Or.inl ⟨by rfl, ?h4⟩) hHeld ?r4
      case h4 => intro wq hS; go_simp; with_reducible rfl
      try simp only [Act.put, List.getElem_toArray, List.getElem_cons_zero, List.getElem_cons_succ, List.setIfInBounds_toArray, List.set_cons_zero, List.set_cons_succ]
      refine wpAnyH_take (i := 4) (v := ?v5) rfl (by kernel_rfl) (by kernel_rfl) (by kernel_rfl) (fun _ _ _ h => h) (Or.inl ⟨by rfl, ?h5⟩) hHeld ?r5
      case h5 => intro wq hS; obtain ⟨k0, k1, k2, k3, k4⟩ := hA wq hS; go_simp; with_reducible rfl
      try simp only [Act.put, List.getElem_toArray, List.getElem_cons_zero, List.getElem_cons_succ, List.setIfInBounds_toArray, List.set_cons_zero, List.set_cons_succ]
      refine wpAnyH_take (i := 5) (v := ?v6) rfl (by kernel_rfl) (by kernel_rfl) (by kernel_rfl) (fun _ _ _ h => h) (Or.inl ⟨by rfl, ?h6⟩) hHeld ?r6
      case h6 => intro wq hS; go_simp; with_reducible rfl
      try simp only [Act.put, List.getElem_toArray, List.getElem_cons_zero, List.getElem_cons_succ, List.setIfInBounds_toArray, List.set_cons_zero, List.set_cons_succ]
      refine wpAnyH_take (i := 6) (v := ?v7) rfl (by kernel_rfl) (by kernel_rfl) (by kernel_rfl) (fun _ _ _ h => h) (Or.inl ⟨by rfl, ?h7⟩) hHeld ?r7
      case h7 => intro wq hS; obtain ⟨c0, c1⟩ := hF wq hS; go_simp; with_reducible rfl
      try simp only [Act.put, List.getElem_toArray, List.getElem_cons_zero, List.getElem_cons_succ, List.setIfInBounds_toArray, List.set_cons_zero, List.set_cons_succ]
      refine wpAnyH_take (i := 7) (v := ?v8) rfl (by kernel_rfl) (by kernel_rfl) (by kernel_rfl) (fun _ _ _ h => h) (Or.inl ⟨by rfl, ?h8⟩) hHeld ?r8
      case h8 => intro wq hS; go_simp; with_reducible rfl
      try simp only [Act.put, List.getElem_toArray, List.getElem_cons_zero, List.getElem_cons_succ, List.setIfInBounds_toArray, List.set_cons_zero, List.set_cons_succ]
      refine wpAnyH_take (i := 8) (v := ?v9) rfl (by kernel_rfl) (by kernel_rfl) (by kernel_rfl) (fun _ _ _ h => h) (Or.inl ⟨by rfl, ?h9⟩) hHeld ?r9
      case h9 => intro wq hS; go_simp; with_reducible rfl
      try simp only [Act.put, List.getElem_toArray, List.getElem_cons_zero, List.getElem_cons_succ, List.setIfInBounds_toArray, List.set_cons_zero, List.set_cons_succ]
      refine wpAnyH_take (i := 9) (v := ?v10) rfl (by kernel_rfl) (by kernel_rfl) (by kernel_rfl) (fun _ _ _ h => h) (Or.inl ⟨by rfl, ?h10⟩) hHeld ?r10
      case h10 => intro wq hS; obtain ⟨k0, k1, k2, k3, k4⟩ := hB wq hS; go_simp; with_reducible rfl
      try simp only [Act.put, List.getElem_toArray, List.getElem_cons_zero, List.getElem_cons_succ, List.setIfInBounds_toArray, List.set_cons_zero, List.set_cons_succ]
      refine wpAnyH_take (i := 10) (v := .bool (!r)) rfl (by kernel_rfl) (by kernel_rfl) (by kernel_rfl) (fun _ _ _ h => h) (Or.inl ⟨by rfl, ?h11⟩) hHeld ?r11
      case h11 =>
        intro wq hS
        have hr := HR.out
        go_simp
        rw [← hr]
        by_cases e0 : x0 = y0 <;> by_cases e1 : x1 = y1 <;> by_cases e2 : x2 = y2 <;> by_cases e3 : x3 = y3 <;> by_cases e4 : x4 = y4 <;> simp [e0, e1, e2, e3, e4]
      try simp only [Act.put, List.getElem_toArray, List.getElem_cons_zero, List.getElem_cons_succ, List.setIfInBounds_toArray, List.set_cons_zero, List.set_cons_succ]
      refine wpAnyH_done (by kernel_rfl) ?_ _
      have hbf := hB0.trans (hHeld.mono hB0.size)
      have HBF := Lib.hid hbf
      clear hHeld hA hB hB0 hbf hF
      cases r
      · go_wp2_with fail
        go_ret
        exact ⟨by rw [decide_eq_false (ne_of_get hkx hky (by rw [HXK.out, HYK.out]; exact of_decide_eq_false HR.out))]; rfl, HB2.out.trans (HBF.out.mono HB2.out.size)⟩
      · go_wp2_with fail
        go_roundw
        case rel => exact ⟨k + 1, by go_num, by omega, HBF.out, Lib.hid (take_step hkx hky HT.out (by rw [HXK.out, HYK.out]; exact of_decide_eq_true HR.out))⟩
        case measure => simp [intOf]; omega
    · have hke : k = n := by omega
      have hlt' : ¬ ((k : Int) < (n : Int)) := by omega
      go_wp2_with fail
      go_ret
      exact ⟨by rw [decide_eq_true (eq_of_takes HN.out HM.out (by rw [← hke]; exact HT.out))]; rfl, HB2.out.trans (hB0.mono HB2.out.size)⟩
end Go.Proofs.Ytleebmbnjdoinaa
