/- The draws of tables, not right sometimes. -/
import Derived.Test.YtleebmbnjdoinaaDrawT
namespace Go.Proofs.Ytleebmbnjdoinaa
open Go.RowKit

section
variable {B c len : Nat} {w : World} {bt : Nat} {wi : World} {C : List Nat} {t : Tb} {a : Option Addr} {n cap : Nat} {q : Int}
theorem MkP.most (h : MkP B c len w bt wi C t a n cap q) (z : Int) (hz : (Lit.int .i64 z).wf = true) : MkP B c len w bt (wi.setCell ⟨bt, 1, none⟩ (.int .i64 z)) C ⟨t.rows, z⟩ a n cap z := by
  obtain ⟨h1, h2, h3, h4, h5, h6, h7, h8⟩ := h
  refine ⟨h1.set 1 _, ?_, h3, h4.other (by omega) _, cur_store h5 (by omega) _, grown_store h6 (by omega) _, h7, h8⟩
  have hT := h2.turned (C := [bt]) ((Turned.refl _ wi).setCell (p := ⟨bt, 1, none⟩) (by simp) (.int .i64 z)) (fun b hb' hm => by have := (h3 b hb').2; simp at hm; omega)
  have hp := tab_parts h2
  obtain ⟨a', cap', e, hs, hB, hl, hf⟩ := hT
  unfold tabVal at e
  simp only [Value.agg.injEq] at e
  have e0 := congrArg (fun z => z[0]?) e
  simp at e0
  obtain ⟨ea, _, ec⟩ := e0
  subst ea ec
  exact ⟨_, _, by unfold tabVal; rw [hp.1], hs, hB, hl, ⟨hf.1, hz⟩⟩
theorem MkP.open (h : MkP B c len w bt wi C t a n cap q) : SlIn kdRw wi a t.rows ∧ t.rows.length = n ∧ C = blkN a n ∧ n ≤ cap ∧ t.fits ∧ n ≤ 2097152 := by
  have hp := tab_parts h.2.1
  obtain ⟨a', cap', e, hs, hB, hl, hf⟩ := h.2.1
  unfold tabVal at e
  simp only [Value.agg.injEq] at e
  have e0 := congrArg (fun z => z[0]?) e
  simp at e0
  obtain ⟨ea, _, ec⟩ := e0
  subst ea ec
  rw [hp.1] at hB hl
  exact ⟨hs, hp.1, hB.1, hB.2, hf, hl⟩
/-- the rows' block has turned -/
theorem MkP.rows {g o : Nat} {W : World} {rs : List Rw} (h : MkP B c len w bt wi C t (some ⟨g, o, none⟩) n cap q) (hn : 0 < n) (hT : Turned [g] wi W) (hs : SlIn kdRw W (some ⟨g, o, none⟩) rs) (hr : rs.length = n) (hf : ∀ r ∈ rs, r.fits) (hc : Cur B c len W) :
    MkP B c len w bt W C ⟨rs, t.most⟩ (some ⟨g, o, none⟩) n cap q := by
  have hp := tab_parts h.2.1
  obtain ⟨hs0, hlen, hC, hcap, hfit, hl⟩ := h.open
  obtain ⟨h1, h2, h3, h4, h5, h6, h7, h8⟩ := h
  have hg := h3 g (by rw [hC, blkN_some (by omega)]; simp)
  refine ⟨h1.turned hT (by simp; omega), ⟨_, _, by unfold tabVal; simp only; rw [hr, hp.2], hs, ?_, by simp only; omega, ⟨hf, hfit.2⟩⟩, h3, h4.turned hT (by simp; omega), hc, ?_, h7, h8⟩
  · simp only; rw [hr]; exact ⟨hC, hcap⟩
  · exact ⟨hT.os.trans h6.os, hT.tape.trans h6.tape, hT.output.trans h6.output, Nat.le_trans h6.size hT.size, fun k hk hkc => (hT.block k (Nat.lt_of_lt_of_le hk h6.size) (by simp; omega)).trans (h6.block k hk hkc)⟩
end

set_option linter.unusedSimpArgs false in
set_option maxRecDepth 20000 in
set_option maxHeartbeats 2000000 in
theorem any5_any (B c len : Nat) (w : World) (hl : len ≤ 1048576) (hc : Cur B c len w) :
    Calls Try.prog 36 #[.pointer (some ⟨c, 0, none⟩)] w (DrawnTab B c len w) := by
  have hlt := cur_lt hc
  have hlt0 := hlt
  have g1 : Blk (w.alloc (.cells #[.slice none 0 0, .int .i64 0] 26)) w.heap.size #[.slice none 0 0, .int .i64 0] 26 := blk_new _ _ rfl
  have G1 := Lib.hid g1
  clear g1
  go_enter Try.func36, Try.ntmps36
  go_wp2_with fail
  refine (make5_any B c len _ hl (cur_alloc hc _ _)).mono ?_
  rintro e w1 ⟨C, t, a, n, cap, q, rfl, hT, hC, hc1, hg1⟩
  have hl1 := cur_lt hc1
  have hT1 := hT.after ((Below.refl _ w1).alloc (Nat.le_refl _) (.cells #[.slice a n cap, .int .i64 q] 26))
  have hw1 : w.heap.size < w1.heap.size := by have := hg1.size; simp at this; omega
  have hR1 : Blk w1 w.heap.size #[.slice none 0 0, .int .i64 0] 26 := (hg1.block _ G1.out.lt (fun e => by have e1 : w.heap.size = c := Option.some.inj e; omega)).trans G1.out
  have hP1 : MkP B c len w w1.heap.size (w1.alloc (.cells #[.slice a n cap, .int .i64 q] 26)) C t a n cap q :=
    ⟨blk_new _ _ rfl, hT1, fun b hb => ⟨by have := hC b hb; simp at this; omega, by have := hT.lt b hb; omega⟩, hR1.alloc _,
      cur_alloc hc1 _ _, grown_trans (World.grownBy_alloc _ _ _) (grown_trans hg1 (World.grownBy_alloc _ _ _)), hw1, hlt⟩
  have HP1 := Lib.hid hP1
  clear hT hC hc1 hg1 hT1 hP1 hR1
  go_wp2_with fail
  generalize w1.heap.size = bt at HP1 hl1 hw1 ⊢
  refine (below_any B c len 14 (by decide) (by decide) _ hl HP1.out.2.2.2.2.1).mono ?_
  rintro e w2 ⟨d, rfl, hd0, hd14, hc2, hg2⟩
  have HP := Lib.hid (HP1.out.call hc2 hg2)
  have HD := Lib.hid hd0
  clear hc2 hg2 hd0 HP1
  obtain ⟨z2, y2, b0, b1⟩ := HP.out.facts
  by_cases h0 : d = 0
  · subst h0
    go_wp2_with fail
    refine (pickWf (m := 4) (zs := [-1, 65, 0, 1]) (by decide) (by decide) hl (cur_alloc HP.out.2.2.2.2.1 _ _) (by have := cur_lt HP.out.2.2.2.2.1; omega) rfl (by decide) ?_).mono ?_
    · intro i hi
      rw [World.cell?_alloc_at (hn := by simp)]
      match i, hi with
      | 0, _ | 1, _ | 2, _ | 3, _ => rfl
    rintro e w3 ⟨z, rfl, hz, hc3, hg3⟩
    have HP3 := Lib.hid (HP.out.call hc3 (grown_trans (World.grownBy_alloc _ _ _) hg3))
    clear hc3 hg3
    obtain ⟨z3, y3, b0, b1⟩ := HP3.out.facts
    have HPF := Lib.hid (HP3.out.most z hz)
    obtain ⟨hT, hTI, hC, hR, hcw, hG, hb2, _⟩ := HPF.out
    have hRB := HP3.out.2.2.2.1
    have z1 := hRB.frozen
    have y1 := hRB.shape
    have e0 : w3.cell? ⟨w.heap.size, 0, none⟩ = some (.slice none 0 0) := hRB.cell 0
    have e1 : w3.cell? ⟨w.heap.size, 1, none⟩ = some (.int .i64 0) := hRB.cell 1
    clear hRB
    have hf := hR.set 0 (.slice a n cap) |>.set 1 (.int .i64 z)
    have hTf := hTI.turned (C := [w.heap.size]) (((Turned.refl _ ((w3.setCell ⟨bt, 1, none⟩ (.int .i64 z)))).setCell (p := ⟨w.heap.size, 0, none⟩) (by simp) (.slice a n cap)).setCell (p := ⟨w.heap.size, 1, none⟩) (by simp) (.int .i64 z)) (fun b hb' hm => by have := (hC b hb').1; simp at hm; omega)
    have hcf := cur_store (j := 1) (cur_store (j := 0) hcw hlt0 (.slice a n cap)) hlt0 (.int .i64 z)
    have hgf := grown_store (j := 1) (grown_store (j := 0) hG (Nat.le_refl _) (.slice a n cap)) (Nat.le_refl _) (.int .i64 z)
    have HTF := Lib.hid hTf; have HCF := Lib.hid hcf; have HGF := Lib.hid hgf; have HCC := Lib.hid hC; have HFF := Lib.hid hf
    clear hT hTI hR hcw hG hTf hcf hgf hC hf
    go_wp2_with fail
    have r0 : (((w3.setCell ⟨bt, 1, none⟩ (.int .i64 z)).setCell ⟨w.heap.size, 0, none⟩ (.slice a n cap)).setCell ⟨w.heap.size, 1, none⟩ (.int .i64 z)).cell? ⟨w.heap.size, 0, none⟩ = some (.slice a n cap) := HFF.out.cell 0
    have r1 : (((w3.setCell ⟨bt, 1, none⟩ (.int .i64 z)).setCell ⟨w.heap.size, 0, none⟩ (.slice a n cap)).setCell ⟨w.heap.size, 1, none⟩ (.int .i64 z)).cell? ⟨w.heap.size, 1, none⟩ = some (.int .i64 z) := HFF.out.cell 1
    generalize ((w3.setCell ⟨bt, 1, none⟩ (.int .i64 z)).setCell ⟨w.heap.size, 0, none⟩ (.slice a n cap)).setCell ⟨w.heap.size, 1, none⟩ (.int .i64 z) = W at r0 r1 HTF HCF HGF ⊢
    refine bodyPost_ret (v := .agg #[.slice a n cap, .int .i64 z]) (by simp [results, Try.results36, go_sem, r0, r1]) rfl ?_
    exact ⟨C, _, a, n, cap, z, rfl, HTF.out, fun b hb => by have := (HCC.out b hb).1; omega, HCF.out, HGF.out⟩
  have hq0 : (d == 0) = false := by simp [h0]
  by_cases h1 : d = 1
  · subst h1
    by_cases hn : 0 < n
    · have hn1 : (0 : Int) < (n : Int) := by omega
      obtain ⟨hs, hlen, hCb, hcap, hfit, _⟩ := HP.out.open
      have hk0 : 0 < t.rows.length := by omega
      obtain ⟨g, o, rfl, hg, _⟩ := rowAt hs 0 hk0
      have HPD := Lib.hid HP.out.drew
      have hrw : ∃ r, t.rows[0] = r := ⟨_, rfl⟩
      obtain ⟨r0, hr0⟩ := hrw
      have hf0 := hfit.1 r0 (by rw [← hr0]; exact List.getElem_mem _)
      have HS := Lib.hid hs; have HLEN := Lib.hid hlen; have HFIT := Lib.hid hfit; have HR0 := Lib.hid hr0; have HF0 := Lib.hid hf0
      clear hs hlen hfit hr0 hf0
      go_upto_region 7 with fail
      refine wp_region_held_drew (S := fun w' => w'.cell? ⟨bt, 0, none⟩ = some (.slice (some ⟨g, o, none⟩) n cap)) (by kernel_rfl) (HPD.out.1.cell 0) (fun hHeld => ?_)
      refine wpAnyH_take (i := 0) (v := ?v1) rfl (by kernel_rfl) (by kernel_rfl) (by kernel_rfl) (fun _ _ _ h => h) (Or.inl ⟨by rfl, ?h1⟩) hHeld ?r1
      case h1 => intro wq hS; go_simp; with_reducible rfl
      try simp only [Act.put, List.getElem_toArray, List.getElem_cons_zero, List.getElem_cons_succ, List.setIfInBounds_toArray, List.set_cons_zero, List.set_cons_succ]
      refine wpAnyH_take (i := 1) (v := ?v2) rfl (by kernel_rfl) (by kernel_rfl) (by kernel_rfl) (fun _ _ _ h => h) (Or.inl ⟨by rfl, ?h2⟩) hHeld ?r2
      case h2 => intro wq hS; go_simp; with_reducible rfl
      try simp only [Act.put, List.getElem_toArray, List.getElem_cons_zero, List.getElem_cons_succ, List.setIfInBounds_toArray, List.set_cons_zero, List.set_cons_succ]
      refine wpAnyH_take (i := 2) (v := ?v3) rfl (by kernel_rfl) (by kernel_rfl) (by kernel_rfl) (fun _ _ _ h => h) (Or.inl ⟨by rfl, ?h3⟩) hHeld ?r3
      case h3 => intro wq hS; go_simp; with_reducible rfl
      try simp only [Act.put, List.getElem_toArray, List.getElem_cons_zero, List.getElem_cons_succ, List.setIfInBounds_toArray, List.set_cons_zero, List.set_cons_succ]
      refine wpAnyH_ready (rs := [3]) (by kernel_rfl) (by simp) ?_
      refine AllReadyH.cons rfl (fun K hK => ?_) AllReadyH.nil
      go_simp
      refine hK.out _ _ ((HPD.out.1.alloc _).cell 0) (fun hHeld => ?_)
      clear hK K
      try simp only [Act.put, List.getElem_toArray, List.getElem_cons_zero, List.getElem_cons_succ, List.setIfInBounds_toArray, List.set_cons_zero, List.set_cons_succ]
      refine wpAnyH_ready (rs := [4]) (by kernel_rfl) (by simp) ?_
      refine AllReadyH.cons rfl (fun K hK => ?_) AllReadyH.nil
      go_simp
      refine (pickWf (m := 3) (zs := [-1, 16, 15]) (by decide) (by decide) hl (cur_alloc HPD.out.2.2.2.2.1 _ _) (by have := cur_lt HP.out.2.2.2.2.1; omega) rfl (by decide) ?_).mono ?_
      · intro i hi
        rw [World.cell?_alloc_at (hn := by simp)]
        match i, hi with
        | 0, _ | 1, _ | 2, _ => rfl
      rintro e w3 ⟨z, rfl, hz, hc3, hg3⟩
      have HP3 := Lib.hid (HPD.out.call hc3 (grown_trans (World.grownBy_alloc _ _ _) hg3))
      clear hc3 hg3
      refine hK.out _ _ (HP3.out.1.cell 0) (fun hHeld => ?_)
      clear hK K
      try simp only [Act.put, List.getElem_toArray, List.getElem_cons_zero, List.getElem_cons_succ, List.setIfInBounds_toArray, List.set_cons_zero, List.set_cons_succ]
      refine wpAnyH_take (i := 5) (v := ?v4) rfl (by kernel_rfl) (by kernel_rfl) (by kernel_rfl) (fun _ _ _ h => h) (Or.inl ⟨by rfl, ?h4⟩) hHeld ?r4
      case h4 => intro wq hS; go_simp; with_reducible rfl
      try simp only [Act.put, List.getElem_toArray, List.getElem_cons_zero, List.getElem_cons_succ, List.setIfInBounds_toArray, List.set_cons_zero, List.set_cons_succ]
      refine wpAnyH_take (i := 6) (v := ?v5) rfl (by kernel_rfl) (by kernel_rfl) (by kernel_rfl) (fun _ _ _ h => h) (Or.inl ⟨by rfl, ?h5⟩) hHeld ?r5
      case h5 => intro wq hS; go_simp; with_reducible rfl
      try simp only [Act.put, List.getElem_toArray, List.getElem_cons_zero, List.getElem_cons_succ, List.setIfInBounds_toArray, List.set_cons_zero, List.set_cons_succ]
      refine wpAnyH_ready (rs := [7]) (by kernel_rfl) (by simp) ?_
      refine AllReadyH.cons rfl (fun K hK => ?_) AllReadyH.nil
      obtain ⟨z3, y3, b0, b1⟩ := HP3.out.facts
      obtain ⟨hs3, _⟩ := HP3.out.open
      obtain ⟨g', o', e', _, hKr⟩ := rowAt hs3 0 hk0
      cases e'
      obtain ⟨k0, k1, k2, k3, k4⟩ := (hKr w3 (Below.refl _ _)).1
      have hfz := (hKr w3 (Below.refl _ _)).2
      rw [Nat.zero_mul, Nat.add_zero] at k0 k1 k2 k3 k4
      go_simp
      have hst : SlIn kdRw (w3.setCell ⟨g, o + 2, none⟩ (.int .i64 z)) (some ⟨g, o, none⟩) (t.rows.set 0 { r0 with port := z }) := SlIn.store hs3 0 hk0 2 (by decide) _ { r0 with port := z } (by rw [HR0.out]; rfl)
      have hgC := HP3.out.2.2.1 g (by rw [hCb, blkN_some (by omega)]; simp)
      have HPF := Lib.hid (HP3.out.rows hn ((Turned.refl [g] w3).setCell (p := ⟨g, o + 2, none⟩) (by simp) (.int .i64 z)) hst (by rw [List.length_set]; exact HLEN.out) (fun r hr => by rcases List.mem_or_eq_of_mem_set hr with hr | rfl; exact HFIT.out.1 r hr; exact ⟨HF0.out.1, HF0.out.2.1, hz, HF0.out.2.2.2⟩) (cur_store HP3.out.2.2.2.2.1 (by omega) _))
      refine hK.out _ _ (HPF.out.1.cell 0) (fun hHeld => ?_)
      clear hK K
      try simp only [Act.put, List.getElem_toArray, List.getElem_cons_zero, List.getElem_cons_succ, List.setIfInBounds_toArray, List.set_cons_zero, List.set_cons_succ]
      refine wpAnyH_done (by kernel_rfl) ?_ _
      clear hst hgC k0 k1 k2 k3 k4 hfz
      generalize w3.setCell ⟨g, o + 2, none⟩ (.int .i64 z) = w4 at HPF ⊢
      have b0 := HPF.out.facts.2.2.1
      have b1 := HPF.out.facts.2.2.2
      obtain ⟨hT, hTI, hC, hR, hcw, hG, hb2, _⟩ := HPF.out
      have hRB := HPF.out.2.2.2.1
      have z1 := hRB.frozen
      have y1 := hRB.shape
      have e0 : w4.cell? ⟨w.heap.size, 0, none⟩ = some (.slice none 0 0) := hRB.cell 0
      have e1 : w4.cell? ⟨w.heap.size, 1, none⟩ = some (.int .i64 0) := hRB.cell 1
      clear hRB
      have hf := hR.set 0 (.slice (some ⟨g, o, none⟩) n cap) |>.set 1 (.int .i64 q)
      have hTf := hTI.turned (C := [w.heap.size]) (((Turned.refl _ (w4)).setCell (p := ⟨w.heap.size, 0, none⟩) (by simp) (.slice (some ⟨g, o, none⟩) n cap)).setCell (p := ⟨w.heap.size, 1, none⟩) (by simp) (.int .i64 q)) (fun b hb' hm => by have := (hC b hb').1; simp at hm; omega)
      have hcf := cur_store (j := 1) (cur_store (j := 0) hcw hlt0 (.slice (some ⟨g, o, none⟩) n cap)) hlt0 (.int .i64 q)
      have hgf := grown_store (j := 1) (grown_store (j := 0) hG (Nat.le_refl _) (.slice (some ⟨g, o, none⟩) n cap)) (Nat.le_refl _) (.int .i64 q)
      have HTF := Lib.hid hTf; have HCF := Lib.hid hcf; have HGF := Lib.hid hgf; have HCC := Lib.hid hC; have HFF := Lib.hid hf
      clear hT hTI hR hcw hG hTf hcf hgf hC hf
      go_wp2_with fail
      have r0 : ((w4.setCell ⟨w.heap.size, 0, none⟩ (.slice (some ⟨g, o, none⟩) n cap)).setCell ⟨w.heap.size, 1, none⟩ (.int .i64 q)).cell? ⟨w.heap.size, 0, none⟩ = some (.slice (some ⟨g, o, none⟩) n cap) := HFF.out.cell 0
      have r1 : ((w4.setCell ⟨w.heap.size, 0, none⟩ (.slice (some ⟨g, o, none⟩) n cap)).setCell ⟨w.heap.size, 1, none⟩ (.int .i64 q)).cell? ⟨w.heap.size, 1, none⟩ = some (.int .i64 q) := HFF.out.cell 1
      generalize (w4.setCell ⟨w.heap.size, 0, none⟩ (.slice (some ⟨g, o, none⟩) n cap)).setCell ⟨w.heap.size, 1, none⟩ (.int .i64 q) = W at r0 r1 HTF HCF HGF ⊢
      refine bodyPost_ret (v := .agg #[.slice (some ⟨g, o, none⟩) n cap, .int .i64 q]) (by simp [results, Try.results36, go_sem, r0, r1]) rfl ?_
      exact ⟨C, _, (some ⟨g, o, none⟩), n, cap, q, rfl, HTF.out, fun b hb => by have := (HCC.out b hb).1; omega, HCF.out, HGF.out⟩
    · have hn1 : ¬ ((0 : Int) < (n : Int)) := by omega
      obtain ⟨hT, hTI, hC, hR, hcw, hG, hb2, _⟩ := HP.out
      have hRB := HP.out.2.2.2.1
      have z1 := hRB.frozen
      have y1 := hRB.shape
      have e0 : w2.cell? ⟨w.heap.size, 0, none⟩ = some (.slice none 0 0) := hRB.cell 0
      have e1 : w2.cell? ⟨w.heap.size, 1, none⟩ = some (.int .i64 0) := hRB.cell 1
      clear hRB
      have hf := hR.set 0 (.slice a n cap) |>.set 1 (.int .i64 q)
      have hTf := hTI.turned (C := [w.heap.size]) (((Turned.refl _ (w2)).setCell (p := ⟨w.heap.size, 0, none⟩) (by simp) (.slice a n cap)).setCell (p := ⟨w.heap.size, 1, none⟩) (by simp) (.int .i64 q)) (fun b hb' hm => by have := (hC b hb').1; simp at hm; omega)
      have hcf := cur_store (j := 1) (cur_store (j := 0) hcw hlt0 (.slice a n cap)) hlt0 (.int .i64 q)
      have hgf := grown_store (j := 1) (grown_store (j := 0) hG (Nat.le_refl _) (.slice a n cap)) (Nat.le_refl _) (.int .i64 q)
      have HTF := Lib.hid hTf; have HCF := Lib.hid hcf; have HGF := Lib.hid hgf; have HCC := Lib.hid hC; have HFF := Lib.hid hf
      clear hT hTI hR hcw hG hTf hcf hgf hC hf
      go_wp2_with fail
      have r0 : ((w2.setCell ⟨w.heap.size, 0, none⟩ (.slice a n cap)).setCell ⟨w.heap.size, 1, none⟩ (.int .i64 q)).cell? ⟨w.heap.size, 0, none⟩ = some (.slice a n cap) := HFF.out.cell 0
      have r1 : ((w2.setCell ⟨w.heap.size, 0, none⟩ (.slice a n cap)).setCell ⟨w.heap.size, 1, none⟩ (.int .i64 q)).cell? ⟨w.heap.size, 1, none⟩ = some (.int .i64 q) := HFF.out.cell 1
      generalize (w2.setCell ⟨w.heap.size, 0, none⟩ (.slice a n cap)).setCell ⟨w.heap.size, 1, none⟩ (.int .i64 q) = W at r0 r1 HTF HCF HGF ⊢
      refine bodyPost_ret (v := .agg #[.slice a n cap, .int .i64 q]) (by simp [results, Try.results36, go_sem, r0, r1]) rfl ?_
      exact ⟨C, _, a, n, cap, q, rfl, HTF.out, fun b hb => by have := (HCC.out b hb).1; omega, HCF.out, HGF.out⟩
  have hq1 : (d == 1) = false := by simp [h1]
  by_cases h2 : d = 2
  · subst h2
    by_cases hn : 1 < n
    · have hn1 : (1 : Int) < (n : Int) := by omega
      obtain ⟨hs, hlen, hCb, hcap, hfit, _⟩ := HP.out.open
      have hk0 : 0 < t.rows.length := by omega
      have hk1 : 1 < t.rows.length := by omega
      obtain ⟨g, o, rfl, hg, hA⟩ := rowAt hs 1 hk1
      obtain ⟨k0, k1, k2, k3, k4⟩ := (hA w2 (Below.refl _ _)).1
      obtain ⟨g', o', e', _, hB⟩ := rowAt hs 0 hk0
      cases e'
      obtain ⟨j0, j1, j2, j3, j4⟩ := (hB w2 (Below.refl _ _)).1
      have hfz := (hB w2 (Below.refl _ _)).2
      rw [Nat.one_mul] at k0 k1 k2 k3 k4
      rw [Nat.zero_mul, Nat.add_zero] at j0 j1 j2 j3 j4
      obtain ⟨r1, hr1⟩ : ∃ r, t.rows[1] = r := ⟨_, rfl⟩
      have hf1 := hfit.1 r1 (by rw [← hr1]; exact List.getElem_mem _)
      rw [hr1] at k0 k1 k2 k3 k4
      have HPD := Lib.hid HP.out.drew
      have HS := Lib.hid hs; have HLEN := Lib.hid hlen; have HFIT := Lib.hid hfit; have HF1 := Lib.hid hf1
      clear hs hlen hfit hr1 hf1 hA hB
      have hn00 : 0 < n := by omega
      go_upto_region 10 with fail
      refine wp_region_held_drew (S := fun w' => w'.cell? ⟨bt, 0, none⟩ = some (.slice (some ⟨g, o, none⟩) n cap)) (by kernel_rfl) (HPD.out.1.cell 0) (fun hHeld => ?_)
      refine wpAnyH_take (i := 0) (v := ?v11) rfl (by kernel_rfl) (by kernel_rfl) (by kernel_rfl) (fun _ _ _ h => h) (Or.inl ⟨by rfl, ?h11⟩) hHeld ?r11
      case h11 => intro wq hS; go_simp; with_reducible rfl
      try simp only [Act.put, List.getElem_toArray, List.getElem_cons_zero, List.getElem_cons_succ, List.setIfInBounds_toArray, List.set_cons_zero, List.set_cons_succ]
      refine wpAnyH_take (i := 1) (v := ?v12) rfl (by kernel_rfl) (by kernel_rfl) (by kernel_rfl) (fun _ _ _ h => h) (Or.inl ⟨by rfl, ?h12⟩) hHeld ?r12
      case h12 => intro wq hS; go_simp; with_reducible rfl
      try simp only [Act.put, List.getElem_toArray, List.getElem_cons_zero, List.getElem_cons_succ, List.setIfInBounds_toArray, List.set_cons_zero, List.set_cons_succ]
      refine wpAnyH_take (i := 2) (v := ?v13) rfl (by kernel_rfl) (by kernel_rfl) (by kernel_rfl) (fun _ _ _ h => h) (Or.inl ⟨by rfl, ?h13⟩) hHeld ?r13
      case h13 => intro wq hS; go_simp; with_reducible rfl
      try simp only [Act.put, List.getElem_toArray, List.getElem_cons_zero, List.getElem_cons_succ, List.setIfInBounds_toArray, List.set_cons_zero, List.set_cons_succ]
      refine wpAnyH_take (i := 3) (v := ?v14) rfl (by kernel_rfl) (by kernel_rfl) (by kernel_rfl) (fun _ _ _ h => h) (Or.inl ⟨by rfl, ?h14⟩) hHeld ?r14
      case h14 => intro wq hS; go_simp; with_reducible rfl
      try simp only [Act.put, List.getElem_toArray, List.getElem_cons_zero, List.getElem_cons_succ, List.setIfInBounds_toArray, List.set_cons_zero, List.set_cons_succ]
      refine wpAnyH_take (i := 4) (v := ?v15) rfl (by kernel_rfl) (by kernel_rfl) (by kernel_rfl) (fun _ _ _ h => h) (Or.inl ⟨by rfl, ?h15⟩) hHeld ?r15
      case h15 => intro wq hS; go_simp; with_reducible rfl
      try simp only [Act.put, List.getElem_toArray, List.getElem_cons_zero, List.getElem_cons_succ, List.setIfInBounds_toArray, List.set_cons_zero, List.set_cons_succ]
      refine wpAnyH_ready (rs := [5]) (by kernel_rfl) (by simp) ?_
      refine AllReadyH.cons rfl (fun K hK => ?_) AllReadyH.nil
      go_simp
      refine hK.out _ _ (HPD.out.1.cell 0) (fun hHeld => ?_)
      clear hK K
      try simp only [Act.put, List.getElem_toArray, List.getElem_cons_zero, List.getElem_cons_succ, List.setIfInBounds_toArray, List.set_cons_zero, List.set_cons_succ]
      refine wpAnyH_take (i := 6) (v := ?v16) rfl (by kernel_rfl) (by kernel_rfl) (by kernel_rfl) (fun _ _ _ h => h) (Or.inl ⟨by rfl, ?h16⟩) hHeld ?r16
      case h16 => intro wq hS; go_simp; with_reducible rfl
      try simp only [Act.put, List.getElem_toArray, List.getElem_cons_zero, List.getElem_cons_succ, List.setIfInBounds_toArray, List.set_cons_zero, List.set_cons_succ]
      refine wpAnyH_ready (rs := [7]) (by kernel_rfl) (by simp) ?_
      refine AllReadyH.cons rfl (fun K hK => ?_) AllReadyH.nil
      go_simp
      have hst : SlIn kdRw (((((w2.setCell ⟨g, o, none⟩ (.int .i64 r1.vid)).setCell ⟨g, o + 1, none⟩ (.int .i64 r1.mac)).setCell ⟨g, o + 2, none⟩ (.int .i64 r1.port)).setCell ⟨g, o + 3, none⟩ (.int .i64 r1.at_)).setCell ⟨g, o + 4, none⟩ (.bool r1.fixed)) (some ⟨g, o, none⟩) (t.rows.set 0 r1) := (SlIn.put HS.out 0 hk0 r1).1
      have htu : Turned [g] w2 (((((w2.setCell ⟨g, o, none⟩ (.int .i64 r1.vid)).setCell ⟨g, o + 1, none⟩ (.int .i64 r1.mac)).setCell ⟨g, o + 2, none⟩ (.int .i64 r1.port)).setCell ⟨g, o + 3, none⟩ (.int .i64 r1.at_)).setCell ⟨g, o + 4, none⟩ (.bool r1.fixed)) := (SlIn.put HS.out 0 hk0 r1).2
      have hgC := HP.out.2.2.1 g (by rw [hCb, blkN_some (by omega)]; simp)
      have hcg : c < g := by omega
      have hcu : Cur B c len (((((w2.setCell ⟨g, o, none⟩ (.int .i64 r1.vid)).setCell ⟨g, o + 1, none⟩ (.int .i64 r1.mac)).setCell ⟨g, o + 2, none⟩ (.int .i64 r1.port)).setCell ⟨g, o + 3, none⟩ (.int .i64 r1.at_)).setCell ⟨g, o + 4, none⟩ (.bool r1.fixed)) := cur_store (cur_store (cur_store (cur_store (cur_store HP.out.2.2.2.2.1 hcg _) hcg _) hcg _) hcg _) hcg _
      have HPF := Lib.hid (HP.out.rows (by omega) htu hst (by rw [List.length_set]; exact HLEN.out) (fun r hr => by rcases List.mem_or_eq_of_mem_set hr with hr | rfl; exact HFIT.out.1 r hr; exact HF1.out) hcu).drew
      refine hK.out _ _ (HPF.out.1.cell 0) (fun hHeld => ?_)
      clear hK K
      try simp only [Act.put, List.getElem_toArray, List.getElem_cons_zero, List.getElem_cons_succ, List.setIfInBounds_toArray, List.set_cons_zero, List.set_cons_succ]
      refine wpAnyH_done (by kernel_rfl) ?_ _
      clear hst htu hcu hgC hcg k0 k1 k2 k3 k4 j0 j1 j2 j3 j4 hfz
      generalize ((((((w2.setCell ⟨g, o, none⟩ (.int .i64 r1.vid)).setCell ⟨g, o + 1, none⟩ (.int .i64 r1.mac)).setCell ⟨g, o + 2, none⟩ (.int .i64 r1.port)).setCell ⟨g, o + 3, none⟩ (.int .i64 r1.at_)).setCell ⟨g, o + 4, none⟩ (.bool r1.fixed))).drew = w4 at HPF ⊢
      have b0 := HPF.out.facts.2.2.1
      have b1 := HPF.out.facts.2.2.2
      obtain ⟨hT, hTI, hC, hR, hcw, hG, hb2, _⟩ := HPF.out
      have hRB := HPF.out.2.2.2.1
      have z1 := hRB.frozen
      have y1 := hRB.shape
      have e0 : w4.cell? ⟨w.heap.size, 0, none⟩ = some (.slice none 0 0) := hRB.cell 0
      have e1 : w4.cell? ⟨w.heap.size, 1, none⟩ = some (.int .i64 0) := hRB.cell 1
      clear hRB
      have hf := hR.set 0 (.slice (some ⟨g, o, none⟩) n cap) |>.set 1 (.int .i64 q)
      have hTf := hTI.turned (C := [w.heap.size]) (((Turned.refl _ (w4)).setCell (p := ⟨w.heap.size, 0, none⟩) (by simp) (.slice (some ⟨g, o, none⟩) n cap)).setCell (p := ⟨w.heap.size, 1, none⟩) (by simp) (.int .i64 q)) (fun b hb' hm => by have := (hC b hb').1; simp at hm; omega)
      have hcf := cur_store (j := 1) (cur_store (j := 0) hcw hlt0 (.slice (some ⟨g, o, none⟩) n cap)) hlt0 (.int .i64 q)
      have hgf := grown_store (j := 1) (grown_store (j := 0) hG (Nat.le_refl _) (.slice (some ⟨g, o, none⟩) n cap)) (Nat.le_refl _) (.int .i64 q)
      have HTF := Lib.hid hTf; have HCF := Lib.hid hcf; have HGF := Lib.hid hgf; have HCC := Lib.hid hC; have HFF := Lib.hid hf
      clear hT hTI hR hcw hG hTf hcf hgf hC hf
      go_wp2_with fail
      have r0 : ((w4.setCell ⟨w.heap.size, 0, none⟩ (.slice (some ⟨g, o, none⟩) n cap)).setCell ⟨w.heap.size, 1, none⟩ (.int .i64 q)).cell? ⟨w.heap.size, 0, none⟩ = some (.slice (some ⟨g, o, none⟩) n cap) := HFF.out.cell 0
      have r1 : ((w4.setCell ⟨w.heap.size, 0, none⟩ (.slice (some ⟨g, o, none⟩) n cap)).setCell ⟨w.heap.size, 1, none⟩ (.int .i64 q)).cell? ⟨w.heap.size, 1, none⟩ = some (.int .i64 q) := HFF.out.cell 1
      generalize (w4.setCell ⟨w.heap.size, 0, none⟩ (.slice (some ⟨g, o, none⟩) n cap)).setCell ⟨w.heap.size, 1, none⟩ (.int .i64 q) = W at r0 r1 HTF HCF HGF ⊢
      refine bodyPost_ret (v := .agg #[.slice (some ⟨g, o, none⟩) n cap, .int .i64 q]) (by simp [results, Try.results36, go_sem, r0, r1]) rfl ?_
      exact ⟨C, _, (some ⟨g, o, none⟩), n, cap, q, rfl, HTF.out, fun b hb => by have := (HCC.out b hb).1; omega, HCF.out, HGF.out⟩
    · have hn1 : ¬ ((1 : Int) < (n : Int)) := by omega
      obtain ⟨hT, hTI, hC, hR, hcw, hG, hb2, _⟩ := HP.out
      have hRB := HP.out.2.2.2.1
      have z1 := hRB.frozen
      have y1 := hRB.shape
      have e0 : w2.cell? ⟨w.heap.size, 0, none⟩ = some (.slice none 0 0) := hRB.cell 0
      have e1 : w2.cell? ⟨w.heap.size, 1, none⟩ = some (.int .i64 0) := hRB.cell 1
      clear hRB
      have hf := hR.set 0 (.slice a n cap) |>.set 1 (.int .i64 q)
      have hTf := hTI.turned (C := [w.heap.size]) (((Turned.refl _ (w2)).setCell (p := ⟨w.heap.size, 0, none⟩) (by simp) (.slice a n cap)).setCell (p := ⟨w.heap.size, 1, none⟩) (by simp) (.int .i64 q)) (fun b hb' hm => by have := (hC b hb').1; simp at hm; omega)
      have hcf := cur_store (j := 1) (cur_store (j := 0) hcw hlt0 (.slice a n cap)) hlt0 (.int .i64 q)
      have hgf := grown_store (j := 1) (grown_store (j := 0) hG (Nat.le_refl _) (.slice a n cap)) (Nat.le_refl _) (.int .i64 q)
      have HTF := Lib.hid hTf; have HCF := Lib.hid hcf; have HGF := Lib.hid hgf; have HCC := Lib.hid hC; have HFF := Lib.hid hf
      clear hT hTI hR hcw hG hTf hcf hgf hC hf
      go_wp2_with fail
      have r0 : ((w2.setCell ⟨w.heap.size, 0, none⟩ (.slice a n cap)).setCell ⟨w.heap.size, 1, none⟩ (.int .i64 q)).cell? ⟨w.heap.size, 0, none⟩ = some (.slice a n cap) := HFF.out.cell 0
      have r1 : ((w2.setCell ⟨w.heap.size, 0, none⟩ (.slice a n cap)).setCell ⟨w.heap.size, 1, none⟩ (.int .i64 q)).cell? ⟨w.heap.size, 1, none⟩ = some (.int .i64 q) := HFF.out.cell 1
      generalize (w2.setCell ⟨w.heap.size, 0, none⟩ (.slice a n cap)).setCell ⟨w.heap.size, 1, none⟩ (.int .i64 q) = W at r0 r1 HTF HCF HGF ⊢
      refine bodyPost_ret (v := .agg #[.slice a n cap, .int .i64 q]) (by simp [results, Try.results36, go_sem, r0, r1]) rfl ?_
      exact ⟨C, _, a, n, cap, q, rfl, HTF.out, fun b hb => by have := (HCC.out b hb).1; omega, HCF.out, HGF.out⟩
  have hq2 : (d == 2) = false := by simp [h2]
  by_cases h3 : d = 3
  · subst h3
    by_cases hn : 0 < n
    · have hn1 : (0 : Int) < (n : Int) := by omega
      obtain ⟨hs, hlen, hCb, hcap, hfit, _⟩ := HP.out.open
      have hk0 : 0 < t.rows.length := by omega
      obtain ⟨g, o, rfl, hg, _⟩ := rowAt hs 0 hk0
      have HPD := Lib.hid HP.out.drew
      have hrw : ∃ r, t.rows[0] = r := ⟨_, rfl⟩
      obtain ⟨r0, hr0⟩ := hrw
      have hf0 := hfit.1 r0 (by rw [← hr0]; exact List.getElem_mem _)
      have HS := Lib.hid hs; have HLEN := Lib.hid hlen; have HFIT := Lib.hid hfit; have HR0 := Lib.hid hr0; have HF0 := Lib.hid hf0
      clear hs hlen hfit hr0 hf0
      go_upto_region 13 with fail
      refine wp_region_held_drew (S := fun w' => w'.cell? ⟨bt, 0, none⟩ = some (.slice (some ⟨g, o, none⟩) n cap)) (by kernel_rfl) (HPD.out.1.cell 0) (fun hHeld => ?_)
      refine wpAnyH_take (i := 0) (v := ?v6) rfl (by kernel_rfl) (by kernel_rfl) (by kernel_rfl) (fun _ _ _ h => h) (Or.inl ⟨by rfl, ?h6⟩) hHeld ?r6
      case h6 => intro wq hS; go_simp; with_reducible rfl
      try simp only [Act.put, List.getElem_toArray, List.getElem_cons_zero, List.getElem_cons_succ, List.setIfInBounds_toArray, List.set_cons_zero, List.set_cons_succ]
      refine wpAnyH_take (i := 1) (v := ?v7) rfl (by kernel_rfl) (by kernel_rfl) (by kernel_rfl) (fun _ _ _ h => h) (Or.inl ⟨by rfl, ?h7⟩) hHeld ?r7
      case h7 => intro wq hS; go_simp; with_reducible rfl
      try simp only [Act.put, List.getElem_toArray, List.getElem_cons_zero, List.getElem_cons_succ, List.setIfInBounds_toArray, List.set_cons_zero, List.set_cons_succ]
      refine wpAnyH_take (i := 2) (v := ?v8) rfl (by kernel_rfl) (by kernel_rfl) (by kernel_rfl) (fun _ _ _ h => h) (Or.inl ⟨by rfl, ?h8⟩) hHeld ?r8
      case h8 => intro wq hS; go_simp; with_reducible rfl
      try simp only [Act.put, List.getElem_toArray, List.getElem_cons_zero, List.getElem_cons_succ, List.setIfInBounds_toArray, List.set_cons_zero, List.set_cons_succ]
      refine wpAnyH_ready (rs := [3]) (by kernel_rfl) (by simp) ?_
      refine AllReadyH.cons rfl (fun K hK => ?_) AllReadyH.nil
      go_simp
      refine (any2_wf B c len _ hl HPD.out.2.2.2.2.1).mono ?_
      rintro e w3 ⟨z, rfl, hz, hc3, hg3⟩
      have HP3 := Lib.hid (HPD.out.call hc3 hg3)
      clear hc3 hg3
      refine hK.out _ _ (HP3.out.1.cell 0) (fun hHeld => ?_)
      clear hK K
      try simp only [Act.put, List.getElem_toArray, List.getElem_cons_zero, List.getElem_cons_succ, List.setIfInBounds_toArray, List.set_cons_zero, List.set_cons_succ]
      refine wpAnyH_take (i := 4) (v := ?v9) rfl (by kernel_rfl) (by kernel_rfl) (by kernel_rfl) (fun _ _ _ h => h) (Or.inl ⟨by rfl, ?h9⟩) hHeld ?r9
      case h9 => intro wq hS; go_simp; with_reducible rfl
      try simp only [Act.put, List.getElem_toArray, List.getElem_cons_zero, List.getElem_cons_succ, List.setIfInBounds_toArray, List.set_cons_zero, List.set_cons_succ]
      refine wpAnyH_take (i := 5) (v := ?v10) rfl (by kernel_rfl) (by kernel_rfl) (by kernel_rfl) (fun _ _ _ h => h) (Or.inl ⟨by rfl, ?h10⟩) hHeld ?r10
      case h10 => intro wq hS; go_simp; with_reducible rfl
      try simp only [Act.put, List.getElem_toArray, List.getElem_cons_zero, List.getElem_cons_succ, List.setIfInBounds_toArray, List.set_cons_zero, List.set_cons_succ]
      refine wpAnyH_ready (rs := [6]) (by kernel_rfl) (by simp) ?_
      refine AllReadyH.cons rfl (fun K hK => ?_) AllReadyH.nil
      obtain ⟨z3, y3, b0, b1⟩ := HP3.out.facts
      obtain ⟨hs3, _⟩ := HP3.out.open
      obtain ⟨g', o', e', _, hKr⟩ := rowAt hs3 0 hk0
      cases e'
      obtain ⟨k0, k1, k2, k3, k4⟩ := (hKr w3 (Below.refl _ _)).1
      have hfz := (hKr w3 (Below.refl _ _)).2
      rw [Nat.zero_mul, Nat.add_zero] at k0 k1 k2 k3 k4
      go_simp
      have hst : SlIn kdRw (w3.setCell ⟨g, o + 1, none⟩ (.int .i64 z)) (some ⟨g, o, none⟩) (t.rows.set 0 { r0 with mac := z }) := SlIn.store hs3 0 hk0 1 (by decide) _ { r0 with mac := z } (by rw [HR0.out]; rfl)
      have hgC := HP3.out.2.2.1 g (by rw [hCb, blkN_some (by omega)]; simp)
      have HPF := Lib.hid (HP3.out.rows hn ((Turned.refl [g] w3).setCell (p := ⟨g, o + 1, none⟩) (by simp) (.int .i64 z)) hst (by rw [List.length_set]; exact HLEN.out) (fun r hr => by rcases List.mem_or_eq_of_mem_set hr with hr | rfl; exact HFIT.out.1 r hr; exact ⟨HF0.out.1, hz, HF0.out.2.2⟩) (cur_store HP3.out.2.2.2.2.1 (by omega) _))
      refine hK.out _ _ (HPF.out.1.cell 0) (fun hHeld => ?_)
      clear hK K
      try simp only [Act.put, List.getElem_toArray, List.getElem_cons_zero, List.getElem_cons_succ, List.setIfInBounds_toArray, List.set_cons_zero, List.set_cons_succ]
      refine wpAnyH_done (by kernel_rfl) ?_ _
      clear hst hgC k0 k1 k2 k3 k4 hfz
      generalize w3.setCell ⟨g, o + 1, none⟩ (.int .i64 z) = w4 at HPF ⊢
      have b0 := HPF.out.facts.2.2.1
      have b1 := HPF.out.facts.2.2.2
      obtain ⟨hT, hTI, hC, hR, hcw, hG, hb2, _⟩ := HPF.out
      have hRB := HPF.out.2.2.2.1
      have z1 := hRB.frozen
      have y1 := hRB.shape
      have e0 : w4.cell? ⟨w.heap.size, 0, none⟩ = some (.slice none 0 0) := hRB.cell 0
      have e1 : w4.cell? ⟨w.heap.size, 1, none⟩ = some (.int .i64 0) := hRB.cell 1
      clear hRB
      have hf := hR.set 0 (.slice (some ⟨g, o, none⟩) n cap) |>.set 1 (.int .i64 q)
      have hTf := hTI.turned (C := [w.heap.size]) (((Turned.refl _ (w4)).setCell (p := ⟨w.heap.size, 0, none⟩) (by simp) (.slice (some ⟨g, o, none⟩) n cap)).setCell (p := ⟨w.heap.size, 1, none⟩) (by simp) (.int .i64 q)) (fun b hb' hm => by have := (hC b hb').1; simp at hm; omega)
      have hcf := cur_store (j := 1) (cur_store (j := 0) hcw hlt0 (.slice (some ⟨g, o, none⟩) n cap)) hlt0 (.int .i64 q)
      have hgf := grown_store (j := 1) (grown_store (j := 0) hG (Nat.le_refl _) (.slice (some ⟨g, o, none⟩) n cap)) (Nat.le_refl _) (.int .i64 q)
      have HTF := Lib.hid hTf; have HCF := Lib.hid hcf; have HGF := Lib.hid hgf; have HCC := Lib.hid hC; have HFF := Lib.hid hf
      clear hT hTI hR hcw hG hTf hcf hgf hC hf
      go_wp2_with fail
      have r0 : ((w4.setCell ⟨w.heap.size, 0, none⟩ (.slice (some ⟨g, o, none⟩) n cap)).setCell ⟨w.heap.size, 1, none⟩ (.int .i64 q)).cell? ⟨w.heap.size, 0, none⟩ = some (.slice (some ⟨g, o, none⟩) n cap) := HFF.out.cell 0
      have r1 : ((w4.setCell ⟨w.heap.size, 0, none⟩ (.slice (some ⟨g, o, none⟩) n cap)).setCell ⟨w.heap.size, 1, none⟩ (.int .i64 q)).cell? ⟨w.heap.size, 1, none⟩ = some (.int .i64 q) := HFF.out.cell 1
      generalize (w4.setCell ⟨w.heap.size, 0, none⟩ (.slice (some ⟨g, o, none⟩) n cap)).setCell ⟨w.heap.size, 1, none⟩ (.int .i64 q) = W at r0 r1 HTF HCF HGF ⊢
      refine bodyPost_ret (v := .agg #[.slice (some ⟨g, o, none⟩) n cap, .int .i64 q]) (by simp [results, Try.results36, go_sem, r0, r1]) rfl ?_
      exact ⟨C, _, (some ⟨g, o, none⟩), n, cap, q, rfl, HTF.out, fun b hb => by have := (HCC.out b hb).1; omega, HCF.out, HGF.out⟩
    · have hn1 : ¬ ((0 : Int) < (n : Int)) := by omega
      obtain ⟨hT, hTI, hC, hR, hcw, hG, hb2, _⟩ := HP.out
      have hRB := HP.out.2.2.2.1
      have z1 := hRB.frozen
      have y1 := hRB.shape
      have e0 : w2.cell? ⟨w.heap.size, 0, none⟩ = some (.slice none 0 0) := hRB.cell 0
      have e1 : w2.cell? ⟨w.heap.size, 1, none⟩ = some (.int .i64 0) := hRB.cell 1
      clear hRB
      have hf := hR.set 0 (.slice a n cap) |>.set 1 (.int .i64 q)
      have hTf := hTI.turned (C := [w.heap.size]) (((Turned.refl _ (w2)).setCell (p := ⟨w.heap.size, 0, none⟩) (by simp) (.slice a n cap)).setCell (p := ⟨w.heap.size, 1, none⟩) (by simp) (.int .i64 q)) (fun b hb' hm => by have := (hC b hb').1; simp at hm; omega)
      have hcf := cur_store (j := 1) (cur_store (j := 0) hcw hlt0 (.slice a n cap)) hlt0 (.int .i64 q)
      have hgf := grown_store (j := 1) (grown_store (j := 0) hG (Nat.le_refl _) (.slice a n cap)) (Nat.le_refl _) (.int .i64 q)
      have HTF := Lib.hid hTf; have HCF := Lib.hid hcf; have HGF := Lib.hid hgf; have HCC := Lib.hid hC; have HFF := Lib.hid hf
      clear hT hTI hR hcw hG hTf hcf hgf hC hf
      go_wp2_with fail
      have r0 : ((w2.setCell ⟨w.heap.size, 0, none⟩ (.slice a n cap)).setCell ⟨w.heap.size, 1, none⟩ (.int .i64 q)).cell? ⟨w.heap.size, 0, none⟩ = some (.slice a n cap) := HFF.out.cell 0
      have r1 : ((w2.setCell ⟨w.heap.size, 0, none⟩ (.slice a n cap)).setCell ⟨w.heap.size, 1, none⟩ (.int .i64 q)).cell? ⟨w.heap.size, 1, none⟩ = some (.int .i64 q) := HFF.out.cell 1
      generalize (w2.setCell ⟨w.heap.size, 0, none⟩ (.slice a n cap)).setCell ⟨w.heap.size, 1, none⟩ (.int .i64 q) = W at r0 r1 HTF HCF HGF ⊢
      refine bodyPost_ret (v := .agg #[.slice a n cap, .int .i64 q]) (by simp [results, Try.results36, go_sem, r0, r1]) rfl ?_
      exact ⟨C, _, a, n, cap, q, rfl, HTF.out, fun b hb => by have := (HCC.out b hb).1; omega, HCF.out, HGF.out⟩
  have hq3 : (d == 3) = false := by simp [h3]
  obtain ⟨hT, hTI, hC, hR, hcw, hG, hb2, _⟩ := HP.out
  have hRB := HP.out.2.2.2.1
  have z1 := hRB.frozen
  have y1 := hRB.shape
  have e0 : w2.cell? ⟨w.heap.size, 0, none⟩ = some (.slice none 0 0) := hRB.cell 0
  have e1 : w2.cell? ⟨w.heap.size, 1, none⟩ = some (.int .i64 0) := hRB.cell 1
  clear hRB
  have hf := hR.set 0 (.slice a n cap) |>.set 1 (.int .i64 q)
  have hTf := hTI.turned (C := [w.heap.size]) (((Turned.refl _ (w2)).setCell (p := ⟨w.heap.size, 0, none⟩) (by simp) (.slice a n cap)).setCell (p := ⟨w.heap.size, 1, none⟩) (by simp) (.int .i64 q)) (fun b hb' hm => by have := (hC b hb').1; simp at hm; omega)
  have hcf := cur_store (j := 1) (cur_store (j := 0) hcw hlt0 (.slice a n cap)) hlt0 (.int .i64 q)
  have hgf := grown_store (j := 1) (grown_store (j := 0) hG (Nat.le_refl _) (.slice a n cap)) (Nat.le_refl _) (.int .i64 q)
  have HTF := Lib.hid hTf; have HCF := Lib.hid hcf; have HGF := Lib.hid hgf; have HCC := Lib.hid hC; have HFF := Lib.hid hf
  clear hT hTI hR hcw hG hTf hcf hgf hC hf
  go_wp2_with fail
  have r0 : ((w2.setCell ⟨w.heap.size, 0, none⟩ (.slice a n cap)).setCell ⟨w.heap.size, 1, none⟩ (.int .i64 q)).cell? ⟨w.heap.size, 0, none⟩ = some (.slice a n cap) := HFF.out.cell 0
  have r1 : ((w2.setCell ⟨w.heap.size, 0, none⟩ (.slice a n cap)).setCell ⟨w.heap.size, 1, none⟩ (.int .i64 q)).cell? ⟨w.heap.size, 1, none⟩ = some (.int .i64 q) := HFF.out.cell 1
  generalize (w2.setCell ⟨w.heap.size, 0, none⟩ (.slice a n cap)).setCell ⟨w.heap.size, 1, none⟩ (.int .i64 q) = W at r0 r1 HTF HCF HGF ⊢
  refine bodyPost_ret (v := .agg #[.slice a n cap, .int .i64 q]) (by simp [results, Try.results36, go_sem, r0, r1]) rfl ?_
  exact ⟨C, _, a, n, cap, q, rfl, HTF.out, fun b hb => by have := (HCC.out b hb).1; omega, HCF.out, HGF.out⟩
end Go.Proofs.Ytleebmbnjdoinaa
