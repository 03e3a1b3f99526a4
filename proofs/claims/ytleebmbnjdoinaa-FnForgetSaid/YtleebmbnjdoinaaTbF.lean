/- Fix of the model. -/
import Derived.Test.YtleebmbnjdoinaaTbLn
namespace Go.Proofs.Ytleebmbnjdoinaa
open Go.RowKit

noncomputable def fixT (t : Tb) (vid mac port : Int) : Tb :=
  if tabOk t then
    if (!decide (rowOk ⟨vid, mac, port, 0, true⟩) || decide (t.most < ((putRows ⟨vid, mac, port, 0, true⟩ t.rows).length : Int))) = true then t
    else ⟨putRows ⟨vid, mac, port, 0, true⟩ t.rows, t.most⟩
  else ⟨[], 0⟩

theorem tab_parts {W : World} {B : List Nat} {a : Option Addr} {n c : Nat} {q : Int} {t : Tb} (h : TabIn W B (.agg #[.slice a n c, .int .i64 q]) t) : t.rows.length = n ∧ t.most = q := by
  obtain ⟨_, _, e, _⟩ := h
  unfold tabVal at e
  simp only [Value.agg.injEq] at e
  have h0 := congrArg (fun z => z[0]?) e
  have h1 := congrArg (fun z => z[1]?) e
  simp at h0 h1
  exact ⟨h0.2.1.symm, h1.symm⟩

set_option linter.unusedSimpArgs false in
set_option maxHeartbeats 4000000 in
theorem fix5_spec {w : World} {B : List Nat} {v : Value} {t : Tb} (h : TabIn w B v t) (vid mac port : Int) (hrf : Rw.fits ⟨vid, mac, port, 0, true⟩) :
    Calls Try.prog 22 #[v, .int .i64 vid, .int .i64 mac, .int .i64 port] w (GotTab w (fixT t vid mac port)) := by
  have hO := fun w' (hb : Below w.heap.size w w') => tableOk_spec (h.after hb)
  have hC := fun w' (hb : Below w.heap.size w w') => copy5_spec (h.after hb)
  obtain ⟨a, cap, rfl, hs, _, hl, hfit⟩ := h
  obtain ⟨rs, most⟩ := t
  unfold tabVal at hO hC ⊢
  simp only at hO hC hs hl ⊢
  obtain ⟨n, hn⟩ : ∃ n, rs.length = n := ⟨_, rfl⟩
  rw [hn] at hO hC hl ⊢
  have hb2 : Below w.heap.size w ((w.alloc (.cells #[.slice a n cap, .int .i64 most] 26)).alloc (.cells #[.slice none 0 0, .int .i64 0] 26)) := ((Below.refl _ _).alloc (Nat.le_refl _) _).alloc (by simp) _
  have g0 : Blk ((w.alloc (.cells #[.slice a n cap, .int .i64 most] 26)).alloc (.cells #[.slice none 0 0, .int .i64 0] 26)) w.heap.size #[.slice a n cap, .int .i64 most] 26 := (blk_new _ _ rfl).alloc _
  have g1 : Blk ((w.alloc (.cells #[.slice a n cap, .int .i64 most] 26)).alloc (.cells #[.slice none 0 0, .int .i64 0] 26)) (w.heap.size + 1) #[.slice none 0 0, .int .i64 0] 26 := blk_new _ _ (by simp)
  have HN0 := Lib.hid hn; have HB2 := Lib.hid hb2; have G0 := Lib.hid g0; have G1 := Lib.hid g1; have HFIT := Lib.hid hfit; have HO := Lib.hid hO; have HC := Lib.hid hC; have HRF := Lib.hid hrf
  clear hs hn hb2 g0 g1 hfit hO hC hrf
  by_cases hok : tabOk ⟨rs, most⟩
  case neg =>
    have hm : fixT ⟨rs, most⟩ vid mac port = ⟨[], 0⟩ := by unfold fixT; rw [if_neg hok]
    rw [hm]
    clear hm
    go_enter Try.func22, Try.ntmps22
    go_wp2_with fail
    refine (HO.out _ HB2.out).mono ?_
    rintro e w4 ⟨rfl, hb4⟩
    rw [decide_eq_false hok]
    have g1 := G1.out.after hb4
    have z1 := g1.frozen
    have y1 := g1.shape
    have c0 : w4.cell? ⟨w.heap.size + 1, 0, none⟩ = some (.slice none 0 0) := g1.cell 0
    have c1 : w4.cell? ⟨w.heap.size + 1, 1, none⟩ = some (.int .i64 0) := g1.cell 1
    have g2 := (g1.set 0 (.slice none 0 0)).set 1 (.int .i64 0)
    have hB := ((HB2.out.trans (hb4.mono HB2.out.size)).setCell (p := ⟨w.heap.size + 1, 0, none⟩) (by simp only; omega) (.slice none 0 0)).setCell (p := ⟨w.heap.size + 1, 1, none⟩) (by simp only; omega) (.int .i64 0)
    have hz := HB2.out.size
    clear hb4
    go_wp2_with fail
    have r0 : ((w4.setCell ⟨w.heap.size + 1, 0, none⟩ (.slice none 0 0)).setCell ⟨w.heap.size + 1, 1, none⟩ (.int .i64 0)).cell? ⟨w.heap.size + 1, 0, none⟩ = some (.slice none 0 0) := g2.cell 0
    have r1 : ((w4.setCell ⟨w.heap.size + 1, 0, none⟩ (.slice none 0 0)).setCell ⟨w.heap.size + 1, 1, none⟩ (.int .i64 0)).cell? ⟨w.heap.size + 1, 1, none⟩ = some (.int .i64 0) := g2.cell 1
    clear g1 g2 z1 y1 c0 c1
    generalize (w4.setCell ⟨w.heap.size + 1, 0, none⟩ (.slice none 0 0)).setCell ⟨w.heap.size + 1, 1, none⟩ (.int .i64 0) = W at r0 r1 hB ⊢
    refine bodyPost_ret (v := .agg #[.slice none 0 0, .int .i64 0]) (by simp [results, Try.results22, go_sem, r0, r1]) rfl ?_
    exact got_own (t := ⟨[], 0⟩) (base := w.heap.size) (World.ownsRow_nil _ _ _ _) (Nat.le_refl _) (by simp) ⟨fun x hx => absurd hx (by simp), by decide⟩ hB
  obtain ⟨res, hres⟩ : ∃ q, fixT ⟨rs, most⟩ vid mac port = q := ⟨_, rfl⟩
  rw [hres]
  have HM := Lib.hid (show ∀ q, fixT ⟨rs, most⟩ vid mac port = q → res = q from fun q h => hres.symm.trans h)
  have hn64 : n ≤ 64 := by have h1 := hok.1.2; have h2 := hok.2.1; simp only at h1 h2; rw [HN0.out] at h2; omega
  obtain ⟨rp, hrp⟩ : ∃ q, putRows ⟨vid, mac, port, 0, true⟩ rs = q := ⟨_, rfl⟩
  have HRP := Lib.hid hrp
  obtain ⟨np, hnp⟩ : ∃ q, rp.length = q := ⟨_, rfl⟩
  have HNP := Lib.hid hnp
  have HU := Lib.hid (show fixT ⟨rs, most⟩ vid mac port = if (!decide (rowOk ⟨vid, mac, port, 0, true⟩) || decide (most < (np : Int))) = true then ⟨rs, most⟩ else ⟨rp, most⟩ by unfold fixT; rw [if_pos hok]; simp only [hrp, hnp])
  clear hl hres hrp hnp
  go_enter Try.func22, Try.ntmps22
  go_wp2_with fail
  refine (HO.out _ HB2.out).mono ?_
  rintro e w3 ⟨rfl, hb3⟩
  rw [decide_eq_true hok]
  clear hok
  have hB3 : Below w.heap.size w (w3.alloc (.cells #[.int .i64 vid, .int .i64 mac, .int .i64 port, .int .i64 0, .bool true] 34)) := (HB2.out.trans (hb3.mono HB2.out.size)).alloc (HB2.out.trans (hb3.mono HB2.out.size)).size _
  have g0 : Blk (w3.alloc (.cells #[.int .i64 vid, .int .i64 mac, .int .i64 port, .int .i64 0, .bool true] 34)) _ _ _ := (G0.out.after hb3).alloc _
  have g1 : Blk (w3.alloc (.cells #[.int .i64 vid, .int .i64 mac, .int .i64 port, .int .i64 0, .bool true] 34)) _ _ _ := (G1.out.after hb3).alloc _
  have f3 : Blk (w3.alloc (.cells #[.int .i64 vid, .int .i64 mac, .int .i64 port, .int .i64 0, .bool true] 34)) w3.heap.size #[.int .i64 vid, .int .i64 mac, .int .i64 port, .int .i64 0, .bool true] 34 := blk_new _ _ rfl
  have HB3 := Lib.hid hB3; have G03 := Lib.hid g0; have G13 := Lib.hid g1; have F33 := Lib.hid f3
  clear hb3 g0 g1 f3 hB3
  have hr := row5_spec ⟨vid, mac, port, 0, true⟩
  obtain ⟨rok, hrok⟩ : ∃ q, decide (rowOk ⟨vid, mac, port, 0, true⟩) = q := ⟨_, rfl⟩
  rw [hrok] at hr HU
  unfold Rw.val at hr
  simp only at hr
  have HR := Lib.hid hr
  have hput := fun w4 B4 v4 (hT4 : TabIn w4 B4 v4 ⟨rs, most⟩) => put5_spec hT4 ⟨vid, mac, port, 0, true⟩ HRF.out (by show rs.length ≤ _; rw [HN0.out]; omega)
  unfold Rw.val at hput
  simp only [HRP.out] at hput
  have HPUT := Lib.hid hput
  clear hr hrok hput
  go_wp2_with fail
  generalize hwr : w3.alloc (.cells #[.int .i64 vid, .int .i64 mac, .int .i64 port, .int .i64 0, .bool true] 34) = wr at HB3 G03 G13 F33 ⊢
  have hwz : w3.heap.size < wr.heap.size := F33.out.lt
  have HWZ := Lib.hid hwz
  clear hwr hwz
  have hFC : ∀ w', Below wr.heap.size wr w' → w'.cell? ⟨w.heap.size, 0, none⟩ = some (.slice a n cap) ∧ w'.cell? ⟨w.heap.size, 1, none⟩ = some (.int .i64 most) := fun w' hT => by
    have g := G03.out.after hT
    exact ⟨g.cell 0, g.cell 1⟩
  have hFD : ∀ w', Below wr.heap.size wr w' → w'.cell? ⟨w3.heap.size, 0, none⟩ = some (.int .i64 vid) ∧ w'.cell? ⟨w3.heap.size, 1, none⟩ = some (.int .i64 mac) ∧ w'.cell? ⟨w3.heap.size, 2, none⟩ = some (.int .i64 port) ∧ w'.cell? ⟨w3.heap.size, 3, none⟩ = some (.int .i64 0) ∧ w'.cell? ⟨w3.heap.size, 4, none⟩ = some (.bool true) := fun w' hT => by
    have g := F33.out.after hT
    exact ⟨g.cell 0, g.cell 1, g.cell 2, g.cell 3, g.cell 4⟩
  have HFC := Lib.hid hFC; have HFD := Lib.hid hFD
  clear hFC hFD
  refine wp_region_held_drew (S := fun w' => Below wr.heap.size wr w') (by kernel_rfl) (Below.drew (Below.refl _ _)) (fun hHeld => ?_)
  refine wpAnyH_take (i := 0) (v := ?v1) rfl (by kernel_rfl) (by kernel_rfl) (by kernel_rfl) (fun _ _ _ h => h) (Or.inl ⟨by rfl, ?h1⟩) hHeld ?r1
  case h1 => intro wq hS; obtain ⟨c0, c1⟩ := HFC.out wq hS; go_simp; with_reducible rfl
  try simp only [Act.put, List.getElem_toArray, List.getElem_cons_zero, List.getElem_cons_succ, List.setIfInBounds_toArray, List.set_cons_zero, List.set_cons_succ]
  refine wpAnyH_take (i := 2) (v := ?v2) rfl (by kernel_rfl) (by kernel_rfl) (by kernel_rfl) (fun _ _ _ h => h) (Or.inl ⟨by rfl, ?h2⟩) hHeld ?r2
  case h2 => intro wq hS; obtain ⟨d0, d1, d2, d3, d4⟩ := HFD.out wq hS; go_simp; with_reducible rfl
  try simp only [Act.put, List.getElem_toArray, List.getElem_cons_zero, List.getElem_cons_succ, List.setIfInBounds_toArray, List.set_cons_zero, List.set_cons_succ]
  refine wpAnyH_ready (rs := [1, 4]) (by kernel_rfl) (by simp) ?_
  refine AllReadyH.cons rfl (fun K hK => ?_) ?_
  · go_simp
    refine (HC.out _ (HB3.out.trans (hHeld.mono HB3.out.size))).mono ?_
    rintro e w4 ⟨B4, a4, n4, c4, q4, rfl, hT4, hf4, hb4⟩
    clear hf4
    refine hK.out _ _ (hHeld.trans (hb4.mono hHeld.size)) (fun hHeld => ?_)
    clear hK K
    try simp only [Act.put, List.getElem_toArray, List.getElem_cons_zero, List.getElem_cons_succ, List.setIfInBounds_toArray, List.set_cons_zero, List.set_cons_succ]
    refine wpAnyH_ready (rs := [3, 4]) (by kernel_rfl) (by simp) ?_
    refine AllReadyH.cons rfl (fun K hK => ?_) ?_
    · go_simp
      refine (HPUT.out _ _ _ (hT4)).mono ?_
      rintro e w5 ⟨B5, a5, n5, c5, q5, rfl, hT5, hf5, hb5⟩
      have hnq := tab_parts hT5
      obtain ⟨hn5, hq5⟩ : np = n5 ∧ most = q5 := ⟨HNP.out.symm.trans hnq.1, hnq.2⟩
      subst hn5
      subst hq5
      have HT5 := Lib.hid hT5; have HF5 := Lib.hid hf5
      have HGE := Lib.hid (show wr.heap.size ≤ (w4).heap.size from hHeld.size)
      clear hnq hT5 hf5
      refine hK.out _ _ (hHeld.trans (hb5.mono hHeld.size)) (fun hHeld => ?_)
      clear hK K
      try simp only [Act.put, List.getElem_toArray, List.getElem_cons_zero, List.getElem_cons_succ, List.setIfInBounds_toArray, List.set_cons_zero, List.set_cons_succ]
      have H5 := Lib.hid hHeld
      refine wpAnyH_ready (rs := [4]) (by kernel_rfl) (by simp) ?_
      refine AllReadyH.cons rfl (fun K hK => ?_) AllReadyH.nil
      go_simp
      refine hK.out _ _ (hHeld.alloc hHeld.size _) (fun hHeld => ?_)
      clear hK K
      try simp only [Act.put, List.getElem_toArray, List.getElem_cons_zero, List.getElem_cons_succ, List.setIfInBounds_toArray, List.set_cons_zero, List.set_cons_succ]
      refine wpAnyH_ready (rs := [5]) (by kernel_rfl) (by simp) ?_
      refine AllReadyH.cons rfl (fun K hK => ?_) AllReadyH.nil
      go_simp
      refine hK.out _ _ (H5.out.alloc H5.out.size _) (fun hHeld => ?_)
      clear hK K
      try simp only [Act.put, List.getElem_toArray, List.getElem_cons_zero, List.getElem_cons_succ, List.setIfInBounds_toArray, List.set_cons_zero, List.set_cons_succ]
      refine wpAnyH_done (by kernel_rfl) ?_ _
      have hnn := HF5.out
      have HB6 := Lib.hid (HB3.out.trans (hHeld.mono HB3.out.size))
      have g0 := G03.out.after hHeld
      have g1 := G13.out.after hHeld
      obtain ⟨d0, d1, d2, d3, d4⟩ := HFD.out _ hHeld
      have f2 : Blk (w5.alloc (.cells #[.slice a5 np c5, .int .i64 most] 26)) w5.heap.size #[.slice a5 np c5, .int .i64 most] 26 := blk_new _ _ rfl
      have hT6 := HT5.out.after ((Below.refl _ w5).alloc (Nat.le_refl _) (.cells #[.slice a5 np c5, .int .i64 most] 26))
      have HT6 := Lib.hid hT6; have HF6 := Lib.hid (fun b hb => Nat.le_trans HGE.out (hnn b hb)); have G06 := Lib.hid g0; have G16 := Lib.hid g1; have F26 := Lib.hid f2
      have HZ1 := Lib.hid G13.out.lt
      clear g0 g1 f2 hT6 hHeld hnn
      go_wp2_with fail
      generalize w5.alloc (.cells #[.slice a5 np c5, .int .i64 most] 26) = w6 at HT6 HB6 G06 G16 F26 d0 d1 d2 d3 d4 ⊢
      refine (HR.out _).mono ?_
      rintro e w7 ⟨rfl, hb7⟩
      clear d0 d1 d2 d3 d4
      have HT7 := Lib.hid (HT6.out.after hb7); have HB7 := Lib.hid (HB6.out.trans (hb7.mono HB6.out.size)); have G07 := Lib.hid (G06.out.after hb7); have G17 := Lib.hid (G16.out.after hb7); have F27 := Lib.hid (F26.out.after hb7)
      have HZ3 := Lib.hid HB3.out.size
      clear hb7
      cases rok
      · have hm : res = ⟨rs, most⟩ := HM.out _ (HU.out.trans (if_pos rfl))
        have HM := Lib.hid (show ∀ q : Tb, (⟨rs, most⟩ : Tb) = q → res = q from fun q e => hm.trans e)
        clear hm
        have g07 := G07.out
        have c0 : w7.cell? ⟨w.heap.size, 0, none⟩ = some (.slice a n cap) := g07.cell 0
        have c1 : w7.cell? ⟨w.heap.size, 1, none⟩ = some (.int .i64 most) := g07.cell 1
        clear g07
        go_wp2_with fail
        refine (HC.out _ HB7.out).mono ?_
        rintro e w8 ⟨Bp, pa, pn, pc, pm, rfl, hTp, hfp, hb8⟩
        have hg1 := G17.out.after hb8
        have hBN := HB7.out.trans (hb8.mono HB7.out.size)
        have hl1 := G17.out.lt
        clear c0 c1 hb8
        have z1 := hg1.frozen
        have y1 := hg1.shape
        have e0 : w8.cell? ⟨w.heap.size + 1, 0, none⟩ = some (.slice none 0 0) := hg1.cell 0
        have e1 : w8.cell? ⟨w.heap.size + 1, 1, none⟩ = some (.int .i64 0) := hg1.cell 1
        have g2 := (hg1.set 0 (.slice pa pn pc)).set 1 (.int .i64 pm)
        have hB := (hBN.setCell (p := ⟨w.heap.size + 1, 0, none⟩) (by simp only; omega) (.slice pa pn pc)).setCell (p := ⟨w.heap.size + 1, 1, none⟩) (by simp only; omega) (.int .i64 pm)
        have hT7 := hTp.turned (C := [w.heap.size + 1]) (((Turned.refl _ w8).setCell (p := ⟨w.heap.size + 1, 0, none⟩) (by simp) (.slice pa pn pc)).setCell (p := ⟨w.heap.size + 1, 1, none⟩) (by simp) (.int .i64 pm)) (fun b hb hm => by have := hfp b hb; simp at hm; omega)
        have G2 := Lib.hid g2; have HBF := Lib.hid hB; have HT7 := Lib.hid hT7; have HFP := Lib.hid hfp
        clear g2 hB hT7 hTp hfp hBN hg1
        go_wp2_with fail
        have r0 : ((w8.setCell ⟨w.heap.size + 1, 0, none⟩ (.slice pa pn pc)).setCell ⟨w.heap.size + 1, 1, none⟩ (.int .i64 pm)).cell? ⟨w.heap.size + 1, 0, none⟩ = some (.slice pa pn pc) := G2.out.cell 0
        have r1 : ((w8.setCell ⟨w.heap.size + 1, 0, none⟩ (.slice pa pn pc)).setCell ⟨w.heap.size + 1, 1, none⟩ (.int .i64 pm)).cell? ⟨w.heap.size + 1, 1, none⟩ = some (.int .i64 pm) := G2.out.cell 1
        have hB := HBF.out; have hT7 := HT7.out
        clear G2 HBF HT7 z1 y1 e0 e1
        generalize (w8.setCell ⟨w.heap.size + 1, 0, none⟩ (.slice pa pn pc)).setCell ⟨w.heap.size + 1, 1, none⟩ (.int .i64 pm) = W at r0 r1 hB hT7 ⊢
        refine bodyPost_ret (v := .agg #[.slice pa pn pc, .int .i64 pm]) (by simp [results, Try.results22, go_sem, r0, r1]) rfl ?_
        rw [HM.out _ rfl]
        exact ⟨Bp, pa, pn, pc, pm, rfl, hT7, fun b hb => Nat.le_trans (by omega) (HFP.out b hb), hB⟩
      have f27 := F27.out
      have k0 : w7.cell? ⟨w5.heap.size, 0, none⟩ = some (.slice a5 np c5) := f27.cell 0
      have k1 : w7.cell? ⟨w5.heap.size, 1, none⟩ = some (.int .i64 most) := f27.cell 1
      have g07 := G07.out
      have cm : w7.cell? ⟨w.heap.size, 1, none⟩ = some (.int .i64 most) := g07.cell 1
      clear f27 g07
      by_cases hgt : most < (np : Int)
      · have hm : res = ⟨rs, most⟩ := HM.out _ (HU.out.trans (if_pos (by rw [decide_eq_true hgt]; rfl)))
        have HM := Lib.hid (show ∀ q : Tb, (⟨rs, most⟩ : Tb) = q → res = q from fun q e => hm.trans e)
        clear hm k1
        have g07 := G07.out
        have c0 : w7.cell? ⟨w.heap.size, 0, none⟩ = some (.slice a n cap) := g07.cell 0
        have c1 : w7.cell? ⟨w.heap.size, 1, none⟩ = some (.int .i64 most) := g07.cell 1
        clear g07
        go_wp2_with fail
        refine (HC.out _ HB7.out).mono ?_
        rintro e w8 ⟨Bp, pa, pn, pc, pm, rfl, hTp, hfp, hb8⟩
        have hg1 := G17.out.after hb8
        have hBN := HB7.out.trans (hb8.mono HB7.out.size)
        have hl1 := G17.out.lt
        clear c0 c1 hb8
        have z1 := hg1.frozen
        have y1 := hg1.shape
        have e0 : w8.cell? ⟨w.heap.size + 1, 0, none⟩ = some (.slice none 0 0) := hg1.cell 0
        have e1 : w8.cell? ⟨w.heap.size + 1, 1, none⟩ = some (.int .i64 0) := hg1.cell 1
        have g2 := (hg1.set 0 (.slice pa pn pc)).set 1 (.int .i64 pm)
        have hB := (hBN.setCell (p := ⟨w.heap.size + 1, 0, none⟩) (by simp only; omega) (.slice pa pn pc)).setCell (p := ⟨w.heap.size + 1, 1, none⟩) (by simp only; omega) (.int .i64 pm)
        have hT7 := hTp.turned (C := [w.heap.size + 1]) (((Turned.refl _ w8).setCell (p := ⟨w.heap.size + 1, 0, none⟩) (by simp) (.slice pa pn pc)).setCell (p := ⟨w.heap.size + 1, 1, none⟩) (by simp) (.int .i64 pm)) (fun b hb hm => by have := hfp b hb; simp at hm; omega)
        have G2 := Lib.hid g2; have HBF := Lib.hid hB; have HT7 := Lib.hid hT7; have HFP := Lib.hid hfp
        clear g2 hB hT7 hTp hfp hBN hg1
        go_wp2_with fail
        have r0 : ((w8.setCell ⟨w.heap.size + 1, 0, none⟩ (.slice pa pn pc)).setCell ⟨w.heap.size + 1, 1, none⟩ (.int .i64 pm)).cell? ⟨w.heap.size + 1, 0, none⟩ = some (.slice pa pn pc) := G2.out.cell 0
        have r1 : ((w8.setCell ⟨w.heap.size + 1, 0, none⟩ (.slice pa pn pc)).setCell ⟨w.heap.size + 1, 1, none⟩ (.int .i64 pm)).cell? ⟨w.heap.size + 1, 1, none⟩ = some (.int .i64 pm) := G2.out.cell 1
        have hB := HBF.out; have hT7 := HT7.out
        clear G2 HBF HT7 z1 y1 e0 e1
        generalize (w8.setCell ⟨w.heap.size + 1, 0, none⟩ (.slice pa pn pc)).setCell ⟨w.heap.size + 1, 1, none⟩ (.int .i64 pm) = W at r0 r1 hB hT7 ⊢
        refine bodyPost_ret (v := .agg #[.slice pa pn pc, .int .i64 pm]) (by simp [results, Try.results22, go_sem, r0, r1]) rfl ?_
        rw [HM.out _ rfl]
        exact ⟨Bp, pa, pn, pc, pm, rfl, hT7, fun b hb => Nat.le_trans (by omega) (HFP.out b hb), hB⟩
      have hle : (np : Int) ≤ most := by omega
      have hm : res = ⟨rp, most⟩ := HM.out _ (HU.out.trans (if_neg (by rw [decide_eq_false hgt]; decide)))
      have HM := Lib.hid (show ∀ q : Tb, (⟨rp, most⟩ : Tb) = q → res = q from fun q e => hm.trans e)
      clear hm hgt
      have hTp := HT7.out
      have hfp := HF6.out
      have hg1 := G17.out
      have hBN := HB7.out
      have hl1 := HZ1.out
      have z1 := hg1.frozen
      have y1 := hg1.shape
      have e0 : w7.cell? ⟨w.heap.size + 1, 0, none⟩ = some (.slice none 0 0) := hg1.cell 0
      have e1 : w7.cell? ⟨w.heap.size + 1, 1, none⟩ = some (.int .i64 0) := hg1.cell 1
      have g2 := (hg1.set 0 (.slice a5 np c5)).set 1 (.int .i64 most)
      have hB := (hBN.setCell (p := ⟨w.heap.size + 1, 0, none⟩) (by simp only; omega) (.slice a5 np c5)).setCell (p := ⟨w.heap.size + 1, 1, none⟩) (by simp only; omega) (.int .i64 most)
      have hT7 := hTp.turned (C := [w.heap.size + 1]) (((Turned.refl _ w7).setCell (p := ⟨w.heap.size + 1, 0, none⟩) (by simp) (.slice a5 np c5)).setCell (p := ⟨w.heap.size + 1, 1, none⟩) (by simp) (.int .i64 most)) (fun b hb hm => by have := hfp b hb; simp at hm; omega)
      have G2 := Lib.hid g2; have HBF := Lib.hid hB; have HT7 := Lib.hid hT7; have HFP := Lib.hid hfp
      clear g2 hB hT7 hTp hfp hBN hg1
      go_wp2_with fail
      have r0 : ((w7.setCell ⟨w.heap.size + 1, 0, none⟩ (.slice a5 np c5)).setCell ⟨w.heap.size + 1, 1, none⟩ (.int .i64 most)).cell? ⟨w.heap.size + 1, 0, none⟩ = some (.slice a5 np c5) := G2.out.cell 0
      have r1 : ((w7.setCell ⟨w.heap.size + 1, 0, none⟩ (.slice a5 np c5)).setCell ⟨w.heap.size + 1, 1, none⟩ (.int .i64 most)).cell? ⟨w.heap.size + 1, 1, none⟩ = some (.int .i64 most) := G2.out.cell 1
      have hB := HBF.out; have hT7 := HT7.out
      clear G2 HBF HT7 z1 y1 e0 e1
      generalize (w7.setCell ⟨w.heap.size + 1, 0, none⟩ (.slice a5 np c5)).setCell ⟨w.heap.size + 1, 1, none⟩ (.int .i64 most) = W at r0 r1 hB hT7 ⊢
      refine bodyPost_ret (v := .agg #[.slice a5 np c5, .int .i64 most]) (by simp [results, Try.results22, go_sem, r0, r1]) rfl ?_
      rw [HM.out _ rfl]
      exact ⟨B5, a5, np, c5, most, rfl, hT7, fun b hb => Nat.le_trans (by omega) (HFP.out b hb), hB⟩
    refine AllReadyH.cons rfl (fun K hK => ?_) AllReadyH.nil
    · go_simp
      refine hK.out _ _ (hHeld.alloc hHeld.size _) (fun hHeld => ?_)
      clear hK K
      try simp only [Act.put, List.getElem_toArray, List.getElem_cons_zero, List.getElem_cons_succ, List.setIfInBounds_toArray, List.set_cons_zero, List.set_cons_succ]
      refine wpAnyH_ready (rs := [3]) (by kernel_rfl) (by simp) ?_
      refine AllReadyH.cons rfl (fun K hK => ?_) AllReadyH.nil
      go_simp
      refine (HPUT.out _ _ _ (hT4.after ((Below.refl _ w4).alloc (Nat.le_refl _) (.cells #[.slice none 0 0, .int .i64 0] 26)))).mono ?_
      rintro e w5 ⟨B5, a5, n5, c5, q5, rfl, hT5, hf5, hb5⟩
      have hnq := tab_parts hT5
      obtain ⟨hn5, hq5⟩ : np = n5 ∧ most = q5 := ⟨HNP.out.symm.trans hnq.1, hnq.2⟩
      subst hn5
      subst hq5
      have HT5 := Lib.hid hT5; have HF5 := Lib.hid hf5
      have HGE := Lib.hid (show wr.heap.size ≤ ((w4.alloc (.cells #[.slice none 0 0, .int .i64 0] 26))).heap.size from hHeld.size)
      clear hnq hT5 hf5
      refine hK.out _ _ (hHeld.trans (hb5.mono hHeld.size)) (fun hHeld => ?_)
      clear hK K
      try simp only [Act.put, List.getElem_toArray, List.getElem_cons_zero, List.getElem_cons_succ, List.setIfInBounds_toArray, List.set_cons_zero, List.set_cons_succ]
      refine wpAnyH_ready (rs := [5]) (by kernel_rfl) (by simp) ?_
      refine AllReadyH.cons rfl (fun K hK => ?_) AllReadyH.nil
      have fO := ((show Blk (w4.alloc (.cells #[.slice none 0 0, .int .i64 0] 26)) w4.heap.size #[.slice none 0 0, .int .i64 0] 26 from blk_new _ _ rfl)).after hb5
      have z5 := fO.frozen
      have y5 := fO.shape
      have e5 : w5.cell? ⟨w4.heap.size, 0, none⟩ = some (.slice none 0 0) := fO.cell 0
      have e6 : w5.cell? ⟨w4.heap.size, 1, none⟩ = some (.int .i64 0) := fO.cell 1
      have hoa : wr.heap.size ≤ w4.heap.size := hb4.size
      go_simp
      refine hK.out _ _ ((hHeld.setCell (p := ⟨w4.heap.size, 0, none⟩) (by simp only; omega) _).setCell (p := ⟨w4.heap.size, 1, none⟩) (by simp only; omega) _) (fun hHeld => ?_)
      clear hK K
      try simp only [Act.put, List.getElem_toArray, List.getElem_cons_zero, List.getElem_cons_succ, List.setIfInBounds_toArray, List.set_cons_zero, List.set_cons_succ]
      refine wpAnyH_done (by kernel_rfl) ?_ _
      have hnn := HF5.out
      have HB6 := Lib.hid (HB3.out.trans (hHeld.mono HB3.out.size))
      have g0 := G03.out.after hHeld
      have g1 := G13.out.after hHeld
      obtain ⟨d0, d1, d2, d3, d4⟩ := HFD.out _ hHeld
      have f2 := (fO.set 0 (.slice a5 np c5)).set 1 (.int .i64 most)
      have hT6 := HT5.out.turned (C := [w4.heap.size]) (((Turned.refl _ _).setCell (p := ⟨w4.heap.size, 0, none⟩) (by simp) (.slice a5 np c5)).setCell (p := ⟨w4.heap.size, 1, none⟩) (by simp) (.int .i64 most)) (fun b hb hm => by
        rw [List.mem_singleton] at hm
        have h1 := hnn b hb
        have h2 := HT5.out.lt b hb
        simp at h1; omega)
      have HT6 := Lib.hid hT6; have HF6 := Lib.hid (fun b hb => Nat.le_trans HGE.out (hnn b hb)); have G06 := Lib.hid g0; have G16 := Lib.hid g1; have F26 := Lib.hid f2
      have HZ1 := Lib.hid G13.out.lt
      clear g0 g1 f2 hT6 fO hHeld hnn e5 e6 z5 y5
      go_wp2_with fail
      generalize (w5.setCell ⟨w4.heap.size, 0, none⟩ (.slice a5 np c5)).setCell ⟨w4.heap.size, 1, none⟩ (.int .i64 most) = w6 at HT6 HB6 G06 G16 F26 d0 d1 d2 d3 d4 ⊢
      refine (HR.out _).mono ?_
      rintro e w7 ⟨rfl, hb7⟩
      clear d0 d1 d2 d3 d4
      have HT7 := Lib.hid (HT6.out.after hb7); have HB7 := Lib.hid (HB6.out.trans (hb7.mono HB6.out.size)); have G07 := Lib.hid (G06.out.after hb7); have G17 := Lib.hid (G16.out.after hb7); have F27 := Lib.hid (F26.out.after hb7)
      have HZ3 := Lib.hid HB3.out.size
      clear hb7
      cases rok
      · have hm : res = ⟨rs, most⟩ := HM.out _ (HU.out.trans (if_pos rfl))
        have HM := Lib.hid (show ∀ q : Tb, (⟨rs, most⟩ : Tb) = q → res = q from fun q e => hm.trans e)
        clear hm
        have g07 := G07.out
        have c0 : w7.cell? ⟨w.heap.size, 0, none⟩ = some (.slice a n cap) := g07.cell 0
        have c1 : w7.cell? ⟨w.heap.size, 1, none⟩ = some (.int .i64 most) := g07.cell 1
        clear g07
        go_wp2_with fail
        refine (HC.out _ HB7.out).mono ?_
        rintro e w8 ⟨Bp, pa, pn, pc, pm, rfl, hTp, hfp, hb8⟩
        have hg1 := G17.out.after hb8
        have hBN := HB7.out.trans (hb8.mono HB7.out.size)
        have hl1 := G17.out.lt
        clear c0 c1 hb8
        have z1 := hg1.frozen
        have y1 := hg1.shape
        have e0 : w8.cell? ⟨w.heap.size + 1, 0, none⟩ = some (.slice none 0 0) := hg1.cell 0
        have e1 : w8.cell? ⟨w.heap.size + 1, 1, none⟩ = some (.int .i64 0) := hg1.cell 1
        have g2 := (hg1.set 0 (.slice pa pn pc)).set 1 (.int .i64 pm)
        have hB := (hBN.setCell (p := ⟨w.heap.size + 1, 0, none⟩) (by simp only; omega) (.slice pa pn pc)).setCell (p := ⟨w.heap.size + 1, 1, none⟩) (by simp only; omega) (.int .i64 pm)
        have hT7 := hTp.turned (C := [w.heap.size + 1]) (((Turned.refl _ w8).setCell (p := ⟨w.heap.size + 1, 0, none⟩) (by simp) (.slice pa pn pc)).setCell (p := ⟨w.heap.size + 1, 1, none⟩) (by simp) (.int .i64 pm)) (fun b hb hm => by have := hfp b hb; simp at hm; omega)
        have G2 := Lib.hid g2; have HBF := Lib.hid hB; have HT7 := Lib.hid hT7; have HFP := Lib.hid hfp
        clear g2 hB hT7 hTp hfp hBN hg1
        go_wp2_with fail
        have r0 : ((w8.setCell ⟨w.heap.size + 1, 0, none⟩ (.slice pa pn pc)).setCell ⟨w.heap.size + 1, 1, none⟩ (.int .i64 pm)).cell? ⟨w.heap.size + 1, 0, none⟩ = some (.slice pa pn pc) := G2.out.cell 0
        have r1 : ((w8.setCell ⟨w.heap.size + 1, 0, none⟩ (.slice pa pn pc)).setCell ⟨w.heap.size + 1, 1, none⟩ (.int .i64 pm)).cell? ⟨w.heap.size + 1, 1, none⟩ = some (.int .i64 pm) := G2.out.cell 1
        have hB := HBF.out; have hT7 := HT7.out
        clear G2 HBF HT7 z1 y1 e0 e1
        generalize (w8.setCell ⟨w.heap.size + 1, 0, none⟩ (.slice pa pn pc)).setCell ⟨w.heap.size + 1, 1, none⟩ (.int .i64 pm) = W at r0 r1 hB hT7 ⊢
        refine bodyPost_ret (v := .agg #[.slice pa pn pc, .int .i64 pm]) (by simp [results, Try.results22, go_sem, r0, r1]) rfl ?_
        rw [HM.out _ rfl]
        exact ⟨Bp, pa, pn, pc, pm, rfl, hT7, fun b hb => Nat.le_trans (by omega) (HFP.out b hb), hB⟩
      have f27 := F27.out
      have k0 : w7.cell? ⟨w4.heap.size, 0, none⟩ = some (.slice a5 np c5) := f27.cell 0
      have k1 : w7.cell? ⟨w4.heap.size, 1, none⟩ = some (.int .i64 most) := f27.cell 1
      have g07 := G07.out
      have cm : w7.cell? ⟨w.heap.size, 1, none⟩ = some (.int .i64 most) := g07.cell 1
      clear f27 g07
      by_cases hgt : most < (np : Int)
      · have hm : res = ⟨rs, most⟩ := HM.out _ (HU.out.trans (if_pos (by rw [decide_eq_true hgt]; rfl)))
        have HM := Lib.hid (show ∀ q : Tb, (⟨rs, most⟩ : Tb) = q → res = q from fun q e => hm.trans e)
        clear hm k1
        have g07 := G07.out
        have c0 : w7.cell? ⟨w.heap.size, 0, none⟩ = some (.slice a n cap) := g07.cell 0
        have c1 : w7.cell? ⟨w.heap.size, 1, none⟩ = some (.int .i64 most) := g07.cell 1
        clear g07
        go_wp2_with fail
        refine (HC.out _ HB7.out).mono ?_
        rintro e w8 ⟨Bp, pa, pn, pc, pm, rfl, hTp, hfp, hb8⟩
        have hg1 := G17.out.after hb8
        have hBN := HB7.out.trans (hb8.mono HB7.out.size)
        have hl1 := G17.out.lt
        clear c0 c1 hb8
        have z1 := hg1.frozen
        have y1 := hg1.shape
        have e0 : w8.cell? ⟨w.heap.size + 1, 0, none⟩ = some (.slice none 0 0) := hg1.cell 0
        have e1 : w8.cell? ⟨w.heap.size + 1, 1, none⟩ = some (.int .i64 0) := hg1.cell 1
        have g2 := (hg1.set 0 (.slice pa pn pc)).set 1 (.int .i64 pm)
        have hB := (hBN.setCell (p := ⟨w.heap.size + 1, 0, none⟩) (by simp only; omega) (.slice pa pn pc)).setCell (p := ⟨w.heap.size + 1, 1, none⟩) (by simp only; omega) (.int .i64 pm)
        have hT7 := hTp.turned (C := [w.heap.size + 1]) (((Turned.refl _ w8).setCell (p := ⟨w.heap.size + 1, 0, none⟩) (by simp) (.slice pa pn pc)).setCell (p := ⟨w.heap.size + 1, 1, none⟩) (by simp) (.int .i64 pm)) (fun b hb hm => by have := hfp b hb; simp at hm; omega)
        have G2 := Lib.hid g2; have HBF := Lib.hid hB; have HT7 := Lib.hid hT7; have HFP := Lib.hid hfp
        clear g2 hB hT7 hTp hfp hBN hg1
        go_wp2_with fail
        have r0 : ((w8.setCell ⟨w.heap.size + 1, 0, none⟩ (.slice pa pn pc)).setCell ⟨w.heap.size + 1, 1, none⟩ (.int .i64 pm)).cell? ⟨w.heap.size + 1, 0, none⟩ = some (.slice pa pn pc) := G2.out.cell 0
        have r1 : ((w8.setCell ⟨w.heap.size + 1, 0, none⟩ (.slice pa pn pc)).setCell ⟨w.heap.size + 1, 1, none⟩ (.int .i64 pm)).cell? ⟨w.heap.size + 1, 1, none⟩ = some (.int .i64 pm) := G2.out.cell 1
        have hB := HBF.out; have hT7 := HT7.out
        clear G2 HBF HT7 z1 y1 e0 e1
        generalize (w8.setCell ⟨w.heap.size + 1, 0, none⟩ (.slice pa pn pc)).setCell ⟨w.heap.size + 1, 1, none⟩ (.int .i64 pm) = W at r0 r1 hB hT7 ⊢
        refine bodyPost_ret (v := .agg #[.slice pa pn pc, .int .i64 pm]) (by simp [results, Try.results22, go_sem, r0, r1]) rfl ?_
        rw [HM.out _ rfl]
        exact ⟨Bp, pa, pn, pc, pm, rfl, hT7, fun b hb => Nat.le_trans (by omega) (HFP.out b hb), hB⟩
      have hle : (np : Int) ≤ most := by omega
      have hm : res = ⟨rp, most⟩ := HM.out _ (HU.out.trans (if_neg (by rw [decide_eq_false hgt]; decide)))
      have HM := Lib.hid (show ∀ q : Tb, (⟨rp, most⟩ : Tb) = q → res = q from fun q e => hm.trans e)
      clear hm hgt
      have hTp := HT7.out
      have hfp := HF6.out
      have hg1 := G17.out
      have hBN := HB7.out
      have hl1 := HZ1.out
      have z1 := hg1.frozen
      have y1 := hg1.shape
      have e0 : w7.cell? ⟨w.heap.size + 1, 0, none⟩ = some (.slice none 0 0) := hg1.cell 0
      have e1 : w7.cell? ⟨w.heap.size + 1, 1, none⟩ = some (.int .i64 0) := hg1.cell 1
      have g2 := (hg1.set 0 (.slice a5 np c5)).set 1 (.int .i64 most)
      have hB := (hBN.setCell (p := ⟨w.heap.size + 1, 0, none⟩) (by simp only; omega) (.slice a5 np c5)).setCell (p := ⟨w.heap.size + 1, 1, none⟩) (by simp only; omega) (.int .i64 most)
      have hT7 := hTp.turned (C := [w.heap.size + 1]) (((Turned.refl _ w7).setCell (p := ⟨w.heap.size + 1, 0, none⟩) (by simp) (.slice a5 np c5)).setCell (p := ⟨w.heap.size + 1, 1, none⟩) (by simp) (.int .i64 most)) (fun b hb hm => by have := hfp b hb; simp at hm; omega)
      have G2 := Lib.hid g2; have HBF := Lib.hid hB; have HT7 := Lib.hid hT7; have HFP := Lib.hid hfp
      clear g2 hB hT7 hTp hfp hBN hg1
      go_wp2_with fail
      have r0 : ((w7.setCell ⟨w.heap.size + 1, 0, none⟩ (.slice a5 np c5)).setCell ⟨w.heap.size + 1, 1, none⟩ (.int .i64 most)).cell? ⟨w.heap.size + 1, 0, none⟩ = some (.slice a5 np c5) := G2.out.cell 0
      have r1 : ((w7.setCell ⟨w.heap.size + 1, 0, none⟩ (.slice a5 np c5)).setCell ⟨w.heap.size + 1, 1, none⟩ (.int .i64 most)).cell? ⟨w.heap.size + 1, 1, none⟩ = some (.int .i64 most) := G2.out.cell 1
      have hB := HBF.out; have hT7 := HT7.out
      clear G2 HBF HT7 z1 y1 e0 e1
      generalize (w7.setCell ⟨w.heap.size + 1, 0, none⟩ (.slice a5 np c5)).setCell ⟨w.heap.size + 1, 1, none⟩ (.int .i64 most) = W at r0 r1 hB hT7 ⊢
      refine bodyPost_ret (v := .agg #[.slice a5 np c5, .int .i64 most]) (by simp [results, Try.results22, go_sem, r0, r1]) rfl ?_
      rw [HM.out _ rfl]
      exact ⟨B5, a5, np, c5, most, rfl, hT7, fun b hb => Nat.le_trans (by omega) (HFP.out b hb), hB⟩
  refine AllReadyH.cons rfl (fun K hK => ?_) AllReadyH.nil
  · go_simp
    refine hK.out _ _ (hHeld.alloc hHeld.size _) (fun hHeld => ?_)
    clear hK K
    try simp only [Act.put, List.getElem_toArray, List.getElem_cons_zero, List.getElem_cons_succ, List.setIfInBounds_toArray, List.set_cons_zero, List.set_cons_succ]
    refine wpAnyH_ready (rs := [1]) (by kernel_rfl) (by simp) ?_
    refine AllReadyH.cons rfl (fun K hK => ?_) AllReadyH.nil
    go_simp
    refine (HC.out _ (HB3.out.trans (hHeld.mono HB3.out.size))).mono ?_
    rintro e w4 ⟨B4, a4, n4, c4, q4, rfl, hT4, hf4, hb4⟩
    clear hf4
    refine hK.out _ _ (hHeld.trans (hb4.mono hHeld.size)) (fun hHeld => ?_)
    clear hK K
    try simp only [Act.put, List.getElem_toArray, List.getElem_cons_zero, List.getElem_cons_succ, List.setIfInBounds_toArray, List.set_cons_zero, List.set_cons_succ]
    refine wpAnyH_ready (rs := [3]) (by kernel_rfl) (by simp) ?_
    refine AllReadyH.cons rfl (fun K hK => ?_) AllReadyH.nil
    go_simp
    refine (HPUT.out _ _ _ (hT4)).mono ?_
    rintro e w5 ⟨B5, a5, n5, c5, q5, rfl, hT5, hf5, hb5⟩
    have hnq := tab_parts hT5
    obtain ⟨hn5, hq5⟩ : np = n5 ∧ most = q5 := ⟨HNP.out.symm.trans hnq.1, hnq.2⟩
    subst hn5
    subst hq5
    have HT5 := Lib.hid hT5; have HF5 := Lib.hid hf5
    have HGE := Lib.hid (show wr.heap.size ≤ (w4).heap.size from hHeld.size)
    clear hnq hT5 hf5
    refine hK.out _ _ (hHeld.trans (hb5.mono hHeld.size)) (fun hHeld => ?_)
    clear hK K
    try simp only [Act.put, List.getElem_toArray, List.getElem_cons_zero, List.getElem_cons_succ, List.setIfInBounds_toArray, List.set_cons_zero, List.set_cons_succ]
    refine wpAnyH_ready (rs := [5]) (by kernel_rfl) (by simp) ?_
    refine AllReadyH.cons rfl (fun K hK => ?_) AllReadyH.nil
    have fO := (((show Blk (wr.drew.alloc (.cells #[.slice none 0 0, .int .i64 0] 26)) wr.heap.size #[.slice none 0 0, .int .i64 0] 26 from blk_new _ _ rfl)).after hb4).after hb5
    have z5 := fO.frozen
    have y5 := fO.shape
    have e5 : w5.cell? ⟨wr.heap.size, 0, none⟩ = some (.slice none 0 0) := fO.cell 0
    have e6 : w5.cell? ⟨wr.heap.size, 1, none⟩ = some (.int .i64 0) := fO.cell 1
    have hoa : wr.heap.size ≤ wr.heap.size := Nat.le_refl _
    go_simp
    refine hK.out _ _ ((hHeld.setCell (p := ⟨wr.heap.size, 0, none⟩) (by simp only; omega) _).setCell (p := ⟨wr.heap.size, 1, none⟩) (by simp only; omega) _) (fun hHeld => ?_)
    clear hK K
    try simp only [Act.put, List.getElem_toArray, List.getElem_cons_zero, List.getElem_cons_succ, List.setIfInBounds_toArray, List.set_cons_zero, List.set_cons_succ]
    refine wpAnyH_done (by kernel_rfl) ?_ _
    have hnn := HF5.out
    have HB6 := Lib.hid (HB3.out.trans (hHeld.mono HB3.out.size))
    have g0 := G03.out.after hHeld
    have g1 := G13.out.after hHeld
    obtain ⟨d0, d1, d2, d3, d4⟩ := HFD.out _ hHeld
    have f2 := (fO.set 0 (.slice a5 np c5)).set 1 (.int .i64 most)
    have hT6 := HT5.out.turned (C := [wr.heap.size]) (((Turned.refl _ _).setCell (p := ⟨wr.heap.size, 0, none⟩) (by simp) (.slice a5 np c5)).setCell (p := ⟨wr.heap.size, 1, none⟩) (by simp) (.int .i64 most)) (fun b hb hm => by
      rw [List.mem_singleton] at hm
      have h1 := hnn b hb
      have h2 := HT5.out.lt b hb
      have h4 := hb4.size; simp at h4; omega)
    have HT6 := Lib.hid hT6; have HF6 := Lib.hid (fun b hb => Nat.le_trans HGE.out (hnn b hb)); have G06 := Lib.hid g0; have G16 := Lib.hid g1; have F26 := Lib.hid f2
    have HZ1 := Lib.hid G13.out.lt
    clear g0 g1 f2 hT6 fO hHeld hnn e5 e6 z5 y5
    go_wp2_with fail
    generalize (w5.setCell ⟨wr.heap.size, 0, none⟩ (.slice a5 np c5)).setCell ⟨wr.heap.size, 1, none⟩ (.int .i64 most) = w6 at HT6 HB6 G06 G16 F26 d0 d1 d2 d3 d4 ⊢
    refine (HR.out _).mono ?_
    rintro e w7 ⟨rfl, hb7⟩
    clear d0 d1 d2 d3 d4
    have HT7 := Lib.hid (HT6.out.after hb7); have HB7 := Lib.hid (HB6.out.trans (hb7.mono HB6.out.size)); have G07 := Lib.hid (G06.out.after hb7); have G17 := Lib.hid (G16.out.after hb7); have F27 := Lib.hid (F26.out.after hb7)
    have HZ3 := Lib.hid HB3.out.size
    clear hb7
    cases rok
    · have hm : res = ⟨rs, most⟩ := HM.out _ (HU.out.trans (if_pos rfl))
      have HM := Lib.hid (show ∀ q : Tb, (⟨rs, most⟩ : Tb) = q → res = q from fun q e => hm.trans e)
      clear hm
      have g07 := G07.out
      have c0 : w7.cell? ⟨w.heap.size, 0, none⟩ = some (.slice a n cap) := g07.cell 0
      have c1 : w7.cell? ⟨w.heap.size, 1, none⟩ = some (.int .i64 most) := g07.cell 1
      clear g07
      go_wp2_with fail
      refine (HC.out _ HB7.out).mono ?_
      rintro e w8 ⟨Bp, pa, pn, pc, pm, rfl, hTp, hfp, hb8⟩
      have hg1 := G17.out.after hb8
      have hBN := HB7.out.trans (hb8.mono HB7.out.size)
      have hl1 := G17.out.lt
      clear c0 c1 hb8
      have z1 := hg1.frozen
      have y1 := hg1.shape
      have e0 : w8.cell? ⟨w.heap.size + 1, 0, none⟩ = some (.slice none 0 0) := hg1.cell 0
      have e1 : w8.cell? ⟨w.heap.size + 1, 1, none⟩ = some (.int .i64 0) := hg1.cell 1
      have g2 := (hg1.set 0 (.slice pa pn pc)).set 1 (.int .i64 pm)
      have hB := (hBN.setCell (p := ⟨w.heap.size + 1, 0, none⟩) (by simp only; omega) (.slice pa pn pc)).setCell (p := ⟨w.heap.size + 1, 1, none⟩) (by simp only; omega) (.int .i64 pm)
      have hT7 := hTp.turned (C := [w.heap.size + 1]) (((Turned.refl _ w8).setCell (p := ⟨w.heap.size + 1, 0, none⟩) (by simp) (.slice pa pn pc)).setCell (p := ⟨w.heap.size + 1, 1, none⟩) (by simp) (.int .i64 pm)) (fun b hb hm => by have := hfp b hb; simp at hm; omega)
      have G2 := Lib.hid g2; have HBF := Lib.hid hB; have HT7 := Lib.hid hT7; have HFP := Lib.hid hfp
      clear g2 hB hT7 hTp hfp hBN hg1
      go_wp2_with fail
      have r0 : ((w8.setCell ⟨w.heap.size + 1, 0, none⟩ (.slice pa pn pc)).setCell ⟨w.heap.size + 1, 1, none⟩ (.int .i64 pm)).cell? ⟨w.heap.size + 1, 0, none⟩ = some (.slice pa pn pc) := G2.out.cell 0
      have r1 : ((w8.setCell ⟨w.heap.size + 1, 0, none⟩ (.slice pa pn pc)).setCell ⟨w.heap.size + 1, 1, none⟩ (.int .i64 pm)).cell? ⟨w.heap.size + 1, 1, none⟩ = some (.int .i64 pm) := G2.out.cell 1
      have hB := HBF.out; have hT7 := HT7.out
      clear G2 HBF HT7 z1 y1 e0 e1
      generalize (w8.setCell ⟨w.heap.size + 1, 0, none⟩ (.slice pa pn pc)).setCell ⟨w.heap.size + 1, 1, none⟩ (.int .i64 pm) = W at r0 r1 hB hT7 ⊢
      refine bodyPost_ret (v := .agg #[.slice pa pn pc, .int .i64 pm]) (by simp [results, Try.results22, go_sem, r0, r1]) rfl ?_
      rw [HM.out _ rfl]
      exact ⟨Bp, pa, pn, pc, pm, rfl, hT7, fun b hb => Nat.le_trans (by omega) (HFP.out b hb), hB⟩
    have f27 := F27.out
    have k0 : w7.cell? ⟨wr.heap.size, 0, none⟩ = some (.slice a5 np c5) := f27.cell 0
    have k1 : w7.cell? ⟨wr.heap.size, 1, none⟩ = some (.int .i64 most) := f27.cell 1
    have g07 := G07.out
    have cm : w7.cell? ⟨w.heap.size, 1, none⟩ = some (.int .i64 most) := g07.cell 1
    clear f27 g07
    by_cases hgt : most < (np : Int)
    · have hm : res = ⟨rs, most⟩ := HM.out _ (HU.out.trans (if_pos (by rw [decide_eq_true hgt]; rfl)))
      have HM := Lib.hid (show ∀ q : Tb, (⟨rs, most⟩ : Tb) = q → res = q from fun q e => hm.trans e)
      clear hm k1
      have g07 := G07.out
      have c0 : w7.cell? ⟨w.heap.size, 0, none⟩ = some (.slice a n cap) := g07.cell 0
      have c1 : w7.cell? ⟨w.heap.size, 1, none⟩ = some (.int .i64 most) := g07.cell 1
      clear g07
      go_wp2_with fail
      refine (HC.out _ HB7.out).mono ?_
      rintro e w8 ⟨Bp, pa, pn, pc, pm, rfl, hTp, hfp, hb8⟩
      have hg1 := G17.out.after hb8
      have hBN := HB7.out.trans (hb8.mono HB7.out.size)
      have hl1 := G17.out.lt
      clear c0 c1 hb8
      have z1 := hg1.frozen
      have y1 := hg1.shape
      have e0 : w8.cell? ⟨w.heap.size + 1, 0, none⟩ = some (.slice none 0 0) := hg1.cell 0
      have e1 : w8.cell? ⟨w.heap.size + 1, 1, none⟩ = some (.int .i64 0) := hg1.cell 1
      have g2 := (hg1.set 0 (.slice pa pn pc)).set 1 (.int .i64 pm)
      have hB := (hBN.setCell (p := ⟨w.heap.size + 1, 0, none⟩) (by simp only; omega) (.slice pa pn pc)).setCell (p := ⟨w.heap.size + 1, 1, none⟩) (by simp only; omega) (.int .i64 pm)
      have hT7 := hTp.turned (C := [w.heap.size + 1]) (((Turned.refl _ w8).setCell (p := ⟨w.heap.size + 1, 0, none⟩) (by simp) (.slice pa pn pc)).setCell (p := ⟨w.heap.size + 1, 1, none⟩) (by simp) (.int .i64 pm)) (fun b hb hm => by have := hfp b hb; simp at hm; omega)
      have G2 := Lib.hid g2; have HBF := Lib.hid hB; have HT7 := Lib.hid hT7; have HFP := Lib.hid hfp
      clear g2 hB hT7 hTp hfp hBN hg1
      go_wp2_with fail
      have r0 : ((w8.setCell ⟨w.heap.size + 1, 0, none⟩ (.slice pa pn pc)).setCell ⟨w.heap.size + 1, 1, none⟩ (.int .i64 pm)).cell? ⟨w.heap.size + 1, 0, none⟩ = some (.slice pa pn pc) := G2.out.cell 0
      have r1 : ((w8.setCell ⟨w.heap.size + 1, 0, none⟩ (.slice pa pn pc)).setCell ⟨w.heap.size + 1, 1, none⟩ (.int .i64 pm)).cell? ⟨w.heap.size + 1, 1, none⟩ = some (.int .i64 pm) := G2.out.cell 1
      have hB := HBF.out; have hT7 := HT7.out
      clear G2 HBF HT7 z1 y1 e0 e1
      generalize (w8.setCell ⟨w.heap.size + 1, 0, none⟩ (.slice pa pn pc)).setCell ⟨w.heap.size + 1, 1, none⟩ (.int .i64 pm) = W at r0 r1 hB hT7 ⊢
      refine bodyPost_ret (v := .agg #[.slice pa pn pc, .int .i64 pm]) (by simp [results, Try.results22, go_sem, r0, r1]) rfl ?_
      rw [HM.out _ rfl]
      exact ⟨Bp, pa, pn, pc, pm, rfl, hT7, fun b hb => Nat.le_trans (by omega) (HFP.out b hb), hB⟩
    have hle : (np : Int) ≤ most := by omega
    have hm : res = ⟨rp, most⟩ := HM.out _ (HU.out.trans (if_neg (by rw [decide_eq_false hgt]; decide)))
    have HM := Lib.hid (show ∀ q : Tb, (⟨rp, most⟩ : Tb) = q → res = q from fun q e => hm.trans e)
    clear hm hgt
    have hTp := HT7.out
    have hfp := HF6.out
    have hg1 := G17.out
    have hBN := HB7.out
    have hl1 := HZ1.out
    have z1 := hg1.frozen
    have y1 := hg1.shape
    have e0 : w7.cell? ⟨w.heap.size + 1, 0, none⟩ = some (.slice none 0 0) := hg1.cell 0
    have e1 : w7.cell? ⟨w.heap.size + 1, 1, none⟩ = some (.int .i64 0) := hg1.cell 1
    have g2 := (hg1.set 0 (.slice a5 np c5)).set 1 (.int .i64 most)
    have hB := (hBN.setCell (p := ⟨w.heap.size + 1, 0, none⟩) (by simp only; omega) (.slice a5 np c5)).setCell (p := ⟨w.heap.size + 1, 1, none⟩) (by simp only; omega) (.int .i64 most)
    have hT7 := hTp.turned (C := [w.heap.size + 1]) (((Turned.refl _ w7).setCell (p := ⟨w.heap.size + 1, 0, none⟩) (by simp) (.slice a5 np c5)).setCell (p := ⟨w.heap.size + 1, 1, none⟩) (by simp) (.int .i64 most)) (fun b hb hm => by have := hfp b hb; simp at hm; omega)
    have G2 := Lib.hid g2; have HBF := Lib.hid hB; have HT7 := Lib.hid hT7; have HFP := Lib.hid hfp
    clear g2 hB hT7 hTp hfp hBN hg1
    go_wp2_with fail
    have r0 : ((w7.setCell ⟨w.heap.size + 1, 0, none⟩ (.slice a5 np c5)).setCell ⟨w.heap.size + 1, 1, none⟩ (.int .i64 most)).cell? ⟨w.heap.size + 1, 0, none⟩ = some (.slice a5 np c5) := G2.out.cell 0
    have r1 : ((w7.setCell ⟨w.heap.size + 1, 0, none⟩ (.slice a5 np c5)).setCell ⟨w.heap.size + 1, 1, none⟩ (.int .i64 most)).cell? ⟨w.heap.size + 1, 1, none⟩ = some (.int .i64 most) := G2.out.cell 1
    have hB := HBF.out; have hT7 := HT7.out
    clear G2 HBF HT7 z1 y1 e0 e1
    generalize (w7.setCell ⟨w.heap.size + 1, 0, none⟩ (.slice a5 np c5)).setCell ⟨w.heap.size + 1, 1, none⟩ (.int .i64 most) = W at r0 r1 hB hT7 ⊢
    refine bodyPost_ret (v := .agg #[.slice a5 np c5, .int .i64 most]) (by simp [results, Try.results22, go_sem, r0, r1]) rfl ?_
    rw [HM.out _ rfl]
    exact ⟨B5, a5, np, c5, most, rfl, hT7, fun b hb => Nat.le_trans (by omega) (HFP.out b hb), hB⟩
end Go.Proofs.Ytleebmbnjdoinaa
