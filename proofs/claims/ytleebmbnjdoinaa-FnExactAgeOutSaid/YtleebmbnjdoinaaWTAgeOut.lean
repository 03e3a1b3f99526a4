/- The walk of FnExactAgeOut, out of contracts. -/
import Derived.Test.YtleebmbnjdoinaaTb
import Derived.Deep.RegionHeld3
import Derived.Deep.RegionWith
namespace Go.Proofs.Ytleebmbnjdoinaa
open Go.RowKit

set_option linter.unusedSimpArgs false in
set_option maxHeartbeats 1000000 in
theorem walk_FnExactAgeOut_of (f : Tb → Int → Int → Tb)
    (hS : ∀ (w : World) (B : List Nat) (v : Value) (t : Tb) (n0 n1 : Int), TabIn w B v t → (Lit.int .i64 n0).wf = true → (Lit.int .i64 n1).wf = true → Calls Try.prog 27 #[v, .int .i64 n0, .int .i64 n1] w (GotTab w (f t n0 n1)))
    (hI : ∀ (w : World) (B : List Nat) (v : Value) (t : Tb) (n0 n1 : Int), TabIn w B v t → (Lit.int .i64 n0).wf = true → (Lit.int .i64 n1).wf = true → Calls Try.prog 24 #[v, .int .i64 n0, .int .i64 n1] w (GotTab w (f t n0 n1)))
    (v : Value) (t : Tb) (hform : ∃ ua un uc um, v = .agg #[.slice ua un uc, .int .i64 um]) (hlen : t.rows.length ≤ 9223372036854775807) (n0 : Int) (f0 : (Lit.int .i64 n0).wf = true) (n1 : Int) (f1 : (Lit.int .i64 n1).wf = true) (w : World) (hA : TabArg w v t) :
    Calls Try.prog 10 #[v, .int .i64 n0, .int .i64 n1] w fun e w' => e = .returned (.bool true) ∧ Below w.heap.size w w' := by
  obtain ⟨ua, un, uc, um, rfl⟩ := hform
  have hS' := fun w B v h => hS w B v t n0 n1 h f0 f1
  have hI' := fun w B v h => hI w B v t n0 n1 h f0 f1
  generalize f t n0 n1 = r at hS' hI'
  have HS := Lib.hid hS'; have HI := Lib.hid hI'; have HL := Lib.hid hlen
  clear hS hI hlen hS' hI'
  have hb0 : Below w.heap.size w (w.alloc (.cells #[.slice ua un uc, .int .i64 um] 46)) := (Below.refl _ _).alloc (Nat.le_refl _) _
  have kA : Blk (w.alloc (.cells #[.slice ua un uc, .int .i64 um] 46)) w.heap.size #[.slice ua un uc, .int .i64 um] 46 := blk_new _ _ rfl
  have hA1 := hA.after hb0
  have HA := Lib.hid hA
  have hz := szTable_in hA1 HL.out 1048576 (by decide) (by decide)
  have HZ := Lib.hid hz; have HKA := Lib.hid kA; have HB0 := Lib.hid hb0
  clear hz kA hA hA1 hb0
  go_enter Try.func10, Try.ntmps10
  go_wp2_with fail
  refine HZ.out.mono ?_
  rintro e w2 ⟨rfl, hb2⟩
  have kA := HKA.out.after hb2
  have hB := HB0.out.trans (hb2.mono HB0.out.size)
  have z2 : w.heap.size < w2.heap.size := kA.lt
  clear HZ HKA HB0 hb2
  by_cases hsz : (t.rows.length : Int) ≤ 1048576
  case neg =>
    rw [if_neg hsz]
    go_wp2_with fail
    go_ret
    exact ⟨rfl, hB⟩
  rw [if_pos hsz]
  have hq : ¬ (1048576 - (t.rows.length : Int) < 0) := by omega
  replace hsz : t.rows.length ≤ 1048576 := by omega
  have HSZ := Lib.hid hsz
  clear hsz
  have ckA0 : w2.cell? ⟨w.heap.size, 0, none⟩ = some (.slice ua un uc) := kA.cell 0
  have ckA1 : w2.cell? ⟨w.heap.size, 1, none⟩ = some (.int .i64 um) := kA.cell 1
  go_wp2_with fail
  clear ckA0 ckA1
  refine (toTable_in (HA.out.after hB) HSZ.out).mono ?_
  rintro e w3 ⟨Bt, pa, pn, pc, pm, rfl, hT, hTn, hb3⟩
  replace kA := kA.after hb3
  have z3 : w2.heap.size ≤ w3.heap.size := hb3.size
  replace hB := hB.trans (hb3.mono hB.size)
  clear hb3
  go_wp2_with fail
  refine (HS.out _ _ _ hT).mono ?_
  rintro e w4 ⟨Bw, sa, sn, sc, sm, rfl, hW, hWn, hb4⟩
  replace kA := kA.after hb4
  replace hT := hT.after hb4
  have z4 : w3.heap.size ≤ w4.heap.size := hb4.size
  replace hB := hB.trans (hb4.mono hB.size)
  clear hb4
  clear hT hTn
  have hWl := hW.lt
  have ckA0 : (w4.alloc (.cells #[.slice sa sn sc, .int .i64 sm] 26)).cell? ⟨w.heap.size, 0, none⟩ = some (.slice ua un uc) := (kA.alloc _).cell 0
  have ckA1 : (w4.alloc (.cells #[.slice sa sn sc, .int .i64 sm] 26)).cell? ⟨w.heap.size, 1, none⟩ = some (.int .i64 um) := (kA.alloc _).cell 1
  go_wp2_with fail
  clear ckA0 ckA1
  have kW : Blk (w4.alloc (.cells #[.slice sa sn sc, .int .i64 sm] 26)) w4.heap.size #[.slice sa sn sc, .int .i64 sm] 26 := blk_new _ _ rfl
  have hb5 : Below w4.heap.size w4 (w4.alloc (.cells #[.slice sa sn sc, .int .i64 sm] 26)) := (Below.refl _ _).alloc (Nat.le_refl _) _
  replace kA := kA.after hb5
  replace hW := hW.after hb5
  have z5 : w4.heap.size < (w4.alloc (.cells #[.slice sa sn sc, .int .i64 sm] 26)).heap.size := kW.lt
  replace hB := hB.trans (hb5.mono hB.size)
  clear hb5
  generalize (w4.alloc (.cells #[.slice sa sn sc, .int .i64 sm] 26)) = w5 at kA hW kW hB z5 ⊢
  refine (toTable_in (HA.out.after hB) HSZ.out).mono ?_
  rintro e w6 ⟨Bx, xa, xn, xc, xm, rfl, hX, hXn, hb6⟩
  replace kA := kA.after hb6
  replace hW := hW.after hb6
  replace kW := kW.after hb6
  have z6 : w5.heap.size ≤ w6.heap.size := hb6.size
  replace hB := hB.trans (hb6.mono hB.size)
  clear hb6
  have hXl := hX.lt
  have ckX0 : (w6.alloc (.cells #[.slice xa xn xc, .int .i64 xm] 26)).cell? ⟨w6.heap.size, 0, none⟩ = some (.slice xa xn xc) := (blk_new _ _ rfl).cell 0
  have ckX1 : (w6.alloc (.cells #[.slice xa xn xc, .int .i64 xm] 26)).cell? ⟨w6.heap.size, 1, none⟩ = some (.int .i64 xm) := (blk_new _ _ rfl).cell 1
  go_wp2_with fail
  clear ckX0 ckX1
  have kX : Blk (w6.alloc (.cells #[.slice xa xn xc, .int .i64 xm] 26)) w6.heap.size #[.slice xa xn xc, .int .i64 xm] 26 := blk_new _ _ rfl
  have hb7 : Below w6.heap.size w6 (w6.alloc (.cells #[.slice xa xn xc, .int .i64 xm] 26)) := (Below.refl _ _).alloc (Nat.le_refl _) _
  replace kA := kA.after hb7
  replace hW := hW.after hb7
  replace kW := kW.after hb7
  replace hX := hX.after hb7
  have z7 : w6.heap.size < (w6.alloc (.cells #[.slice xa xn xc, .int .i64 xm] 26)).heap.size := kX.lt
  replace hB := hB.trans (hb7.mono hB.size)
  clear hb7
  generalize (w6.alloc (.cells #[.slice xa xn xc, .int .i64 xm] 26)) = w7 at kA hW kW hX kX hB z7 ⊢
  refine (HI.out _ _ _ hX).mono ?_
  rintro e w8 ⟨Bg, ga, gn, gc, gm, rfl, hG, hGn, hb8⟩
  replace kA := kA.after hb8
  replace hW := hW.after hb8
  replace kW := kW.after hb8
  replace hX := hX.after hb8
  replace kX := kX.after hb8
  have z8 : w7.heap.size ≤ w8.heap.size := hb8.size
  replace hB := hB.trans (hb8.mono hB.size)
  clear hb8
  have hGl := hG.lt
  have ckG0 : (w8.alloc (.cells #[.slice ga gn gc, .int .i64 gm] 26)).cell? ⟨w8.heap.size, 0, none⟩ = some (.slice ga gn gc) := (blk_new _ _ rfl).cell 0
  have ckG1 : (w8.alloc (.cells #[.slice ga gn gc, .int .i64 gm] 26)).cell? ⟨w8.heap.size, 1, none⟩ = some (.int .i64 gm) := (blk_new _ _ rfl).cell 1
  have ckW0 : (w8.alloc (.cells #[.slice ga gn gc, .int .i64 gm] 26)).cell? ⟨w4.heap.size, 0, none⟩ = some (.slice sa sn sc) := (kW.alloc _).cell 0
  have ckW1 : (w8.alloc (.cells #[.slice ga gn gc, .int .i64 gm] 26)).cell? ⟨w4.heap.size, 1, none⟩ = some (.int .i64 sm) := (kW.alloc _).cell 1
  go_wp2_with fail
  clear ckG0 ckG1 ckW0 ckW1
  have kG : Blk (w8.alloc (.cells #[.slice ga gn gc, .int .i64 gm] 26)) w8.heap.size #[.slice ga gn gc, .int .i64 gm] 26 := blk_new _ _ rfl
  have hb9 : Below w8.heap.size w8 (w8.alloc (.cells #[.slice ga gn gc, .int .i64 gm] 26)) := (Below.refl _ _).alloc (Nat.le_refl _) _
  replace kA := kA.after hb9
  replace hW := hW.after hb9
  replace kW := kW.after hb9
  replace hX := hX.after hb9
  replace kX := kX.after hb9
  replace hG := hG.after hb9
  have z9 : w8.heap.size < (w8.alloc (.cells #[.slice ga gn gc, .int .i64 gm] 26)).heap.size := kG.lt
  replace hB := hB.trans (hb9.mono hB.size)
  clear hb9
  generalize (w8.alloc (.cells #[.slice ga gn gc, .int .i64 gm] 26)) = w9 at kA hW kW hX kX hG kG hB z9 ⊢
  refine (eqTable_in hG hW).mono ?_
  rintro e w10 ⟨rfl, hb10⟩
  replace kA := kA.after hb10
  replace hW := hW.after hb10
  replace kW := kW.after hb10
  replace hX := hX.after hb10
  replace kX := kX.after hb10
  replace hG := hG.after hb10
  replace kG := kG.after hb10
  have z10 : w9.heap.size ≤ w10.heap.size := hb10.size
  replace hB := hB.trans (hb10.mono hB.size)
  clear hb10
  rw [decide_eq_true rfl]
  go_wp2_with fail
  refine wp_region_held_drew (S := fun w' => Below w10.heap.size w10 w') (by kernel_rfl) (Below.drew (Below.refl _ _)) (fun hHeld => ?_)
  refine wpAnyH_take (i := 0) (v := ?v1) rfl (by kernel_rfl) (by kernel_rfl) (by kernel_rfl) (fun _ _ _ h => h) (Or.inl ⟨by rfl, ?h1⟩) hHeld ?r1
  case h1 => intro wq hS; have c0 : wq.cell? ⟨w6.heap.size, 0, none⟩ = some (.slice xa xn xc) := (kX.after hS).cell 0; have c1 : wq.cell? ⟨w6.heap.size, 1, none⟩ = some (.int .i64 xm) := (kX.after hS).cell 1; go_simp; with_reducible rfl
  try simp only [Act.put, List.getElem_toArray, List.getElem_cons_zero, List.getElem_cons_succ, List.setIfInBounds_toArray, List.set_cons_zero, List.set_cons_succ]
  refine wpAnyH_take (i := 1) (v := ?v2) rfl (by kernel_rfl) (by kernel_rfl) (by kernel_rfl) (fun _ _ _ h => h) (Or.inl ⟨by rfl, ?h2⟩) hHeld ?r2
  case h2 => intro wq hS; have c0 : wq.cell? ⟨w.heap.size, 0, none⟩ = some (.slice ua un uc) := (kA.after hS).cell 0; have c1 : wq.cell? ⟨w.heap.size, 1, none⟩ = some (.int .i64 um) := (kA.after hS).cell 1; go_simp; with_reducible rfl
  try simp only [Act.put, List.getElem_toArray, List.getElem_cons_zero, List.getElem_cons_succ, List.setIfInBounds_toArray, List.set_cons_zero, List.set_cons_succ]
  refine wpAnyH_ready (rs := [2]) (by kernel_rfl) (by simp) ?_
  refine AllReadyH.cons rfl (fun K hK => ?_) AllReadyH.nil
  go_simp
  refine (toTable_in (HA.out.after (hB.trans (hHeld.mono hB.size))) HSZ.out).mono ?_
  rintro e wt ⟨By, ya, yn, yc, ym, rfl, hY, hYn, hbt⟩
  refine hK.out _ _ (hHeld.trans (hbt.mono hHeld.size)) (fun hHeld => ?_)
  clear hK K
  try simp only [Act.put, List.getElem_toArray, List.getElem_cons_zero, List.getElem_cons_succ, List.setIfInBounds_toArray, List.set_cons_zero, List.set_cons_succ]
  refine wpAnyH_ready (rs := [3]) (by kernel_rfl) (by simp) ?_
  refine AllReadyH.cons rfl (fun K hK => ?_) AllReadyH.nil
  go_simp
  refine (eqTable_in (hX.after hHeld) hY).mono ?_
  rintro e we ⟨rfl, hbe⟩
  rw [decide_eq_true rfl]
  refine hK.out _ _ (hHeld.trans (hbe.mono hHeld.size)) (fun hHeld => ?_)
  clear hK K
  try simp only [Act.put, List.getElem_toArray, List.getElem_cons_zero, List.getElem_cons_succ, List.setIfInBounds_toArray, List.set_cons_zero, List.set_cons_succ]
  refine wpAnyH_take (i := 4) (v := ?v3) rfl (by kernel_rfl) (by kernel_rfl) (by kernel_rfl) (fun _ _ _ h => h) (Or.inl ⟨by rfl, ?h3⟩) hHeld ?r3
  case h3 => intro wq hS; go_simp; with_reducible rfl
  try simp only [Act.put, List.getElem_toArray, List.getElem_cons_zero, List.getElem_cons_succ, List.setIfInBounds_toArray, List.set_cons_zero, List.set_cons_succ]
  refine wpAnyH_done (by kernel_rfl) ?_ _
  clear hbt hbe hY hYn
  rename_i hHeld0 hHeld1
  clear hHeld0 hHeld1
  generalize we = w11 at hHeld ⊢
  replace kA := kA.after hHeld
  replace hW := hW.after hHeld
  replace kW := kW.after hHeld
  replace hX := hX.after hHeld
  replace kX := kX.after hHeld
  replace hG := hG.after hHeld
  replace kG := kG.after hHeld
  have z11 : w10.heap.size ≤ w11.heap.size := hHeld.size
  replace hB := hB.trans (hHeld.mono hB.size)
  clear hHeld
  obtain ⟨kx, hkx, hkx0⟩ : ∃ q : Int, 1 + 5 * (t.rows.length : Int) = q ∧ 0 ≤ q := ⟨_, rfl, by omega⟩
  have hm := markTable_in hX 1 (by decide) (by decide)
  rw [hkx] at hm
  have ckX0 : w11.cell? ⟨w6.heap.size, 0, none⟩ = some (.slice xa xn xc) := kX.cell 0
  have ckX1 : w11.cell? ⟨w6.heap.size, 1, none⟩ = some (.int .i64 xm) := kX.cell 1
  go_wp2_with fail
  clear ckX0 ckX1
  refine (hm).mono ?_
  rintro e w12 ⟨rfl, hTu, hM⟩
  clear hm
  replace kA := kA.turned hTu (fun hx => by have h1 := hXn _ hx; have h2 := hXl _ hx; omega)
  replace kW := kW.turned hTu (fun hx => by have h1 := hXn _ hx; have h2 := hXl _ hx; omega)
  replace kX := kX.turned hTu (fun hx => by have h1 := hXn _ hx; have h2 := hXl _ hx; omega)
  replace kG := kG.turned hTu (fun hx => by have h1 := hXn _ hx; have h2 := hXl _ hx; omega)
  replace hW := hW.turned hTu (fun b hb hx => by have h1 := hXn _ hx; have h2 := hXl _ hx; have h3 := hWn b hb; have h4 := hWl b hb; omega)
  replace hG := hG.turned hTu (fun b hb hx => by have h1 := hXn _ hx; have h2 := hXl _ hx; have h3 := hGn b hb; have h4 := hGl b hb; omega)
  have z12 : w11.heap.size ≤ w12.heap.size := hTu.size
  replace hB := hB.trans (hTu.below hB.size (fun b hb => by have h1 := hXn b hb; omega))
  clear hTu
  clear hM hX
  have ckG0 : w12.cell? ⟨w8.heap.size, 0, none⟩ = some (.slice ga gn gc) := kG.cell 0
  have ckG1 : w12.cell? ⟨w8.heap.size, 1, none⟩ = some (.int .i64 gm) := kG.cell 1
  have ckW0 : w12.cell? ⟨w4.heap.size, 0, none⟩ = some (.slice sa sn sc) := kW.cell 0
  have ckW1 : w12.cell? ⟨w4.heap.size, 1, none⟩ = some (.int .i64 sm) := kW.cell 1
  go_wp2_with fail
  clear ckG0 ckG1 ckW0 ckW1
  refine (eqTable_in hG hW).mono ?_
  rintro e w13 ⟨rfl, hb13⟩
  replace kA := kA.after hb13
  replace hW := hW.after hb13
  replace kW := kW.after hb13
  replace kX := kX.after hb13
  replace hG := hG.after hb13
  replace kG := kG.after hb13
  have z13 : w12.heap.size ≤ w13.heap.size := hb13.size
  replace hB := hB.trans (hb13.mono hB.size)
  clear hb13
  rw [decide_eq_true rfl]
  obtain ⟨kg, hkg, hkg0⟩ : ∃ q : Int, 1 + 5 * (r.rows.length : Int) = q ∧ 0 ≤ q := ⟨_, rfl, by omega⟩
  have hm := markTable_in hG 1 (by decide) (by decide)
  rw [hkg] at hm
  have ckG0 : w13.cell? ⟨w8.heap.size, 0, none⟩ = some (.slice ga gn gc) := kG.cell 0
  have ckG1 : w13.cell? ⟨w8.heap.size, 1, none⟩ = some (.int .i64 gm) := kG.cell 1
  go_wp2_with fail
  clear ckG0 ckG1
  refine (hm).mono ?_
  rintro e w14 ⟨rfl, hTu, hM⟩
  clear hm
  replace kA := kA.turned hTu (fun hx => by have h1 := hGn _ hx; have h2 := hGl _ hx; omega)
  replace kW := kW.turned hTu (fun hx => by have h1 := hGn _ hx; have h2 := hGl _ hx; omega)
  replace kX := kX.turned hTu (fun hx => by have h1 := hGn _ hx; have h2 := hGl _ hx; omega)
  replace kG := kG.turned hTu (fun hx => by have h1 := hGn _ hx; have h2 := hGl _ hx; omega)
  replace hW := hW.turned hTu (fun b hb hx => by have h1 := hGn _ hx; have h2 := hGl _ hx; have h3 := hWn b hb; have h4 := hWl b hb; omega)
  have z14 : w13.heap.size ≤ w14.heap.size := hTu.size
  replace hB := hB.trans (hTu.below hB.size (fun b hb => by have h1 := hGn b hb; omega))
  clear hTu
  clear hG
  have hh := fun w (h : TabIn w Bg (.agg #[.slice ga gn gc, .int .i64 gm]) (markTb 1 r)) => heldTable_in 1 h (by decide) (by decide)
  rw [hkg] at hh
  have HH := Lib.hid hh; clear hh
  have ckG0 : w14.cell? ⟨w8.heap.size, 0, none⟩ = some (.slice ga gn gc) := kG.cell 0
  have ckG1 : w14.cell? ⟨w8.heap.size, 1, none⟩ = some (.int .i64 gm) := kG.cell 1
  go_wp2_with fail
  clear ckG0 ckG1
  refine (HH.out _ hM).mono ?_
  rintro e w15 ⟨rfl, hb15⟩
  replace kA := kA.after hb15
  replace hW := hW.after hb15
  replace kW := kW.after hb15
  replace kX := kX.after hb15
  replace kG := kG.after hb15
  replace hM := hM.after hb15
  have z15 : w14.heap.size ≤ w15.heap.size := hb15.size
  replace hB := hB.trans (hb15.mono hB.size)
  clear hb15
  have ckA0 : w15.cell? ⟨w.heap.size, 0, none⟩ = some (.slice ua un uc) := kA.cell 0
  have ckA1 : w15.cell? ⟨w.heap.size, 1, none⟩ = some (.int .i64 um) := kA.cell 1
  go_wp2_with fail
  clear ckA0 ckA1
  refine (toTable_in (HA.out.after hB) HSZ.out).mono ?_
  rintro e w16 ⟨Bt, pa, pn, pc, pm, rfl, hT, hTn, hb16⟩
  replace kA := kA.after hb16
  replace hW := hW.after hb16
  replace kW := kW.after hb16
  replace kX := kX.after hb16
  replace kG := kG.after hb16
  replace hM := hM.after hb16
  have z16 : w15.heap.size ≤ w16.heap.size := hb16.size
  replace hB := hB.trans (hb16.mono hB.size)
  clear hb16
  go_wp2_with fail
  refine (HI.out _ _ _ hT).mono ?_
  rintro e w17 ⟨Bh, ha, hn, hc, hm, rfl, hH, hHn, hb17⟩
  replace kA := kA.after hb17
  replace hW := hW.after hb17
  replace kW := kW.after hb17
  replace kX := kX.after hb17
  replace kG := kG.after hb17
  replace hM := hM.after hb17
  replace hT := hT.after hb17
  have z17 : w16.heap.size ≤ w17.heap.size := hb17.size
  replace hB := hB.trans (hb17.mono hB.size)
  clear hb17
  clear hT hTn
  have ckH0 : (w17.alloc (.cells #[.slice ha hn hc, .int .i64 hm] 26)).cell? ⟨w17.heap.size, 0, none⟩ = some (.slice ha hn hc) := (blk_new _ _ rfl).cell 0
  have ckH1 : (w17.alloc (.cells #[.slice ha hn hc, .int .i64 hm] 26)).cell? ⟨w17.heap.size, 1, none⟩ = some (.int .i64 hm) := (blk_new _ _ rfl).cell 1
  have ckW0 : (w17.alloc (.cells #[.slice ha hn hc, .int .i64 hm] 26)).cell? ⟨w4.heap.size, 0, none⟩ = some (.slice sa sn sc) := (kW.alloc _).cell 0
  have ckW1 : (w17.alloc (.cells #[.slice ha hn hc, .int .i64 hm] 26)).cell? ⟨w4.heap.size, 1, none⟩ = some (.int .i64 sm) := (kW.alloc _).cell 1
  go_wp2_with fail
  clear ckH0 ckH1 ckW0 ckW1
  have kH : Blk (w17.alloc (.cells #[.slice ha hn hc, .int .i64 hm] 26)) w17.heap.size #[.slice ha hn hc, .int .i64 hm] 26 := blk_new _ _ rfl
  have hb18 : Below w17.heap.size w17 (w17.alloc (.cells #[.slice ha hn hc, .int .i64 hm] 26)) := (Below.refl _ _).alloc (Nat.le_refl _) _
  replace kA := kA.after hb18
  replace hW := hW.after hb18
  replace kW := kW.after hb18
  replace kX := kX.after hb18
  replace kG := kG.after hb18
  replace hM := hM.after hb18
  replace hH := hH.after hb18
  have z18 : w17.heap.size < (w17.alloc (.cells #[.slice ha hn hc, .int .i64 hm] 26)).heap.size := kH.lt
  replace hB := hB.trans (hb18.mono hB.size)
  clear hb18
  generalize (w17.alloc (.cells #[.slice ha hn hc, .int .i64 hm] 26)) = w18 at kA hW kW kX kG hM hH kH hB z18 ⊢
  refine (eqTable_in hH hW).mono ?_
  rintro e w19 ⟨rfl, hb19⟩
  replace kA := kA.after hb19
  replace hW := hW.after hb19
  replace kW := kW.after hb19
  replace kX := kX.after hb19
  replace kG := kG.after hb19
  replace hM := hM.after hb19
  replace hH := hH.after hb19
  replace kH := kH.after hb19
  have z19 : w18.heap.size ≤ w19.heap.size := hb19.size
  replace hB := hB.trans (hb19.mono hB.size)
  clear hb19
  rw [decide_eq_true rfl]
  have ckG0 : w19.cell? ⟨w8.heap.size, 0, none⟩ = some (.slice ga gn gc) := kG.cell 0
  have ckG1 : w19.cell? ⟨w8.heap.size, 1, none⟩ = some (.int .i64 gm) := kG.cell 1
  go_wp2_with fail
  clear ckG0 ckG1
  refine (HH.out _ hM).mono ?_
  rintro e w20 ⟨rfl, hb20⟩
  replace kA := kA.after hb20
  replace hW := hW.after hb20
  replace kW := kW.after hb20
  replace kX := kX.after hb20
  replace kG := kG.after hb20
  replace hM := hM.after hb20
  replace hH := hH.after hb20
  replace kH := kH.after hb20
  have z20 : w19.heap.size ≤ w20.heap.size := hb20.size
  replace hB := hB.trans (hb20.mono hB.size)
  clear hb20
  clear hM hH hW kA kW kX kG kH
  go_wp2_with fail
  go_ret
  exact ⟨rfl, hB⟩
end Go.Proofs.Ytleebmbnjdoinaa
