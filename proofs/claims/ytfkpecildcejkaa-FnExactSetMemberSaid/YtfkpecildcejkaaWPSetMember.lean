/- The walk of FnExactSetMember, out of contracts. -/
import Derived.Test.YtfkpecildcejkaaPa
import Derived.Deep.RegionHeld3
import Derived.Deep.RegionWith
namespace Go.Proofs.Ytfkpecildcejkaa
open Go.RowKit
set_option maxRecDepth 20000

set_option linter.unusedSimpArgs false in
set_option maxHeartbeats 1000000 in
theorem walk_FnExactSetMember_of (f : Pt → Int → Bool → Pt)
    (hS : ∀ (w : World) (B : List Nat) (v : Value) (t : Pt) (n0 : Int) (n1 : Bool), PIn w B v t → (Lit.int .i64 n0).wf = true → Calls Try.prog 25 #[v, .int .i64 n0, .bool n1] w (GotP w (f t n0 n1)))
    (hI : ∀ (w : World) (B : List Nat) (v : Value) (t : Pt) (n0 : Int) (n1 : Bool), PIn w B v t → (Lit.int .i64 n0).wf = true → Calls Try.prog 22 #[v, .int .i64 n0, .bool n1] w (GotP w (f t n0 n1)))
    (v : Value) (t : Pt) (hform : ∃ uv ua un uc ub um ud uk, v = .agg #[.int .i64 uv, .slice ua un uc, .slice ub um ud, .int .i64 uk]) (hlen : t.ins.length ≤ 9223372036854775807 ∧ t.plain.length ≤ 9223372036854775807) (n0 : Int) (f0 : (Lit.int .i64 n0).wf = true) (n1 : Bool) (w : World) (hA : PortArg w v t) :
    Calls Try.prog 10 #[v, .int .i64 n0, .bool n1] w fun e w' => e = .returned (.bool true) ∧ Below w.heap.size w w' := by
  obtain ⟨uv, ua, un, uc, ub, um, ud, uk, rfl⟩ := hform
  have hS' := fun w B v h => hS w B v t n0 n1 h f0
  have hI' := fun w B v h => hI w B v t n0 n1 h f0
  generalize f t n0 n1 = r at hS' hI'
  have HS := Lib.hid hS'; have HI := Lib.hid hI'; have HL := Lib.hid hlen
  clear hS hI hlen hS' hI'
  have hb0 : Below w.heap.size w (w.alloc (.cells #[.int .i64 uv, .slice ua un uc, .slice ub um ud, .int .i64 uk] 44)) := (Below.refl _ _).alloc (Nat.le_refl _) _
  have kA : Blk (w.alloc (.cells #[.int .i64 uv, .slice ua un uc, .slice ub um ud, .int .i64 uk] 44)) w.heap.size #[.int .i64 uv, .slice ua un uc, .slice ub um ud, .int .i64 uk] 44 := blk_new _ _ rfl
  have hA1 := hA.after hb0
  have HA := Lib.hid hA
  have hz := szPort_in hA1 HL.out 1048576 (by decide) (by decide)
  obtain ⟨sq, hsq⟩ : ∃ s, t.ins.length + t.plain.length = s := ⟨_, rfl⟩
  rw [hsq] at hz
  have HSQ := Lib.hid hsq
  clear hsq
  have HZ := Lib.hid hz; have HKA := Lib.hid kA; have HB0 := Lib.hid hb0
  clear hz kA hA hA1 hb0
  go_enter Try.func10, Try.ntmps10
  go_wp2_with fail
  refine HZ.out.mono ?_
  rintro e w2 ⟨rfl, hb2⟩
  have kA := HKA.out.after hb2
  have hB := HB0.out.trans (hb2.mono HB0.out.size)
  have z2 : w.heap.size < w2.heap.size := kA.lt
  clear HZ HKA HB0 hb2
  by_cases hsz : (sq : Int) ≤ 1048576
  case neg =>
    rw [if_neg hsz]
    go_wp2_with fail
    go_ret
    exact ⟨rfl, hB⟩
  rw [if_pos hsz]
  have hq : ¬ (1048576 - (sq : Int) < 0) := by omega
  replace hsz : sq ≤ 1048576 := by omega
  have HSZ := Lib.hid hsz
  clear hsz
  have ckA0 : w2.cell? ⟨w.heap.size, 0, none⟩ = some (.int .i64 uv) := kA.cell 0
  have ckA1 : w2.cell? ⟨w.heap.size, 1, none⟩ = some (.slice ua un uc) := kA.cell 1
  have ckA2 : w2.cell? ⟨w.heap.size, 2, none⟩ = some (.slice ub um ud) := kA.cell 2
  have ckA3 : w2.cell? ⟨w.heap.size, 3, none⟩ = some (.int .i64 uk) := kA.cell 3
  go_wp2_with fail
  clear ckA0 ckA1 ckA2 ckA3
  refine (toPort_in (HA.out.after hB) (by rw [HSQ.out]; exact HSZ.out)).mono ?_
  rintro e w3 ⟨Bt, pv, pa, pn, pc, pb, pm, pd, pk, rfl, hT, hTn, hb3⟩
  replace kA := kA.after hb3
  have z3 : w2.heap.size ≤ w3.heap.size := hb3.size
  replace hB := hB.trans (hb3.mono hB.size)
  clear hb3
  go_wp2_with fail
  refine (HS.out _ _ _ hT).mono ?_
  rintro e w4 ⟨Bw, sv, sa, sn, sc, sb, sm, sd, sk, rfl, hW, hWn, hb4⟩
  replace kA := kA.after hb4
  replace hT := hT.after hb4
  have z4 : w3.heap.size ≤ w4.heap.size := hb4.size
  replace hB := hB.trans (hb4.mono hB.size)
  clear hb4
  clear hT hTn
  have hWl := hW.lt
  have ckA0 : (w4.alloc (.cells #[.int .i64 sv, .slice sa sn sc, .slice sb sm sd, .int .i64 sk] 26)).cell? ⟨w.heap.size, 0, none⟩ = some (.int .i64 uv) := (kA.alloc _).cell 0
  have ckA1 : (w4.alloc (.cells #[.int .i64 sv, .slice sa sn sc, .slice sb sm sd, .int .i64 sk] 26)).cell? ⟨w.heap.size, 1, none⟩ = some (.slice ua un uc) := (kA.alloc _).cell 1
  have ckA2 : (w4.alloc (.cells #[.int .i64 sv, .slice sa sn sc, .slice sb sm sd, .int .i64 sk] 26)).cell? ⟨w.heap.size, 2, none⟩ = some (.slice ub um ud) := (kA.alloc _).cell 2
  have ckA3 : (w4.alloc (.cells #[.int .i64 sv, .slice sa sn sc, .slice sb sm sd, .int .i64 sk] 26)).cell? ⟨w.heap.size, 3, none⟩ = some (.int .i64 uk) := (kA.alloc _).cell 3
  go_wp2_with fail
  clear ckA0 ckA1 ckA2 ckA3
  have kW : Blk (w4.alloc (.cells #[.int .i64 sv, .slice sa sn sc, .slice sb sm sd, .int .i64 sk] 26)) w4.heap.size #[.int .i64 sv, .slice sa sn sc, .slice sb sm sd, .int .i64 sk] 26 := blk_new _ _ rfl
  have hb5 : Below w4.heap.size w4 (w4.alloc (.cells #[.int .i64 sv, .slice sa sn sc, .slice sb sm sd, .int .i64 sk] 26)) := (Below.refl _ _).alloc (Nat.le_refl _) _
  replace kA := kA.after hb5
  replace hW := hW.after hb5
  have z5 : w4.heap.size < (w4.alloc (.cells #[.int .i64 sv, .slice sa sn sc, .slice sb sm sd, .int .i64 sk] 26)).heap.size := kW.lt
  replace hB := hB.trans (hb5.mono hB.size)
  clear hb5
  generalize (w4.alloc (.cells #[.int .i64 sv, .slice sa sn sc, .slice sb sm sd, .int .i64 sk] 26)) = w5 at kA hW kW hB z5 ⊢
  refine (toPort_in (HA.out.after hB) (by rw [HSQ.out]; exact HSZ.out)).mono ?_
  rintro e w6 ⟨Bx, xv, xa, xn, xc, xb, xm, xd, xk, rfl, hX, hXn, hb6⟩
  replace kA := kA.after hb6
  replace hW := hW.after hb6
  replace kW := kW.after hb6
  have z6 : w5.heap.size ≤ w6.heap.size := hb6.size
  replace hB := hB.trans (hb6.mono hB.size)
  clear hb6
  have hXl := hX.lt
  have ckX0 : (w6.alloc (.cells #[.int .i64 xv, .slice xa xn xc, .slice xb xm xd, .int .i64 xk] 26)).cell? ⟨w6.heap.size, 0, none⟩ = some (.int .i64 xv) := (blk_new _ _ rfl).cell 0
  have ckX1 : (w6.alloc (.cells #[.int .i64 xv, .slice xa xn xc, .slice xb xm xd, .int .i64 xk] 26)).cell? ⟨w6.heap.size, 1, none⟩ = some (.slice xa xn xc) := (blk_new _ _ rfl).cell 1
  have ckX2 : (w6.alloc (.cells #[.int .i64 xv, .slice xa xn xc, .slice xb xm xd, .int .i64 xk] 26)).cell? ⟨w6.heap.size, 2, none⟩ = some (.slice xb xm xd) := (blk_new _ _ rfl).cell 2
  have ckX3 : (w6.alloc (.cells #[.int .i64 xv, .slice xa xn xc, .slice xb xm xd, .int .i64 xk] 26)).cell? ⟨w6.heap.size, 3, none⟩ = some (.int .i64 xk) := (blk_new _ _ rfl).cell 3
  go_wp2_with fail
  clear ckX0 ckX1 ckX2 ckX3
  have kX : Blk (w6.alloc (.cells #[.int .i64 xv, .slice xa xn xc, .slice xb xm xd, .int .i64 xk] 26)) w6.heap.size #[.int .i64 xv, .slice xa xn xc, .slice xb xm xd, .int .i64 xk] 26 := blk_new _ _ rfl
  have hb7 : Below w6.heap.size w6 (w6.alloc (.cells #[.int .i64 xv, .slice xa xn xc, .slice xb xm xd, .int .i64 xk] 26)) := (Below.refl _ _).alloc (Nat.le_refl _) _
  replace kA := kA.after hb7
  replace hW := hW.after hb7
  replace kW := kW.after hb7
  replace hX := hX.after hb7
  have z7 : w6.heap.size < (w6.alloc (.cells #[.int .i64 xv, .slice xa xn xc, .slice xb xm xd, .int .i64 xk] 26)).heap.size := kX.lt
  replace hB := hB.trans (hb7.mono hB.size)
  clear hb7
  generalize (w6.alloc (.cells #[.int .i64 xv, .slice xa xn xc, .slice xb xm xd, .int .i64 xk] 26)) = w7 at kA hW kW hX kX hB z7 ⊢
  refine (HI.out _ _ _ hX).mono ?_
  rintro e w8 ⟨Bg, gv, ga, gn, gc, gb, gm, gd, gk, rfl, hG, hGn, hb8⟩
  replace kA := kA.after hb8
  replace hW := hW.after hb8
  replace kW := kW.after hb8
  replace hX := hX.after hb8
  replace kX := kX.after hb8
  have z8 : w7.heap.size ≤ w8.heap.size := hb8.size
  replace hB := hB.trans (hb8.mono hB.size)
  clear hb8
  have hGl := hG.lt
  have ckG0 : (w8.alloc (.cells #[.int .i64 gv, .slice ga gn gc, .slice gb gm gd, .int .i64 gk] 26)).cell? ⟨w8.heap.size, 0, none⟩ = some (.int .i64 gv) := (blk_new _ _ rfl).cell 0
  have ckG1 : (w8.alloc (.cells #[.int .i64 gv, .slice ga gn gc, .slice gb gm gd, .int .i64 gk] 26)).cell? ⟨w8.heap.size, 1, none⟩ = some (.slice ga gn gc) := (blk_new _ _ rfl).cell 1
  have ckG2 : (w8.alloc (.cells #[.int .i64 gv, .slice ga gn gc, .slice gb gm gd, .int .i64 gk] 26)).cell? ⟨w8.heap.size, 2, none⟩ = some (.slice gb gm gd) := (blk_new _ _ rfl).cell 2
  have ckG3 : (w8.alloc (.cells #[.int .i64 gv, .slice ga gn gc, .slice gb gm gd, .int .i64 gk] 26)).cell? ⟨w8.heap.size, 3, none⟩ = some (.int .i64 gk) := (blk_new _ _ rfl).cell 3
  have ckW0 : (w8.alloc (.cells #[.int .i64 gv, .slice ga gn gc, .slice gb gm gd, .int .i64 gk] 26)).cell? ⟨w4.heap.size, 0, none⟩ = some (.int .i64 sv) := (kW.alloc _).cell 0
  have ckW1 : (w8.alloc (.cells #[.int .i64 gv, .slice ga gn gc, .slice gb gm gd, .int .i64 gk] 26)).cell? ⟨w4.heap.size, 1, none⟩ = some (.slice sa sn sc) := (kW.alloc _).cell 1
  have ckW2 : (w8.alloc (.cells #[.int .i64 gv, .slice ga gn gc, .slice gb gm gd, .int .i64 gk] 26)).cell? ⟨w4.heap.size, 2, none⟩ = some (.slice sb sm sd) := (kW.alloc _).cell 2
  have ckW3 : (w8.alloc (.cells #[.int .i64 gv, .slice ga gn gc, .slice gb gm gd, .int .i64 gk] 26)).cell? ⟨w4.heap.size, 3, none⟩ = some (.int .i64 sk) := (kW.alloc _).cell 3
  go_wp2_with fail
  clear ckG0 ckG1 ckG2 ckG3 ckW0 ckW1 ckW2 ckW3
  have kG : Blk (w8.alloc (.cells #[.int .i64 gv, .slice ga gn gc, .slice gb gm gd, .int .i64 gk] 26)) w8.heap.size #[.int .i64 gv, .slice ga gn gc, .slice gb gm gd, .int .i64 gk] 26 := blk_new _ _ rfl
  have hb9 : Below w8.heap.size w8 (w8.alloc (.cells #[.int .i64 gv, .slice ga gn gc, .slice gb gm gd, .int .i64 gk] 26)) := (Below.refl _ _).alloc (Nat.le_refl _) _
  replace kA := kA.after hb9
  replace hW := hW.after hb9
  replace kW := kW.after hb9
  replace hX := hX.after hb9
  replace kX := kX.after hb9
  replace hG := hG.after hb9
  have z9 : w8.heap.size < (w8.alloc (.cells #[.int .i64 gv, .slice ga gn gc, .slice gb gm gd, .int .i64 gk] 26)).heap.size := kG.lt
  replace hB := hB.trans (hb9.mono hB.size)
  clear hb9
  generalize (w8.alloc (.cells #[.int .i64 gv, .slice ga gn gc, .slice gb gm gd, .int .i64 gk] 26)) = w9 at kA hW kW hX kX hG kG hB z9 ⊢
  refine (eqPort_same hG hW).mono ?_
  rintro e w10 ⟨rfl, hb10⟩
  replace kA := kA.after hb10
  replace hW := hW.after hb10
  replace kW := kW.after hb10
  replace hX := hX.after hb10
  replace kX := kX.after hb10
  replace hG := hG.after hb10
  replace kG := kG.after hb10
  have z10 : w9.heap.size ≤ w10.heap.size := hb10.size
  replace hB := hB.trans (hb10.mono hB.size)
  clear hb10
  go_wp2_with fail
  refine wp_region_held_drew (S := fun w' => Below w10.heap.size w10 w') (by kernel_rfl) (Below.drew (Below.refl _ _)) (fun hHeld => ?_)
  refine wpAnyH_take (i := 0) (v := ?v1) rfl (by kernel_rfl) (by kernel_rfl) (by kernel_rfl) (fun _ _ _ h => h) (Or.inl ⟨by rfl, ?h1⟩) hHeld ?r1
  case h1 => intro wq hS; have c0 : wq.cell? ⟨w6.heap.size, 0, none⟩ = some (.int .i64 xv) := (kX.after hS).cell 0; have c1 : wq.cell? ⟨w6.heap.size, 1, none⟩ = some (.slice xa xn xc) := (kX.after hS).cell 1; have c2 : wq.cell? ⟨w6.heap.size, 2, none⟩ = some (.slice xb xm xd) := (kX.after hS).cell 2; have c3 : wq.cell? ⟨w6.heap.size, 3, none⟩ = some (.int .i64 xk) := (kX.after hS).cell 3; go_simp; with_reducible rfl
  try simp only [Act.put, List.getElem_toArray, List.getElem_cons_zero, List.getElem_cons_succ, List.setIfInBounds_toArray, List.set_cons_zero, List.set_cons_succ]
  refine wpAnyH_take (i := 1) (v := ?v2) rfl (by kernel_rfl) (by kernel_rfl) (by kernel_rfl) (fun _ _ _ h => h) (Or.inl ⟨by rfl, ?h2⟩) hHeld ?r2
  case h2 => intro wq hS; have c0 : wq.cell? ⟨w.heap.size, 0, none⟩ = some (.int .i64 uv) := (kA.after hS).cell 0; have c1 : wq.cell? ⟨w.heap.size, 1, none⟩ = some (.slice ua un uc) := (kA.after hS).cell 1; have c2 : wq.cell? ⟨w.heap.size, 2, none⟩ = some (.slice ub um ud) := (kA.after hS).cell 2; have c3 : wq.cell? ⟨w.heap.size, 3, none⟩ = some (.int .i64 uk) := (kA.after hS).cell 3; go_simp; with_reducible rfl
  try simp only [Act.put, List.getElem_toArray, List.getElem_cons_zero, List.getElem_cons_succ, List.setIfInBounds_toArray, List.set_cons_zero, List.set_cons_succ]
  refine wpAnyH_ready (rs := [2]) (by kernel_rfl) (by simp) ?_
  refine AllReadyH.cons rfl (fun K hK => ?_) AllReadyH.nil
  go_simp
  refine (toPort_in (HA.out.after (hB.trans (hHeld.mono hB.size))) (by rw [HSQ.out]; exact HSZ.out)).mono ?_
  rintro e wt ⟨By, yv, ya, yn, yc, yb, ym, yd, yk, rfl, hY, hYn, hbt⟩
  refine hK.out _ _ (hHeld.trans (hbt.mono hHeld.size)) (fun hHeld => ?_)
  clear hK K
  try simp only [Act.put, List.getElem_toArray, List.getElem_cons_zero, List.getElem_cons_succ, List.setIfInBounds_toArray, List.set_cons_zero, List.set_cons_succ]
  refine wpAnyH_ready (rs := [3]) (by kernel_rfl) (by simp) ?_
  refine AllReadyH.cons rfl (fun K hK => ?_) AllReadyH.nil
  go_simp
  refine (eqPort_same (hX.after hHeld) hY).mono ?_
  rintro e we ⟨rfl, hbe⟩
  refine hK.out _ _ (hHeld.trans (hbe.mono hHeld.size)) (fun hHeld => ?_)
  clear hK K
  try simp only [Act.put, List.getElem_toArray, List.getElem_cons_zero, List.getElem_cons_succ, List.setIfInBounds_toArray, List.set_cons_zero, List.set_cons_succ]
  refine wpAnyH_take (i := 4) (v := ?v3) rfl (by kernel_rfl) (by kernel_rfl) (by kernel_rfl) (fun _ _ _ h => h) (Or.inl ⟨by rfl, ?h3⟩) hHeld ?r3
  case h3 => intro wq hS; go_simp; with_reducible rfl
  try simp only [Act.put, List.getElem_toArray, List.getElem_cons_zero, List.getElem_cons_succ, List.setIfInBounds_toArray, List.set_cons_zero, List.set_cons_succ]
  refine wpAnyH_done (by kernel_rfl) ?_ _
  clear hbt hbe hY hYn
  rename_i hHeld0 hHeld1
  clear hHeld0 hHeld1
  generalize we = w11 at hHeld ⊢
  replace kA := kA.after hHeld
  replace hW := hW.after hHeld
  replace kW := kW.after hHeld
  replace hX := hX.after hHeld
  replace kX := kX.after hHeld
  replace hG := hG.after hHeld
  replace kG := kG.after hHeld
  have z11 : w10.heap.size ≤ w11.heap.size := hHeld.size
  replace hB := hB.trans (hHeld.mono hB.size)
  clear hHeld
  obtain ⟨kx, hkx, hkx0⟩ : ∃ q : Int, (1 : Int) + (t.ins.length : Int) + (t.plain.length : Int) = q ∧ 0 ≤ q := ⟨_, rfl, by omega⟩
  have hm := markPort_in hX 1 (by decide) (by decide)
  rw [hkx] at hm
  have ckX0 : w11.cell? ⟨w6.heap.size, 0, none⟩ = some (.int .i64 xv) := kX.cell 0
  have ckX1 : w11.cell? ⟨w6.heap.size, 1, none⟩ = some (.slice xa xn xc) := kX.cell 1
  have ckX2 : w11.cell? ⟨w6.heap.size, 2, none⟩ = some (.slice xb xm xd) := kX.cell 2
  have ckX3 : w11.cell? ⟨w6.heap.size, 3, none⟩ = some (.int .i64 xk) := kX.cell 3
  go_wp2_with fail
  clear ckX0 ckX1 ckX2 ckX3
  refine (hm).mono ?_
  rintro e w12 ⟨rfl, hTu, hM⟩
  clear hm
  replace kA := kA.turned hTu (fun hx => by have h1 := hXn _ hx; have h2 := hXl _ hx; omega)
  replace kW := kW.turned hTu (fun hx => by have h1 := hXn _ hx; have h2 := hXl _ hx; omega)
  replace kX := kX.turned hTu (fun hx => by have h1 := hXn _ hx; have h2 := hXl _ hx; omega)
  replace kG := kG.turned hTu (fun hx => by have h1 := hXn _ hx; have h2 := hXl _ hx; omega)
  replace hW := hW.turned hTu (fun b hb hx => by have h1 := hXn _ hx; have h2 := hXl _ hx; have h3 := hWn b hb; have h4 := hWl b hb; omega)
  replace hG := hG.turned hTu (fun b hb hx => by have h1 := hXn _ hx; have h2 := hXl _ hx; have h3 := hGn b hb; have h4 := hGl b hb; omega)
  have z12 : w11.heap.size ≤ w12.heap.size := hTu.size
  replace hB := hB.trans (hTu.below hB.size (fun b hb => by have h1 := hXn b hb; omega))
  clear hTu
  clear hM hX
  have ckG0 : w12.cell? ⟨w8.heap.size, 0, none⟩ = some (.int .i64 gv) := kG.cell 0
  have ckG1 : w12.cell? ⟨w8.heap.size, 1, none⟩ = some (.slice ga gn gc) := kG.cell 1
  have ckG2 : w12.cell? ⟨w8.heap.size, 2, none⟩ = some (.slice gb gm gd) := kG.cell 2
  have ckG3 : w12.cell? ⟨w8.heap.size, 3, none⟩ = some (.int .i64 gk) := kG.cell 3
  have ckW0 : w12.cell? ⟨w4.heap.size, 0, none⟩ = some (.int .i64 sv) := kW.cell 0
  have ckW1 : w12.cell? ⟨w4.heap.size, 1, none⟩ = some (.slice sa sn sc) := kW.cell 1
  have ckW2 : w12.cell? ⟨w4.heap.size, 2, none⟩ = some (.slice sb sm sd) := kW.cell 2
  have ckW3 : w12.cell? ⟨w4.heap.size, 3, none⟩ = some (.int .i64 sk) := kW.cell 3
  go_wp2_with fail
  clear ckG0 ckG1 ckG2 ckG3 ckW0 ckW1 ckW2 ckW3
  refine (eqPort_same hG hW).mono ?_
  rintro e w13 ⟨rfl, hb13⟩
  replace kA := kA.after hb13
  replace hW := hW.after hb13
  replace kW := kW.after hb13
  replace kX := kX.after hb13
  replace hG := hG.after hb13
  replace kG := kG.after hb13
  have z13 : w12.heap.size ≤ w13.heap.size := hb13.size
  replace hB := hB.trans (hb13.mono hB.size)
  clear hb13
  obtain ⟨kg, hkg, hkg0⟩ : ∃ q : Int, (1 : Int) + (r.ins.length : Int) + (r.plain.length : Int) = q ∧ 0 ≤ q := ⟨_, rfl, by omega⟩
  have hm := markPort_in hG 1 (by decide) (by decide)
  rw [hkg] at hm
  have ckG0 : w13.cell? ⟨w8.heap.size, 0, none⟩ = some (.int .i64 gv) := kG.cell 0
  have ckG1 : w13.cell? ⟨w8.heap.size, 1, none⟩ = some (.slice ga gn gc) := kG.cell 1
  have ckG2 : w13.cell? ⟨w8.heap.size, 2, none⟩ = some (.slice gb gm gd) := kG.cell 2
  have ckG3 : w13.cell? ⟨w8.heap.size, 3, none⟩ = some (.int .i64 gk) := kG.cell 3
  go_wp2_with fail
  clear ckG0 ckG1 ckG2 ckG3
  refine (hm).mono ?_
  rintro e w14 ⟨rfl, hTu, hM⟩
  clear hm
  replace kA := kA.turned hTu (fun hx => by have h1 := hGn _ hx; have h2 := hGl _ hx; omega)
  replace kW := kW.turned hTu (fun hx => by have h1 := hGn _ hx; have h2 := hGl _ hx; omega)
  replace kX := kX.turned hTu (fun hx => by have h1 := hGn _ hx; have h2 := hGl _ hx; omega)
  replace kG := kG.turned hTu (fun hx => by have h1 := hGn _ hx; have h2 := hGl _ hx; omega)
  replace hW := hW.turned hTu (fun b hb hx => by have h1 := hGn _ hx; have h2 := hGl _ hx; have h3 := hWn b hb; have h4 := hWl b hb; omega)
  have z14 : w13.heap.size ≤ w14.heap.size := hTu.size
  replace hB := hB.trans (hTu.below hB.size (fun b hb => by have h1 := hGn b hb; omega))
  clear hTu
  clear hG
  have hh := fun w (h : PIn w Bg (.agg #[.int .i64 gv, .slice ga gn gc, .slice gb gm gd, .int .i64 gk]) (markPt 1 r)) => heldPort_in 1 h (by decide) (by decide)
  rw [hkg] at hh
  have HH := Lib.hid hh; clear hh
  have ckG0 : w14.cell? ⟨w8.heap.size, 0, none⟩ = some (.int .i64 gv) := kG.cell 0
  have ckG1 : w14.cell? ⟨w8.heap.size, 1, none⟩ = some (.slice ga gn gc) := kG.cell 1
  have ckG2 : w14.cell? ⟨w8.heap.size, 2, none⟩ = some (.slice gb gm gd) := kG.cell 2
  have ckG3 : w14.cell? ⟨w8.heap.size, 3, none⟩ = some (.int .i64 gk) := kG.cell 3
  go_wp2_with fail
  clear ckG0 ckG1 ckG2 ckG3
  refine (HH.out _ hM).mono ?_
  rintro e w15 ⟨rfl, hb15⟩
  replace kA := kA.after hb15
  replace hW := hW.after hb15
  replace kW := kW.after hb15
  replace kX := kX.after hb15
  replace kG := kG.after hb15
  replace hM := hM.after hb15
  have z15 : w14.heap.size ≤ w15.heap.size := hb15.size
  replace hB := hB.trans (hb15.mono hB.size)
  clear hb15
  have ckA0 : w15.cell? ⟨w.heap.size, 0, none⟩ = some (.int .i64 uv) := kA.cell 0
  have ckA1 : w15.cell? ⟨w.heap.size, 1, none⟩ = some (.slice ua un uc) := kA.cell 1
  have ckA2 : w15.cell? ⟨w.heap.size, 2, none⟩ = some (.slice ub um ud) := kA.cell 2
  have ckA3 : w15.cell? ⟨w.heap.size, 3, none⟩ = some (.int .i64 uk) := kA.cell 3
  go_wp2_with fail
  clear ckA0 ckA1 ckA2 ckA3
  refine (toPort_in (HA.out.after hB) (by rw [HSQ.out]; exact HSZ.out)).mono ?_
  rintro e w16 ⟨Bt, pv, pa, pn, pc, pb, pm, pd, pk, rfl, hT, hTn, hb16⟩
  replace kA := kA.after hb16
  replace hW := hW.after hb16
  replace kW := kW.after hb16
  replace kX := kX.after hb16
  replace kG := kG.after hb16
  replace hM := hM.after hb16
  have z16 : w15.heap.size ≤ w16.heap.size := hb16.size
  replace hB := hB.trans (hb16.mono hB.size)
  clear hb16
  go_wp2_with fail
  refine (HI.out _ _ _ hT).mono ?_
  rintro e w17 ⟨Bh, hv, ha, hn, hc, hb, hm, hd, hk, rfl, hH, hHn, hb17⟩
  replace kA := kA.after hb17
  replace hW := hW.after hb17
  replace kW := kW.after hb17
  replace kX := kX.after hb17
  replace kG := kG.after hb17
  replace hM := hM.after hb17
  replace hT := hT.after hb17
  have z17 : w16.heap.size ≤ w17.heap.size := hb17.size
  replace hB := hB.trans (hb17.mono hB.size)
  clear hb17
  clear hT hTn
  have ckH0 : (w17.alloc (.cells #[.int .i64 hv, .slice ha hn hc, .slice hb hm hd, .int .i64 hk] 26)).cell? ⟨w17.heap.size, 0, none⟩ = some (.int .i64 hv) := (blk_new _ _ rfl).cell 0
  have ckH1 : (w17.alloc (.cells #[.int .i64 hv, .slice ha hn hc, .slice hb hm hd, .int .i64 hk] 26)).cell? ⟨w17.heap.size, 1, none⟩ = some (.slice ha hn hc) := (blk_new _ _ rfl).cell 1
  have ckH2 : (w17.alloc (.cells #[.int .i64 hv, .slice ha hn hc, .slice hb hm hd, .int .i64 hk] 26)).cell? ⟨w17.heap.size, 2, none⟩ = some (.slice hb hm hd) := (blk_new _ _ rfl).cell 2
  have ckH3 : (w17.alloc (.cells #[.int .i64 hv, .slice ha hn hc, .slice hb hm hd, .int .i64 hk] 26)).cell? ⟨w17.heap.size, 3, none⟩ = some (.int .i64 hk) := (blk_new _ _ rfl).cell 3
  have ckW0 : (w17.alloc (.cells #[.int .i64 hv, .slice ha hn hc, .slice hb hm hd, .int .i64 hk] 26)).cell? ⟨w4.heap.size, 0, none⟩ = some (.int .i64 sv) := (kW.alloc _).cell 0
  have ckW1 : (w17.alloc (.cells #[.int .i64 hv, .slice ha hn hc, .slice hb hm hd, .int .i64 hk] 26)).cell? ⟨w4.heap.size, 1, none⟩ = some (.slice sa sn sc) := (kW.alloc _).cell 1
  have ckW2 : (w17.alloc (.cells #[.int .i64 hv, .slice ha hn hc, .slice hb hm hd, .int .i64 hk] 26)).cell? ⟨w4.heap.size, 2, none⟩ = some (.slice sb sm sd) := (kW.alloc _).cell 2
  have ckW3 : (w17.alloc (.cells #[.int .i64 hv, .slice ha hn hc, .slice hb hm hd, .int .i64 hk] 26)).cell? ⟨w4.heap.size, 3, none⟩ = some (.int .i64 sk) := (kW.alloc _).cell 3
  go_wp2_with fail
  clear ckH0 ckH1 ckH2 ckH3 ckW0 ckW1 ckW2 ckW3
  have kH : Blk (w17.alloc (.cells #[.int .i64 hv, .slice ha hn hc, .slice hb hm hd, .int .i64 hk] 26)) w17.heap.size #[.int .i64 hv, .slice ha hn hc, .slice hb hm hd, .int .i64 hk] 26 := blk_new _ _ rfl
  have hb18 : Below w17.heap.size w17 (w17.alloc (.cells #[.int .i64 hv, .slice ha hn hc, .slice hb hm hd, .int .i64 hk] 26)) := (Below.refl _ _).alloc (Nat.le_refl _) _
  replace kA := kA.after hb18
  replace hW := hW.after hb18
  replace kW := kW.after hb18
  replace kX := kX.after hb18
  replace kG := kG.after hb18
  replace hM := hM.after hb18
  replace hH := hH.after hb18
  have z18 : w17.heap.size < (w17.alloc (.cells #[.int .i64 hv, .slice ha hn hc, .slice hb hm hd, .int .i64 hk] 26)).heap.size := kH.lt
  replace hB := hB.trans (hb18.mono hB.size)
  clear hb18
  generalize (w17.alloc (.cells #[.int .i64 hv, .slice ha hn hc, .slice hb hm hd, .int .i64 hk] 26)) = w18 at kA hW kW kX kG hM hH kH hB z18 ⊢
  refine (eqPort_same hH hW).mono ?_
  rintro e w19 ⟨rfl, hb19⟩
  replace kA := kA.after hb19
  replace hW := hW.after hb19
  replace kW := kW.after hb19
  replace kX := kX.after hb19
  replace kG := kG.after hb19
  replace hM := hM.after hb19
  replace hH := hH.after hb19
  replace kH := kH.after hb19
  have z19 : w18.heap.size ≤ w19.heap.size := hb19.size
  replace hB := hB.trans (hb19.mono hB.size)
  clear hb19
  have ckG0 : w19.cell? ⟨w8.heap.size, 0, none⟩ = some (.int .i64 gv) := kG.cell 0
  have ckG1 : w19.cell? ⟨w8.heap.size, 1, none⟩ = some (.slice ga gn gc) := kG.cell 1
  have ckG2 : w19.cell? ⟨w8.heap.size, 2, none⟩ = some (.slice gb gm gd) := kG.cell 2
  have ckG3 : w19.cell? ⟨w8.heap.size, 3, none⟩ = some (.int .i64 gk) := kG.cell 3
  go_wp2_with fail
  clear ckG0 ckG1 ckG2 ckG3
  refine (HH.out _ hM).mono ?_
  rintro e w20 ⟨rfl, hb20⟩
  replace kA := kA.after hb20
  replace hW := hW.after hb20
  replace kW := kW.after hb20
  replace kX := kX.after hb20
  replace kG := kG.after hb20
  replace hM := hM.after hb20
  replace hH := hH.after hb20
  replace kH := kH.after hb20
  have z20 : w19.heap.size ≤ w20.heap.size := hb20.size
  replace hB := hB.trans (hb20.mono hB.size)
  clear hb20
  clear hM hH hW kA kW kX kG kH
  go_wp2_with fail
  go_ret
  exact ⟨rfl, hB⟩
end Go.Proofs.Ytfkpecildcejkaa
