/- The walk of FnExactMember, out of contracts. -/
import Derived.Test.YtfkpecildcejkaaPa
import Derived.Deep.RegionHeld3
import Derived.Deep.RegionWith
namespace Go.Proofs.Ytfkpecildcejkaa
open Go.RowKit
set_option maxRecDepth 20000

set_option linter.unusedSimpArgs false in
set_option maxHeartbeats 1000000 in
theorem walk_FnExactMember_of (f : Pt → Int → Bool)
    (hS : ∀ (w : World) (B : List Nat) (v : Value) (t : Pt) (n0 : Int), PIn w B v t → (Lit.int .i64 n0).wf = true → Calls Try.prog 30 #[v, .int .i64 n0] w fun e w' => e = .returned (.bool (f t n0)) ∧ Below w.heap.size w w')
    (hI : ∀ (w : World) (B : List Nat) (v : Value) (t : Pt) (n0 : Int), PIn w B v t → (Lit.int .i64 n0).wf = true → Calls Try.prog 18 #[v, .int .i64 n0] w fun e w' => e = .returned (.bool (f t n0)) ∧ Below w.heap.size w w')
    (v : Value) (t : Pt) (hform : ∃ uv ua un uc ub um ud uk, v = .agg #[.int .i64 uv, .slice ua un uc, .slice ub um ud, .int .i64 uk]) (hlen : t.ins.length ≤ 9223372036854775807 ∧ t.plain.length ≤ 9223372036854775807) (n0 : Int) (f0 : (Lit.int .i64 n0).wf = true) (w : World) (hA : PortArg w v t) :
    Calls Try.prog 7 #[v, .int .i64 n0] w fun e w' => e = .returned (.bool true) ∧ Below w.heap.size w w' := by
  obtain ⟨uv, ua, un, uc, ub, um, ud, uk, rfl⟩ := hform
  have hS' := fun w B v h => hS w B v t n0 h f0
  have hI' := fun w B v h => hI w B v t n0 h f0
  generalize f t n0 = r at hS' hI'
  have HS := Lib.hid hS'; have HI := Lib.hid hI'; have HL := Lib.hid hlen
  clear hS hI hlen hS' hI'
  have hb0 : Below w.heap.size w (w.alloc (.cells #[.int .i64 uv, .slice ua un uc, .slice ub um ud, .int .i64 uk] 44)) := (Below.refl _ _).alloc (Nat.le_refl _) _
  have kA : Blk (w.alloc (.cells #[.int .i64 uv, .slice ua un uc, .slice ub um ud, .int .i64 uk] 44)) w.heap.size #[.int .i64 uv, .slice ua un uc, .slice ub um ud, .int .i64 uk] 44 := blk_new _ _ rfl
  have hA1 := hA.after hb0
  have HA := Lib.hid hA
  have hz := szPort_in hA1 HL.out 1048576 (by decide) (by decide)
  obtain ⟨sq, hsq⟩ : ∃ s, t.ins.length + t.plain.length = s := ⟨_, rfl⟩
  rw [hsq] at hz
  have HSQ := Lib.hid hsq
  clear hsq
  have HZ := Lib.hid hz; have HKA := Lib.hid kA; have HB0 := Lib.hid hb0
  clear hz kA hA hA1 hb0
  go_enter Try.func7, Try.ntmps7
  go_wp2_with fail
  refine HZ.out.mono ?_
  rintro e w2 ⟨rfl, hb2⟩
  have kA := HKA.out.after hb2
  have hB := HB0.out.trans (hb2.mono HB0.out.size)
  have z2 : w.heap.size < w2.heap.size := kA.lt
  clear HZ HKA HB0 hb2
  by_cases hsz : (sq : Int) ≤ 1048576
  case neg =>
    rw [if_neg hsz]
    go_wp2_with fail
    go_ret
    exact ⟨rfl, hB⟩
  rw [if_pos hsz]
  have hq : ¬ (1048576 - (sq : Int) < 0) := by omega
  replace hsz : sq ≤ 1048576 := by omega
  have HSZ := Lib.hid hsz
  clear hsz
  have ckA0 : w2.cell? ⟨w.heap.size, 0, none⟩ = some (.int .i64 uv) := kA.cell 0
  have ckA1 : w2.cell? ⟨w.heap.size, 1, none⟩ = some (.slice ua un uc) := kA.cell 1
  have ckA2 : w2.cell? ⟨w.heap.size, 2, none⟩ = some (.slice ub um ud) := kA.cell 2
  have ckA3 : w2.cell? ⟨w.heap.size, 3, none⟩ = some (.int .i64 uk) := kA.cell 3
  go_wp2_with fail
  clear ckA0 ckA1 ckA2 ckA3
  refine (toPort_in (HA.out.after hB) (by rw [HSQ.out]; exact HSZ.out)).mono ?_
  rintro e w3 ⟨Bt, pv, pa, pn, pc, pb, pm, pd, pk, rfl, hT, hTn, hb3⟩
  replace kA := kA.after hb3
  have z3 : w2.heap.size ≤ w3.heap.size := hb3.size
  replace hB := hB.trans (hb3.mono hB.size)
  clear hb3
  go_wp2_with fail
  refine (HS.out _ _ _ hT).mono ?_
  rintro e w4 ⟨rfl, hb4⟩
  replace kA := kA.after hb4
  replace hT := hT.after hb4
  have z4 : w3.heap.size ≤ w4.heap.size := hb4.size
  replace hB := hB.trans (hb4.mono hB.size)
  clear hb4
  clear hT hTn
  have ckA0 : w4.cell? ⟨w.heap.size, 0, none⟩ = some (.int .i64 uv) := kA.cell 0
  have ckA1 : w4.cell? ⟨w.heap.size, 1, none⟩ = some (.slice ua un uc) := kA.cell 1
  have ckA2 : w4.cell? ⟨w.heap.size, 2, none⟩ = some (.slice ub um ud) := kA.cell 2
  have ckA3 : w4.cell? ⟨w.heap.size, 3, none⟩ = some (.int .i64 uk) := kA.cell 3
  go_wp2_with fail
  clear ckA0 ckA1 ckA2 ckA3
  refine (toPort_in (HA.out.after hB) (by rw [HSQ.out]; exact HSZ.out)).mono ?_
  rintro e w5 ⟨Bx, xv, xa, xn, xc, xb, xm, xd, xk, rfl, hX, hXn, hb5⟩
  replace kA := kA.after hb5
  have z5 : w4.heap.size ≤ w5.heap.size := hb5.size
  replace hB := hB.trans (hb5.mono hB.size)
  clear hb5
  have ckX0 : (w5.alloc (.cells #[.int .i64 xv, .slice xa xn xc, .slice xb xm xd, .int .i64 xk] 26)).cell? ⟨w5.heap.size, 0, none⟩ = some (.int .i64 xv) := (blk_new _ _ rfl).cell 0
  have ckX1 : (w5.alloc (.cells #[.int .i64 xv, .slice xa xn xc, .slice xb xm xd, .int .i64 xk] 26)).cell? ⟨w5.heap.size, 1, none⟩ = some (.slice xa xn xc) := (blk_new _ _ rfl).cell 1
  have ckX2 : (w5.alloc (.cells #[.int .i64 xv, .slice xa xn xc, .slice xb xm xd, .int .i64 xk] 26)).cell? ⟨w5.heap.size, 2, none⟩ = some (.slice xb xm xd) := (blk_new _ _ rfl).cell 2
  have ckX3 : (w5.alloc (.cells #[.int .i64 xv, .slice xa xn xc, .slice xb xm xd, .int .i64 xk] 26)).cell? ⟨w5.heap.size, 3, none⟩ = some (.int .i64 xk) := (blk_new _ _ rfl).cell 3
  go_wp2_with fail
  clear ckX0 ckX1 ckX2 ckX3
  have kX : Blk (w5.alloc (.cells #[.int .i64 xv, .slice xa xn xc, .slice xb xm xd, .int .i64 xk] 26)) w5.heap.size #[.int .i64 xv, .slice xa xn xc, .slice xb xm xd, .int .i64 xk] 26 := blk_new _ _ rfl
  have hb6 : Below w5.heap.size w5 (w5.alloc (.cells #[.int .i64 xv, .slice xa xn xc, .slice xb xm xd, .int .i64 xk] 26)) := (Below.refl _ _).alloc (Nat.le_refl _) _
  replace kA := kA.after hb6
  replace hX := hX.after hb6
  have z6 : w5.heap.size < (w5.alloc (.cells #[.int .i64 xv, .slice xa xn xc, .slice xb xm xd, .int .i64 xk] 26)).heap.size := kX.lt
  replace hB := hB.trans (hb6.mono hB.size)
  clear hb6
  generalize (w5.alloc (.cells #[.int .i64 xv, .slice xa xn xc, .slice xb xm xd, .int .i64 xk] 26)) = w6 at kA hX kX hB z6 ⊢
  refine (HI.out _ _ _ hX).mono ?_
  rintro e w7 ⟨rfl, hb7⟩
  replace kA := kA.after hb7
  replace hX := hX.after hb7
  replace kX := kX.after hb7
  have z7 : w6.heap.size ≤ w7.heap.size := hb7.size
  replace hB := hB.trans (hb7.mono hB.size)
  clear hb7
  go_wp2_with fail
  refine wp_region_held_drew (S := fun w' => Below w7.heap.size w7 w') (by kernel_rfl) (Below.drew (Below.refl _ _)) (fun hHeld => ?_)
  refine wpAnyH_take (i := 0) (v := ?v1) rfl (by kernel_rfl) (by kernel_rfl) (by kernel_rfl) (fun _ _ _ h => h) (Or.inl ⟨by rfl, ?h1⟩) hHeld ?r1
  case h1 => intro wq hS; have c0 : wq.cell? ⟨w5.heap.size, 0, none⟩ = some (.int .i64 xv) := (kX.after hS).cell 0; have c1 : wq.cell? ⟨w5.heap.size, 1, none⟩ = some (.slice xa xn xc) := (kX.after hS).cell 1; have c2 : wq.cell? ⟨w5.heap.size, 2, none⟩ = some (.slice xb xm xd) := (kX.after hS).cell 2; have c3 : wq.cell? ⟨w5.heap.size, 3, none⟩ = some (.int .i64 xk) := (kX.after hS).cell 3; go_simp; with_reducible rfl
  try simp only [Act.put, List.getElem_toArray, List.getElem_cons_zero, List.getElem_cons_succ, List.setIfInBounds_toArray, List.set_cons_zero, List.set_cons_succ]
  refine wpAnyH_take (i := 1) (v := ?v2) rfl (by kernel_rfl) (by kernel_rfl) (by kernel_rfl) (fun _ _ _ h => h) (Or.inl ⟨by rfl, ?h2⟩) hHeld ?r2
  case h2 => intro wq hS; have c0 : wq.cell? ⟨w.heap.size, 0, none⟩ = some (.int .i64 uv) := (kA.after hS).cell 0; have c1 : wq.cell? ⟨w.heap.size, 1, none⟩ = some (.slice ua un uc) := (kA.after hS).cell 1; have c2 : wq.cell? ⟨w.heap.size, 2, none⟩ = some (.slice ub um ud) := (kA.after hS).cell 2; have c3 : wq.cell? ⟨w.heap.size, 3, none⟩ = some (.int .i64 uk) := (kA.after hS).cell 3; go_simp; with_reducible rfl
  try simp only [Act.put, List.getElem_toArray, List.getElem_cons_zero, List.getElem_cons_succ, List.setIfInBounds_toArray, List.set_cons_zero, List.set_cons_succ]
  refine wpAnyH_ready (rs := [2]) (by kernel_rfl) (by simp) ?_
  refine AllReadyH.cons rfl (fun K hK => ?_) AllReadyH.nil
  go_simp
  refine (toPort_in (HA.out.after (hB.trans (hHeld.mono hB.size))) (by rw [HSQ.out]; exact HSZ.out)).mono ?_
  rintro e wt ⟨By, yv, ya, yn, yc, yb, ym, yd, yk, rfl, hY, hYn, hbt⟩
  refine hK.out _ _ (hHeld.trans (hbt.mono hHeld.size)) (fun hHeld => ?_)
  clear hK K
  try simp only [Act.put, List.getElem_toArray, List.getElem_cons_zero, List.getElem_cons_succ, List.setIfInBounds_toArray, List.set_cons_zero, List.set_cons_succ]
  refine wpAnyH_ready (rs := [3]) (by kernel_rfl) (by simp) ?_
  refine AllReadyH.cons rfl (fun K hK => ?_) AllReadyH.nil
  go_simp
  refine (eqPort_same (hX.after hHeld) hY).mono ?_
  rintro e we ⟨rfl, hbe⟩
  refine hK.out _ _ (hHeld.trans (hbe.mono hHeld.size)) (fun hHeld => ?_)
  clear hK K
  try simp only [Act.put, List.getElem_toArray, List.getElem_cons_zero, List.getElem_cons_succ, List.setIfInBounds_toArray, List.set_cons_zero, List.set_cons_succ]
  refine wpAnyH_take (i := 4) (v := ?v3) rfl (by kernel_rfl) (by kernel_rfl) (by kernel_rfl) (fun _ _ _ h => h) (Or.inl ⟨by rfl, ?h3⟩) hHeld ?r3
  case h3 => intro wq hS; go_simp; with_reducible rfl
  try simp only [Act.put, List.getElem_toArray, List.getElem_cons_zero, List.getElem_cons_succ, List.setIfInBounds_toArray, List.set_cons_zero, List.set_cons_succ]
  refine wpAnyH_done (by kernel_rfl) ?_ _
  clear hbt hbe hY hYn
  rename_i hHeld0 hHeld1
  clear hHeld0 hHeld1
  generalize we = w8 at hHeld ⊢
  replace kA := kA.after hHeld
  replace hX := hX.after hHeld
  replace kX := kX.after hHeld
  have z8 : w7.heap.size ≤ w8.heap.size := hHeld.size
  replace hB := hB.trans (hHeld.mono hB.size)
  clear hHeld
  clear hX kX kA
  go_wp2_with fail
  go_ret
  exact ⟨rfl, hB⟩
end Go.Proofs.Ytfkpecildcejkaa
