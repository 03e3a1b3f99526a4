/- The walk of FnMembers. -/
import Derived.Test.YtfkpecildcejkaaEgI
import Derived.Test.YtfkpecildcejkaaDm
import Derived.Test.YtfkpecildcejkaaSmS
import Derived.Test.YtfkpecildcejkaaDrX
import Derived.Test.YtfkpecildcejkaaBig
import Derived.Deep.RegionHeld3
import Derived.Deep.RegionWith
import Derived.Deep.DeepCutAuto
namespace Go.Proofs.Ytfkpecildcejkaa
open Go.RowKit

theorem got_canon {w w' : World} {p : Pt} {e : Ending} (h : GotPort w p e w') : ∃ (C D : List Nat) (a : Option Addr) (ca : Nat) (b : Option Addr) (cb : Nat), e = .returned (.agg #[.int .i64 p.pvid, .slice a p.ins.length ca, .slice b p.plain.length cb, .int .i64 p.acc]) ∧
    PortIn w' C D (.agg #[.int .i64 p.pvid, .slice a p.ins.length ca, .slice b p.plain.length cb, .int .i64 p.acc]) p ∧ Below w.heap.size w w' := by
  obtain ⟨B, C, a, n, ca, b, m, cb, pv, ac, rfl, h1, _, _, _, h5, _⟩ := h
  have h1' := h1
  obtain ⟨xa, xc, xb, xd, hv, _⟩ := h1
  unfold ptVal at hv
  cases hv
  exact ⟨B, C, _, _, _, _, rfl, h1', h5⟩
theorem fldP_one (x0 x1 x2 x3 : Value) (w : World) : (Instr.field 26 (.agg #[x0, x1, x2, x3]) 1).run Try.prog w = .ok x1 w := by kernel_rfl
theorem small_fr (vid : Int) (u : Bool) (h1 : 1 ≤ vid) (h2 : vid ≤ 4094) (p : Pt) (hu : vid ∈ p.plain ↔ u = true) : frOk (outFr p vid ⟨2, 4, false, 0, 0, 2048, ⟨#[]⟩⟩ 3) ∧ (outFr p vid ⟨2, 4, false, 0, 0, 2048, ⟨#[]⟩⟩ 3) = (if u = true then ⟨2, 4, false, 0, 0, 2048, ⟨#[]⟩⟩ else ⟨2, 4, true, vid, 3, 2048, ⟨#[]⟩⟩ : Fr) := by
  have e : (outFr p vid ⟨2, 4, false, 0, 0, 2048, ⟨#[]⟩⟩ 3) = (if u = true then ⟨2, 4, false, 0, 0, 2048, ⟨#[]⟩⟩ else ⟨2, 4, true, vid, 3, 2048, ⟨#[]⟩⟩ : Fr) := by
    unfold outFr
    by_cases k : vid ∈ p.plain
    · rw [if_pos k, if_pos (hu.1 k)]
    · rw [if_neg k, if_neg (fun k2 => k (hu.2 k2))]
  refine ⟨?_, e⟩
  rw [e]
  cases u
  · simp only [Bool.false_eq_true, if_false]
    unfold frOk
    refine ⟨show isMac 2 by decide, show isMac 4 by decide, show ¬ isGrp 4 by decide, ?_, show typeOk 2048 by decide, show (⟨#[]⟩ : ByteArray).size ≤ 1500 by decide⟩
    unfold tagOk
    simp only [if_true]
    omega
  · simp only [if_true]
    decide

set_option linter.unusedVariables false in
set_option linter.unusedSimpArgs false in
set_option maxRecDepth 20000 in
set_option maxHeartbeats 4000000 in
theorem walk_FnMembers (a : Option Addr) (len cap : Nat) (zs : List Int) (w : World) (hrow : IsRow .u8 w a len cap zs) :
    Calls Try.prog 5 #[.slice a len cap] w fun e w' => e = .returned (.bool true) ∧ Below w.heap.size w w' := by
  have hlow := hrow.low
  have hmax : len ≤ 9223372036854775807 := by
    rcases hrow with ⟨_, rfl, _⟩ | ⟨_, _, h1, h2, _⟩
    · omega
    · unfold maxLen at h2; omega
  by_cases hl : len ≤ 1048576
  case neg =>
    go_enter Try.func5, Try.ntmps5
    go_wp2_with fail
    refine (big_yes a len cap w (by omega)).mono ?_
    rintro e w' ⟨rfl, rfl⟩
    go_wp2_with fail
    go_ret
    exact ⟨rfl, Below.refl _ _⟩
  go_enter Try.func5, Try.ntmps5
  go_wp2_with fail
  refine (big_no a len cap w hl).mono ?_
  rintro e w9 ⟨rfl, rfl⟩
  go_wp2_with fail
  refine (drawSetMember_any w a len cap zs hl hrow hlow).mono ?_
  rintro e x0 ⟨p, v, vid, u, rfl, ⟨C, D, pa, pca, pb, pcb, rfl, hP, hb1⟩, hvid⟩
  clear hrow hlow
  have HB := Lib.hid hb1; have HP := Lib.hid hP; have HV := Lib.hid hvid
  obtain ⟨q, hq⟩ : ∃ q, setM p vid u = q := ⟨_, rfl⟩
  obtain ⟨t, ht⟩ : ∃ t, dropM q vid = t := ⟨_, rfl⟩
  have hsi := fun (w : World) (h : PortIn w C D (.agg #[.int .i64 p.pvid, .slice pa p.ins.length pca, .slice pb p.plain.length pcb, .int .i64 p.acc]) p) => set_impl h vid u hvid
  have hss := fun (w : World) (h : PortIn w C D (.agg #[.int .i64 p.pvid, .slice pa p.ins.length pca, .slice pb p.plain.length pcb, .int .i64 p.acc]) p) => set_spec h vid u hvid
  simp only [hq] at hsi hss
  obtain ⟨r, hr⟩ : ∃ r, decide (portOk p) = r := ⟨_, rfl⟩
  have hqr : decide (portOk q) = r := by rw [← hr, ← hq]; simp only [set_ok_iff]
  have hdi := fun (w : World) (C D : List Nat) (v : Value) (h : PortIn w C D v q) => drop_impl h vid
  simp only [ht] at hdi
  have hok : r = true → portOk q ∧ portOk t ∧ vid ∉ t.ins := by
    intro k
    have k1 : portOk q := of_decide_eq_true (hqr.trans k)
    exact ⟨k1, ht ▸ drop_ok k1 vid, ht ▸ drop_out k1 vid⟩
  have hin : r = true → 1 ≤ vid → vid ≤ 4094 → p.ins.length ≤ 19 → vid ∈ q.ins ∧ (vid ∈ q.plain ↔ u = true) := by
    intro k h1 h2 h3
    rw [← hq]
    exact set_in (of_decide_eq_true (hr.trans k)) h1 h2 h3 u
  have hps := fun (w : World) (h : PortIn w C D (.agg #[.int .i64 p.pvid, .slice pa p.ins.length pca, .slice pb p.plain.length pcb, .int .i64 p.acc]) p) => portOk_spec h
  simp only [hr] at hps
  have hpq := fun (w : World) (C D : List Nat) (v : Value) (h : PortIn w C D v q) => portOk_impl h
  simp only [hqr] at hpq
  have HSI := Lib.hid hsi; have HSS := Lib.hid hss; have HDI := Lib.hid hdi; have HOK := Lib.hid hok; have HIN := Lib.hid hin; have HPS := Lib.hid hps; have HPQ := Lib.hid hpq
  clear hb1 hP hvid hsi hss hdi hok hin hps hpq hr hqr hq ht
  go_wp2_with fail
  have hbq : Below x0.heap.size x0 (x0.alloc (.cells #[.int .i64 p.pvid, .slice pa p.ins.length pca, .slice pb p.plain.length pcb, .int .i64 p.acc] 26)) := (Below.refl _ _).alloc (Nat.le_refl _) _
  have KP := Lib.hid (show Blk (x0.alloc (.cells #[.int .i64 p.pvid, .slice pa p.ins.length pca, .slice pb p.plain.length pcb, .int .i64 p.acc] 26)) x0.heap.size #[.int .i64 p.pvid, .slice pa p.ins.length pca, .slice pb p.plain.length pcb, .int .i64 p.acc] 26 from blk_new _ _ rfl)
  have HP := Lib.hid (HP.out.after hbq)
  have HB := Lib.hid (HB.out.trans (hbq.mono HB.out.size))
  clear hbq
  generalize x0.alloc (.cells #[.int .i64 p.pvid, .slice pa p.ins.length pca, .slice pb p.plain.length pcb, .int .i64 p.acc] 26) = x1 at KP HP HB ⊢
  generalize x0.heap.size = e1 at KP ⊢
  refine (HSI.out _ HP.out).mono ?_
  rintro e x2 hG
  obtain ⟨C2, D2, a2, c2, b2, d2, rfl, hTq, hbq⟩ := got_canon hG
  clear hG
  have HP := Lib.hid (HP.out.after hbq)
  have KP := Lib.hid (KP.out.after hbq)
  have HB := Lib.hid (HB.out.trans (hbq.mono HB.out.size))
  have HQ := Lib.hid hTq
  clear hTq hbq
  have hbq : Below x2.heap.size x2 (x2.alloc (.cells #[.int .i64 q.pvid, .slice a2 q.ins.length c2, .slice b2 q.plain.length d2, .int .i64 q.acc] 26)) := (Below.refl _ _).alloc (Nat.le_refl _) _
  have hnq : Blk (x2.alloc (.cells #[.int .i64 q.pvid, .slice a2 q.ins.length c2, .slice b2 q.plain.length d2, .int .i64 q.acc] 26)) x2.heap.size #[.int .i64 q.pvid, .slice a2 q.ins.length c2, .slice b2 q.plain.length d2, .int .i64 q.acc] 26 := blk_new _ _ rfl
  have HP := Lib.hid (HP.out.after hbq)
  have HQ := Lib.hid (HQ.out.after hbq)
  have KP := Lib.hid (KP.out.after hbq)
  have HB := Lib.hid (HB.out.trans (hbq.mono HB.out.size))
  have KQ := Lib.hid hnq
  clear hbq hnq
  have kp0 : (x2.alloc (.cells #[.int .i64 q.pvid, .slice a2 q.ins.length c2, .slice b2 q.plain.length d2, .int .i64 q.acc] 26)).cell? ⟨e1, 0, none⟩ = some (.int .i64 p.pvid) := KP.out.cell 0
  have kp1 : (x2.alloc (.cells #[.int .i64 q.pvid, .slice a2 q.ins.length c2, .slice b2 q.plain.length d2, .int .i64 q.acc] 26)).cell? ⟨e1, 1, none⟩ = some (.slice pa p.ins.length pca) := KP.out.cell 1
  have kp2 : (x2.alloc (.cells #[.int .i64 q.pvid, .slice a2 q.ins.length c2, .slice b2 q.plain.length d2, .int .i64 q.acc] 26)).cell? ⟨e1, 2, none⟩ = some (.slice pb p.plain.length pcb) := KP.out.cell 2
  have kp3 : (x2.alloc (.cells #[.int .i64 q.pvid, .slice a2 q.ins.length c2, .slice b2 q.plain.length d2, .int .i64 q.acc] 26)).cell? ⟨e1, 3, none⟩ = some (.int .i64 p.acc) := KP.out.cell 3
  have kpl : e1 < (x2.alloc (.cells #[.int .i64 q.pvid, .slice a2 q.ins.length c2, .slice b2 q.plain.length d2, .int .i64 q.acc] 26)).heap.size := KP.out.lt
  have kq0 : (x2.alloc (.cells #[.int .i64 q.pvid, .slice a2 q.ins.length c2, .slice b2 q.plain.length d2, .int .i64 q.acc] 26)).cell? ⟨x2.heap.size, 0, none⟩ = some (.int .i64 q.pvid) := KQ.out.cell 0
  have kq1 : (x2.alloc (.cells #[.int .i64 q.pvid, .slice a2 q.ins.length c2, .slice b2 q.plain.length d2, .int .i64 q.acc] 26)).cell? ⟨x2.heap.size, 1, none⟩ = some (.slice a2 q.ins.length c2) := KQ.out.cell 1
  have kq2 : (x2.alloc (.cells #[.int .i64 q.pvid, .slice a2 q.ins.length c2, .slice b2 q.plain.length d2, .int .i64 q.acc] 26)).cell? ⟨x2.heap.size, 2, none⟩ = some (.slice b2 q.plain.length d2) := KQ.out.cell 2
  have kq3 : (x2.alloc (.cells #[.int .i64 q.pvid, .slice a2 q.ins.length c2, .slice b2 q.plain.length d2, .int .i64 q.acc] 26)).cell? ⟨x2.heap.size, 3, none⟩ = some (.int .i64 q.acc) := KQ.out.cell 3
  have kql : x2.heap.size < (x2.alloc (.cells #[.int .i64 q.pvid, .slice a2 q.ins.length c2, .slice b2 q.plain.length d2, .int .i64 q.acc] 26)).heap.size := KQ.out.lt
  go_wp2_with fail
  clear kp0 kp1 kp2 kp3 kpl kq0 kq1 kq2 kq3 kql
  generalize (x2.alloc (.cells #[.int .i64 q.pvid, .slice a2 q.ins.length c2, .slice b2 q.plain.length d2, .int .i64 q.acc] 26)) = x3 at HP HQ KP KQ HB ⊢
  generalize x2.heap.size = e3 at HP HQ KP KQ HB ⊢
  go_upto_region 5 with fail
  refine wp_region_held_drew (S := fun w' => Below x3.heap.size x3 w') (by kernel_rfl) (Below.drew (Below.refl _ _)) (fun hHeld => ?_)
  refine wpAnyH_take (i := 0) (v := ?v1) rfl (by kernel_rfl) (by kernel_rfl) (by kernel_rfl) (fun _ _ _ h => h) (Or.inl ⟨by rfl, ?h1⟩) hHeld ?r1
  case h1 => intro wq hS; have c0 : wq.cell? ⟨e3, 0, none⟩ = some (.int .i64 q.pvid) := (KQ.out.after hS).cell 0; have c1 : wq.cell? ⟨e3, 1, none⟩ = some (.slice a2 q.ins.length c2) := (KQ.out.after hS).cell 1; have c2 : wq.cell? ⟨e3, 2, none⟩ = some (.slice b2 q.plain.length d2) := (KQ.out.after hS).cell 2; have c3 : wq.cell? ⟨e3, 3, none⟩ = some (.int .i64 q.acc) := (KQ.out.after hS).cell 3; go_simp; with_reducible rfl
  try simp only [Act.put, List.getElem_toArray, List.getElem_cons_zero, List.getElem_cons_succ, List.setIfInBounds_toArray, List.set_cons_zero, List.set_cons_succ]
  refine wpAnyH_take (i := 2) (v := ?v2) rfl (by kernel_rfl) (by kernel_rfl) (by kernel_rfl) (fun _ _ _ h => h) (Or.inl ⟨by rfl, ?h2⟩) hHeld ?r2
  case h2 => intro wq hS; have c0 : wq.cell? ⟨e1, 0, none⟩ = some (.int .i64 p.pvid) := (KP.out.after hS).cell 0; have c1 : wq.cell? ⟨e1, 1, none⟩ = some (.slice pa p.ins.length pca) := (KP.out.after hS).cell 1; have c2 : wq.cell? ⟨e1, 2, none⟩ = some (.slice pb p.plain.length pcb) := (KP.out.after hS).cell 2; have c3 : wq.cell? ⟨e1, 3, none⟩ = some (.int .i64 p.acc) := (KP.out.after hS).cell 3; go_simp; with_reducible rfl
  try simp only [Act.put, List.getElem_toArray, List.getElem_cons_zero, List.getElem_cons_succ, List.setIfInBounds_toArray, List.set_cons_zero, List.set_cons_succ]
  refine wpAnyH_ready (rs := [1]) (by kernel_rfl) (by simp) ?_
  refine AllReadyH.cons rfl (fun K hK => ?_) AllReadyH.nil
  go_simp
  refine (HPQ.out _ _ _ _ (HQ.out.after hHeld)).mono ?_
  rintro e' xa ⟨rfl, hba⟩
  refine hK.out _ _ (hHeld.trans (hba.mono hHeld.size)) (fun hHeld => ?_)
  clear hK K
  try simp only [Act.put, List.getElem_toArray, List.getElem_cons_zero, List.getElem_cons_succ, List.setIfInBounds_toArray, List.set_cons_zero, List.set_cons_succ]
  refine wpAnyH_ready (rs := [3]) (by kernel_rfl) (by simp) ?_
  refine AllReadyH.cons rfl (fun K hK => ?_) AllReadyH.nil
  go_simp
  refine (HPS.out _ (HP.out.after hHeld)).mono ?_
  rintro e' xb ⟨rfl, hbb⟩
  refine hK.out _ _ (hHeld.trans (hbb.mono hHeld.size)) (fun hHeld => ?_)
  clear hK K
  try simp only [Act.put, List.getElem_toArray, List.getElem_cons_zero, List.getElem_cons_succ, List.setIfInBounds_toArray, List.set_cons_zero, List.set_cons_succ]
  have q1 : (r != r) = false := by simp
  refine wpAnyH_take (i := 4) (v := ?v3) rfl (by kernel_rfl) (by kernel_rfl) (by kernel_rfl) (fun _ _ _ h => h) (Or.inl ⟨by rfl, ?h3⟩) hHeld ?r3
  case h3 => intro wq hS; go_simp; with_reducible rfl
  try simp only [Act.put, List.getElem_toArray, List.getElem_cons_zero, List.getElem_cons_succ, List.setIfInBounds_toArray, List.set_cons_zero, List.set_cons_succ]
  refine wpAnyH_take (i := 5) (v := ?v4) rfl (by kernel_rfl) (by kernel_rfl) (by kernel_rfl) (fun _ _ _ h => h) (Or.inl ⟨by rfl, ?h4⟩) hHeld ?r4
  case h4 => intro wq hS; go_simp; with_reducible rfl
  try simp only [Act.put, List.getElem_toArray, List.getElem_cons_zero, List.getElem_cons_succ, List.setIfInBounds_toArray, List.set_cons_zero, List.set_cons_succ]
  refine wpAnyH_take (i := 6) (v := ?v5) rfl (by kernel_rfl) (by kernel_rfl) (by kernel_rfl) (fun _ _ _ h => h) (Or.inl ⟨by rfl, ?h5⟩) hHeld ?r5
  case h5 => intro wq hS; go_simp; with_reducible rfl
  try simp only [Act.put, List.getElem_toArray, List.getElem_cons_zero, List.getElem_cons_succ, List.setIfInBounds_toArray, List.set_cons_zero, List.set_cons_succ]
  refine wpAnyH_take (i := 7) (v := ?v6) rfl (by kernel_rfl) (by kernel_rfl) (by kernel_rfl) (fun _ _ _ h => h) (Or.inl ⟨by rfl, ?h6⟩) hHeld ?r6
  case h6 => intro wq hS; have c0 : wq.cell? ⟨e3, 0, none⟩ = some (.int .i64 q.pvid) := (KQ.out.after hS).cell 0; have c1 : wq.cell? ⟨e3, 1, none⟩ = some (.slice a2 q.ins.length c2) := (KQ.out.after hS).cell 1; have c2 : wq.cell? ⟨e3, 2, none⟩ = some (.slice b2 q.plain.length d2) := (KQ.out.after hS).cell 2; have c3 : wq.cell? ⟨e3, 3, none⟩ = some (.int .i64 q.acc) := (KQ.out.after hS).cell 3; go_simp; with_reducible rfl
  try simp only [Act.put, List.getElem_toArray, List.getElem_cons_zero, List.getElem_cons_succ, List.setIfInBounds_toArray, List.set_cons_zero, List.set_cons_succ]
  refine wpAnyH_take (i := 8) (v := ?v7) rfl (by kernel_rfl) (by kernel_rfl) (by kernel_rfl) (fun _ _ _ h => h) (Or.inl ⟨by rfl, ?h7⟩) hHeld ?r7
  case h7 => intro wq hS; go_simp; with_reducible rfl
  try simp only [Act.put, List.getElem_toArray, List.getElem_cons_zero, List.getElem_cons_succ, List.setIfInBounds_toArray, List.set_cons_zero, List.set_cons_succ]
  refine wpAnyH_take (i := 9) (v := ?v8) rfl (by kernel_rfl) (by kernel_rfl) (by kernel_rfl) (fun _ _ _ h => h) (Or.inl ⟨by rfl, ?h8⟩) hHeld ?r8
  case h8 => intro wq hS; have c0 : wq.cell? ⟨e1, 0, none⟩ = some (.int .i64 p.pvid) := (KP.out.after hS).cell 0; have c1 : wq.cell? ⟨e1, 1, none⟩ = some (.slice pa p.ins.length pca) := (KP.out.after hS).cell 1; have c2 : wq.cell? ⟨e1, 2, none⟩ = some (.slice pb p.plain.length pcb) := (KP.out.after hS).cell 2; have c3 : wq.cell? ⟨e1, 3, none⟩ = some (.int .i64 p.acc) := (KP.out.after hS).cell 3; go_simp; with_reducible rfl
  try simp only [Act.put, List.getElem_toArray, List.getElem_cons_zero, List.getElem_cons_succ, List.setIfInBounds_toArray, List.set_cons_zero, List.set_cons_succ]
  refine wpAnyH_take (i := 10) (v := ?v9) rfl (by kernel_rfl) (by kernel_rfl) (by kernel_rfl) (fun _ _ _ h => h) (Or.inl ⟨by rfl, ?h9⟩) hHeld ?r9
  case h9 => intro wq hS; go_simp; with_reducible rfl
  try simp only [Act.put, List.getElem_toArray, List.getElem_cons_zero, List.getElem_cons_succ, List.setIfInBounds_toArray, List.set_cons_zero, List.set_cons_succ]
  refine wpAnyH_take (i := 11) (v := ?v10) rfl (by kernel_rfl) (by kernel_rfl) (by kernel_rfl) (fun _ _ _ h => h) (Or.inl ⟨by rfl, ?h10⟩) hHeld ?r10
  case h10 => intro wq hS; go_simp; with_reducible rfl
  try simp only [Act.put, List.getElem_toArray, List.getElem_cons_zero, List.getElem_cons_succ, List.setIfInBounds_toArray, List.set_cons_zero, List.set_cons_succ]
  refine wpAnyH_ready (rs := [12]) (by kernel_rfl) (by simp) ?_
  refine AllReadyH.cons rfl (fun K hK => ?_) AllReadyH.nil
  go_simp
  refine (HSS.out _ (HP.out.after hHeld)).mono ?_
  rintro e' xc hG
  obtain ⟨Cz, Dz, az, cz, bz, dz, rfl, _, hbc⟩ := got_canon hG
  clear hG
  refine hK.out _ _ (hHeld.trans (hbc.mono hHeld.size)) (fun hHeld => ?_)
  clear hK K
  try simp only [Act.put, List.getElem_toArray, List.getElem_cons_zero, List.getElem_cons_succ, List.setIfInBounds_toArray, List.set_cons_zero, List.set_cons_succ]
  refine wpAnyH_take (i := 13) (v := ?v11) rfl (by kernel_rfl) (by kernel_rfl) (by kernel_rfl) (fun _ _ _ h => h) (Or.inl ⟨by rfl, ?h11⟩) hHeld ?r11
  case h11 => intro wq hS; have k13 := fldP_one (.int .i64 q.pvid) (.slice az q.ins.length cz) (.slice bz q.plain.length dz) (.int .i64 q.acc); go_simp; with_reducible rfl
  try simp only [Act.put, List.getElem_toArray, List.getElem_cons_zero, List.getElem_cons_succ, List.setIfInBounds_toArray, List.set_cons_zero, List.set_cons_succ]
  refine wpAnyH_take (i := 14) (v := ?v12) rfl (by kernel_rfl) (by kernel_rfl) (by kernel_rfl) (fun _ _ _ h => h) (Or.inl ⟨by rfl, ?h12⟩) hHeld ?r12
  case h12 => intro wq hS; go_simp; with_reducible rfl
  try simp only [Act.put, List.getElem_toArray, List.getElem_cons_zero, List.getElem_cons_succ, List.setIfInBounds_toArray, List.set_cons_zero, List.set_cons_succ]
  have k15 : ((q.ins.length : Int) != (q.ins.length : Int)) = false := by simp
  refine wpAnyH_take (i := 15) (v := ?v13) rfl (by kernel_rfl) (by kernel_rfl) (by kernel_rfl) (fun _ _ _ h => h) (Or.inl ⟨by rfl, ?h13⟩) hHeld ?r13
  case h13 => intro wq hS; go_simp; with_reducible rfl
  try simp only [Act.put, List.getElem_toArray, List.getElem_cons_zero, List.getElem_cons_succ, List.setIfInBounds_toArray, List.set_cons_zero, List.set_cons_succ]
  refine wpAnyH_take (i := 16) (v := ?v14) rfl (by kernel_rfl) (by kernel_rfl) (by kernel_rfl) (fun _ _ _ h => h) (Or.inl ⟨by rfl, ?h14⟩) hHeld ?r14
  case h14 => intro wq hS; go_simp; with_reducible rfl
  try simp only [Act.put, List.getElem_toArray, List.getElem_cons_zero, List.getElem_cons_succ, List.setIfInBounds_toArray, List.set_cons_zero, List.set_cons_succ]
  refine wpAnyH_done (by kernel_rfl) ?_ _
  clear hba hbb hbc
  have HP := Lib.hid (HP.out.after hHeld)
  have HQ := Lib.hid (HQ.out.after hHeld)
  have KP := Lib.hid (KP.out.after hHeld)
  have KQ := Lib.hid (KQ.out.after hHeld)
  have HB := Lib.hid (HB.out.trans (hHeld.mono HB.out.size))
  clear hHeld
  have kp0 : xc.cell? ⟨e1, 0, none⟩ = some (.int .i64 p.pvid) := KP.out.cell 0
  have kp1 : xc.cell? ⟨e1, 1, none⟩ = some (.slice pa p.ins.length pca) := KP.out.cell 1
  have kp2 : xc.cell? ⟨e1, 2, none⟩ = some (.slice pb p.plain.length pcb) := KP.out.cell 2
  have kp3 : xc.cell? ⟨e1, 3, none⟩ = some (.int .i64 p.acc) := KP.out.cell 3
  have kpl : e1 < xc.heap.size := KP.out.lt
  go_wp2_with fail
  refine (HPS.out _ HP.out).mono ?_
  rintro e x4 ⟨rfl, hbq⟩
  clear kp0 kp1 kp2 kp3 kpl
  have HP := Lib.hid (HP.out.after hbq)
  have HQ := Lib.hid (HQ.out.after hbq)
  have KP := Lib.hid (KP.out.after hbq)
  have KQ := Lib.hid (KQ.out.after hbq)
  have HB := Lib.hid (HB.out.trans (hbq.mono HB.out.size))
  clear hbq
  cases r
  case false =>
    have kp0 : x4.cell? ⟨e1, 0, none⟩ = some (.int .i64 p.pvid) := KP.out.cell 0
    have kp1 : x4.cell? ⟨e1, 1, none⟩ = some (.slice pa p.ins.length pca) := KP.out.cell 1
    have kp2 : x4.cell? ⟨e1, 2, none⟩ = some (.slice pb p.plain.length pcb) := KP.out.cell 2
    have kp3 : x4.cell? ⟨e1, 3, none⟩ = some (.int .i64 p.acc) := KP.out.cell 3
    have kpl : e1 < x4.heap.size := KP.out.lt
    have kq0 : x4.cell? ⟨e3, 0, none⟩ = some (.int .i64 q.pvid) := KQ.out.cell 0
    have kq1 : x4.cell? ⟨e3, 1, none⟩ = some (.slice a2 q.ins.length c2) := KQ.out.cell 1
    have kq2 : x4.cell? ⟨e3, 2, none⟩ = some (.slice b2 q.plain.length d2) := KQ.out.cell 2
    have kq3 : x4.cell? ⟨e3, 3, none⟩ = some (.int .i64 q.acc) := KQ.out.cell 3
    have kql : e3 < x4.heap.size := KQ.out.lt
    go_wp2_with fail
    go_ret
    exact ⟨rfl, HB.out⟩
  have hk := HOK.out (by simp)
  have hpt := fun (w : World) (C D : List Nat) (v : Value) (h : PortIn w C D v t) => portOk_impl h
  rw [decide_eq_true hk.2.1] at hpt
  have hmt := fun (w : World) (C D : List Nat) (v : Value) (h : PortIn w C D v t) => member_impl h vid
  rw [decide_eq_false hk.2.2] at hmt
  have HPT := Lib.hid hpt; have HMT := Lib.hid hmt; have HK := Lib.hid hk.1
  clear hpt hmt hk
  have kp0 : x4.cell? ⟨e1, 0, none⟩ = some (.int .i64 p.pvid) := KP.out.cell 0
  have kp1 : x4.cell? ⟨e1, 1, none⟩ = some (.slice pa p.ins.length pca) := KP.out.cell 1
  have kp2 : x4.cell? ⟨e1, 2, none⟩ = some (.slice pb p.plain.length pcb) := KP.out.cell 2
  have kp3 : x4.cell? ⟨e1, 3, none⟩ = some (.int .i64 p.acc) := KP.out.cell 3
  have kpl : e1 < x4.heap.size := KP.out.lt
  have kq0 : x4.cell? ⟨e3, 0, none⟩ = some (.int .i64 q.pvid) := KQ.out.cell 0
  have kq1 : x4.cell? ⟨e3, 1, none⟩ = some (.slice a2 q.ins.length c2) := KQ.out.cell 1
  have kq2 : x4.cell? ⟨e3, 2, none⟩ = some (.slice b2 q.plain.length d2) := KQ.out.cell 2
  have kq3 : x4.cell? ⟨e3, 3, none⟩ = some (.int .i64 q.acc) := KQ.out.cell 3
  have kql : e3 < x4.heap.size := KQ.out.lt
  go_wp2_with fail
  refine (HDI.out _ _ _ _ HQ.out).mono ?_
  rintro e x5 hG
  obtain ⟨C3, D3, a3, c3, b3, d3, rfl, hTq, hbq⟩ := got_canon hG
  clear hG
  clear kp0 kp1 kp2 kp3 kpl kq0 kq1 kq2 kq3 kql
  have HP := Lib.hid (HP.out.after hbq)
  have HQ := Lib.hid (HQ.out.after hbq)
  have KP := Lib.hid (KP.out.after hbq)
  have KQ := Lib.hid (KQ.out.after hbq)
  have HB := Lib.hid (HB.out.trans (hbq.mono HB.out.size))
  have HT := Lib.hid hTq
  clear hTq hbq
  by_cases hc0 : vid < 1
  case pos =>
    have hbq : Below x5.heap.size x5 (x5.alloc (.cells #[.int .i64 t.pvid, .slice a3 t.ins.length c3, .slice b3 t.plain.length d3, .int .i64 t.acc] 26)) := (Below.refl _ _).alloc (Nat.le_refl _) _
    have hnq : Blk (x5.alloc (.cells #[.int .i64 t.pvid, .slice a3 t.ins.length c3, .slice b3 t.plain.length d3, .int .i64 t.acc] 26)) x5.heap.size #[.int .i64 t.pvid, .slice a3 t.ins.length c3, .slice b3 t.plain.length d3, .int .i64 t.acc] 26 := blk_new _ _ rfl
    have HP := Lib.hid (HP.out.after hbq)
    have HQ := Lib.hid (HQ.out.after hbq)
    have HT := Lib.hid (HT.out.after hbq)
    have KP := Lib.hid (KP.out.after hbq)
    have KQ := Lib.hid (KQ.out.after hbq)
    have HB := Lib.hid (HB.out.trans (hbq.mono HB.out.size))
    have KT := Lib.hid hnq
    clear hbq hnq
    have kp0 : (x5.alloc (.cells #[.int .i64 t.pvid, .slice a3 t.ins.length c3, .slice b3 t.plain.length d3, .int .i64 t.acc] 26)).cell? ⟨e1, 0, none⟩ = some (.int .i64 p.pvid) := KP.out.cell 0
    have kp1 : (x5.alloc (.cells #[.int .i64 t.pvid, .slice a3 t.ins.length c3, .slice b3 t.plain.length d3, .int .i64 t.acc] 26)).cell? ⟨e1, 1, none⟩ = some (.slice pa p.ins.length pca) := KP.out.cell 1
    have kp2 : (x5.alloc (.cells #[.int .i64 t.pvid, .slice a3 t.ins.length c3, .slice b3 t.plain.length d3, .int .i64 t.acc] 26)).cell? ⟨e1, 2, none⟩ = some (.slice pb p.plain.length pcb) := KP.out.cell 2
    have kp3 : (x5.alloc (.cells #[.int .i64 t.pvid, .slice a3 t.ins.length c3, .slice b3 t.plain.length d3, .int .i64 t.acc] 26)).cell? ⟨e1, 3, none⟩ = some (.int .i64 p.acc) := KP.out.cell 3
    have kpl : e1 < (x5.alloc (.cells #[.int .i64 t.pvid, .slice a3 t.ins.length c3, .slice b3 t.plain.length d3, .int .i64 t.acc] 26)).heap.size := KP.out.lt
    have kq0 : (x5.alloc (.cells #[.int .i64 t.pvid, .slice a3 t.ins.length c3, .slice b3 t.plain.length d3, .int .i64 t.acc] 26)).cell? ⟨e3, 0, none⟩ = some (.int .i64 q.pvid) := KQ.out.cell 0
    have kq1 : (x5.alloc (.cells #[.int .i64 t.pvid, .slice a3 t.ins.length c3, .slice b3 t.plain.length d3, .int .i64 t.acc] 26)).cell? ⟨e3, 1, none⟩ = some (.slice a2 q.ins.length c2) := KQ.out.cell 1
    have kq2 : (x5.alloc (.cells #[.int .i64 t.pvid, .slice a3 t.ins.length c3, .slice b3 t.plain.length d3, .int .i64 t.acc] 26)).cell? ⟨e3, 2, none⟩ = some (.slice b2 q.plain.length d2) := KQ.out.cell 2
    have kq3 : (x5.alloc (.cells #[.int .i64 t.pvid, .slice a3 t.ins.length c3, .slice b3 t.plain.length d3, .int .i64 t.acc] 26)).cell? ⟨e3, 3, none⟩ = some (.int .i64 q.acc) := KQ.out.cell 3
    have kql : e3 < (x5.alloc (.cells #[.int .i64 t.pvid, .slice a3 t.ins.length c3, .slice b3 t.plain.length d3, .int .i64 t.acc] 26)).heap.size := KQ.out.lt
    have kt0 : (x5.alloc (.cells #[.int .i64 t.pvid, .slice a3 t.ins.length c3, .slice b3 t.plain.length d3, .int .i64 t.acc] 26)).cell? ⟨x5.heap.size, 0, none⟩ = some (.int .i64 t.pvid) := KT.out.cell 0
    have kt1 : (x5.alloc (.cells #[.int .i64 t.pvid, .slice a3 t.ins.length c3, .slice b3 t.plain.length d3, .int .i64 t.acc] 26)).cell? ⟨x5.heap.size, 1, none⟩ = some (.slice a3 t.ins.length c3) := KT.out.cell 1
    have kt2 : (x5.alloc (.cells #[.int .i64 t.pvid, .slice a3 t.ins.length c3, .slice b3 t.plain.length d3, .int .i64 t.acc] 26)).cell? ⟨x5.heap.size, 2, none⟩ = some (.slice b3 t.plain.length d3) := KT.out.cell 2
    have kt3 : (x5.alloc (.cells #[.int .i64 t.pvid, .slice a3 t.ins.length c3, .slice b3 t.plain.length d3, .int .i64 t.acc] 26)).cell? ⟨x5.heap.size, 3, none⟩ = some (.int .i64 t.acc) := KT.out.cell 3
    have ktl : x5.heap.size < (x5.alloc (.cells #[.int .i64 t.pvid, .slice a3 t.ins.length c3, .slice b3 t.plain.length d3, .int .i64 t.acc] 26)).heap.size := KT.out.lt
    go_wp2_with fail
    clear kp0 kp1 kp2 kp3 kpl kq0 kq1 kq2 kq3 kql kt0 kt1 kt2 kt3 ktl
    generalize (x5.alloc (.cells #[.int .i64 t.pvid, .slice a3 t.ins.length c3, .slice b3 t.plain.length d3, .int .i64 t.acc] 26)) = x6 at HP HQ HT KP KQ KT HB ⊢
    generalize x5.heap.size = e6 at HP HQ HT KP KQ KT HB ⊢
    refine (HPT.out _ _ _ _ HT.out).mono ?_
    rintro e x7 ⟨rfl, hbq⟩
    have HP := Lib.hid (HP.out.after hbq)
    have HQ := Lib.hid (HQ.out.after hbq)
    have HT := Lib.hid (HT.out.after hbq)
    have KP := Lib.hid (KP.out.after hbq)
    have KQ := Lib.hid (KQ.out.after hbq)
    have KT := Lib.hid (KT.out.after hbq)
    have HB := Lib.hid (HB.out.trans (hbq.mono HB.out.size))
    clear hbq
    have kt0 : x7.cell? ⟨e6, 0, none⟩ = some (.int .i64 t.pvid) := KT.out.cell 0
    have kt1 : x7.cell? ⟨e6, 1, none⟩ = some (.slice a3 t.ins.length c3) := KT.out.cell 1
    have kt2 : x7.cell? ⟨e6, 2, none⟩ = some (.slice b3 t.plain.length d3) := KT.out.cell 2
    have kt3 : x7.cell? ⟨e6, 3, none⟩ = some (.int .i64 t.acc) := KT.out.cell 3
    have ktl : e6 < x7.heap.size := KT.out.lt
    go_wp2_with fail
    refine (HMT.out _ _ _ _ HT.out).mono ?_
    rintro e x8 ⟨rfl, hbq⟩
    clear kt0 kt1 kt2 kt3 ktl
    have HP := Lib.hid (HP.out.after hbq)
    have HQ := Lib.hid (HQ.out.after hbq)
    have HT := Lib.hid (HT.out.after hbq)
    have KP := Lib.hid (KP.out.after hbq)
    have KQ := Lib.hid (KQ.out.after hbq)
    have KT := Lib.hid (KT.out.after hbq)
    have HB := Lib.hid (HB.out.trans (hbq.mono HB.out.size))
    clear hbq
    go_wp2_with fail
    go_ret
    exact ⟨rfl, HB.out⟩
  by_cases hc1 : 4094 < vid
  case pos =>
    have hbq : Below x5.heap.size x5 (x5.alloc (.cells #[.int .i64 t.pvid, .slice a3 t.ins.length c3, .slice b3 t.plain.length d3, .int .i64 t.acc] 26)) := (Below.refl _ _).alloc (Nat.le_refl _) _
    have hnq : Blk (x5.alloc (.cells #[.int .i64 t.pvid, .slice a3 t.ins.length c3, .slice b3 t.plain.length d3, .int .i64 t.acc] 26)) x5.heap.size #[.int .i64 t.pvid, .slice a3 t.ins.length c3, .slice b3 t.plain.length d3, .int .i64 t.acc] 26 := blk_new _ _ rfl
    have HP := Lib.hid (HP.out.after hbq)
    have HQ := Lib.hid (HQ.out.after hbq)
    have HT := Lib.hid (HT.out.after hbq)
    have KP := Lib.hid (KP.out.after hbq)
    have KQ := Lib.hid (KQ.out.after hbq)
    have HB := Lib.hid (HB.out.trans (hbq.mono HB.out.size))
    have KT := Lib.hid hnq
    clear hbq hnq
    have kp0 : (x5.alloc (.cells #[.int .i64 t.pvid, .slice a3 t.ins.length c3, .slice b3 t.plain.length d3, .int .i64 t.acc] 26)).cell? ⟨e1, 0, none⟩ = some (.int .i64 p.pvid) := KP.out.cell 0
    have kp1 : (x5.alloc (.cells #[.int .i64 t.pvid, .slice a3 t.ins.length c3, .slice b3 t.plain.length d3, .int .i64 t.acc] 26)).cell? ⟨e1, 1, none⟩ = some (.slice pa p.ins.length pca) := KP.out.cell 1
    have kp2 : (x5.alloc (.cells #[.int .i64 t.pvid, .slice a3 t.ins.length c3, .slice b3 t.plain.length d3, .int .i64 t.acc] 26)).cell? ⟨e1, 2, none⟩ = some (.slice pb p.plain.length pcb) := KP.out.cell 2
    have kp3 : (x5.alloc (.cells #[.int .i64 t.pvid, .slice a3 t.ins.length c3, .slice b3 t.plain.length d3, .int .i64 t.acc] 26)).cell? ⟨e1, 3, none⟩ = some (.int .i64 p.acc) := KP.out.cell 3
    have kpl : e1 < (x5.alloc (.cells #[.int .i64 t.pvid, .slice a3 t.ins.length c3, .slice b3 t.plain.length d3, .int .i64 t.acc] 26)).heap.size := KP.out.lt
    have kq0 : (x5.alloc (.cells #[.int .i64 t.pvid, .slice a3 t.ins.length c3, .slice b3 t.plain.length d3, .int .i64 t.acc] 26)).cell? ⟨e3, 0, none⟩ = some (.int .i64 q.pvid) := KQ.out.cell 0
    have kq1 : (x5.alloc (.cells #[.int .i64 t.pvid, .slice a3 t.ins.length c3, .slice b3 t.plain.length d3, .int .i64 t.acc] 26)).cell? ⟨e3, 1, none⟩ = some (.slice a2 q.ins.length c2) := KQ.out.cell 1
    have kq2 : (x5.alloc (.cells #[.int .i64 t.pvid, .slice a3 t.ins.length c3, .slice b3 t.plain.length d3, .int .i64 t.acc] 26)).cell? ⟨e3, 2, none⟩ = some (.slice b2 q.plain.length d2) := KQ.out.cell 2
    have kq3 : (x5.alloc (.cells #[.int .i64 t.pvid, .slice a3 t.ins.length c3, .slice b3 t.plain.length d3, .int .i64 t.acc] 26)).cell? ⟨e3, 3, none⟩ = some (.int .i64 q.acc) := KQ.out.cell 3
    have kql : e3 < (x5.alloc (.cells #[.int .i64 t.pvid, .slice a3 t.ins.length c3, .slice b3 t.plain.length d3, .int .i64 t.acc] 26)).heap.size := KQ.out.lt
    have kt0 : (x5.alloc (.cells #[.int .i64 t.pvid, .slice a3 t.ins.length c3, .slice b3 t.plain.length d3, .int .i64 t.acc] 26)).cell? ⟨x5.heap.size, 0, none⟩ = some (.int .i64 t.pvid) := KT.out.cell 0
    have kt1 : (x5.alloc (.cells #[.int .i64 t.pvid, .slice a3 t.ins.length c3, .slice b3 t.plain.length d3, .int .i64 t.acc] 26)).cell? ⟨x5.heap.size, 1, none⟩ = some (.slice a3 t.ins.length c3) := KT.out.cell 1
    have kt2 : (x5.alloc (.cells #[.int .i64 t.pvid, .slice a3 t.ins.length c3, .slice b3 t.plain.length d3, .int .i64 t.acc] 26)).cell? ⟨x5.heap.size, 2, none⟩ = some (.slice b3 t.plain.length d3) := KT.out.cell 2
    have kt3 : (x5.alloc (.cells #[.int .i64 t.pvid, .slice a3 t.ins.length c3, .slice b3 t.plain.length d3, .int .i64 t.acc] 26)).cell? ⟨x5.heap.size, 3, none⟩ = some (.int .i64 t.acc) := KT.out.cell 3
    have ktl : x5.heap.size < (x5.alloc (.cells #[.int .i64 t.pvid, .slice a3 t.ins.length c3, .slice b3 t.plain.length d3, .int .i64 t.acc] 26)).heap.size := KT.out.lt
    go_wp2_with fail
    clear kp0 kp1 kp2 kp3 kpl kq0 kq1 kq2 kq3 kql kt0 kt1 kt2 kt3 ktl
    generalize (x5.alloc (.cells #[.int .i64 t.pvid, .slice a3 t.ins.length c3, .slice b3 t.plain.length d3, .int .i64 t.acc] 26)) = x6 at HP HQ HT KP KQ KT HB ⊢
    generalize x5.heap.size = e6 at HP HQ HT KP KQ KT HB ⊢
    refine (HPT.out _ _ _ _ HT.out).mono ?_
    rintro e x7 ⟨rfl, hbq⟩
    have HP := Lib.hid (HP.out.after hbq)
    have HQ := Lib.hid (HQ.out.after hbq)
    have HT := Lib.hid (HT.out.after hbq)
    have KP := Lib.hid (KP.out.after hbq)
    have KQ := Lib.hid (KQ.out.after hbq)
    have KT := Lib.hid (KT.out.after hbq)
    have HB := Lib.hid (HB.out.trans (hbq.mono HB.out.size))
    clear hbq
    have kt0 : x7.cell? ⟨e6, 0, none⟩ = some (.int .i64 t.pvid) := KT.out.cell 0
    have kt1 : x7.cell? ⟨e6, 1, none⟩ = some (.slice a3 t.ins.length c3) := KT.out.cell 1
    have kt2 : x7.cell? ⟨e6, 2, none⟩ = some (.slice b3 t.plain.length d3) := KT.out.cell 2
    have kt3 : x7.cell? ⟨e6, 3, none⟩ = some (.int .i64 t.acc) := KT.out.cell 3
    have ktl : e6 < x7.heap.size := KT.out.lt
    go_wp2_with fail
    refine (HMT.out _ _ _ _ HT.out).mono ?_
    rintro e x8 ⟨rfl, hbq⟩
    clear kt0 kt1 kt2 kt3 ktl
    have HP := Lib.hid (HP.out.after hbq)
    have HQ := Lib.hid (HQ.out.after hbq)
    have HT := Lib.hid (HT.out.after hbq)
    have KP := Lib.hid (KP.out.after hbq)
    have KQ := Lib.hid (KQ.out.after hbq)
    have KT := Lib.hid (KT.out.after hbq)
    have HB := Lib.hid (HB.out.trans (hbq.mono HB.out.size))
    clear hbq
    go_wp2_with fail
    go_ret
    exact ⟨rfl, HB.out⟩
  by_cases hc2 : (19 : Int) < (p.ins.length : Int)
  case pos =>
    have hbq : Below x5.heap.size x5 (x5.alloc (.cells #[.int .i64 t.pvid, .slice a3 t.ins.length c3, .slice b3 t.plain.length d3, .int .i64 t.acc] 26)) := (Below.refl _ _).alloc (Nat.le_refl _) _
    have hnq : Blk (x5.alloc (.cells #[.int .i64 t.pvid, .slice a3 t.ins.length c3, .slice b3 t.plain.length d3, .int .i64 t.acc] 26)) x5.heap.size #[.int .i64 t.pvid, .slice a3 t.ins.length c3, .slice b3 t.plain.length d3, .int .i64 t.acc] 26 := blk_new _ _ rfl
    have HP := Lib.hid (HP.out.after hbq)
    have HQ := Lib.hid (HQ.out.after hbq)
    have HT := Lib.hid (HT.out.after hbq)
    have KP := Lib.hid (KP.out.after hbq)
    have KQ := Lib.hid (KQ.out.after hbq)
    have HB := Lib.hid (HB.out.trans (hbq.mono HB.out.size))
    have KT := Lib.hid hnq
    clear hbq hnq
    have kp0 : (x5.alloc (.cells #[.int .i64 t.pvid, .slice a3 t.ins.length c3, .slice b3 t.plain.length d3, .int .i64 t.acc] 26)).cell? ⟨e1, 0, none⟩ = some (.int .i64 p.pvid) := KP.out.cell 0
    have kp1 : (x5.alloc (.cells #[.int .i64 t.pvid, .slice a3 t.ins.length c3, .slice b3 t.plain.length d3, .int .i64 t.acc] 26)).cell? ⟨e1, 1, none⟩ = some (.slice pa p.ins.length pca) := KP.out.cell 1
    have kp2 : (x5.alloc (.cells #[.int .i64 t.pvid, .slice a3 t.ins.length c3, .slice b3 t.plain.length d3, .int .i64 t.acc] 26)).cell? ⟨e1, 2, none⟩ = some (.slice pb p.plain.length pcb) := KP.out.cell 2
    have kp3 : (x5.alloc (.cells #[.int .i64 t.pvid, .slice a3 t.ins.length c3, .slice b3 t.plain.length d3, .int .i64 t.acc] 26)).cell? ⟨e1, 3, none⟩ = some (.int .i64 p.acc) := KP.out.cell 3
    have kpl : e1 < (x5.alloc (.cells #[.int .i64 t.pvid, .slice a3 t.ins.length c3, .slice b3 t.plain.length d3, .int .i64 t.acc] 26)).heap.size := KP.out.lt
    have kq0 : (x5.alloc (.cells #[.int .i64 t.pvid, .slice a3 t.ins.length c3, .slice b3 t.plain.length d3, .int .i64 t.acc] 26)).cell? ⟨e3, 0, none⟩ = some (.int .i64 q.pvid) := KQ.out.cell 0
    have kq1 : (x5.alloc (.cells #[.int .i64 t.pvid, .slice a3 t.ins.length c3, .slice b3 t.plain.length d3, .int .i64 t.acc] 26)).cell? ⟨e3, 1, none⟩ = some (.slice a2 q.ins.length c2) := KQ.out.cell 1
    have kq2 : (x5.alloc (.cells #[.int .i64 t.pvid, .slice a3 t.ins.length c3, .slice b3 t.plain.length d3, .int .i64 t.acc] 26)).cell? ⟨e3, 2, none⟩ = some (.slice b2 q.plain.length d2) := KQ.out.cell 2
    have kq3 : (x5.alloc (.cells #[.int .i64 t.pvid, .slice a3 t.ins.length c3, .slice b3 t.plain.length d3, .int .i64 t.acc] 26)).cell? ⟨e3, 3, none⟩ = some (.int .i64 q.acc) := KQ.out.cell 3
    have kql : e3 < (x5.alloc (.cells #[.int .i64 t.pvid, .slice a3 t.ins.length c3, .slice b3 t.plain.length d3, .int .i64 t.acc] 26)).heap.size := KQ.out.lt
    have kt0 : (x5.alloc (.cells #[.int .i64 t.pvid, .slice a3 t.ins.length c3, .slice b3 t.plain.length d3, .int .i64 t.acc] 26)).cell? ⟨x5.heap.size, 0, none⟩ = some (.int .i64 t.pvid) := KT.out.cell 0
    have kt1 : (x5.alloc (.cells #[.int .i64 t.pvid, .slice a3 t.ins.length c3, .slice b3 t.plain.length d3, .int .i64 t.acc] 26)).cell? ⟨x5.heap.size, 1, none⟩ = some (.slice a3 t.ins.length c3) := KT.out.cell 1
    have kt2 : (x5.alloc (.cells #[.int .i64 t.pvid, .slice a3 t.ins.length c3, .slice b3 t.plain.length d3, .int .i64 t.acc] 26)).cell? ⟨x5.heap.size, 2, none⟩ = some (.slice b3 t.plain.length d3) := KT.out.cell 2
    have kt3 : (x5.alloc (.cells #[.int .i64 t.pvid, .slice a3 t.ins.length c3, .slice b3 t.plain.length d3, .int .i64 t.acc] 26)).cell? ⟨x5.heap.size, 3, none⟩ = some (.int .i64 t.acc) := KT.out.cell 3
    have ktl : x5.heap.size < (x5.alloc (.cells #[.int .i64 t.pvid, .slice a3 t.ins.length c3, .slice b3 t.plain.length d3, .int .i64 t.acc] 26)).heap.size := KT.out.lt
    go_wp2_with fail
    clear kp0 kp1 kp2 kp3 kpl kq0 kq1 kq2 kq3 kql kt0 kt1 kt2 kt3 ktl
    generalize (x5.alloc (.cells #[.int .i64 t.pvid, .slice a3 t.ins.length c3, .slice b3 t.plain.length d3, .int .i64 t.acc] 26)) = x6 at HP HQ HT KP KQ KT HB ⊢
    generalize x5.heap.size = e6 at HP HQ HT KP KQ KT HB ⊢
    refine (HPT.out _ _ _ _ HT.out).mono ?_
    rintro e x7 ⟨rfl, hbq⟩
    have HP := Lib.hid (HP.out.after hbq)
    have HQ := Lib.hid (HQ.out.after hbq)
    have HT := Lib.hid (HT.out.after hbq)
    have KP := Lib.hid (KP.out.after hbq)
    have KQ := Lib.hid (KQ.out.after hbq)
    have KT := Lib.hid (KT.out.after hbq)
    have HB := Lib.hid (HB.out.trans (hbq.mono HB.out.size))
    clear hbq
    have kt0 : x7.cell? ⟨e6, 0, none⟩ = some (.int .i64 t.pvid) := KT.out.cell 0
    have kt1 : x7.cell? ⟨e6, 1, none⟩ = some (.slice a3 t.ins.length c3) := KT.out.cell 1
    have kt2 : x7.cell? ⟨e6, 2, none⟩ = some (.slice b3 t.plain.length d3) := KT.out.cell 2
    have kt3 : x7.cell? ⟨e6, 3, none⟩ = some (.int .i64 t.acc) := KT.out.cell 3
    have ktl : e6 < x7.heap.size := KT.out.lt
    go_wp2_with fail
    refine (HMT.out _ _ _ _ HT.out).mono ?_
    rintro e x8 ⟨rfl, hbq⟩
    clear kt0 kt1 kt2 kt3 ktl
    have HP := Lib.hid (HP.out.after hbq)
    have HQ := Lib.hid (HQ.out.after hbq)
    have HT := Lib.hid (HT.out.after hbq)
    have KP := Lib.hid (KP.out.after hbq)
    have KQ := Lib.hid (KQ.out.after hbq)
    have KT := Lib.hid (KT.out.after hbq)
    have HB := Lib.hid (HB.out.trans (hbq.mono HB.out.size))
    clear hbq
    go_wp2_with fail
    go_ret
    exact ⟨rfl, HB.out⟩
  have hi := HIN.out (by simp) (by omega) (by omega) (by omega)
  have hsm := small_fr vid u (by omega) (by omega) q hi.2
  have hmo : mayOut q vid ⟨2, 4, false, 0, 0, 2048, ⟨#[]⟩⟩ 3 := ⟨HK.out, hi.1, hsm.1⟩
  have heg := fun (w : World) (C D : List Nat) (v : Value) (h : PortIn w C D v q) => egress_impl h vid ⟨2, 4, false, 0, 0, 2048, ⟨#[]⟩⟩ 3 (by decide)
  simp only [if_pos hmo, decide_eq_true hmo, hsm.2] at heg
  have hmq := fun (w : World) (C D : List Nat) (v : Value) (h : PortIn w C D v q) => member_impl h vid
  rw [decide_eq_true hi.1] at hmq
  have HMQ := Lib.hid hmq
  clear hmq hi hsm hmo
  have hbq : Below x5.heap.size x5 (x5.alloc (.cells #[.int .i64 t.pvid, .slice a3 t.ins.length c3, .slice b3 t.plain.length d3, .int .i64 t.acc] 26)) := (Below.refl _ _).alloc (Nat.le_refl _) _
  have hnq : Blk (x5.alloc (.cells #[.int .i64 t.pvid, .slice a3 t.ins.length c3, .slice b3 t.plain.length d3, .int .i64 t.acc] 26)) x5.heap.size #[.int .i64 t.pvid, .slice a3 t.ins.length c3, .slice b3 t.plain.length d3, .int .i64 t.acc] 26 := blk_new _ _ rfl
  have HP := Lib.hid (HP.out.after hbq)
  have HQ := Lib.hid (HQ.out.after hbq)
  have HT := Lib.hid (HT.out.after hbq)
  have KP := Lib.hid (KP.out.after hbq)
  have KQ := Lib.hid (KQ.out.after hbq)
  have HB := Lib.hid (HB.out.trans (hbq.mono HB.out.size))
  have KT := Lib.hid hnq
  clear hbq hnq
  have kp0 : (x5.alloc (.cells #[.int .i64 t.pvid, .slice a3 t.ins.length c3, .slice b3 t.plain.length d3, .int .i64 t.acc] 26)).cell? ⟨e1, 0, none⟩ = some (.int .i64 p.pvid) := KP.out.cell 0
  have kp1 : (x5.alloc (.cells #[.int .i64 t.pvid, .slice a3 t.ins.length c3, .slice b3 t.plain.length d3, .int .i64 t.acc] 26)).cell? ⟨e1, 1, none⟩ = some (.slice pa p.ins.length pca) := KP.out.cell 1
  have kp2 : (x5.alloc (.cells #[.int .i64 t.pvid, .slice a3 t.ins.length c3, .slice b3 t.plain.length d3, .int .i64 t.acc] 26)).cell? ⟨e1, 2, none⟩ = some (.slice pb p.plain.length pcb) := KP.out.cell 2
  have kp3 : (x5.alloc (.cells #[.int .i64 t.pvid, .slice a3 t.ins.length c3, .slice b3 t.plain.length d3, .int .i64 t.acc] 26)).cell? ⟨e1, 3, none⟩ = some (.int .i64 p.acc) := KP.out.cell 3
  have kpl : e1 < (x5.alloc (.cells #[.int .i64 t.pvid, .slice a3 t.ins.length c3, .slice b3 t.plain.length d3, .int .i64 t.acc] 26)).heap.size := KP.out.lt
  have kq0 : (x5.alloc (.cells #[.int .i64 t.pvid, .slice a3 t.ins.length c3, .slice b3 t.plain.length d3, .int .i64 t.acc] 26)).cell? ⟨e3, 0, none⟩ = some (.int .i64 q.pvid) := KQ.out.cell 0
  have kq1 : (x5.alloc (.cells #[.int .i64 t.pvid, .slice a3 t.ins.length c3, .slice b3 t.plain.length d3, .int .i64 t.acc] 26)).cell? ⟨e3, 1, none⟩ = some (.slice a2 q.ins.length c2) := KQ.out.cell 1
  have kq2 : (x5.alloc (.cells #[.int .i64 t.pvid, .slice a3 t.ins.length c3, .slice b3 t.plain.length d3, .int .i64 t.acc] 26)).cell? ⟨e3, 2, none⟩ = some (.slice b2 q.plain.length d2) := KQ.out.cell 2
  have kq3 : (x5.alloc (.cells #[.int .i64 t.pvid, .slice a3 t.ins.length c3, .slice b3 t.plain.length d3, .int .i64 t.acc] 26)).cell? ⟨e3, 3, none⟩ = some (.int .i64 q.acc) := KQ.out.cell 3
  have kql : e3 < (x5.alloc (.cells #[.int .i64 t.pvid, .slice a3 t.ins.length c3, .slice b3 t.plain.length d3, .int .i64 t.acc] 26)).heap.size := KQ.out.lt
  have kt0 : (x5.alloc (.cells #[.int .i64 t.pvid, .slice a3 t.ins.length c3, .slice b3 t.plain.length d3, .int .i64 t.acc] 26)).cell? ⟨x5.heap.size, 0, none⟩ = some (.int .i64 t.pvid) := KT.out.cell 0
  have kt1 : (x5.alloc (.cells #[.int .i64 t.pvid, .slice a3 t.ins.length c3, .slice b3 t.plain.length d3, .int .i64 t.acc] 26)).cell? ⟨x5.heap.size, 1, none⟩ = some (.slice a3 t.ins.length c3) := KT.out.cell 1
  have kt2 : (x5.alloc (.cells #[.int .i64 t.pvid, .slice a3 t.ins.length c3, .slice b3 t.plain.length d3, .int .i64 t.acc] 26)).cell? ⟨x5.heap.size, 2, none⟩ = some (.slice b3 t.plain.length d3) := KT.out.cell 2
  have kt3 : (x5.alloc (.cells #[.int .i64 t.pvid, .slice a3 t.ins.length c3, .slice b3 t.plain.length d3, .int .i64 t.acc] 26)).cell? ⟨x5.heap.size, 3, none⟩ = some (.int .i64 t.acc) := KT.out.cell 3
  have ktl : x5.heap.size < (x5.alloc (.cells #[.int .i64 t.pvid, .slice a3 t.ins.length c3, .slice b3 t.plain.length d3, .int .i64 t.acc] 26)).heap.size := KT.out.lt
  go_wp2_with fail
  clear kp0 kp1 kp2 kp3 kpl kq0 kq1 kq2 kq3 kql kt0 kt1 kt2 kt3 ktl
  generalize (x5.alloc (.cells #[.int .i64 t.pvid, .slice a3 t.ins.length c3, .slice b3 t.plain.length d3, .int .i64 t.acc] 26)) = x6 at HP HQ HT KP KQ KT HB ⊢
  generalize x5.heap.size = e6 at HP HQ HT KP KQ KT HB ⊢
  cases u
  · simp only [Bool.false_eq_true, if_false, if_true, Fr.val] at heg
    have HEG := Lib.hid heg
    clear heg
    refine (HEG.out _ _ _ _ HQ.out).mono ?_
    rintro e' xe ⟨rfl, hbq⟩
    have HP := Lib.hid (HP.out.after hbq)
    have HQ := Lib.hid (HQ.out.after hbq)
    have HT := Lib.hid (HT.out.after hbq)
    have KP := Lib.hid (KP.out.after hbq)
    have KQ := Lib.hid (KQ.out.after hbq)
    have KT := Lib.hid (KT.out.after hbq)
    have HB := Lib.hid (HB.out.trans (hbq.mono HB.out.size))
    clear hbq
    have hbq : Below xe.heap.size xe (xe.alloc (.cells #[.int .i64 2, .int .i64 4, .bool true, .int .i64 vid, .int .i64 3, .int .i64 2048, .string ⟨#[]⟩] 28)) := (Below.refl _ _).alloc (Nat.le_refl _) _
    have hnq : Blk (xe.alloc (.cells #[.int .i64 2, .int .i64 4, .bool true, .int .i64 vid, .int .i64 3, .int .i64 2048, .string ⟨#[]⟩] 28)) xe.heap.size #[.int .i64 2, .int .i64 4, .bool true, .int .i64 vid, .int .i64 3, .int .i64 2048, .string ⟨#[]⟩] 28 := blk_new _ _ rfl
    have HP := Lib.hid (HP.out.after hbq)
    have HQ := Lib.hid (HQ.out.after hbq)
    have HT := Lib.hid (HT.out.after hbq)
    have KP := Lib.hid (KP.out.after hbq)
    have KQ := Lib.hid (KQ.out.after hbq)
    have KT := Lib.hid (KT.out.after hbq)
    have HB := Lib.hid (HB.out.trans (hbq.mono HB.out.size))
    have KG := Lib.hid hnq
    clear hbq hnq
    have kp0 : (xe.alloc (.cells #[.int .i64 2, .int .i64 4, .bool true, .int .i64 vid, .int .i64 3, .int .i64 2048, .string ⟨#[]⟩] 28)).cell? ⟨e1, 0, none⟩ = some (.int .i64 p.pvid) := KP.out.cell 0
    have kp1 : (xe.alloc (.cells #[.int .i64 2, .int .i64 4, .bool true, .int .i64 vid, .int .i64 3, .int .i64 2048, .string ⟨#[]⟩] 28)).cell? ⟨e1, 1, none⟩ = some (.slice pa p.ins.length pca) := KP.out.cell 1
    have kp2 : (xe.alloc (.cells #[.int .i64 2, .int .i64 4, .bool true, .int .i64 vid, .int .i64 3, .int .i64 2048, .string ⟨#[]⟩] 28)).cell? ⟨e1, 2, none⟩ = some (.slice pb p.plain.length pcb) := KP.out.cell 2
    have kp3 : (xe.alloc (.cells #[.int .i64 2, .int .i64 4, .bool true, .int .i64 vid, .int .i64 3, .int .i64 2048, .string ⟨#[]⟩] 28)).cell? ⟨e1, 3, none⟩ = some (.int .i64 p.acc) := KP.out.cell 3
    have kpl : e1 < (xe.alloc (.cells #[.int .i64 2, .int .i64 4, .bool true, .int .i64 vid, .int .i64 3, .int .i64 2048, .string ⟨#[]⟩] 28)).heap.size := KP.out.lt
    have kq0 : (xe.alloc (.cells #[.int .i64 2, .int .i64 4, .bool true, .int .i64 vid, .int .i64 3, .int .i64 2048, .string ⟨#[]⟩] 28)).cell? ⟨e3, 0, none⟩ = some (.int .i64 q.pvid) := KQ.out.cell 0
    have kq1 : (xe.alloc (.cells #[.int .i64 2, .int .i64 4, .bool true, .int .i64 vid, .int .i64 3, .int .i64 2048, .string ⟨#[]⟩] 28)).cell? ⟨e3, 1, none⟩ = some (.slice a2 q.ins.length c2) := KQ.out.cell 1
    have kq2 : (xe.alloc (.cells #[.int .i64 2, .int .i64 4, .bool true, .int .i64 vid, .int .i64 3, .int .i64 2048, .string ⟨#[]⟩] 28)).cell? ⟨e3, 2, none⟩ = some (.slice b2 q.plain.length d2) := KQ.out.cell 2
    have kq3 : (xe.alloc (.cells #[.int .i64 2, .int .i64 4, .bool true, .int .i64 vid, .int .i64 3, .int .i64 2048, .string ⟨#[]⟩] 28)).cell? ⟨e3, 3, none⟩ = some (.int .i64 q.acc) := KQ.out.cell 3
    have kql : e3 < (xe.alloc (.cells #[.int .i64 2, .int .i64 4, .bool true, .int .i64 vid, .int .i64 3, .int .i64 2048, .string ⟨#[]⟩] 28)).heap.size := KQ.out.lt
    have kt0 : (xe.alloc (.cells #[.int .i64 2, .int .i64 4, .bool true, .int .i64 vid, .int .i64 3, .int .i64 2048, .string ⟨#[]⟩] 28)).cell? ⟨e6, 0, none⟩ = some (.int .i64 t.pvid) := KT.out.cell 0
    have kt1 : (xe.alloc (.cells #[.int .i64 2, .int .i64 4, .bool true, .int .i64 vid, .int .i64 3, .int .i64 2048, .string ⟨#[]⟩] 28)).cell? ⟨e6, 1, none⟩ = some (.slice a3 t.ins.length c3) := KT.out.cell 1
    have kt2 : (xe.alloc (.cells #[.int .i64 2, .int .i64 4, .bool true, .int .i64 vid, .int .i64 3, .int .i64 2048, .string ⟨#[]⟩] 28)).cell? ⟨e6, 2, none⟩ = some (.slice b3 t.plain.length d3) := KT.out.cell 2
    have kt3 : (xe.alloc (.cells #[.int .i64 2, .int .i64 4, .bool true, .int .i64 vid, .int .i64 3, .int .i64 2048, .string ⟨#[]⟩] 28)).cell? ⟨e6, 3, none⟩ = some (.int .i64 t.acc) := KT.out.cell 3
    have ktl : e6 < (xe.alloc (.cells #[.int .i64 2, .int .i64 4, .bool true, .int .i64 vid, .int .i64 3, .int .i64 2048, .string ⟨#[]⟩] 28)).heap.size := KT.out.lt
    have kg0 : (xe.alloc (.cells #[.int .i64 2, .int .i64 4, .bool true, .int .i64 vid, .int .i64 3, .int .i64 2048, .string ⟨#[]⟩] 28)).cell? ⟨xe.heap.size, 0, none⟩ = some (.int .i64 2) := KG.out.cell 0
    have kg1 : (xe.alloc (.cells #[.int .i64 2, .int .i64 4, .bool true, .int .i64 vid, .int .i64 3, .int .i64 2048, .string ⟨#[]⟩] 28)).cell? ⟨xe.heap.size, 1, none⟩ = some (.int .i64 4) := KG.out.cell 1
    have kg2 : (xe.alloc (.cells #[.int .i64 2, .int .i64 4, .bool true, .int .i64 vid, .int .i64 3, .int .i64 2048, .string ⟨#[]⟩] 28)).cell? ⟨xe.heap.size, 2, none⟩ = some (.bool true) := KG.out.cell 2
    have kg3 : (xe.alloc (.cells #[.int .i64 2, .int .i64 4, .bool true, .int .i64 vid, .int .i64 3, .int .i64 2048, .string ⟨#[]⟩] 28)).cell? ⟨xe.heap.size, 3, none⟩ = some (.int .i64 vid) := KG.out.cell 3
    have kg4 : (xe.alloc (.cells #[.int .i64 2, .int .i64 4, .bool true, .int .i64 vid, .int .i64 3, .int .i64 2048, .string ⟨#[]⟩] 28)).cell? ⟨xe.heap.size, 4, none⟩ = some (.int .i64 3) := KG.out.cell 4
    have kg5 : (xe.alloc (.cells #[.int .i64 2, .int .i64 4, .bool true, .int .i64 vid, .int .i64 3, .int .i64 2048, .string ⟨#[]⟩] 28)).cell? ⟨xe.heap.size, 5, none⟩ = some (.int .i64 2048) := KG.out.cell 5
    have kg6 : (xe.alloc (.cells #[.int .i64 2, .int .i64 4, .bool true, .int .i64 vid, .int .i64 3, .int .i64 2048, .string ⟨#[]⟩] 28)).cell? ⟨xe.heap.size, 6, none⟩ = some (.string ⟨#[]⟩) := KG.out.cell 6
    have kgl : xe.heap.size < (xe.alloc (.cells #[.int .i64 2, .int .i64 4, .bool true, .int .i64 vid, .int .i64 3, .int .i64 2048, .string ⟨#[]⟩] 28)).heap.size := KG.out.lt
    go_wp2_with fail
    clear kp0 kp1 kp2 kp3 kpl kq0 kq1 kq2 kq3 kql kt0 kt1 kt2 kt3 ktl kg0 kg1 kg2 kg3 kg4 kg5 kg6 kgl
    generalize (xe.alloc (.cells #[.int .i64 2, .int .i64 4, .bool true, .int .i64 vid, .int .i64 3, .int .i64 2048, .string ⟨#[]⟩] 28)) = x7 at HP HQ HT KP KQ KT KG HB ⊢
    generalize xe.heap.size = e7 at HP HQ HT KP KQ KT KG HB ⊢
    refine (HMQ.out _ _ _ _ HQ.out).mono ?_
    rintro e x8 ⟨rfl, hbq⟩
    have HP := Lib.hid (HP.out.after hbq)
    have HQ := Lib.hid (HQ.out.after hbq)
    have HT := Lib.hid (HT.out.after hbq)
    have KP := Lib.hid (KP.out.after hbq)
    have KQ := Lib.hid (KQ.out.after hbq)
    have KT := Lib.hid (KT.out.after hbq)
    have KG := Lib.hid (KG.out.after hbq)
    have HB := Lib.hid (HB.out.trans (hbq.mono HB.out.size))
    clear hbq
    have kt0 : x8.cell? ⟨e6, 0, none⟩ = some (.int .i64 t.pvid) := KT.out.cell 0
    have kt1 : x8.cell? ⟨e6, 1, none⟩ = some (.slice a3 t.ins.length c3) := KT.out.cell 1
    have kt2 : x8.cell? ⟨e6, 2, none⟩ = some (.slice b3 t.plain.length d3) := KT.out.cell 2
    have kt3 : x8.cell? ⟨e6, 3, none⟩ = some (.int .i64 t.acc) := KT.out.cell 3
    have ktl : e6 < x8.heap.size := KT.out.lt
    have kg0 : x8.cell? ⟨e7, 0, none⟩ = some (.int .i64 2) := KG.out.cell 0
    have kg1 : x8.cell? ⟨e7, 1, none⟩ = some (.int .i64 4) := KG.out.cell 1
    have kg2 : x8.cell? ⟨e7, 2, none⟩ = some (.bool true) := KG.out.cell 2
    have kg3 : x8.cell? ⟨e7, 3, none⟩ = some (.int .i64 vid) := KG.out.cell 3
    have kg4 : x8.cell? ⟨e7, 4, none⟩ = some (.int .i64 3) := KG.out.cell 4
    have kg5 : x8.cell? ⟨e7, 5, none⟩ = some (.int .i64 2048) := KG.out.cell 5
    have kg6 : x8.cell? ⟨e7, 6, none⟩ = some (.string ⟨#[]⟩) := KG.out.cell 6
    have kgl : e7 < x8.heap.size := KG.out.lt
    go_wp2_with fail
    refine (HPT.out _ _ _ _ HT.out).mono ?_
    rintro e x9 ⟨rfl, hbq⟩
    clear kt0 kt1 kt2 kt3 ktl kg0 kg1 kg2 kg3 kg4 kg5 kg6 kgl
    have HP := Lib.hid (HP.out.after hbq)
    have HQ := Lib.hid (HQ.out.after hbq)
    have HT := Lib.hid (HT.out.after hbq)
    have KP := Lib.hid (KP.out.after hbq)
    have KQ := Lib.hid (KQ.out.after hbq)
    have KT := Lib.hid (KT.out.after hbq)
    have KG := Lib.hid (KG.out.after hbq)
    have HB := Lib.hid (HB.out.trans (hbq.mono HB.out.size))
    clear hbq
    have kt0 : x9.cell? ⟨e6, 0, none⟩ = some (.int .i64 t.pvid) := KT.out.cell 0
    have kt1 : x9.cell? ⟨e6, 1, none⟩ = some (.slice a3 t.ins.length c3) := KT.out.cell 1
    have kt2 : x9.cell? ⟨e6, 2, none⟩ = some (.slice b3 t.plain.length d3) := KT.out.cell 2
    have kt3 : x9.cell? ⟨e6, 3, none⟩ = some (.int .i64 t.acc) := KT.out.cell 3
    have ktl : e6 < x9.heap.size := KT.out.lt
    go_wp2_with fail
    refine (HMT.out _ _ _ _ HT.out).mono ?_
    rintro e x10 ⟨rfl, hbq⟩
    clear kt0 kt1 kt2 kt3 ktl
    have HP := Lib.hid (HP.out.after hbq)
    have HQ := Lib.hid (HQ.out.after hbq)
    have HT := Lib.hid (HT.out.after hbq)
    have KP := Lib.hid (KP.out.after hbq)
    have KQ := Lib.hid (KQ.out.after hbq)
    have KT := Lib.hid (KT.out.after hbq)
    have KG := Lib.hid (KG.out.after hbq)
    have HB := Lib.hid (HB.out.trans (hbq.mono HB.out.size))
    clear hbq
    go_wp2_with fail
    go_ret
    exact ⟨rfl, HB.out⟩
  · simp only [Bool.false_eq_true, if_false, if_true, Fr.val] at heg
    have HEG := Lib.hid heg
    clear heg
    refine (HEG.out _ _ _ _ HQ.out).mono ?_
    rintro e' xe ⟨rfl, hbq⟩
    have HP := Lib.hid (HP.out.after hbq)
    have HQ := Lib.hid (HQ.out.after hbq)
    have HT := Lib.hid (HT.out.after hbq)
    have KP := Lib.hid (KP.out.after hbq)
    have KQ := Lib.hid (KQ.out.after hbq)
    have KT := Lib.hid (KT.out.after hbq)
    have HB := Lib.hid (HB.out.trans (hbq.mono HB.out.size))
    clear hbq
    have hbq : Below xe.heap.size xe (xe.alloc (.cells #[.int .i64 2, .int .i64 4, .bool false, .int .i64 0, .int .i64 0, .int .i64 2048, .string ⟨#[]⟩] 28)) := (Below.refl _ _).alloc (Nat.le_refl _) _
    have hnq : Blk (xe.alloc (.cells #[.int .i64 2, .int .i64 4, .bool false, .int .i64 0, .int .i64 0, .int .i64 2048, .string ⟨#[]⟩] 28)) xe.heap.size #[.int .i64 2, .int .i64 4, .bool false, .int .i64 0, .int .i64 0, .int .i64 2048, .string ⟨#[]⟩] 28 := blk_new _ _ rfl
    have HP := Lib.hid (HP.out.after hbq)
    have HQ := Lib.hid (HQ.out.after hbq)
    have HT := Lib.hid (HT.out.after hbq)
    have KP := Lib.hid (KP.out.after hbq)
    have KQ := Lib.hid (KQ.out.after hbq)
    have KT := Lib.hid (KT.out.after hbq)
    have HB := Lib.hid (HB.out.trans (hbq.mono HB.out.size))
    have KG := Lib.hid hnq
    clear hbq hnq
    have kp0 : (xe.alloc (.cells #[.int .i64 2, .int .i64 4, .bool false, .int .i64 0, .int .i64 0, .int .i64 2048, .string ⟨#[]⟩] 28)).cell? ⟨e1, 0, none⟩ = some (.int .i64 p.pvid) := KP.out.cell 0
    have kp1 : (xe.alloc (.cells #[.int .i64 2, .int .i64 4, .bool false, .int .i64 0, .int .i64 0, .int .i64 2048, .string ⟨#[]⟩] 28)).cell? ⟨e1, 1, none⟩ = some (.slice pa p.ins.length pca) := KP.out.cell 1
    have kp2 : (xe.alloc (.cells #[.int .i64 2, .int .i64 4, .bool false, .int .i64 0, .int .i64 0, .int .i64 2048, .string ⟨#[]⟩] 28)).cell? ⟨e1, 2, none⟩ = some (.slice pb p.plain.length pcb) := KP.out.cell 2
    have kp3 : (xe.alloc (.cells #[.int .i64 2, .int .i64 4, .bool false, .int .i64 0, .int .i64 0, .int .i64 2048, .string ⟨#[]⟩] 28)).cell? ⟨e1, 3, none⟩ = some (.int .i64 p.acc) := KP.out.cell 3
    have kpl : e1 < (xe.alloc (.cells #[.int .i64 2, .int .i64 4, .bool false, .int .i64 0, .int .i64 0, .int .i64 2048, .string ⟨#[]⟩] 28)).heap.size := KP.out.lt
    have kq0 : (xe.alloc (.cells #[.int .i64 2, .int .i64 4, .bool false, .int .i64 0, .int .i64 0, .int .i64 2048, .string ⟨#[]⟩] 28)).cell? ⟨e3, 0, none⟩ = some (.int .i64 q.pvid) := KQ.out.cell 0
    have kq1 : (xe.alloc (.cells #[.int .i64 2, .int .i64 4, .bool false, .int .i64 0, .int .i64 0, .int .i64 2048, .string ⟨#[]⟩] 28)).cell? ⟨e3, 1, none⟩ = some (.slice a2 q.ins.length c2) := KQ.out.cell 1
    have kq2 : (xe.alloc (.cells #[.int .i64 2, .int .i64 4, .bool false, .int .i64 0, .int .i64 0, .int .i64 2048, .string ⟨#[]⟩] 28)).cell? ⟨e3, 2, none⟩ = some (.slice b2 q.plain.length d2) := KQ.out.cell 2
    have kq3 : (xe.alloc (.cells #[.int .i64 2, .int .i64 4, .bool false, .int .i64 0, .int .i64 0, .int .i64 2048, .string ⟨#[]⟩] 28)).cell? ⟨e3, 3, none⟩ = some (.int .i64 q.acc) := KQ.out.cell 3
    have kql : e3 < (xe.alloc (.cells #[.int .i64 2, .int .i64 4, .bool false, .int .i64 0, .int .i64 0, .int .i64 2048, .string ⟨#[]⟩] 28)).heap.size := KQ.out.lt
    have kt0 : (xe.alloc (.cells #[.int .i64 2, .int .i64 4, .bool false, .int .i64 0, .int .i64 0, .int .i64 2048, .string ⟨#[]⟩] 28)).cell? ⟨e6, 0, none⟩ = some (.int .i64 t.pvid) := KT.out.cell 0
    have kt1 : (xe.alloc (.cells #[.int .i64 2, .int .i64 4, .bool false, .int .i64 0, .int .i64 0, .int .i64 2048, .string ⟨#[]⟩] 28)).cell? ⟨e6, 1, none⟩ = some (.slice a3 t.ins.length c3) := KT.out.cell 1
    have kt2 : (xe.alloc (.cells #[.int .i64 2, .int .i64 4, .bool false, .int .i64 0, .int .i64 0, .int .i64 2048, .string ⟨#[]⟩] 28)).cell? ⟨e6, 2, none⟩ = some (.slice b3 t.plain.length d3) := KT.out.cell 2
    have kt3 : (xe.alloc (.cells #[.int .i64 2, .int .i64 4, .bool false, .int .i64 0, .int .i64 0, .int .i64 2048, .string ⟨#[]⟩] 28)).cell? ⟨e6, 3, none⟩ = some (.int .i64 t.acc) := KT.out.cell 3
    have ktl : e6 < (xe.alloc (.cells #[.int .i64 2, .int .i64 4, .bool false, .int .i64 0, .int .i64 0, .int .i64 2048, .string ⟨#[]⟩] 28)).heap.size := KT.out.lt
    have kg0 : (xe.alloc (.cells #[.int .i64 2, .int .i64 4, .bool false, .int .i64 0, .int .i64 0, .int .i64 2048, .string ⟨#[]⟩] 28)).cell? ⟨xe.heap.size, 0, none⟩ = some (.int .i64 2) := KG.out.cell 0
    have kg1 : (xe.alloc (.cells #[.int .i64 2, .int .i64 4, .bool false, .int .i64 0, .int .i64 0, .int .i64 2048, .string ⟨#[]⟩] 28)).cell? ⟨xe.heap.size, 1, none⟩ = some (.int .i64 4) := KG.out.cell 1
    have kg2 : (xe.alloc (.cells #[.int .i64 2, .int .i64 4, .bool false, .int .i64 0, .int .i64 0, .int .i64 2048, .string ⟨#[]⟩] 28)).cell? ⟨xe.heap.size, 2, none⟩ = some (.bool false) := KG.out.cell 2
    have kg3 : (xe.alloc (.cells #[.int .i64 2, .int .i64 4, .bool false, .int .i64 0, .int .i64 0, .int .i64 2048, .string ⟨#[]⟩] 28)).cell? ⟨xe.heap.size, 3, none⟩ = some (.int .i64 0) := KG.out.cell 3
    have kg4 : (xe.alloc (.cells #[.int .i64 2, .int .i64 4, .bool false, .int .i64 0, .int .i64 0, .int .i64 2048, .string ⟨#[]⟩] 28)).cell? ⟨xe.heap.size, 4, none⟩ = some (.int .i64 0) := KG.out.cell 4
    have kg5 : (xe.alloc (.cells #[.int .i64 2, .int .i64 4, .bool false, .int .i64 0, .int .i64 0, .int .i64 2048, .string ⟨#[]⟩] 28)).cell? ⟨xe.heap.size, 5, none⟩ = some (.int .i64 2048) := KG.out.cell 5
    have kg6 : (xe.alloc (.cells #[.int .i64 2, .int .i64 4, .bool false, .int .i64 0, .int .i64 0, .int .i64 2048, .string ⟨#[]⟩] 28)).cell? ⟨xe.heap.size, 6, none⟩ = some (.string ⟨#[]⟩) := KG.out.cell 6
    have kgl : xe.heap.size < (xe.alloc (.cells #[.int .i64 2, .int .i64 4, .bool false, .int .i64 0, .int .i64 0, .int .i64 2048, .string ⟨#[]⟩] 28)).heap.size := KG.out.lt
    go_wp2_with fail
    clear kp0 kp1 kp2 kp3 kpl kq0 kq1 kq2 kq3 kql kt0 kt1 kt2 kt3 ktl kg0 kg1 kg2 kg3 kg4 kg5 kg6 kgl
    generalize (xe.alloc (.cells #[.int .i64 2, .int .i64 4, .bool false, .int .i64 0, .int .i64 0, .int .i64 2048, .string ⟨#[]⟩] 28)) = x7 at HP HQ HT KP KQ KT KG HB ⊢
    generalize xe.heap.size = e7 at HP HQ HT KP KQ KT KG HB ⊢
    refine (HMQ.out _ _ _ _ HQ.out).mono ?_
    rintro e x8 ⟨rfl, hbq⟩
    have HP := Lib.hid (HP.out.after hbq)
    have HQ := Lib.hid (HQ.out.after hbq)
    have HT := Lib.hid (HT.out.after hbq)
    have KP := Lib.hid (KP.out.after hbq)
    have KQ := Lib.hid (KQ.out.after hbq)
    have KT := Lib.hid (KT.out.after hbq)
    have KG := Lib.hid (KG.out.after hbq)
    have HB := Lib.hid (HB.out.trans (hbq.mono HB.out.size))
    clear hbq
    have kt0 : x8.cell? ⟨e6, 0, none⟩ = some (.int .i64 t.pvid) := KT.out.cell 0
    have kt1 : x8.cell? ⟨e6, 1, none⟩ = some (.slice a3 t.ins.length c3) := KT.out.cell 1
    have kt2 : x8.cell? ⟨e6, 2, none⟩ = some (.slice b3 t.plain.length d3) := KT.out.cell 2
    have kt3 : x8.cell? ⟨e6, 3, none⟩ = some (.int .i64 t.acc) := KT.out.cell 3
    have ktl : e6 < x8.heap.size := KT.out.lt
    have kg0 : x8.cell? ⟨e7, 0, none⟩ = some (.int .i64 2) := KG.out.cell 0
    have kg1 : x8.cell? ⟨e7, 1, none⟩ = some (.int .i64 4) := KG.out.cell 1
    have kg2 : x8.cell? ⟨e7, 2, none⟩ = some (.bool false) := KG.out.cell 2
    have kg3 : x8.cell? ⟨e7, 3, none⟩ = some (.int .i64 0) := KG.out.cell 3
    have kg4 : x8.cell? ⟨e7, 4, none⟩ = some (.int .i64 0) := KG.out.cell 4
    have kg5 : x8.cell? ⟨e7, 5, none⟩ = some (.int .i64 2048) := KG.out.cell 5
    have kg6 : x8.cell? ⟨e7, 6, none⟩ = some (.string ⟨#[]⟩) := KG.out.cell 6
    have kgl : e7 < x8.heap.size := KG.out.lt
    go_wp2_with fail
    refine (HPT.out _ _ _ _ HT.out).mono ?_
    rintro e x9 ⟨rfl, hbq⟩
    clear kt0 kt1 kt2 kt3 ktl kg0 kg1 kg2 kg3 kg4 kg5 kg6 kgl
    have HP := Lib.hid (HP.out.after hbq)
    have HQ := Lib.hid (HQ.out.after hbq)
    have HT := Lib.hid (HT.out.after hbq)
    have KP := Lib.hid (KP.out.after hbq)
    have KQ := Lib.hid (KQ.out.after hbq)
    have KT := Lib.hid (KT.out.after hbq)
    have KG := Lib.hid (KG.out.after hbq)
    have HB := Lib.hid (HB.out.trans (hbq.mono HB.out.size))
    clear hbq
    have kt0 : x9.cell? ⟨e6, 0, none⟩ = some (.int .i64 t.pvid) := KT.out.cell 0
    have kt1 : x9.cell? ⟨e6, 1, none⟩ = some (.slice a3 t.ins.length c3) := KT.out.cell 1
    have kt2 : x9.cell? ⟨e6, 2, none⟩ = some (.slice b3 t.plain.length d3) := KT.out.cell 2
    have kt3 : x9.cell? ⟨e6, 3, none⟩ = some (.int .i64 t.acc) := KT.out.cell 3
    have ktl : e6 < x9.heap.size := KT.out.lt
    go_wp2_with fail
    refine (HMT.out _ _ _ _ HT.out).mono ?_
    rintro e x10 ⟨rfl, hbq⟩
    clear kt0 kt1 kt2 kt3 ktl
    have HP := Lib.hid (HP.out.after hbq)
    have HQ := Lib.hid (HQ.out.after hbq)
    have HT := Lib.hid (HT.out.after hbq)
    have KP := Lib.hid (KP.out.after hbq)
    have KQ := Lib.hid (KQ.out.after hbq)
    have KT := Lib.hid (KT.out.after hbq)
    have KG := Lib.hid (KG.out.after hbq)
    have HB := Lib.hid (HB.out.trans (hbq.mono HB.out.size))
    clear hbq
    go_wp2_with fail
    go_ret
    exact ⟨rfl, HB.out⟩
end Go.Proofs.Ytfkpecildcejkaa
