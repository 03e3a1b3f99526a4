/- The walks of the exact laws of vectors. -/
import Derived.Test.YtbcpfciegamaeaaVcI
import Derived.Test.YtbcpfciegamaeaaVcS
import Derived.Test.YtbcpfciegamaeaaVcBI
namespace Go.Proofs.Ytbcpfciegamaeaa
open Go.RowKit

set_option linter.unusedVariables false in
set_option linter.unusedSimpArgs false in
set_option maxRecDepth 20000 in
set_option maxHeartbeats 4000000 in
theorem walk_FnExactId (r : Int) (hr : (Lit.int .i64 r).wf = true) (m : Int) (hm : (Lit.int .i64 m).wf = true) (w : World) : Calls Try.prog 5 #[.int .i64 r, .int .i64 m] w fun e w' => e = .returned (.bool true) ∧ Below w.heap.size w w' := by
  have hs := fun w => calls_bel (id_spec r m w)
  have hi := fun w => calls_bel (id_impl r m w)
  obtain ⟨z0, hz0⟩ : ∃ z, idOf r m = z := ⟨_, rfl⟩
  simp only [hz0] at hs hi
  clear hz0
  have HS := Lib.hid hs; have HI := Lib.hid hi
  have hB : Below w.heap.size w w := (Below.refl _ _)
  have HB := Lib.hid hB; 
  clear hB  hs hi hr hm
  go_enter Try.func5, Try.ntmps5
  go_wp2_with fail
  refine (HS.out _).mono ?_
  rintro e x1 ⟨rfl, hbq⟩
  have HB := Lib.hid (HB.out.trans (hbq.mono HB.out.size))
  clear hbq
  go_wp2_with fail
  refine (HI.out _).mono ?_
  rintro e x2 ⟨rfl, hbq⟩
  have HB := Lib.hid (HB.out.trans (hbq.mono HB.out.size))
  clear hbq
  have q0 : (z0 != z0) = false := by simp
  go_wp2_with fail
  go_ret
  exact ⟨rfl, HB.out⟩

set_option linter.unusedVariables false in
set_option linter.unusedSimpArgs false in
set_option maxRecDepth 20000 in
set_option maxHeartbeats 4000000 in
theorem walk_FnExactVectorOk (v : Vc) (hv : v.fits) (w : World) : Calls Try.prog 6 #[v.val] w fun e w' => e = .returned (.bool true) ∧ Below w.heap.size w w' := by
  have hs := fun w => vectorOk_spec v w
  have hi := fun w => vectorOk_impl v hv.fit w
  obtain ⟨z0, hz0⟩ : ∃ z, decide (vcOk v) = z := ⟨_, rfl⟩
  simp only [hz0] at hs hi
  clear hz0
  have hto0 := fun w => toVector_any v w
  obtain ⟨vr, vc, vb, vp⟩ := v
  unfold Vc.val at *
  simp only at hs hi hto0 ⊢
  have HS := Lib.hid hs; have HI := Lib.hid hi; have HTO0 := Lib.hid hto0
  have hB : Below w.heap.size w (w.alloc (.cells #[.int .i64 vr, .int .i64 vc, .int .i64 vb, .int .i64 vp] 35)) := ((Below.refl _ _).alloc (by simp) _)
  have hKV : Blk (w.alloc (.cells #[.int .i64 vr, .int .i64 vc, .int .i64 vb, .int .i64 vp] 35)) (w.heap.size) #[.int .i64 vr, .int .i64 vc, .int .i64 vb, .int .i64 vp] 35 := (blk_new _ _ (by simp))
  have HB := Lib.hid hB; have KV := Lib.hid hKV
  clear hB hKV hs hi hto0 hv
  go_enter Try.func6, Try.ntmps6
  go_wp2_with fail
  refine (HTO0.out _).mono ?_
  rintro e x1 ⟨rfl, hbq⟩
  have KV := Lib.hid (KV.out.after hbq)
  have HB := Lib.hid (HB.out.trans (hbq.mono HB.out.size))
  clear hbq
  have kv0 : x1.cell? ⟨w.heap.size, 0, none⟩ = some (.int .i64 vr) := KV.out.cell 0
  have kv1 : x1.cell? ⟨w.heap.size, 1, none⟩ = some (.int .i64 vc) := KV.out.cell 1
  have kv2 : x1.cell? ⟨w.heap.size, 2, none⟩ = some (.int .i64 vb) := KV.out.cell 2
  have kv3 : x1.cell? ⟨w.heap.size, 3, none⟩ = some (.int .i64 vp) := KV.out.cell 3
  have kvl : w.heap.size < x1.heap.size := KV.out.lt
  go_wp2_with fail
  refine (HS.out _).mono ?_
  rintro e x2 ⟨rfl, hbq⟩
  clear kv0 kv1 kv2 kv3 kvl
  have KV := Lib.hid (KV.out.after hbq)
  have HB := Lib.hid (HB.out.trans (hbq.mono HB.out.size))
  clear hbq
  have kv0 : x2.cell? ⟨w.heap.size, 0, none⟩ = some (.int .i64 vr) := KV.out.cell 0
  have kv1 : x2.cell? ⟨w.heap.size, 1, none⟩ = some (.int .i64 vc) := KV.out.cell 1
  have kv2 : x2.cell? ⟨w.heap.size, 2, none⟩ = some (.int .i64 vb) := KV.out.cell 2
  have kv3 : x2.cell? ⟨w.heap.size, 3, none⟩ = some (.int .i64 vp) := KV.out.cell 3
  have kvl : w.heap.size < x2.heap.size := KV.out.lt
  go_wp2_with fail
  refine (HTO0.out _).mono ?_
  rintro e x3 ⟨rfl, hbq⟩
  clear kv0 kv1 kv2 kv3 kvl
  have KV := Lib.hid (KV.out.after hbq)
  have HB := Lib.hid (HB.out.trans (hbq.mono HB.out.size))
  clear hbq
  have kv0 : x3.cell? ⟨w.heap.size, 0, none⟩ = some (.int .i64 vr) := KV.out.cell 0
  have kv1 : x3.cell? ⟨w.heap.size, 1, none⟩ = some (.int .i64 vc) := KV.out.cell 1
  have kv2 : x3.cell? ⟨w.heap.size, 2, none⟩ = some (.int .i64 vb) := KV.out.cell 2
  have kv3 : x3.cell? ⟨w.heap.size, 3, none⟩ = some (.int .i64 vp) := KV.out.cell 3
  have kvl : w.heap.size < x3.heap.size := KV.out.lt
  go_wp2_with fail
  refine (HI.out _).mono ?_
  rintro e x4 ⟨rfl, hbq⟩
  clear kv0 kv1 kv2 kv3 kvl
  have KV := Lib.hid (KV.out.after hbq)
  have HB := Lib.hid (HB.out.trans (hbq.mono HB.out.size))
  clear hbq
  have q0 : (z0 != z0) = false := by simp
  go_wp2_with fail
  go_ret
  exact ⟨rfl, HB.out⟩

set_option linter.unusedVariables false in
set_option linter.unusedSimpArgs false in
set_option maxRecDepth 20000 in
set_option maxHeartbeats 4000000 in
theorem walk_FnExactCompareVector (a : Vc) (ha : a.fits) (b : Vc) (hb : b.fits) (w : World) : Calls Try.prog 7 #[a.val, b.val] w fun e w' => e = .returned (.bool true) ∧ Below w.heap.size w w' := by
  have hs := fun w => compare_spec a b w
  have hi := fun w => compare_impl a b w
  obtain ⟨z0, hz0⟩ : ∃ z, cmpVc a b = z := ⟨_, rfl⟩
  simp only [hz0] at hs hi
  clear hz0
  have hto0 := fun w => toVector_any a w
  have hto1 := fun w => toVector_any b w
  obtain ⟨ar, ac, ab, ap⟩ := a
  obtain ⟨br, bc, bb, bp⟩ := b
  unfold Vc.val at *
  simp only at hs hi hto0 hto1 ⊢
  have HS := Lib.hid hs; have HI := Lib.hid hi; have HTO0 := Lib.hid hto0; have HTO1 := Lib.hid hto1
  have hB : Below w.heap.size w ((w.alloc (.cells #[.int .i64 ar, .int .i64 ac, .int .i64 ab, .int .i64 ap] 35)).alloc (.cells #[.int .i64 br, .int .i64 bc, .int .i64 bb, .int .i64 bp] 35)) := (((Below.refl _ _).alloc (by simp) _).alloc (by simp) _)
  have hKA : Blk ((w.alloc (.cells #[.int .i64 ar, .int .i64 ac, .int .i64 ab, .int .i64 ap] 35)).alloc (.cells #[.int .i64 br, .int .i64 bc, .int .i64 bb, .int .i64 bp] 35)) (w.heap.size) #[.int .i64 ar, .int .i64 ac, .int .i64 ab, .int .i64 ap] 35 := ((blk_new _ _ (by simp)).alloc _)
  have hKB : Blk ((w.alloc (.cells #[.int .i64 ar, .int .i64 ac, .int .i64 ab, .int .i64 ap] 35)).alloc (.cells #[.int .i64 br, .int .i64 bc, .int .i64 bb, .int .i64 bp] 35)) (w.heap.size + 1) #[.int .i64 br, .int .i64 bc, .int .i64 bb, .int .i64 bp] 35 := (blk_new _ _ (by simp))
  have HB := Lib.hid hB; have KA := Lib.hid hKA; have KB := Lib.hid hKB
  clear hB hKA hKB hs hi hto0 hto1 ha hb
  go_enter Try.func7, Try.ntmps7
  go_wp2_with fail
  refine wp_region_held_drew (S := fun w' => Below ((w.alloc (.cells #[.int .i64 ar, .int .i64 ac, .int .i64 ab, .int .i64 ap] 35)).alloc (.cells #[.int .i64 br, .int .i64 bc, .int .i64 bb, .int .i64 bp] 35)).heap.size ((w.alloc (.cells #[.int .i64 ar, .int .i64 ac, .int .i64 ab, .int .i64 ap] 35)).alloc (.cells #[.int .i64 br, .int .i64 bc, .int .i64 bb, .int .i64 bp] 35)) w') (by kernel_rfl) (Below.drew (Below.refl _ _)) (fun hHeld => ?_)
  refine wpAnyH_take (i := 0) (v := ?v1) rfl (by kernel_rfl) (by kernel_rfl) (by kernel_rfl) (fun _ _ _ h => h) (Or.inl ⟨by rfl, ?h1⟩) hHeld ?r1
  case h1 => intro wq hS; have c0 : wq.cell? ⟨w.heap.size, 0, none⟩ = some (.int .i64 ar) := (KA.out.after hS).cell 0; have c1 : wq.cell? ⟨w.heap.size, 1, none⟩ = some (.int .i64 ac) := (KA.out.after hS).cell 1; have c2 : wq.cell? ⟨w.heap.size, 2, none⟩ = some (.int .i64 ab) := (KA.out.after hS).cell 2; have c3 : wq.cell? ⟨w.heap.size, 3, none⟩ = some (.int .i64 ap) := (KA.out.after hS).cell 3; go_simp; with_reducible rfl
  try simp only [Act.put, List.getElem_toArray, List.getElem_cons_zero, List.getElem_cons_succ, List.setIfInBounds_toArray, List.set_cons_zero, List.set_cons_succ]
  refine wpAnyH_take (i := 2) (v := ?v2) rfl (by kernel_rfl) (by kernel_rfl) (by kernel_rfl) (fun _ _ _ h => h) (Or.inl ⟨by rfl, ?h2⟩) hHeld ?r2
  case h2 => intro wq hS; have c0 : wq.cell? ⟨w.heap.size + 1, 0, none⟩ = some (.int .i64 br) := (KB.out.after hS).cell 0; have c1 : wq.cell? ⟨w.heap.size + 1, 1, none⟩ = some (.int .i64 bc) := (KB.out.after hS).cell 1; have c2 : wq.cell? ⟨w.heap.size + 1, 2, none⟩ = some (.int .i64 bb) := (KB.out.after hS).cell 2; have c3 : wq.cell? ⟨w.heap.size + 1, 3, none⟩ = some (.int .i64 bp) := (KB.out.after hS).cell 3; go_simp; with_reducible rfl
  try simp only [Act.put, List.getElem_toArray, List.getElem_cons_zero, List.getElem_cons_succ, List.setIfInBounds_toArray, List.set_cons_zero, List.set_cons_succ]
  refine wpAnyH_ready (rs := [1]) (by kernel_rfl) (by simp) ?_
  refine AllReadyH.cons rfl (fun K hK => ?_) AllReadyH.nil
  go_simp
  refine (HTO0.out _).mono ?_
  rintro e w0 ⟨rfl, hbw0⟩
  refine hK.out _ _ (hHeld.trans (hbw0.mono hHeld.size)) (fun hHeld => ?_)
  clear hK K
  try simp only [Act.put, List.getElem_toArray, List.getElem_cons_zero, List.getElem_cons_succ, List.setIfInBounds_toArray, List.set_cons_zero, List.set_cons_succ]
  refine wpAnyH_ready (rs := [3]) (by kernel_rfl) (by simp) ?_
  refine AllReadyH.cons rfl (fun K hK => ?_) AllReadyH.nil
  go_simp
  refine (HTO1.out _).mono ?_
  rintro e w1 ⟨rfl, hbw1⟩
  refine hK.out _ _ (hHeld.trans (hbw1.mono hHeld.size)) (fun hHeld => ?_)
  clear hK K
  try simp only [Act.put, List.getElem_toArray, List.getElem_cons_zero, List.getElem_cons_succ, List.setIfInBounds_toArray, List.set_cons_zero, List.set_cons_succ]
  refine wpAnyH_ready (rs := [4]) (by kernel_rfl) (by simp) ?_
  refine AllReadyH.cons rfl (fun K hK => ?_) AllReadyH.nil
  go_simp
  refine (HS.out _).mono ?_
  rintro e wz ⟨rfl, hbwz⟩
  refine hK.out _ _ (hHeld.trans (hbwz.mono hHeld.size)) (fun hHeld => ?_)
  clear hK K
  try simp only [Act.put, List.getElem_toArray, List.getElem_cons_zero, List.getElem_cons_succ, List.setIfInBounds_toArray, List.set_cons_zero, List.set_cons_succ]
  refine wpAnyH_take (i := 5) (v := ?v3) rfl (by kernel_rfl) (by kernel_rfl) (by kernel_rfl) (fun _ _ _ h => h) (Or.inl ⟨by rfl, ?h3⟩) hHeld ?r3
  case h3 => intro wq hS; go_simp; with_reducible rfl
  try simp only [Act.put, List.getElem_toArray, List.getElem_cons_zero, List.getElem_cons_succ, List.setIfInBounds_toArray, List.set_cons_zero, List.set_cons_succ]
  refine wpAnyH_done (by kernel_rfl) ?_ _
  have hbq := hHeld
  clear hHeld hbw0 hbw1 hbwz
  have KA := Lib.hid (KA.out.after hbq)
  have KB := Lib.hid (KB.out.after hbq)
  have HB := Lib.hid (HB.out.trans (hbq.mono HB.out.size))
  clear hbq
  go_wp2_with fail
  refine wp_region_held_drew (S := fun w' => Below wz.heap.size wz w') (by kernel_rfl) (Below.drew (Below.refl _ _)) (fun hHeld => ?_)
  refine wpAnyH_take (i := 0) (v := ?v4) rfl (by kernel_rfl) (by kernel_rfl) (by kernel_rfl) (fun _ _ _ h => h) (Or.inl ⟨by rfl, ?h4⟩) hHeld ?r4
  case h4 => intro wq hS; have c0 : wq.cell? ⟨w.heap.size, 0, none⟩ = some (.int .i64 ar) := (KA.out.after hS).cell 0; have c1 : wq.cell? ⟨w.heap.size, 1, none⟩ = some (.int .i64 ac) := (KA.out.after hS).cell 1; have c2 : wq.cell? ⟨w.heap.size, 2, none⟩ = some (.int .i64 ab) := (KA.out.after hS).cell 2; have c3 : wq.cell? ⟨w.heap.size, 3, none⟩ = some (.int .i64 ap) := (KA.out.after hS).cell 3; go_simp; with_reducible rfl
  try simp only [Act.put, List.getElem_toArray, List.getElem_cons_zero, List.getElem_cons_succ, List.setIfInBounds_toArray, List.set_cons_zero, List.set_cons_succ]
  refine wpAnyH_take (i := 2) (v := ?v5) rfl (by kernel_rfl) (by kernel_rfl) (by kernel_rfl) (fun _ _ _ h => h) (Or.inl ⟨by rfl, ?h5⟩) hHeld ?r5
  case h5 => intro wq hS; have c0 : wq.cell? ⟨w.heap.size + 1, 0, none⟩ = some (.int .i64 br) := (KB.out.after hS).cell 0; have c1 : wq.cell? ⟨w.heap.size + 1, 1, none⟩ = some (.int .i64 bc) := (KB.out.after hS).cell 1; have c2 : wq.cell? ⟨w.heap.size + 1, 2, none⟩ = some (.int .i64 bb) := (KB.out.after hS).cell 2; have c3 : wq.cell? ⟨w.heap.size + 1, 3, none⟩ = some (.int .i64 bp) := (KB.out.after hS).cell 3; go_simp; with_reducible rfl
  try simp only [Act.put, List.getElem_toArray, List.getElem_cons_zero, List.getElem_cons_succ, List.setIfInBounds_toArray, List.set_cons_zero, List.set_cons_succ]
  refine wpAnyH_ready (rs := [1]) (by kernel_rfl) (by simp) ?_
  refine AllReadyH.cons rfl (fun K hK => ?_) AllReadyH.nil
  go_simp
  refine (HTO0.out _).mono ?_
  rintro e g0 ⟨rfl, hbg0⟩
  refine hK.out _ _ (hHeld.trans (hbg0.mono hHeld.size)) (fun hHeld => ?_)
  clear hK K
  try simp only [Act.put, List.getElem_toArray, List.getElem_cons_zero, List.getElem_cons_succ, List.setIfInBounds_toArray, List.set_cons_zero, List.set_cons_succ]
  refine wpAnyH_ready (rs := [3]) (by kernel_rfl) (by simp) ?_
  refine AllReadyH.cons rfl (fun K hK => ?_) AllReadyH.nil
  go_simp
  refine (HTO1.out _).mono ?_
  rintro e g1 ⟨rfl, hbg1⟩
  refine hK.out _ _ (hHeld.trans (hbg1.mono hHeld.size)) (fun hHeld => ?_)
  clear hK K
  try simp only [Act.put, List.getElem_toArray, List.getElem_cons_zero, List.getElem_cons_succ, List.setIfInBounds_toArray, List.set_cons_zero, List.set_cons_succ]
  refine wpAnyH_ready (rs := [4]) (by kernel_rfl) (by simp) ?_
  refine AllReadyH.cons rfl (fun K hK => ?_) AllReadyH.nil
  go_simp
  refine (HI.out _).mono ?_
  rintro e gz ⟨rfl, hbgz⟩
  refine hK.out _ _ (hHeld.trans (hbgz.mono hHeld.size)) (fun hHeld => ?_)
  clear hK K
  try simp only [Act.put, List.getElem_toArray, List.getElem_cons_zero, List.getElem_cons_succ, List.setIfInBounds_toArray, List.set_cons_zero, List.set_cons_succ]
  refine wpAnyH_take (i := 5) (v := ?v6) rfl (by kernel_rfl) (by kernel_rfl) (by kernel_rfl) (fun _ _ _ h => h) (Or.inl ⟨by rfl, ?h6⟩) hHeld ?r6
  case h6 => intro wq hS; go_simp; with_reducible rfl
  try simp only [Act.put, List.getElem_toArray, List.getElem_cons_zero, List.getElem_cons_succ, List.setIfInBounds_toArray, List.set_cons_zero, List.set_cons_succ]
  refine wpAnyH_done (by kernel_rfl) ?_ _
  have hbq := hHeld
  clear hHeld hbg0 hbg1 hbgz
  have KA := Lib.hid (KA.out.after hbq)
  have KB := Lib.hid (KB.out.after hbq)
  have HB := Lib.hid (HB.out.trans (hbq.mono HB.out.size))
  clear hbq
  have q0 : (z0 != z0) = false := by simp
  go_wp2_with fail
  go_ret
  exact ⟨rfl, HB.out⟩

set_option linter.unusedVariables false in
set_option linter.unusedSimpArgs false in
set_option maxRecDepth 20000 in
set_option maxHeartbeats 4000000 in
theorem walk_FnExactThrough (v : Vc) (hv : v.fits) (cost : Int) (hcost : (Lit.int .i64 cost).wf = true) (bridge : Int) (hbridge : (Lit.int .i64 bridge).wf = true) (port : Int) (hport : (Lit.int .i64 port).wf = true) (w : World) : Calls Try.prog 8 #[v.val, .int .i64 cost, .int .i64 bridge, .int .i64 port] w fun e w' => e = .returned (.bool true) ∧ Below w.heap.size w w' := by
  have hs := fun w => through_spec v cost bridge port w
  have hi := fun w => through_impl v cost bridge port hv.fit (wf_top hbridge) w
  obtain ⟨z0, hz0⟩ : ∃ z, through v cost bridge port = z := ⟨_, rfl⟩
  simp only [hz0] at hs hi
  clear hz0
  have heq := fun w => eqVector_same z0 w
  have hto0 := fun w => toVector_any v w
  obtain ⟨vr, vc, vb, vp⟩ := v
  obtain ⟨z0r, z0c, z0b, z0p⟩ := z0
  unfold Vc.val at *
  simp only at hs hi hto0 heq ⊢
  have HS := Lib.hid hs; have HI := Lib.hid hi; have HTO0 := Lib.hid hto0; have HEQ := Lib.hid heq
  have hB : Below w.heap.size w (w.alloc (.cells #[.int .i64 vr, .int .i64 vc, .int .i64 vb, .int .i64 vp] 35)) := ((Below.refl _ _).alloc (by simp) _)
  have hKV : Blk (w.alloc (.cells #[.int .i64 vr, .int .i64 vc, .int .i64 vb, .int .i64 vp] 35)) (w.heap.size) #[.int .i64 vr, .int .i64 vc, .int .i64 vb, .int .i64 vp] 35 := (blk_new _ _ (by simp))
  have HB := Lib.hid hB; have KV := Lib.hid hKV
  clear hB hKV hs hi hto0 heq hv hcost hbridge hport
  go_enter Try.func8, Try.ntmps8
  go_wp2_with fail
  refine (HTO0.out _).mono ?_
  rintro e x1 ⟨rfl, hbq⟩
  have KV := Lib.hid (KV.out.after hbq)
  have HB := Lib.hid (HB.out.trans (hbq.mono HB.out.size))
  clear hbq
  have kv0 : x1.cell? ⟨w.heap.size, 0, none⟩ = some (.int .i64 vr) := KV.out.cell 0
  have kv1 : x1.cell? ⟨w.heap.size, 1, none⟩ = some (.int .i64 vc) := KV.out.cell 1
  have kv2 : x1.cell? ⟨w.heap.size, 2, none⟩ = some (.int .i64 vb) := KV.out.cell 2
  have kv3 : x1.cell? ⟨w.heap.size, 3, none⟩ = some (.int .i64 vp) := KV.out.cell 3
  have kvl : w.heap.size < x1.heap.size := KV.out.lt
  go_wp2_with fail
  refine (HS.out _).mono ?_
  rintro e x2 ⟨rfl, hbq⟩
  clear kv0 kv1 kv2 kv3 kvl
  have KV := Lib.hid (KV.out.after hbq)
  have HB := Lib.hid (HB.out.trans (hbq.mono HB.out.size))
  clear hbq
  have hbq : Below x2.heap.size x2 (x2.alloc (.cells #[.int .i64 z0r, .int .i64 z0c, .int .i64 z0b, .int .i64 z0p] 25)) := (Below.refl _ _).alloc (Nat.le_refl _) _
  have hnq : Blk (x2.alloc (.cells #[.int .i64 z0r, .int .i64 z0c, .int .i64 z0b, .int .i64 z0p] 25)) x2.heap.size #[.int .i64 z0r, .int .i64 z0c, .int .i64 z0b, .int .i64 z0p] 25 := blk_new _ _ rfl
  have hleKW : w.heap.size ≤ x2.heap.size := HB.out.size
  have hltKVKW := KV.out.lt
  have KV := Lib.hid (KV.out.after hbq)
  have HB := Lib.hid (HB.out.trans (hbq.mono HB.out.size))
  have KW := Lib.hid hnq
  have HLTKW := Lib.hid (And.intro hleKW (And.intro hltKVKW trivial))
  clear hbq hnq hleKW hltKVKW
  have kv0 : (x2.alloc (.cells #[.int .i64 z0r, .int .i64 z0c, .int .i64 z0b, .int .i64 z0p] 25)).cell? ⟨w.heap.size, 0, none⟩ = some (.int .i64 vr) := KV.out.cell 0
  have kv1 : (x2.alloc (.cells #[.int .i64 z0r, .int .i64 z0c, .int .i64 z0b, .int .i64 z0p] 25)).cell? ⟨w.heap.size, 1, none⟩ = some (.int .i64 vc) := KV.out.cell 1
  have kv2 : (x2.alloc (.cells #[.int .i64 z0r, .int .i64 z0c, .int .i64 z0b, .int .i64 z0p] 25)).cell? ⟨w.heap.size, 2, none⟩ = some (.int .i64 vb) := KV.out.cell 2
  have kv3 : (x2.alloc (.cells #[.int .i64 z0r, .int .i64 z0c, .int .i64 z0b, .int .i64 z0p] 25)).cell? ⟨w.heap.size, 3, none⟩ = some (.int .i64 vp) := KV.out.cell 3
  have kvl : w.heap.size < (x2.alloc (.cells #[.int .i64 z0r, .int .i64 z0c, .int .i64 z0b, .int .i64 z0p] 25)).heap.size := KV.out.lt
  go_wp2_with fail
  clear kv0 kv1 kv2 kv3 kvl
  generalize x2.alloc (.cells #[.int .i64 z0r, .int .i64 z0c, .int .i64 z0b, .int .i64 z0p] 25) = x3 at KV KW HB ⊢
  generalize x2.heap.size = e3 at KW HLTKW ⊢
  refine (HTO0.out _).mono ?_
  rintro e x4 ⟨rfl, hbq⟩
  have KV := Lib.hid (KV.out.after hbq)
  have KW := Lib.hid (KW.out.after hbq)
  have HB := Lib.hid (HB.out.trans (hbq.mono HB.out.size))
  clear hbq
  have kv0 : x4.cell? ⟨w.heap.size, 0, none⟩ = some (.int .i64 vr) := KV.out.cell 0
  have kv1 : x4.cell? ⟨w.heap.size, 1, none⟩ = some (.int .i64 vc) := KV.out.cell 1
  have kv2 : x4.cell? ⟨w.heap.size, 2, none⟩ = some (.int .i64 vb) := KV.out.cell 2
  have kv3 : x4.cell? ⟨w.heap.size, 3, none⟩ = some (.int .i64 vp) := KV.out.cell 3
  have kvl : w.heap.size < x4.heap.size := KV.out.lt
  go_wp2_with fail
  refine (HI.out _).mono ?_
  rintro e x5 ⟨rfl, hbq⟩
  clear kv0 kv1 kv2 kv3 kvl
  have KV := Lib.hid (KV.out.after hbq)
  have KW := Lib.hid (KW.out.after hbq)
  have HB := Lib.hid (HB.out.trans (hbq.mono HB.out.size))
  clear hbq
  have hbq : Below x5.heap.size x5 (x5.alloc (.cells #[.int .i64 z0r, .int .i64 z0c, .int .i64 z0b, .int .i64 z0p] 25)) := (Below.refl _ _).alloc (Nat.le_refl _) _
  have hnq : Blk (x5.alloc (.cells #[.int .i64 z0r, .int .i64 z0c, .int .i64 z0b, .int .i64 z0p] 25)) x5.heap.size #[.int .i64 z0r, .int .i64 z0c, .int .i64 z0b, .int .i64 z0p] 25 := blk_new _ _ rfl
  have hleKG : w.heap.size ≤ x5.heap.size := HB.out.size
  have hltKVKG := KV.out.lt
  have hltKWKG := KW.out.lt
  have KV := Lib.hid (KV.out.after hbq)
  have KW := Lib.hid (KW.out.after hbq)
  have HB := Lib.hid (HB.out.trans (hbq.mono HB.out.size))
  have KG := Lib.hid hnq
  have HLTKG := Lib.hid (And.intro hleKG (And.intro hltKVKG (And.intro hltKWKG trivial)))
  clear hbq hnq hleKG hltKVKG hltKWKG
  have kw0 : (x5.alloc (.cells #[.int .i64 z0r, .int .i64 z0c, .int .i64 z0b, .int .i64 z0p] 25)).cell? ⟨e3, 0, none⟩ = some (.int .i64 z0r) := KW.out.cell 0
  have kw1 : (x5.alloc (.cells #[.int .i64 z0r, .int .i64 z0c, .int .i64 z0b, .int .i64 z0p] 25)).cell? ⟨e3, 1, none⟩ = some (.int .i64 z0c) := KW.out.cell 1
  have kw2 : (x5.alloc (.cells #[.int .i64 z0r, .int .i64 z0c, .int .i64 z0b, .int .i64 z0p] 25)).cell? ⟨e3, 2, none⟩ = some (.int .i64 z0b) := KW.out.cell 2
  have kw3 : (x5.alloc (.cells #[.int .i64 z0r, .int .i64 z0c, .int .i64 z0b, .int .i64 z0p] 25)).cell? ⟨e3, 3, none⟩ = some (.int .i64 z0p) := KW.out.cell 3
  have kwl : e3 < (x5.alloc (.cells #[.int .i64 z0r, .int .i64 z0c, .int .i64 z0b, .int .i64 z0p] 25)).heap.size := KW.out.lt
  go_wp2_with fail
  clear kw0 kw1 kw2 kw3 kwl
  generalize x5.alloc (.cells #[.int .i64 z0r, .int .i64 z0c, .int .i64 z0b, .int .i64 z0p] 25) = x6 at KV KW KG HB ⊢
  generalize x5.heap.size = e6 at KG HLTKG ⊢
  refine (HEQ.out _).mono ?_
  rintro e x7 ⟨rfl, hbq⟩
  have KV := Lib.hid (KV.out.after hbq)
  have KW := Lib.hid (KW.out.after hbq)
  have KG := Lib.hid (KG.out.after hbq)
  have HB := Lib.hid (HB.out.trans (hbq.mono HB.out.size))
  clear hbq
  go_wp2_with fail
  go_ret
  exact ⟨rfl, HB.out⟩

set_option linter.unusedVariables false in
set_option linter.unusedSimpArgs false in
set_option maxRecDepth 20000 in
set_option maxHeartbeats 4000000 in
theorem walk_best (a : Option Addr) (n cap : Nat) (xs : List Vc) (hn : xs.length = n) (hm : n ≤ 9223372036854775807) (w : World) (hA : SlArg 4 Vc.cs w a xs) (hft : ∀ x ∈ xs, x.fit) : Calls Try.prog 9 #[.slice a n cap] w fun e w' => e = .returned (.bool true) ∧ Below w.heap.size w w' := by
  have hz := fun w => szVectorS_any a n cap 1048576 w hm (by decide) (by decide)
  by_cases hsz : (n : Int) ≤ 1048576
  case neg =>
    simp only [if_neg hsz] at hz
    have HZ := Lib.hid hz
    clear hz hA hft
    go_enter Try.func9, Try.ntmps9
    go_wp2_with fail
    refine (HZ.out _).mono ?_
    rintro e w1 ⟨rfl, rfl⟩
    go_wp2_with fail
    go_ret
    exact ⟨rfl, Below.refl _ _⟩
  simp only [if_pos hsz] at hz
  have hq : ¬ (1048576 - (n : Int) < 0) := by omega
  have hn1 : n ≤ 1048576 := by omega
  have ht := fun w' (hb : Below w.heap.size w w') => toVectorS_any xs a n cap w' hn (hA.after hb) hn1
  have hs := fun w' g (h : SlIn kdVc w' (some ⟨g, 0, none⟩) xs) => best_spec xs (some ⟨g, 0, none⟩) n n w' hn h (by omega)
  have hi := fun w' g (h : SlIn kdVc w' (some ⟨g, 0, none⟩) xs) => best_impl xs (some ⟨g, 0, none⟩) n n w' hn h (by omega) hft
  have he := fun w' g k (h : SlIn kdVc w' (some ⟨g, 0, none⟩) xs) (kk : SlIn kdVc w' (some ⟨k, 0, none⟩) xs) => show Calls Try.prog 27 #[.slice (some ⟨g, 0, none⟩) n n, .slice (some ⟨k, 0, none⟩) n n] w' fun e w2 => e = .returned (.bool true) ∧ Below w'.heap.size w' w2 from by have q := eqVectorS_any xs xs (some ⟨g, 0, none⟩) (some ⟨k, 0, none⟩) n n n n w' hn hn h kk (by omega); rwa [decide_eq_true rfl] at q
  obtain ⟨z, hz0⟩ : ∃ z, bestVc xs = z := ⟨_, rfl⟩
  simp only [hz0] at hs hi
  have q1 : (z != z) = false := by simp
  have HT := Lib.hid ht; have HS := Lib.hid hs; have HI := Lib.hid hi; have HE := Lib.hid he; have HZ := Lib.hid hz
  clear hz ht hs hi he hA hz0 hsz hft
  go_enter Try.func9, Try.ntmps9
  go_wp2_with fail
  refine (HZ.out _).mono ?_
  rintro e w1 ⟨rfl, rfl⟩
  go_wp2_with fail
  refine (HT.out _ (Below.refl _ _)).mono ?_
  rintro e w1 ⟨rfl, S1, hb1⟩
  go_wp2_with fail
  refine (HS.out _ _ S1).mono ?_
  rintro e w2 ⟨rfl, hb2⟩
  have HB := Lib.hid (hb1.trans (hb2.mono hb1.size))
  clear hb1 hb2 S1
  go_wp2_with fail
  refine (HT.out _ HB.out).mono ?_
  rintro e w3 ⟨rfl, S3, hb3⟩
  have HB := Lib.hid (HB.out.trans (hb3.mono HB.out.size)); have HS3 := Lib.hid S3
  clear hb3 S3
  generalize w2.heap.size = g3 at *
  go_wp2_with fail
  refine (HI.out _ _ HS3.out).mono ?_
  rintro e w4 ⟨rfl, hb4⟩
  have HB := Lib.hid (HB.out.trans (hb4.mono HB.out.size)); have HS3 := Lib.hid (HS3.out.after hb4)
  clear hb4
  go_wp2_with fail
  refine (HT.out _ HB.out).mono ?_
  rintro e w5 ⟨rfl, S5, hb5⟩
  have HB := Lib.hid (HB.out.trans (hb5.mono HB.out.size)); have HS3 := Lib.hid (HS3.out.after hb5); have HS5 := Lib.hid S5
  clear hb5 S5
  generalize w4.heap.size = g5 at *
  go_wp2_with fail
  refine (HE.out _ _ g5 HS3.out HS5.out).mono ?_
  rintro e w6 ⟨rfl, hb6⟩
  have HB := Lib.hid (HB.out.trans (hb6.mono HB.out.size))
  clear hb6
  go_wp2_with fail
  go_ret
  exact ⟨rfl, HB.out⟩
theorem walk_FnExactBest (x : VcsA) (w : World) (hA : x.ok w) : Calls Try.prog 9 #[x.val] w fun e w' => e = .returned (.bool true) ∧ Below w.heap.size w w' := walk_best x.a _ x.cap x.xs rfl hA.2.1 w hA.1 (fun x hx => (hA.2.2 x hx).fit)
end Go.Proofs.Ytbcpfciegamaeaa
