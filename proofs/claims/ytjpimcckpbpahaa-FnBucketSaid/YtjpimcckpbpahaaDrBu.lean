/- The drawn buckets. -/
import Derived.Test.YtjpimcckpbpahaaDrB
import Derived.Test.YtjpimcckpbpahaaBu
import Derived.Deep.RegionHeld3
namespace Go.Proofs.Ytjpimcckpbpahaa
open Go.RowKit

/-- a bucket is drawn -/
def DrawnBu (B c len : Nat) (w : World) (e : Ending) (w' : World) : Prop := ∃ b : Bu, e = .returned b.val ∧ Cur B c len w' ∧ w.grownBy w' (some c)
set_option linter.unusedSimpArgs false in
set_option maxRecDepth 20000 in
set_option maxHeartbeats 4000000 in
theorem make7_any (B c len : Nat) (w : World) (hl : len ≤ 1048576) (hc : Cur B c len w) : Calls Try.prog 33 #[.pointer (some ⟨c, 0, none⟩)] w (DrawnBu B c len w) := by
  have hC : Cur B c len (w.alloc (.cells #[.int .i64 0, .int .i64 0, .int .i64 0, .int .i64 0] 25)) := (cur_alloc hc _ _)
  have hG : w.grownBy (w.alloc (.cells #[.int .i64 0, .int .i64 0, .int .i64 0, .int .i64 0] 25)) (some c) := (grown_new (World.grownBy.refl w (some c)) _)
  have hlc := cur_lt hc
  have hKZ : Blk (w.alloc (.cells #[.int .i64 0, .int .i64 0, .int .i64 0, .int .i64 0] 25)) (w.heap.size) #[.int .i64 0, .int .i64 0, .int .i64 0, .int .i64 0] 25 := (blk_new _ _ (by simp))
  have HC := Lib.hid hC; have HG := Lib.hid hG; have HLC := Lib.hid hlc
  have KZ := Lib.hid hKZ
  clear hC hG hlc hc hKZ 
  go_enter Try.func33, Try.ntmps33
  go_wp2_with fail
  refine (pickInt_any B c len _ 4 4 [0, 1, 10, 1000000] (by decide) (by decide) _ hl (cur_alloc HC.out _ _) (by have := cur_lt HC.out; have := HLC.out; omega) ?_).mono ?_
  · intro i hi
    first | rw [World.cell?_alloc_at (hn := rfl)] | rw [World.cell?_alloc_at (hn := by simp)]
    match i, hi with
    | 0, _ | 1, _ | 2, _ | 3, _ => rfl
  rintro e x1 ⟨i, hir, rfl, hcq, hgq⟩
  generalize [0, 1, 10, 1000000].getD i (0 : Int) = r
  clear hir i
  have hgq := grown_trans (World.grownBy_alloc _ _ _) hgq
  have KZ := Lib.hid (blk_grown KZ.out hgq (by have := HLC.out; omega))
  have HG := Lib.hid (grown_trans HG.out hgq); have HC := Lib.hid hcq
  clear hgq hcq
  go_wp2_with fail
  refine (pickInt_any B c len _ 5 5 [0, 1, 100, 1000, 1000000] (by decide) (by decide) _ hl (cur_alloc HC.out _ _) (by have := cur_lt HC.out; have := HLC.out; omega) ?_).mono ?_
  · intro i hi
    first | rw [World.cell?_alloc_at (hn := rfl)] | rw [World.cell?_alloc_at (hn := by simp)]
    match i, hi with
    | 0, _ | 1, _ | 2, _ | 3, _ | 4, _ => rfl
  rintro e x2 ⟨i, him, rfl, hcq, hgq⟩
  generalize [0, 1, 100, 1000, 1000000].getD i (0 : Int) = m
  clear him i
  have hgq := grown_trans (World.grownBy_alloc _ _ _) hgq
  have KZ := Lib.hid (blk_grown KZ.out hgq (by have := HLC.out; omega))
  have HG := Lib.hid (grown_trans HG.out hgq); have HC := Lib.hid hcq
  clear hgq hcq
  go_wp2_with fail
  refine (now5_any B c len _ hl HC.out).mono ?_
  rintro e x3 ⟨t, rfl, _, hcq, hgq⟩
  have KZ := Lib.hid (blk_grown KZ.out hgq (by have := HLC.out; omega))
  have HG := Lib.hid (grown_trans HG.out hgq); have HC := Lib.hid hcq
  clear hgq hcq
  go_wp2_with fail
  have hn := newBucket_spec r m t
  generalize newBu r m t = z at hn
  obtain ⟨zr, zm, zl, zt⟩ := z
  unfold Bu.val at hn
  simp only at hn
  have HN := Lib.hid hn
  clear hn
  refine (HN.out _).mono ?_
  rintro e x4 ⟨rfl, hbq⟩
  have hgq := bel_grown hbq (some c)
  have hcq := cur_bel HC.out hbq
  clear hbq
  have KZ := Lib.hid (blk_grown KZ.out hgq (by have := HLC.out; omega))
  have HG := Lib.hid (grown_trans HG.out hgq); have HC := Lib.hid hcq
  clear hgq hcq
  have hgq : x4.grownBy (x4.alloc (.cells #[.int .i64 zr, .int .i64 zm, .int .i64 zl, .int .i64 zt] 25)) (some c) := World.grownBy_alloc _ _ _
  have hcq : Cur B c len (x4.alloc (.cells #[.int .i64 zr, .int .i64 zm, .int .i64 zl, .int .i64 zt] 25)) := cur_alloc HC.out _ _
  have hnq : Blk (x4.alloc (.cells #[.int .i64 zr, .int .i64 zm, .int .i64 zl, .int .i64 zt] 25)) x4.heap.size #[.int .i64 zr, .int .i64 zm, .int .i64 zl, .int .i64 zt] 25 := blk_new _ _ rfl
  have hle : w.heap.size ≤ x4.heap.size := HG.out.size
  have hlcq : c < x4.heap.size := cur_lt HC.out
  have hltKZ := KZ.out.lt
  have HLTKB := Lib.hid (And.intro hle (And.intro hlcq (And.intro hltKZ trivial)))
  have KZ := Lib.hid (blk_grown KZ.out hgq (by have := HLC.out; omega))
  have HG := Lib.hid (grown_trans HG.out hgq); have HC := Lib.hid hcq
  clear hgq hcq
  have KB := Lib.hid hnq
  clear hnq hle hlcq hltKZ
  have HSKB := Lib.hid (show (x4.alloc (.cells #[.int .i64 zr, .int .i64 zm, .int .i64 zl, .int .i64 zt] 25)).heap.size = x4.heap.size + 1 by simp)
  have kz0 : (x4.alloc (.cells #[.int .i64 zr, .int .i64 zm, .int .i64 zl, .int .i64 zt] 25)).cell? ⟨w.heap.size, 0, none⟩ = some (.int .i64 0) := KZ.out.cell 0
  have kz1 : (x4.alloc (.cells #[.int .i64 zr, .int .i64 zm, .int .i64 zl, .int .i64 zt] 25)).cell? ⟨w.heap.size, 1, none⟩ = some (.int .i64 0) := KZ.out.cell 1
  have kz2 : (x4.alloc (.cells #[.int .i64 zr, .int .i64 zm, .int .i64 zl, .int .i64 zt] 25)).cell? ⟨w.heap.size, 2, none⟩ = some (.int .i64 0) := KZ.out.cell 2
  have kz3 : (x4.alloc (.cells #[.int .i64 zr, .int .i64 zm, .int .i64 zl, .int .i64 zt] 25)).cell? ⟨w.heap.size, 3, none⟩ = some (.int .i64 0) := KZ.out.cell 3
  have kzl : w.heap.size < (x4.alloc (.cells #[.int .i64 zr, .int .i64 zm, .int .i64 zl, .int .i64 zt] 25)).heap.size := KZ.out.lt
  have kb0 : (x4.alloc (.cells #[.int .i64 zr, .int .i64 zm, .int .i64 zl, .int .i64 zt] 25)).cell? ⟨x4.heap.size, 0, none⟩ = some (.int .i64 zr) := KB.out.cell 0
  have kb1 : (x4.alloc (.cells #[.int .i64 zr, .int .i64 zm, .int .i64 zl, .int .i64 zt] 25)).cell? ⟨x4.heap.size, 1, none⟩ = some (.int .i64 zm) := KB.out.cell 1
  have kb2 : (x4.alloc (.cells #[.int .i64 zr, .int .i64 zm, .int .i64 zl, .int .i64 zt] 25)).cell? ⟨x4.heap.size, 2, none⟩ = some (.int .i64 zl) := KB.out.cell 2
  have kb3 : (x4.alloc (.cells #[.int .i64 zr, .int .i64 zm, .int .i64 zl, .int .i64 zt] 25)).cell? ⟨x4.heap.size, 3, none⟩ = some (.int .i64 zt) := KB.out.cell 3
  have kbl : x4.heap.size < (x4.alloc (.cells #[.int .i64 zr, .int .i64 zm, .int .i64 zl, .int .i64 zt] 25)).heap.size := KB.out.lt
  go_wp2_with fail
  clear kz0 kz1 kz2 kz3 kzl kb0 kb1 kb2 kb3 kbl
  generalize x4.alloc (.cells #[.int .i64 zr, .int .i64 zm, .int .i64 zl, .int .i64 zt] 25) = x5 at KZ KB HC HG HSKB ⊢
  generalize x4.heap.size = e5 at KB HLTKB HSKB ⊢
  refine wp_region_held_drew (S := fun _ => True) (by kernel_rfl) (trivial) (fun hHeld => ?_)
  refine wpAnyH_take (i := 0) (v := ?v1) rfl (by kernel_rfl) (by kernel_rfl) (by kernel_rfl) (fun _ _ _ h => h) (Or.inl ⟨by rfl, ?h1⟩) hHeld ?r1
  case h1 => intro wq hS; go_simp; with_reducible rfl
  try simp only [Act.put, List.getElem_toArray, List.getElem_cons_zero, List.getElem_cons_succ, List.setIfInBounds_toArray, List.set_cons_zero, List.set_cons_succ]
  refine wpAnyH_take (i := 2) (v := ?v2) rfl (by kernel_rfl) (by kernel_rfl) (by kernel_rfl) (fun _ _ _ h => h) (Or.inl ⟨by rfl, ?h2⟩) hHeld ?r2
  case h2 => intro wq hS; go_simp; with_reducible rfl
  try simp only [Act.put, List.getElem_toArray, List.getElem_cons_zero, List.getElem_cons_succ, List.setIfInBounds_toArray, List.set_cons_zero, List.set_cons_succ]
  have kbf := KB.out.frozen
  have kby := KB.out.shape
  have kbl := KB.out.lt
  have kb2 : x5.cell? ⟨e5, 2, none⟩ = some (.int .i64 zl) := KB.out.cell 2
  refine wpAnyH_ready (rs := [1, 3]) (by kernel_rfl) (by simp) ?_
  refine AllReadyH.cons rfl (fun K hK => ?_) ?_
  · go_simp
    clear kbf kby kbl kb2
    refine hK.out _ _ (trivial) (fun hHeld => ?_)
    clear hK K
    try simp only [Act.put, List.getElem_toArray, List.getElem_cons_zero, List.getElem_cons_succ, List.setIfInBounds_toArray, List.set_cons_zero, List.set_cons_succ]
    refine wpAnyH_ready (rs := [3]) (by kernel_rfl) (by simp) ?_
    refine AllReadyH.cons rfl (fun K hK => ?_) AllReadyH.nil
    go_simp
    refine (below_any B c len 5 (by decide) (by decide) _ hl (cur_drew HC.out)).mono ?_
    rintro e y1 ⟨q, rfl, _, _, hcq, hgq⟩
    have hgq := grown_trans (grown_draw (World.grownBy.refl x5 (some c))) hgq
    have KZ := Lib.hid (blk_grown KZ.out hgq (by have := HLC.out; have := HLTKB.out; omega))
    have KB := Lib.hid (blk_grown KB.out hgq (by have := HLC.out; have := HLTKB.out; omega))
    have HG := Lib.hid (grown_trans HG.out hgq); have HC := Lib.hid hcq
    clear hgq hcq
    refine hK.out _ _ (trivial) (fun hHeld => ?_)
    clear hK K
    try simp only [Act.put, List.getElem_toArray, List.getElem_cons_zero, List.getElem_cons_succ, List.setIfInBounds_toArray, List.set_cons_zero, List.set_cons_succ]
    refine wpAnyH_take (i := 4) (v := ?v3) rfl (by kernel_rfl) (by kernel_rfl) (by kernel_rfl) (fun _ _ _ h => h) (Or.inl ⟨by rfl, ?h3⟩) hHeld ?r3
    case h3 => intro wq hS; go_simp; with_reducible rfl
    try simp only [Act.put, List.getElem_toArray, List.getElem_cons_zero, List.getElem_cons_succ, List.setIfInBounds_toArray, List.set_cons_zero, List.set_cons_succ]
    refine wpAnyH_take (i := 5) (v := ?v4) rfl (by kernel_rfl) (by kernel_rfl) (by kernel_rfl) (fun _ _ _ h => h) (Or.inl ⟨by rfl, ?h4⟩) hHeld ?r4
    case h4 => intro wq hS; go_simp; with_reducible rfl
    try simp only [Act.put, List.getElem_toArray, List.getElem_cons_zero, List.getElem_cons_succ, List.setIfInBounds_toArray, List.set_cons_zero, List.set_cons_succ]
    refine wpAnyH_take (i := 6) (v := ?v5) rfl (by kernel_rfl) (by kernel_rfl) (by kernel_rfl) (fun _ _ _ h => h) (Or.inl ⟨by rfl, ?h5⟩) hHeld ?r5
    case h5 => intro wq hS; go_simp; with_reducible rfl
    try simp only [Act.put, List.getElem_toArray, List.getElem_cons_zero, List.getElem_cons_succ, List.setIfInBounds_toArray, List.set_cons_zero, List.set_cons_succ]
    have kbf := KB.out.frozen
    have kby := KB.out.shape
    have kbl := KB.out.lt
    have kb2 : y1.cell? ⟨e5, 2, none⟩ = some (.int .i64 zl) := KB.out.cell 2
    refine wpAnyH_ready (rs := [7]) (by kernel_rfl) (by simp) ?_
    refine AllReadyH.cons rfl (fun K hK => ?_) AllReadyH.nil
    go_simp
    clear kbf kby kbl kb2
    refine hK.out _ _ (trivial) (fun hHeld => ?_)
    clear hK K
    try simp only [Act.put, List.getElem_toArray, List.getElem_cons_zero, List.getElem_cons_succ, List.setIfInBounds_toArray, List.set_cons_zero, List.set_cons_succ]
    refine wpAnyH_done (by kernel_rfl) ?_ _
    have KZ := Lib.hid (KZ.out.other (j := 2) (g := e5) (by have := HLC.out; have := HLTKB.out; omega) (.int .i64 (IntKind.i64.wrap ((IntKind.i64.wrap (zl * q)).tdiv 4)))); have KB := Lib.hid (KB.out.set 2 (.int .i64 (IntKind.i64.wrap ((IntKind.i64.wrap (zl * q)).tdiv 4)))); have HG := Lib.hid (grown_store HG.out (j := 2) (b := e5) (by have := HLC.out; have := HLTKB.out; omega) (.int .i64 (IntKind.i64.wrap ((IntKind.i64.wrap (zl * q)).tdiv 4)))); have HC := Lib.hid (cur_store HC.out (j := 2) (b := e5) (by have := HLC.out; have := HLTKB.out; omega) (.int .i64 (IntKind.i64.wrap ((IntKind.i64.wrap (zl * q)).tdiv 4))))
    generalize y1.setCell ⟨e5, 2, none⟩ (.int .i64 (IntKind.i64.wrap ((IntKind.i64.wrap (zl * q)).tdiv 4))) = x6 at HG HC KZ KB ⊢
    generalize IntKind.i64.wrap ((IntKind.i64.wrap (zl * q)).tdiv 4) = zq at KB ⊢
    skip
    have kb0 : x6.cell? ⟨e5, 0, none⟩ = some (.int .i64 zr) := KB.out.cell 0
    have kb1 : x6.cell? ⟨e5, 1, none⟩ = some (.int .i64 zm) := KB.out.cell 1
    have kb2 : x6.cell? ⟨e5, 2, none⟩ = some (.int .i64 zq) := KB.out.cell 2
    have kb3 : x6.cell? ⟨e5, 3, none⟩ = some (.int .i64 zt) := KB.out.cell 3
    have kbl : e5 < x6.heap.size := KB.out.lt
    go_wp2_with (with_reducible refine store_here (ty := 25) rfl ?_)
    refine halt_go ?_
    clear kb0 kb1 kb2 kb3 kbl
    refine wpList_store_row rfl 25 _ _ rfl (w.heap.size) #[.int .i64 zr, .int .i64 zm, .int .i64 zq, .int .i64 zt] rfl rfl 25 #[.int .i64 0, .int .i64 0, .int .i64 0, .int .i64 0] KZ.out sizeBu rfl (by simp [Value.oneCell']) ?_
    have KZ := Lib.hid (Blk.row (cs := #[.int .i64 zr, .int .i64 zm, .int .i64 zq, .int .i64 zt]) KZ.out); have KB := Lib.hid (KB.out.rowOther (g := w.heap.size) (by have := HLC.out; have := HLTKB.out; omega) #[.int .i64 zr, .int .i64 zm, .int .i64 zq, .int .i64 zt]); have HG := Lib.hid (grown_row HG.out (b := w.heap.size) (by have := HLC.out; have := HLTKB.out; omega) #[.int .i64 zr, .int .i64 zm, .int .i64 zq, .int .i64 zt]); have HC := Lib.hid (cur_row HC.out (b := w.heap.size) (by have := HLC.out; have := HLTKB.out; omega) #[.int .i64 zr, .int .i64 zm, .int .i64 zq, .int .i64 zt])
    generalize x6.setRow (w.heap.size) #[.int .i64 zr, .int .i64 zm, .int .i64 zq, .int .i64 zt] = x7 at HG HC KZ KB ⊢
    have kz0 : x7.cell? ⟨w.heap.size, 0, none⟩ = some (.int .i64 zr) := KZ.out.cell 0
    have kz1 : x7.cell? ⟨w.heap.size, 1, none⟩ = some (.int .i64 zm) := KZ.out.cell 1
    have kz2 : x7.cell? ⟨w.heap.size, 2, none⟩ = some (.int .i64 zq) := KZ.out.cell 2
    have kz3 : x7.cell? ⟨w.heap.size, 3, none⟩ = some (.int .i64 zt) := KZ.out.cell 3
    have kzl : w.heap.size < x7.heap.size := KZ.out.lt
    go_wp2_with fail
    exact bodyPost_ret (v := .agg #[.int .i64 zr, .int .i64 zm, .int .i64 zq, .int .i64 zt]) (by simp [results, Try.results33, go_sem, kz0, kz1, kz2, kz3]) rfl ⟨⟨zr, zm, zq, zt⟩, rfl, HC.out, HG.out⟩
  refine AllReadyH.cons rfl (fun K hK => ?_) AllReadyH.nil
  · go_simp
    clear kbf kby kbl kb2
    refine (below_any B c len 5 (by decide) (by decide) _ hl (cur_drew HC.out)).mono ?_
    rintro e y1 ⟨q, rfl, _, _, hcq, hgq⟩
    have hgq := grown_trans (grown_draw (World.grownBy.refl x5 (some c))) hgq
    have KZ := Lib.hid (blk_grown KZ.out hgq (by have := HLC.out; have := HLTKB.out; omega))
    have KB := Lib.hid (blk_grown KB.out hgq (by have := HLC.out; have := HLTKB.out; omega))
    have HG := Lib.hid (grown_trans HG.out hgq); have HC := Lib.hid hcq
    clear hgq hcq
    refine hK.out _ _ (trivial) (fun hHeld => ?_)
    clear hK K
    try simp only [Act.put, List.getElem_toArray, List.getElem_cons_zero, List.getElem_cons_succ, List.setIfInBounds_toArray, List.set_cons_zero, List.set_cons_succ]
    have kbf := KB.out.frozen
    have kby := KB.out.shape
    have kbl := KB.out.lt
    have kb2 : y1.cell? ⟨e5, 2, none⟩ = some (.int .i64 zl) := KB.out.cell 2
    refine wpAnyH_ready (rs := [1]) (by kernel_rfl) (by simp) ?_
    refine AllReadyH.cons rfl (fun K hK => ?_) AllReadyH.nil
    go_simp
    clear kbf kby kbl kb2
    refine hK.out _ _ (trivial) (fun hHeld => ?_)
    clear hK K
    try simp only [Act.put, List.getElem_toArray, List.getElem_cons_zero, List.getElem_cons_succ, List.setIfInBounds_toArray, List.set_cons_zero, List.set_cons_succ]
    refine wpAnyH_take (i := 4) (v := ?v6) rfl (by kernel_rfl) (by kernel_rfl) (by kernel_rfl) (fun _ _ _ h => h) (Or.inl ⟨by rfl, ?h6⟩) hHeld ?r6
    case h6 => intro wq hS; go_simp; with_reducible rfl
    try simp only [Act.put, List.getElem_toArray, List.getElem_cons_zero, List.getElem_cons_succ, List.setIfInBounds_toArray, List.set_cons_zero, List.set_cons_succ]
    refine wpAnyH_take (i := 5) (v := ?v7) rfl (by kernel_rfl) (by kernel_rfl) (by kernel_rfl) (fun _ _ _ h => h) (Or.inl ⟨by rfl, ?h7⟩) hHeld ?r7
    case h7 => intro wq hS; go_simp; with_reducible rfl
    try simp only [Act.put, List.getElem_toArray, List.getElem_cons_zero, List.getElem_cons_succ, List.setIfInBounds_toArray, List.set_cons_zero, List.set_cons_succ]
    refine wpAnyH_take (i := 6) (v := ?v8) rfl (by kernel_rfl) (by kernel_rfl) (by kernel_rfl) (fun _ _ _ h => h) (Or.inl ⟨by rfl, ?h8⟩) hHeld ?r8
    case h8 => intro wq hS; go_simp; with_reducible rfl
    try simp only [Act.put, List.getElem_toArray, List.getElem_cons_zero, List.getElem_cons_succ, List.setIfInBounds_toArray, List.set_cons_zero, List.set_cons_succ]
    have kbf := KB.out.frozen
    have kby := KB.out.shape
    have kbl := KB.out.lt
    have kb2 : y1.cell? ⟨e5, 2, none⟩ = some (.int .i64 zl) := KB.out.cell 2
    refine wpAnyH_ready (rs := [7]) (by kernel_rfl) (by simp) ?_
    refine AllReadyH.cons rfl (fun K hK => ?_) AllReadyH.nil
    go_simp
    clear kbf kby kbl kb2
    refine hK.out _ _ (trivial) (fun hHeld => ?_)
    clear hK K
    try simp only [Act.put, List.getElem_toArray, List.getElem_cons_zero, List.getElem_cons_succ, List.setIfInBounds_toArray, List.set_cons_zero, List.set_cons_succ]
    refine wpAnyH_done (by kernel_rfl) ?_ _
    have KZ := Lib.hid (KZ.out.other (j := 2) (g := e5) (by have := HLC.out; have := HLTKB.out; omega) (.int .i64 (IntKind.i64.wrap ((IntKind.i64.wrap (zl * q)).tdiv 4)))); have KB := Lib.hid (KB.out.set 2 (.int .i64 (IntKind.i64.wrap ((IntKind.i64.wrap (zl * q)).tdiv 4)))); have HG := Lib.hid (grown_store HG.out (j := 2) (b := e5) (by have := HLC.out; have := HLTKB.out; omega) (.int .i64 (IntKind.i64.wrap ((IntKind.i64.wrap (zl * q)).tdiv 4)))); have HC := Lib.hid (cur_store HC.out (j := 2) (b := e5) (by have := HLC.out; have := HLTKB.out; omega) (.int .i64 (IntKind.i64.wrap ((IntKind.i64.wrap (zl * q)).tdiv 4))))
    generalize y1.setCell ⟨e5, 2, none⟩ (.int .i64 (IntKind.i64.wrap ((IntKind.i64.wrap (zl * q)).tdiv 4))) = x6 at HG HC KZ KB ⊢
    generalize IntKind.i64.wrap ((IntKind.i64.wrap (zl * q)).tdiv 4) = zq at KB ⊢
    skip
    have kb0 : x6.cell? ⟨e5, 0, none⟩ = some (.int .i64 zr) := KB.out.cell 0
    have kb1 : x6.cell? ⟨e5, 1, none⟩ = some (.int .i64 zm) := KB.out.cell 1
    have kb2 : x6.cell? ⟨e5, 2, none⟩ = some (.int .i64 zq) := KB.out.cell 2
    have kb3 : x6.cell? ⟨e5, 3, none⟩ = some (.int .i64 zt) := KB.out.cell 3
    have kbl : e5 < x6.heap.size := KB.out.lt
    go_wp2_with (with_reducible refine store_here (ty := 25) rfl ?_)
    refine halt_go ?_
    clear kb0 kb1 kb2 kb3 kbl
    refine wpList_store_row rfl 25 _ _ rfl (w.heap.size) #[.int .i64 zr, .int .i64 zm, .int .i64 zq, .int .i64 zt] rfl rfl 25 #[.int .i64 0, .int .i64 0, .int .i64 0, .int .i64 0] KZ.out sizeBu rfl (by simp [Value.oneCell']) ?_
    have KZ := Lib.hid (Blk.row (cs := #[.int .i64 zr, .int .i64 zm, .int .i64 zq, .int .i64 zt]) KZ.out); have KB := Lib.hid (KB.out.rowOther (g := w.heap.size) (by have := HLC.out; have := HLTKB.out; omega) #[.int .i64 zr, .int .i64 zm, .int .i64 zq, .int .i64 zt]); have HG := Lib.hid (grown_row HG.out (b := w.heap.size) (by have := HLC.out; have := HLTKB.out; omega) #[.int .i64 zr, .int .i64 zm, .int .i64 zq, .int .i64 zt]); have HC := Lib.hid (cur_row HC.out (b := w.heap.size) (by have := HLC.out; have := HLTKB.out; omega) #[.int .i64 zr, .int .i64 zm, .int .i64 zq, .int .i64 zt])
    generalize x6.setRow (w.heap.size) #[.int .i64 zr, .int .i64 zm, .int .i64 zq, .int .i64 zt] = x7 at HG HC KZ KB ⊢
    have kz0 : x7.cell? ⟨w.heap.size, 0, none⟩ = some (.int .i64 zr) := KZ.out.cell 0
    have kz1 : x7.cell? ⟨w.heap.size, 1, none⟩ = some (.int .i64 zm) := KZ.out.cell 1
    have kz2 : x7.cell? ⟨w.heap.size, 2, none⟩ = some (.int .i64 zq) := KZ.out.cell 2
    have kz3 : x7.cell? ⟨w.heap.size, 3, none⟩ = some (.int .i64 zt) := KZ.out.cell 3
    have kzl : w.heap.size < x7.heap.size := KZ.out.lt
    go_wp2_with fail
    exact bodyPost_ret (v := .agg #[.int .i64 zr, .int .i64 zm, .int .i64 zq, .int .i64 zt]) (by simp [results, Try.results33, go_sem, kz0, kz1, kz2, kz3]) rfl ⟨⟨zr, zm, zq, zt⟩, rfl, HC.out, HG.out⟩

set_option linter.unusedSimpArgs false in
set_option maxRecDepth 20000 in
set_option maxHeartbeats 4000000 in
theorem any7_any (B c len : Nat) (w : World) (hl : len ≤ 1048576) (hc : Cur B c len w) : Calls Try.prog 24 #[.pointer (some ⟨c, 0, none⟩)] w (DrawnBu B c len w) := by
  have hC : Cur B c len (w.alloc (.cells #[.int .i64 0, .int .i64 0, .int .i64 0, .int .i64 0] 25)) := (cur_alloc hc _ _)
  have hG : w.grownBy (w.alloc (.cells #[.int .i64 0, .int .i64 0, .int .i64 0, .int .i64 0] 25)) (some c) := (grown_new (World.grownBy.refl w (some c)) _)
  have hlc := cur_lt hc
  have hKZ : Blk (w.alloc (.cells #[.int .i64 0, .int .i64 0, .int .i64 0, .int .i64 0] 25)) (w.heap.size) #[.int .i64 0, .int .i64 0, .int .i64 0, .int .i64 0] 25 := (blk_new _ _ (by simp))
  have HC := Lib.hid hC; have HG := Lib.hid hG; have HLC := Lib.hid hlc
  have KZ := Lib.hid hKZ
  clear hC hG hlc hc hKZ 
  go_enter Try.func24, Try.ntmps24
  go_wp2_with fail
  refine (make7_any B c len _ hl HC.out).mono ?_
  rintro e x1 ⟨⟨zr, zm, zl, zt⟩, rfl, hcq, hgq⟩
  have KZ := Lib.hid (blk_grown KZ.out hgq (by have := HLC.out; omega))
  have HG := Lib.hid (grown_trans HG.out hgq); have HC := Lib.hid hcq
  clear hgq hcq
  unfold Bu.val
  simp only
  have hgq : x1.grownBy (x1.alloc (.cells #[.int .i64 zr, .int .i64 zm, .int .i64 zl, .int .i64 zt] 25)) (some c) := World.grownBy_alloc _ _ _
  have hcq : Cur B c len (x1.alloc (.cells #[.int .i64 zr, .int .i64 zm, .int .i64 zl, .int .i64 zt] 25)) := cur_alloc HC.out _ _
  have hnq : Blk (x1.alloc (.cells #[.int .i64 zr, .int .i64 zm, .int .i64 zl, .int .i64 zt] 25)) x1.heap.size #[.int .i64 zr, .int .i64 zm, .int .i64 zl, .int .i64 zt] 25 := blk_new _ _ rfl
  have hle : w.heap.size ≤ x1.heap.size := HG.out.size
  have hlcq : c < x1.heap.size := cur_lt HC.out
  have hltKZ := KZ.out.lt
  have HLTKB := Lib.hid (And.intro hle (And.intro hlcq (And.intro hltKZ trivial)))
  have KZ := Lib.hid (blk_grown KZ.out hgq (by have := HLC.out; omega))
  have HG := Lib.hid (grown_trans HG.out hgq); have HC := Lib.hid hcq
  clear hgq hcq
  have KB := Lib.hid hnq
  clear hnq hle hlcq hltKZ
  have HSKB := Lib.hid (show (x1.alloc (.cells #[.int .i64 zr, .int .i64 zm, .int .i64 zl, .int .i64 zt] 25)).heap.size = x1.heap.size + 1 by simp)
  have kz0 : (x1.alloc (.cells #[.int .i64 zr, .int .i64 zm, .int .i64 zl, .int .i64 zt] 25)).cell? ⟨w.heap.size, 0, none⟩ = some (.int .i64 0) := KZ.out.cell 0
  have kz1 : (x1.alloc (.cells #[.int .i64 zr, .int .i64 zm, .int .i64 zl, .int .i64 zt] 25)).cell? ⟨w.heap.size, 1, none⟩ = some (.int .i64 0) := KZ.out.cell 1
  have kz2 : (x1.alloc (.cells #[.int .i64 zr, .int .i64 zm, .int .i64 zl, .int .i64 zt] 25)).cell? ⟨w.heap.size, 2, none⟩ = some (.int .i64 0) := KZ.out.cell 2
  have kz3 : (x1.alloc (.cells #[.int .i64 zr, .int .i64 zm, .int .i64 zl, .int .i64 zt] 25)).cell? ⟨w.heap.size, 3, none⟩ = some (.int .i64 0) := KZ.out.cell 3
  have kzl : w.heap.size < (x1.alloc (.cells #[.int .i64 zr, .int .i64 zm, .int .i64 zl, .int .i64 zt] 25)).heap.size := KZ.out.lt
  have kb0 : (x1.alloc (.cells #[.int .i64 zr, .int .i64 zm, .int .i64 zl, .int .i64 zt] 25)).cell? ⟨x1.heap.size, 0, none⟩ = some (.int .i64 zr) := KB.out.cell 0
  have kb1 : (x1.alloc (.cells #[.int .i64 zr, .int .i64 zm, .int .i64 zl, .int .i64 zt] 25)).cell? ⟨x1.heap.size, 1, none⟩ = some (.int .i64 zm) := KB.out.cell 1
  have kb2 : (x1.alloc (.cells #[.int .i64 zr, .int .i64 zm, .int .i64 zl, .int .i64 zt] 25)).cell? ⟨x1.heap.size, 2, none⟩ = some (.int .i64 zl) := KB.out.cell 2
  have kb3 : (x1.alloc (.cells #[.int .i64 zr, .int .i64 zm, .int .i64 zl, .int .i64 zt] 25)).cell? ⟨x1.heap.size, 3, none⟩ = some (.int .i64 zt) := KB.out.cell 3
  have kbl : x1.heap.size < (x1.alloc (.cells #[.int .i64 zr, .int .i64 zm, .int .i64 zl, .int .i64 zt] 25)).heap.size := KB.out.lt
  go_wp2_with fail
  clear kz0 kz1 kz2 kz3 kzl kb0 kb1 kb2 kb3 kbl
  generalize x1.alloc (.cells #[.int .i64 zr, .int .i64 zm, .int .i64 zl, .int .i64 zt] 25) = x2 at KZ KB HC HG HSKB ⊢
  generalize x1.heap.size = e2 at KB HLTKB HSKB ⊢
  refine (below_any B c len 12 (by decide) (by decide) _ hl HC.out).mono ?_
  rintro e x3 ⟨k, rfl, hk0, hk1, hcq, hgq⟩
  have KZ := Lib.hid (blk_grown KZ.out hgq (by have := HLC.out; have := HLTKB.out; omega))
  have KB := Lib.hid (blk_grown KB.out hgq (by have := HLC.out; have := HLTKB.out; omega))
  have HG := Lib.hid (grown_trans HG.out hgq); have HC := Lib.hid hcq
  clear hgq hcq
  have hk : k = 0 ∨ k = 1 ∨ k = 2 ∨ 3 ≤ k := by omega
  rcases hk with rfl | rfl | rfl | hk3
  · go_wp2_with fail
    refine (pickInt_any B c len _ 3 3 [-1, 1000001, 5] (by decide) (by decide) _ hl (cur_alloc HC.out _ _) (by have := cur_lt HC.out; have := HLC.out; have := HLTKB.out; omega) ?_).mono ?_
    · intro i hi
      first | rw [World.cell?_alloc_at (hn := rfl)] | rw [World.cell?_alloc_at (hn := by simp)]
      match i, hi with
      | 0, _ | 1, _ | 2, _ => rfl
    rintro e x4 ⟨i, hiq, rfl, hcq, hgq⟩
    generalize [-1, 1000001, 5].getD i (0 : Int) = q
    clear hiq i
    have hgq := grown_trans (World.grownBy_alloc _ _ _) hgq
    have KZ := Lib.hid (blk_grown KZ.out hgq (by have := HLC.out; have := HLTKB.out; omega))
    have KB := Lib.hid (blk_grown KB.out hgq (by have := HLC.out; have := HLTKB.out; omega))
    have HG := Lib.hid (grown_trans HG.out hgq); have HC := Lib.hid hcq
    clear hgq hcq
    have kb0 : x4.cell? ⟨e2, 0, none⟩ = some (.int .i64 zr) := KB.out.cell 0
    have kb1 : x4.cell? ⟨e2, 1, none⟩ = some (.int .i64 zm) := KB.out.cell 1
    have kb2 : x4.cell? ⟨e2, 2, none⟩ = some (.int .i64 zl) := KB.out.cell 2
    have kb3 : x4.cell? ⟨e2, 3, none⟩ = some (.int .i64 zt) := KB.out.cell 3
    have kbl : e2 < x4.heap.size := KB.out.lt
    have kbf := KB.out.frozen
    have kby := KB.out.shape
    go_wp2_with (with_reducible refine store_here (ty := 25) rfl ?_)
    refine halt_go ?_
    clear kb0 kb1 kb2 kb3 kbl kbf kby
    have KZ := Lib.hid (KZ.out.other (j := 2) (g := e2) (by have := HLC.out; have := HLTKB.out; omega) (.int .i64 q)); have KB := Lib.hid (KB.out.set 2 (.int .i64 q)); have HG := Lib.hid (grown_store HG.out (j := 2) (b := e2) (by have := HLC.out; have := HLTKB.out; omega) (.int .i64 q)); have HC := Lib.hid (cur_store HC.out (j := 2) (b := e2) (by have := HLC.out; have := HLTKB.out; omega) (.int .i64 q))
    generalize x4.setCell ⟨e2, 2, none⟩ (.int .i64 q) = x5 at HG HC KZ KB ⊢
    refine wpList_store_row rfl 25 _ _ rfl (w.heap.size) #[.int .i64 zr, .int .i64 zm, .int .i64 q, .int .i64 zt] rfl rfl 25 #[.int .i64 0, .int .i64 0, .int .i64 0, .int .i64 0] KZ.out sizeBu rfl (by simp [Value.oneCell']) ?_
    have KZ := Lib.hid (Blk.row (cs := #[.int .i64 zr, .int .i64 zm, .int .i64 q, .int .i64 zt]) KZ.out); have KB := Lib.hid (KB.out.rowOther (g := w.heap.size) (by have := HLC.out; have := HLTKB.out; omega) #[.int .i64 zr, .int .i64 zm, .int .i64 q, .int .i64 zt]); have HG := Lib.hid (grown_row HG.out (b := w.heap.size) (by have := HLC.out; have := HLTKB.out; omega) #[.int .i64 zr, .int .i64 zm, .int .i64 q, .int .i64 zt]); have HC := Lib.hid (cur_row HC.out (b := w.heap.size) (by have := HLC.out; have := HLTKB.out; omega) #[.int .i64 zr, .int .i64 zm, .int .i64 q, .int .i64 zt])
    generalize x5.setRow (w.heap.size) #[.int .i64 zr, .int .i64 zm, .int .i64 q, .int .i64 zt] = x6 at HG HC KZ KB ⊢
    have kz0 : x6.cell? ⟨w.heap.size, 0, none⟩ = some (.int .i64 zr) := KZ.out.cell 0
    have kz1 : x6.cell? ⟨w.heap.size, 1, none⟩ = some (.int .i64 zm) := KZ.out.cell 1
    have kz2 : x6.cell? ⟨w.heap.size, 2, none⟩ = some (.int .i64 q) := KZ.out.cell 2
    have kz3 : x6.cell? ⟨w.heap.size, 3, none⟩ = some (.int .i64 zt) := KZ.out.cell 3
    have kzl : w.heap.size < x6.heap.size := KZ.out.lt
    go_wp2_with fail
    exact bodyPost_ret (v := .agg #[.int .i64 zr, .int .i64 zm, .int .i64 q, .int .i64 zt]) (by simp [results, Try.results24, go_sem, kz0, kz1, kz2, kz3]) rfl ⟨⟨zr, zm, q, zt⟩, rfl, HC.out, HG.out⟩
  · go_wp2_with fail
    refine (pickInt_any B c len _ 2 2 [-1, 1000001] (by decide) (by decide) _ hl (cur_alloc HC.out _ _) (by have := cur_lt HC.out; have := HLC.out; have := HLTKB.out; omega) ?_).mono ?_
    · intro i hi
      first | rw [World.cell?_alloc_at (hn := rfl)] | rw [World.cell?_alloc_at (hn := by simp)]
      match i, hi with
      | 0, _ | 1, _ => rfl
    rintro e x4 ⟨i, hiq, rfl, hcq, hgq⟩
    generalize [-1, 1000001].getD i (0 : Int) = q
    clear hiq i
    have hgq := grown_trans (World.grownBy_alloc _ _ _) hgq
    have KZ := Lib.hid (blk_grown KZ.out hgq (by have := HLC.out; have := HLTKB.out; omega))
    have KB := Lib.hid (blk_grown KB.out hgq (by have := HLC.out; have := HLTKB.out; omega))
    have HG := Lib.hid (grown_trans HG.out hgq); have HC := Lib.hid hcq
    clear hgq hcq
    have kb0 : x4.cell? ⟨e2, 0, none⟩ = some (.int .i64 zr) := KB.out.cell 0
    have kb1 : x4.cell? ⟨e2, 1, none⟩ = some (.int .i64 zm) := KB.out.cell 1
    have kb2 : x4.cell? ⟨e2, 2, none⟩ = some (.int .i64 zl) := KB.out.cell 2
    have kb3 : x4.cell? ⟨e2, 3, none⟩ = some (.int .i64 zt) := KB.out.cell 3
    have kbl : e2 < x4.heap.size := KB.out.lt
    have kbf := KB.out.frozen
    have kby := KB.out.shape
    go_wp2_with (with_reducible refine store_here (ty := 25) rfl ?_)
    refine halt_go ?_
    clear kb0 kb1 kb2 kb3 kbl kbf kby
    have KZ := Lib.hid (KZ.out.other (j := 0) (g := e2) (by have := HLC.out; have := HLTKB.out; omega) (.int .i64 q)); have KB := Lib.hid (KB.out.set 0 (.int .i64 q)); have HG := Lib.hid (grown_store HG.out (j := 0) (b := e2) (by have := HLC.out; have := HLTKB.out; omega) (.int .i64 q)); have HC := Lib.hid (cur_store HC.out (j := 0) (b := e2) (by have := HLC.out; have := HLTKB.out; omega) (.int .i64 q))
    generalize x4.setCell ⟨e2, 0, none⟩ (.int .i64 q) = x5 at HG HC KZ KB ⊢
    refine wpList_store_row rfl 25 _ _ rfl (w.heap.size) #[.int .i64 q, .int .i64 zm, .int .i64 zl, .int .i64 zt] rfl rfl 25 #[.int .i64 0, .int .i64 0, .int .i64 0, .int .i64 0] KZ.out sizeBu rfl (by simp [Value.oneCell']) ?_
    have KZ := Lib.hid (Blk.row (cs := #[.int .i64 q, .int .i64 zm, .int .i64 zl, .int .i64 zt]) KZ.out); have KB := Lib.hid (KB.out.rowOther (g := w.heap.size) (by have := HLC.out; have := HLTKB.out; omega) #[.int .i64 q, .int .i64 zm, .int .i64 zl, .int .i64 zt]); have HG := Lib.hid (grown_row HG.out (b := w.heap.size) (by have := HLC.out; have := HLTKB.out; omega) #[.int .i64 q, .int .i64 zm, .int .i64 zl, .int .i64 zt]); have HC := Lib.hid (cur_row HC.out (b := w.heap.size) (by have := HLC.out; have := HLTKB.out; omega) #[.int .i64 q, .int .i64 zm, .int .i64 zl, .int .i64 zt])
    generalize x5.setRow (w.heap.size) #[.int .i64 q, .int .i64 zm, .int .i64 zl, .int .i64 zt] = x6 at HG HC KZ KB ⊢
    have kz0 : x6.cell? ⟨w.heap.size, 0, none⟩ = some (.int .i64 q) := KZ.out.cell 0
    have kz1 : x6.cell? ⟨w.heap.size, 1, none⟩ = some (.int .i64 zm) := KZ.out.cell 1
    have kz2 : x6.cell? ⟨w.heap.size, 2, none⟩ = some (.int .i64 zl) := KZ.out.cell 2
    have kz3 : x6.cell? ⟨w.heap.size, 3, none⟩ = some (.int .i64 zt) := KZ.out.cell 3
    have kzl : w.heap.size < x6.heap.size := KZ.out.lt
    go_wp2_with fail
    exact bodyPost_ret (v := .agg #[.int .i64 q, .int .i64 zm, .int .i64 zl, .int .i64 zt]) (by simp [results, Try.results24, go_sem, kz0, kz1, kz2, kz3]) rfl ⟨⟨q, zm, zl, zt⟩, rfl, HC.out, HG.out⟩
  · go_wp2_with fail
    refine (pickInt_any B c len _ 2 2 [-1, 1000000001] (by decide) (by decide) _ hl (cur_alloc HC.out _ _) (by have := cur_lt HC.out; have := HLC.out; have := HLTKB.out; omega) ?_).mono ?_
    · intro i hi
      first | rw [World.cell?_alloc_at (hn := rfl)] | rw [World.cell?_alloc_at (hn := by simp)]
      match i, hi with
      | 0, _ | 1, _ => rfl
    rintro e x4 ⟨i, hiq, rfl, hcq, hgq⟩
    generalize [-1, 1000000001].getD i (0 : Int) = q
    clear hiq i
    have hgq := grown_trans (World.grownBy_alloc _ _ _) hgq
    have KZ := Lib.hid (blk_grown KZ.out hgq (by have := HLC.out; have := HLTKB.out; omega))
    have KB := Lib.hid (blk_grown KB.out hgq (by have := HLC.out; have := HLTKB.out; omega))
    have HG := Lib.hid (grown_trans HG.out hgq); have HC := Lib.hid hcq
    clear hgq hcq
    have kb0 : x4.cell? ⟨e2, 0, none⟩ = some (.int .i64 zr) := KB.out.cell 0
    have kb1 : x4.cell? ⟨e2, 1, none⟩ = some (.int .i64 zm) := KB.out.cell 1
    have kb2 : x4.cell? ⟨e2, 2, none⟩ = some (.int .i64 zl) := KB.out.cell 2
    have kb3 : x4.cell? ⟨e2, 3, none⟩ = some (.int .i64 zt) := KB.out.cell 3
    have kbl : e2 < x4.heap.size := KB.out.lt
    have kbf := KB.out.frozen
    have kby := KB.out.shape
    go_wp2_with (with_reducible refine store_here (ty := 25) rfl ?_)
    refine halt_go ?_
    clear kb0 kb1 kb2 kb3 kbl kbf kby
    have KZ := Lib.hid (KZ.out.other (j := 3) (g := e2) (by have := HLC.out; have := HLTKB.out; omega) (.int .i64 q)); have KB := Lib.hid (KB.out.set 3 (.int .i64 q)); have HG := Lib.hid (grown_store HG.out (j := 3) (b := e2) (by have := HLC.out; have := HLTKB.out; omega) (.int .i64 q)); have HC := Lib.hid (cur_store HC.out (j := 3) (b := e2) (by have := HLC.out; have := HLTKB.out; omega) (.int .i64 q))
    generalize x4.setCell ⟨e2, 3, none⟩ (.int .i64 q) = x5 at HG HC KZ KB ⊢
    refine wpList_store_row rfl 25 _ _ rfl (w.heap.size) #[.int .i64 zr, .int .i64 zm, .int .i64 zl, .int .i64 q] rfl rfl 25 #[.int .i64 0, .int .i64 0, .int .i64 0, .int .i64 0] KZ.out sizeBu rfl (by simp [Value.oneCell']) ?_
    have KZ := Lib.hid (Blk.row (cs := #[.int .i64 zr, .int .i64 zm, .int .i64 zl, .int .i64 q]) KZ.out); have KB := Lib.hid (KB.out.rowOther (g := w.heap.size) (by have := HLC.out; have := HLTKB.out; omega) #[.int .i64 zr, .int .i64 zm, .int .i64 zl, .int .i64 q]); have HG := Lib.hid (grown_row HG.out (b := w.heap.size) (by have := HLC.out; have := HLTKB.out; omega) #[.int .i64 zr, .int .i64 zm, .int .i64 zl, .int .i64 q]); have HC := Lib.hid (cur_row HC.out (b := w.heap.size) (by have := HLC.out; have := HLTKB.out; omega) #[.int .i64 zr, .int .i64 zm, .int .i64 zl, .int .i64 q])
    generalize x5.setRow (w.heap.size) #[.int .i64 zr, .int .i64 zm, .int .i64 zl, .int .i64 q] = x6 at HG HC KZ KB ⊢
    have kz0 : x6.cell? ⟨w.heap.size, 0, none⟩ = some (.int .i64 zr) := KZ.out.cell 0
    have kz1 : x6.cell? ⟨w.heap.size, 1, none⟩ = some (.int .i64 zm) := KZ.out.cell 1
    have kz2 : x6.cell? ⟨w.heap.size, 2, none⟩ = some (.int .i64 zl) := KZ.out.cell 2
    have kz3 : x6.cell? ⟨w.heap.size, 3, none⟩ = some (.int .i64 q) := KZ.out.cell 3
    have kzl : w.heap.size < x6.heap.size := KZ.out.lt
    go_wp2_with fail
    exact bodyPost_ret (v := .agg #[.int .i64 zr, .int .i64 zm, .int .i64 zl, .int .i64 q]) (by simp [results, Try.results24, go_sem, kz0, kz1, kz2, kz3]) rfl ⟨⟨zr, zm, zl, q⟩, rfl, HC.out, HG.out⟩
  · have kb0 : x3.cell? ⟨e2, 0, none⟩ = some (.int .i64 zr) := KB.out.cell 0
    have kb1 : x3.cell? ⟨e2, 1, none⟩ = some (.int .i64 zm) := KB.out.cell 1
    have kb2 : x3.cell? ⟨e2, 2, none⟩ = some (.int .i64 zl) := KB.out.cell 2
    have kb3 : x3.cell? ⟨e2, 3, none⟩ = some (.int .i64 zt) := KB.out.cell 3
    have kbl : e2 < x3.heap.size := KB.out.lt
    go_wp2_with (with_reducible refine store_here (ty := 25) rfl ?_)
    refine halt_go ?_
    clear kb0 kb1 kb2 kb3 kbl
    refine wpList_store_row rfl 25 _ _ rfl (w.heap.size) #[.int .i64 zr, .int .i64 zm, .int .i64 zl, .int .i64 zt] rfl rfl 25 #[.int .i64 0, .int .i64 0, .int .i64 0, .int .i64 0] KZ.out sizeBu rfl (by simp [Value.oneCell']) ?_
    have KZ := Lib.hid (Blk.row (cs := #[.int .i64 zr, .int .i64 zm, .int .i64 zl, .int .i64 zt]) KZ.out); have KB := Lib.hid (KB.out.rowOther (g := w.heap.size) (by have := HLC.out; have := HLTKB.out; omega) #[.int .i64 zr, .int .i64 zm, .int .i64 zl, .int .i64 zt]); have HG := Lib.hid (grown_row HG.out (b := w.heap.size) (by have := HLC.out; have := HLTKB.out; omega) #[.int .i64 zr, .int .i64 zm, .int .i64 zl, .int .i64 zt]); have HC := Lib.hid (cur_row HC.out (b := w.heap.size) (by have := HLC.out; have := HLTKB.out; omega) #[.int .i64 zr, .int .i64 zm, .int .i64 zl, .int .i64 zt])
    generalize x3.setRow (w.heap.size) #[.int .i64 zr, .int .i64 zm, .int .i64 zl, .int .i64 zt] = x4 at HG HC KZ KB ⊢
    have kz0 : x4.cell? ⟨w.heap.size, 0, none⟩ = some (.int .i64 zr) := KZ.out.cell 0
    have kz1 : x4.cell? ⟨w.heap.size, 1, none⟩ = some (.int .i64 zm) := KZ.out.cell 1
    have kz2 : x4.cell? ⟨w.heap.size, 2, none⟩ = some (.int .i64 zl) := KZ.out.cell 2
    have kz3 : x4.cell? ⟨w.heap.size, 3, none⟩ = some (.int .i64 zt) := KZ.out.cell 3
    have kzl : w.heap.size < x4.heap.size := KZ.out.lt
    go_wp2_with fail
    exact bodyPost_ret (v := .agg #[.int .i64 zr, .int .i64 zm, .int .i64 zl, .int .i64 zt]) (by simp [results, Try.results24, go_sem, kz0, kz1, kz2, kz3]) rfl ⟨⟨zr, zm, zl, zt⟩, rfl, HC.out, HG.out⟩

/-- a bucket and a number; .. and two; three numbers -/
def DrewBu1 (w : World) (e : Ending) (w' : World) : Prop := ∃ (b : Bu) (n : Int), e = .returned (.tuple #[b.val, .int .i64 n]) ∧ Below w.heap.size w w'
def DrewBu2 (w : World) (e : Ending) (w' : World) : Prop := ∃ (b : Bu) (n k : Int), e = .returned (.tuple #[b.val, .int .i64 n, .int .i64 k]) ∧ Below w.heap.size w w'
def DrewN3 (w : World) (e : Ending) (w' : World) : Prop := ∃ (r m t : Int), e = .returned (.tuple #[.int .i64 r, .int .i64 m, .int .i64 t]) ∧ Below w.heap.size w w'
set_option linter.unusedSimpArgs false in
set_option maxRecDepth 20000 in
set_option maxHeartbeats 4000000 in
theorem drawNewBucket_any (w : World) (a : Option Addr) (len cap : Nat) (zs : List Int) (hl : len ≤ 1048576) (hrow : IsRow .u8 w a len cap zs) (hlow : ∀ x, a = some x → 0 < cap → x.block < w.heap.size) :
    Calls Try.prog 17 #[.slice a len cap] w (DrewN3 w) := by
  have hB : Below w.heap.size w w := (Below.refl _ _)
  have HB := Lib.hid hB
  clear hB  
  go_enter Try.func17, Try.ntmps17
  go_wp2_with fail
  have HLC := Lib.hid (show w.heap.size = w.heap.size + 0 from rfl)
  refine (new_any w a len cap zs hl (hrow.below hlow HB.out) (fun x hx hc => Nat.lt_of_lt_of_le (hlow x hx hc) HB.out.size)).mono ?_
  rintro e x1 ⟨rfl, hcq, hbq, hsq⟩
  have HB := Lib.hid (HB.out.trans (hbq.mono HB.out.size)); have HC := Lib.hid hcq
  clear hbq hsq hcq hrow hlow
  go_wp2_with fail
  refine (pickInt_any w.heap.size w.heap.size len _ 5 5 [0, 1, 1000000, 1000001, -1] (by decide) (by decide) _ hl (cur_alloc HC.out _ _) (by have := cur_lt HC.out; have := HLC.out; omega) ?_).mono ?_
  · intro i hi
    first | rw [World.cell?_alloc_at (hn := rfl)] | rw [World.cell?_alloc_at (hn := by simp)]
    match i, hi with
    | 0, _ | 1, _ | 2, _ | 3, _ | 4, _ => rfl
  rintro e x2 ⟨i, hir, rfl, hcq, hgq⟩
  generalize [0, 1, 1000000, 1000001, -1].getD i (0 : Int) = r
  clear hir i
  have hgq := grown_trans (World.grownBy_alloc _ _ _) hgq
  have HB := Lib.hid (HB.out.grown hgq HB.out.size (fun k e => by cases e; have := HLC.out; omega)); have HC := Lib.hid hcq
  clear hgq hcq
  go_wp2_with fail
  refine (pickInt_any w.heap.size w.heap.size len _ 5 5 [0, 1, 1000000, 1000001, -1] (by decide) (by decide) _ hl (cur_alloc HC.out _ _) (by have := cur_lt HC.out; have := HLC.out; omega) ?_).mono ?_
  · intro i hi
    first | rw [World.cell?_alloc_at (hn := rfl)] | rw [World.cell?_alloc_at (hn := by simp)]
    match i, hi with
    | 0, _ | 1, _ | 2, _ | 3, _ | 4, _ => rfl
  rintro e x3 ⟨i, him, rfl, hcq, hgq⟩
  generalize [0, 1, 1000000, 1000001, -1].getD i (0 : Int) = m
  clear him i
  have hgq := grown_trans (World.grownBy_alloc _ _ _) hgq
  have HB := Lib.hid (HB.out.grown hgq HB.out.size (fun k e => by cases e; have := HLC.out; omega)); have HC := Lib.hid hcq
  clear hgq hcq
  go_wp2_with fail
  refine (pickInt_any w.heap.size w.heap.size len _ 5 5 [0, 5, 1000000000, 1000000001, -1] (by decide) (by decide) _ hl (cur_alloc HC.out _ _) (by have := cur_lt HC.out; have := HLC.out; omega) ?_).mono ?_
  · intro i hi
    first | rw [World.cell?_alloc_at (hn := rfl)] | rw [World.cell?_alloc_at (hn := by simp)]
    match i, hi with
    | 0, _ | 1, _ | 2, _ | 3, _ | 4, _ => rfl
  rintro e x4 ⟨i, hit, rfl, hcq, hgq⟩
  generalize [0, 5, 1000000000, 1000000001, -1].getD i (0 : Int) = t
  clear hit i
  have hgq := grown_trans (World.grownBy_alloc _ _ _) hgq
  have HB := Lib.hid (HB.out.grown hgq HB.out.size (fun k e => by cases e; have := HLC.out; omega)); have HC := Lib.hid hcq
  clear hgq hcq
  go_wp2_with fail
  exact bodyPost_ret (v := .tuple #[.int .i64 r, .int .i64 m, .int .i64 t]) (by simp [results, Try.results17, go_sem]) rfl ⟨r, m, t, rfl, HB.out⟩

set_option linter.unusedSimpArgs false in
set_option maxRecDepth 20000 in
set_option maxHeartbeats 4000000 in
theorem drawFill_any (w : World) (a : Option Addr) (len cap : Nat) (zs : List Int) (hl : len ≤ 1048576) (hrow : IsRow .u8 w a len cap zs) (hlow : ∀ x, a = some x → 0 < cap → x.block < w.heap.size) :
    Calls Try.prog 16 #[.slice a len cap] w (DrewBu1 w) := by
  have hB : Below w.heap.size w (w.alloc (.cells #[.int .i64 0, .int .i64 0, .int .i64 0, .int .i64 0] 25)) := ((Below.refl _ _).alloc (by simp) _)
  have hKZ : Blk (w.alloc (.cells #[.int .i64 0, .int .i64 0, .int .i64 0, .int .i64 0] 25)) (w.heap.size) #[.int .i64 0, .int .i64 0, .int .i64 0, .int .i64 0] 25 := (blk_new _ _ (by simp))
  have HB := Lib.hid hB
  have KZ := Lib.hid hKZ
  clear hB hKZ 
  go_enter Try.func16, Try.ntmps16
  go_wp2_with fail
  have hsz : (w.alloc (.cells #[.int .i64 0, .int .i64 0, .int .i64 0, .int .i64 0] 25)).heap.size = w.heap.size + 1 := by simp
  have HLC := Lib.hid hsz
  clear hsz
  generalize w.alloc (.cells #[.int .i64 0, .int .i64 0, .int .i64 0, .int .i64 0] 25) = w0 at HB HLC KZ ⊢
  refine (new_any w0 a len cap zs hl (hrow.below hlow HB.out) (fun x hx hc => Nat.lt_of_lt_of_le (hlow x hx hc) HB.out.size)).mono ?_
  rintro e x1 ⟨rfl, hcq, hbq, hsq⟩
  have KZ := Lib.hid (KZ.out.after hbq)
  have HB := Lib.hid (HB.out.trans (hbq.mono HB.out.size)); have HC := Lib.hid hcq
  clear hbq hsq hcq hrow hlow
  generalize w0.heap.size = c at HC HLC ⊢
  go_wp2_with fail
  refine (any7_any c c len _ hl HC.out).mono ?_
  rintro e x2 ⟨⟨zr, zm, zl, zt⟩, rfl, hcq, hgq⟩
  have KZ := Lib.hid (blk_grown KZ.out hgq (by have := HLC.out; omega))
  have HB := Lib.hid (HB.out.grown hgq HB.out.size (fun k e => by cases e; have := HLC.out; omega)); have HC := Lib.hid hcq
  clear hgq hcq
  unfold Bu.val
  simp only
  have hgq : x2.grownBy (x2.alloc (.cells #[.int .i64 zr, .int .i64 zm, .int .i64 zl, .int .i64 zt] 25)) (some c) := World.grownBy_alloc _ _ _
  have hcq : Cur c c len (x2.alloc (.cells #[.int .i64 zr, .int .i64 zm, .int .i64 zl, .int .i64 zt] 25)) := cur_alloc HC.out _ _
  have hnq : Blk (x2.alloc (.cells #[.int .i64 zr, .int .i64 zm, .int .i64 zl, .int .i64 zt] 25)) x2.heap.size #[.int .i64 zr, .int .i64 zm, .int .i64 zl, .int .i64 zt] 25 := blk_new _ _ rfl
  have hle : w.heap.size ≤ x2.heap.size := HB.out.size
  have hlcq : c < x2.heap.size := cur_lt HC.out
  have hltKZ := KZ.out.lt
  have HLTKB := Lib.hid (And.intro hle (And.intro hlcq (And.intro hltKZ trivial)))
  have KZ := Lib.hid (blk_grown KZ.out hgq (by have := HLC.out; omega))
  have HB := Lib.hid (HB.out.grown hgq HB.out.size (fun k e => by cases e; have := HLC.out; omega)); have HC := Lib.hid hcq
  clear hgq hcq
  have KB := Lib.hid hnq
  clear hnq hle hlcq hltKZ
  have HSKB := Lib.hid (show (x2.alloc (.cells #[.int .i64 zr, .int .i64 zm, .int .i64 zl, .int .i64 zt] 25)).heap.size = x2.heap.size + 1 by simp)
  have kz0 : (x2.alloc (.cells #[.int .i64 zr, .int .i64 zm, .int .i64 zl, .int .i64 zt] 25)).cell? ⟨w.heap.size, 0, none⟩ = some (.int .i64 0) := KZ.out.cell 0
  have kz1 : (x2.alloc (.cells #[.int .i64 zr, .int .i64 zm, .int .i64 zl, .int .i64 zt] 25)).cell? ⟨w.heap.size, 1, none⟩ = some (.int .i64 0) := KZ.out.cell 1
  have kz2 : (x2.alloc (.cells #[.int .i64 zr, .int .i64 zm, .int .i64 zl, .int .i64 zt] 25)).cell? ⟨w.heap.size, 2, none⟩ = some (.int .i64 0) := KZ.out.cell 2
  have kz3 : (x2.alloc (.cells #[.int .i64 zr, .int .i64 zm, .int .i64 zl, .int .i64 zt] 25)).cell? ⟨w.heap.size, 3, none⟩ = some (.int .i64 0) := KZ.out.cell 3
  have kzl : w.heap.size < (x2.alloc (.cells #[.int .i64 zr, .int .i64 zm, .int .i64 zl, .int .i64 zt] 25)).heap.size := KZ.out.lt
  have kb0 : (x2.alloc (.cells #[.int .i64 zr, .int .i64 zm, .int .i64 zl, .int .i64 zt] 25)).cell? ⟨x2.heap.size, 0, none⟩ = some (.int .i64 zr) := KB.out.cell 0
  have kb1 : (x2.alloc (.cells #[.int .i64 zr, .int .i64 zm, .int .i64 zl, .int .i64 zt] 25)).cell? ⟨x2.heap.size, 1, none⟩ = some (.int .i64 zm) := KB.out.cell 1
  have kb2 : (x2.alloc (.cells #[.int .i64 zr, .int .i64 zm, .int .i64 zl, .int .i64 zt] 25)).cell? ⟨x2.heap.size, 2, none⟩ = some (.int .i64 zl) := KB.out.cell 2
  have kb3 : (x2.alloc (.cells #[.int .i64 zr, .int .i64 zm, .int .i64 zl, .int .i64 zt] 25)).cell? ⟨x2.heap.size, 3, none⟩ = some (.int .i64 zt) := KB.out.cell 3
  have kbl : x2.heap.size < (x2.alloc (.cells #[.int .i64 zr, .int .i64 zm, .int .i64 zl, .int .i64 zt] 25)).heap.size := KB.out.lt
  go_wp2_with fail
  clear kz0 kz1 kz2 kz3 kzl kb0 kb1 kb2 kb3 kbl
  generalize x2.alloc (.cells #[.int .i64 zr, .int .i64 zm, .int .i64 zl, .int .i64 zt] 25) = x3 at KZ KB HC HB HSKB ⊢
  generalize x2.heap.size = e3 at KB HLTKB HSKB ⊢
  refine wp_region_held_drew (S := fun w' => Blk w' e3 #[.int .i64 zr, .int .i64 zm, .int .i64 zl, .int .i64 zt] 25) (by kernel_rfl) (KB.out) (fun hHeld => ?_)
  refine wpAnyH_take (i := 0) (v := ?v9) rfl (by kernel_rfl) (by kernel_rfl) (by kernel_rfl) (fun _ _ _ h => h) (Or.inl ⟨by rfl, ?h9⟩) hHeld ?r9
  case h9 => intro wq hS; have c0 : wq.cell? ⟨e3, 0, none⟩ = some (.int .i64 zr) := hS.cell 0; have c1 : wq.cell? ⟨e3, 1, none⟩ = some (.int .i64 zm) := hS.cell 1; have c2 : wq.cell? ⟨e3, 2, none⟩ = some (.int .i64 zl) := hS.cell 2; have c3 : wq.cell? ⟨e3, 3, none⟩ = some (.int .i64 zt) := hS.cell 3; go_simp; with_reducible rfl
  try simp only [Act.put, List.getElem_toArray, List.getElem_cons_zero, List.getElem_cons_succ, List.setIfInBounds_toArray, List.set_cons_zero, List.set_cons_succ]
  refine wpAnyH_take (i := 1) (v := ?v10) rfl (by kernel_rfl) (by kernel_rfl) (by kernel_rfl) (fun _ _ _ h => h) (Or.inl ⟨by rfl, ?h10⟩) hHeld ?r10
  case h10 => intro wq hS; go_simp; with_reducible rfl
  try simp only [Act.put, List.getElem_toArray, List.getElem_cons_zero, List.getElem_cons_succ, List.setIfInBounds_toArray, List.set_cons_zero, List.set_cons_succ]
  refine wpAnyH_take (i := 2) (v := ?v11) rfl (by kernel_rfl) (by kernel_rfl) (by kernel_rfl) (fun _ _ _ h => h) (Or.inl ⟨by rfl, ?h11⟩) hHeld ?r11
  case h11 => intro wq hS; go_simp; with_reducible rfl
  try simp only [Act.put, List.getElem_toArray, List.getElem_cons_zero, List.getElem_cons_succ, List.setIfInBounds_toArray, List.set_cons_zero, List.set_cons_succ]
  refine wpAnyH_take (i := 3) (v := ?v12) rfl (by kernel_rfl) (by kernel_rfl) (by kernel_rfl) (fun _ _ _ h => h) (Or.inl ⟨by rfl, ?h12⟩) hHeld ?r12
  case h12 => intro wq hS; have c0 : wq.cell? ⟨e3, 0, none⟩ = some (.int .i64 zr) := hS.cell 0; have c1 : wq.cell? ⟨e3, 1, none⟩ = some (.int .i64 zm) := hS.cell 1; have c2 : wq.cell? ⟨e3, 2, none⟩ = some (.int .i64 zl) := hS.cell 2; have c3 : wq.cell? ⟨e3, 3, none⟩ = some (.int .i64 zt) := hS.cell 3; go_simp; with_reducible rfl
  try simp only [Act.put, List.getElem_toArray, List.getElem_cons_zero, List.getElem_cons_succ, List.setIfInBounds_toArray, List.set_cons_zero, List.set_cons_succ]
  refine wpAnyH_take (i := 4) (v := ?v13) rfl (by kernel_rfl) (by kernel_rfl) (by kernel_rfl) (fun _ _ _ h => h) (Or.inl ⟨by rfl, ?h13⟩) hHeld ?r13
  case h13 => intro wq hS; go_simp; with_reducible rfl
  try simp only [Act.put, List.getElem_toArray, List.getElem_cons_zero, List.getElem_cons_succ, List.setIfInBounds_toArray, List.set_cons_zero, List.set_cons_succ]
  refine wpAnyH_take (i := 5) (v := ?v14) rfl (by kernel_rfl) (by kernel_rfl) (by kernel_rfl) (fun _ _ _ h => h) (Or.inl ⟨by rfl, ?h14⟩) hHeld ?r14
  case h14 => intro wq hS; have c0 : wq.cell? ⟨e3, 0, none⟩ = some (.int .i64 zr) := hS.cell 0; have c1 : wq.cell? ⟨e3, 1, none⟩ = some (.int .i64 zm) := hS.cell 1; have c2 : wq.cell? ⟨e3, 2, none⟩ = some (.int .i64 zl) := hS.cell 2; have c3 : wq.cell? ⟨e3, 3, none⟩ = some (.int .i64 zt) := hS.cell 3; go_simp; with_reducible rfl
  try simp only [Act.put, List.getElem_toArray, List.getElem_cons_zero, List.getElem_cons_succ, List.setIfInBounds_toArray, List.set_cons_zero, List.set_cons_succ]
  refine wpAnyH_take (i := 6) (v := ?v15) rfl (by kernel_rfl) (by kernel_rfl) (by kernel_rfl) (fun _ _ _ h => h) (Or.inl ⟨by rfl, ?h15⟩) hHeld ?r15
  case h15 => intro wq hS; go_simp; with_reducible rfl
  try simp only [Act.put, List.getElem_toArray, List.getElem_cons_zero, List.getElem_cons_succ, List.setIfInBounds_toArray, List.set_cons_zero, List.set_cons_succ]
  refine wpAnyH_take (i := 7) (v := ?v16) rfl (by kernel_rfl) (by kernel_rfl) (by kernel_rfl) (fun _ _ _ h => h) (Or.inl ⟨by rfl, ?h16⟩) hHeld ?r16
  case h16 => intro wq hS; go_simp; with_reducible rfl
  try simp only [Act.put, List.getElem_toArray, List.getElem_cons_zero, List.getElem_cons_succ, List.setIfInBounds_toArray, List.set_cons_zero, List.set_cons_succ]
  refine wpAnyH_take (i := 8) (v := ?v17) rfl (by kernel_rfl) (by kernel_rfl) (by kernel_rfl) (fun _ _ _ h => h) (Or.inl ⟨by rfl, ?h17⟩) hHeld ?r17
  case h17 => intro wq hS; have c0 : wq.cell? ⟨e3, 0, none⟩ = some (.int .i64 zr) := hS.cell 0; have c1 : wq.cell? ⟨e3, 1, none⟩ = some (.int .i64 zm) := hS.cell 1; have c2 : wq.cell? ⟨e3, 2, none⟩ = some (.int .i64 zl) := hS.cell 2; have c3 : wq.cell? ⟨e3, 3, none⟩ = some (.int .i64 zt) := hS.cell 3; go_simp; with_reducible rfl
  try simp only [Act.put, List.getElem_toArray, List.getElem_cons_zero, List.getElem_cons_succ, List.setIfInBounds_toArray, List.set_cons_zero, List.set_cons_succ]
  refine wpAnyH_take (i := 9) (v := ?v18) rfl (by kernel_rfl) (by kernel_rfl) (by kernel_rfl) (fun _ _ _ h => h) (Or.inl ⟨by rfl, ?h18⟩) hHeld ?r18
  case h18 => intro wq hS; go_simp; with_reducible rfl
  try simp only [Act.put, List.getElem_toArray, List.getElem_cons_zero, List.getElem_cons_succ, List.setIfInBounds_toArray, List.set_cons_zero, List.set_cons_succ]
  refine wpAnyH_take (i := 10) (v := ?v19) rfl (by kernel_rfl) (by kernel_rfl) (by kernel_rfl) (fun _ _ _ h => h) (Or.inl ⟨by rfl, ?h19⟩) hHeld ?r19
  case h19 => intro wq hS; go_simp; with_reducible rfl
  try simp only [Act.put, List.getElem_toArray, List.getElem_cons_zero, List.getElem_cons_succ, List.setIfInBounds_toArray, List.set_cons_zero, List.set_cons_succ]
  refine wpAnyH_take (i := 11) (v := ?v20) rfl (by kernel_rfl) (by kernel_rfl) (by kernel_rfl) (fun _ _ _ h => h) (Or.inl ⟨by rfl, ?h20⟩) hHeld ?r20
  case h20 => intro wq hS; have c0 : wq.cell? ⟨e3, 0, none⟩ = some (.int .i64 zr) := hS.cell 0; have c1 : wq.cell? ⟨e3, 1, none⟩ = some (.int .i64 zm) := hS.cell 1; have c2 : wq.cell? ⟨e3, 2, none⟩ = some (.int .i64 zl) := hS.cell 2; have c3 : wq.cell? ⟨e3, 3, none⟩ = some (.int .i64 zt) := hS.cell 3; go_simp; with_reducible rfl
  try simp only [Act.put, List.getElem_toArray, List.getElem_cons_zero, List.getElem_cons_succ, List.setIfInBounds_toArray, List.set_cons_zero, List.set_cons_succ]
  refine wpAnyH_take (i := 12) (v := ?v21) rfl (by kernel_rfl) (by kernel_rfl) (by kernel_rfl) (fun _ _ _ h => h) (Or.inl ⟨by rfl, ?h21⟩) hHeld ?r21
  case h21 => intro wq hS; go_simp; with_reducible rfl
  try simp only [Act.put, List.getElem_toArray, List.getElem_cons_zero, List.getElem_cons_succ, List.setIfInBounds_toArray, List.set_cons_zero, List.set_cons_succ]
  refine wpAnyH_ready (rs := [13]) (by kernel_rfl) (by simp) ?_
  refine AllReadyH.cons rfl (fun K hK => ?_) AllReadyH.nil
  go_simp
  refine hK.out _ _ ((hHeld.alloc _).drew) (fun hHeld => ?_)
  clear hK K
  try simp only [Act.put, List.getElem_toArray, List.getElem_cons_zero, List.getElem_cons_succ, List.setIfInBounds_toArray, List.set_cons_zero, List.set_cons_succ]
  have hgq : x3.grownBy ((x3.alloc (.cells #[.int .i64 zt, .int .i64 (IntKind.i64.wrap (zt + 1)), .int .i64 (IntKind.i64.wrap (zt + 7)), .int .i64 (IntKind.i64.wrap (zt - 1)), .int .i64 1000000000, .int .i64 (-1), .int .i64 1000000001] 3)).drew) (some c) := grown_draw (World.grownBy_alloc _ _ _)
  have hcq : Cur c c len ((x3.alloc (.cells #[.int .i64 zt, .int .i64 (IntKind.i64.wrap (zt + 1)), .int .i64 (IntKind.i64.wrap (zt + 7)), .int .i64 (IntKind.i64.wrap (zt - 1)), .int .i64 1000000000, .int .i64 (-1), .int .i64 1000000001] 3)).drew) := cur_drew (cur_alloc HC.out _ _)
  have HLIT := Lib.hid (show Blk ((x3.alloc (.cells #[.int .i64 zt, .int .i64 (IntKind.i64.wrap (zt + 1)), .int .i64 (IntKind.i64.wrap (zt + 7)), .int .i64 (IntKind.i64.wrap (zt - 1)), .int .i64 1000000000, .int .i64 (-1), .int .i64 1000000001] 3)).drew) x3.heap.size #[.int .i64 zt, .int .i64 (IntKind.i64.wrap (zt + 1)), .int .i64 (IntKind.i64.wrap (zt + 7)), .int .i64 (IntKind.i64.wrap (zt - 1)), .int .i64 1000000000, .int .i64 (-1), .int .i64 1000000001] 3 from (blk_new _ _ rfl).drew)
  have hlx : c < x3.heap.size := cur_lt HC.out
  have KZ := Lib.hid (blk_grown KZ.out hgq (by have := HLC.out; have := HLTKB.out; omega))
  have KB := Lib.hid (blk_grown KB.out hgq (by have := HLC.out; have := HLTKB.out; omega))
  have HB := Lib.hid (HB.out.grown hgq HB.out.size (fun k e => by cases e; have := HLC.out; have := HLTKB.out; omega)); have HC := Lib.hid hcq
  clear hgq hcq
  generalize (x3.alloc (.cells #[.int .i64 zt, .int .i64 (IntKind.i64.wrap (zt + 1)), .int .i64 (IntKind.i64.wrap (zt + 7)), .int .i64 (IntKind.i64.wrap (zt - 1)), .int .i64 1000000000, .int .i64 (-1), .int .i64 1000000001] 3)).drew = y0 at KZ KB HB HC HLIT hHeld ⊢
  refine wpAnyH_ready (rs := [14]) (by kernel_rfl) (by simp) ?_
  refine AllReadyH.cons rfl (fun K hK => ?_) AllReadyH.nil
  go_simp
  refine (pickInt_any c c len x3.heap.size 7 7 [zt, IntKind.i64.wrap (zt + 1), IntKind.i64.wrap (zt + 7), IntKind.i64.wrap (zt - 1), 1000000000, -1, 1000000001] (by decide) (by decide) _ hl HC.out (by omega) (fun i hi => by rw [HLIT.out.cell]; match i, hi with | 0, _ | 1, _ | 2, _ | 3, _ | 4, _ | 5, _ | 6, _ => rfl)).mono ?_
  rintro e y1 ⟨i, hiq, rfl, hcq, hgq⟩
  generalize [zt, IntKind.i64.wrap (zt + 1), IntKind.i64.wrap (zt + 7), IntKind.i64.wrap (zt - 1), 1000000000, -1, 1000000001].getD i (0 : Int) = q
  clear hiq i HLIT hlx
  have KZ := Lib.hid (blk_grown KZ.out hgq (by have := HLC.out; have := HLTKB.out; omega))
  have KB := Lib.hid (blk_grown KB.out hgq (by have := HLC.out; have := HLTKB.out; omega))
  have HB := Lib.hid (HB.out.grown hgq HB.out.size (fun k e => by cases e; have := HLC.out; have := HLTKB.out; omega)); have HC := Lib.hid hcq
  clear hgq hcq
  refine hK.out _ _ (KB.out) (fun hHeld => ?_)
  clear hK K
  try simp only [Act.put, List.getElem_toArray, List.getElem_cons_zero, List.getElem_cons_succ, List.setIfInBounds_toArray, List.set_cons_zero, List.set_cons_succ]
  refine wpAnyH_ready (rs := [15]) (by kernel_rfl) (by simp) ?_
  refine AllReadyH.cons rfl (fun K hK => ?_) AllReadyH.nil
  refine step_store_row rfl 25 (.tmp 2) (.tmp 10) rfl w.heap.size #[.int .i64 zr, .int .i64 zm, .int .i64 zl, .int .i64 zt] rfl rfl 25 #[.int .i64 0, .int .i64 0, .int .i64 0, .int .i64 0] KZ.out sizeBu rfl (by simp [Value.oneCell']) ?_
  refine hK.out _ _ (KB.out.rowOther (by have := HLC.out; have := HLTKB.out; omega) _) (fun hHeld => ?_)
  clear hK K
  try simp only [Act.put, List.getElem_toArray, List.getElem_cons_zero, List.getElem_cons_succ, List.setIfInBounds_toArray, List.set_cons_zero, List.set_cons_succ]
  refine wpAnyH_take (i := 16) (v := ?v22) rfl (by kernel_rfl) (by kernel_rfl) (by kernel_rfl) (fun _ _ _ h => h) (Or.inl ⟨by rfl, ?h22⟩) hHeld ?r22
  case h22 => intro wq hS; go_simp; with_reducible rfl
  try simp only [Act.put, List.getElem_toArray, List.getElem_cons_zero, List.getElem_cons_succ, List.setIfInBounds_toArray, List.set_cons_zero, List.set_cons_succ]
  refine wpAnyH_done (by kernel_rfl) ?_ _
  have KZ := Lib.hid (Blk.row (cs := #[.int .i64 zr, .int .i64 zm, .int .i64 zl, .int .i64 zt]) KZ.out); have KB := Lib.hid (KB.out.rowOther (g := w.heap.size) (by have := HLC.out; have := HLTKB.out; omega) #[.int .i64 zr, .int .i64 zm, .int .i64 zl, .int .i64 zt]); have HB := Lib.hid (Below.row HB.out (g := w.heap.size) (by have := HLC.out; have := HLTKB.out; omega) #[.int .i64 zr, .int .i64 zm, .int .i64 zl, .int .i64 zt])
  clear HC
  generalize y1.setRow (w.heap.size) #[.int .i64 zr, .int .i64 zm, .int .i64 zl, .int .i64 zt] = x4 at HB KZ KB ⊢
  clear hHeld
  have kz0 : x4.cell? ⟨w.heap.size, 0, none⟩ = some (.int .i64 zr) := KZ.out.cell 0
  have kz1 : x4.cell? ⟨w.heap.size, 1, none⟩ = some (.int .i64 zm) := KZ.out.cell 1
  have kz2 : x4.cell? ⟨w.heap.size, 2, none⟩ = some (.int .i64 zl) := KZ.out.cell 2
  have kz3 : x4.cell? ⟨w.heap.size, 3, none⟩ = some (.int .i64 zt) := KZ.out.cell 3
  have kzl : w.heap.size < x4.heap.size := KZ.out.lt
  go_wp2_with fail
  exact bodyPost_ret (v := .tuple #[.agg #[.int .i64 zr, .int .i64 zm, .int .i64 zl, .int .i64 zt], .int .i64 q]) (by simp [results, Try.results16, go_sem, kz0, kz1, kz2, kz3]) rfl ⟨⟨zr, zm, zl, zt⟩, q, rfl, HB.out⟩

set_option linter.unusedSimpArgs false in
set_option maxRecDepth 20000 in
set_option maxHeartbeats 4000000 in
theorem drawSpend_any (w : World) (a : Option Addr) (len cap : Nat) (zs : List Int) (hl : len ≤ 1048576) (hrow : IsRow .u8 w a len cap zs) (hlow : ∀ x, a = some x → 0 < cap → x.block < w.heap.size) :
    Calls Try.prog 10 #[.slice a len cap] w (DrewBu2 w) := by
  have hB : Below w.heap.size w (w.alloc (.cells #[.int .i64 0, .int .i64 0, .int .i64 0, .int .i64 0] 25)) := ((Below.refl _ _).alloc (by simp) _)
  have hKZ : Blk (w.alloc (.cells #[.int .i64 0, .int .i64 0, .int .i64 0, .int .i64 0] 25)) (w.heap.size) #[.int .i64 0, .int .i64 0, .int .i64 0, .int .i64 0] 25 := (blk_new _ _ (by simp))
  have HB := Lib.hid hB
  have KZ := Lib.hid hKZ
  clear hB hKZ 
  go_enter Try.func10, Try.ntmps10
  go_wp2_with fail
  have hsz : (w.alloc (.cells #[.int .i64 0, .int .i64 0, .int .i64 0, .int .i64 0] 25)).heap.size = w.heap.size + 1 := by simp
  have HLC := Lib.hid hsz
  clear hsz
  generalize w.alloc (.cells #[.int .i64 0, .int .i64 0, .int .i64 0, .int .i64 0] 25) = w0 at HB HLC KZ ⊢
  refine (new_any w0 a len cap zs hl (hrow.below hlow HB.out) (fun x hx hc => Nat.lt_of_lt_of_le (hlow x hx hc) HB.out.size)).mono ?_
  rintro e x1 ⟨rfl, hcq, hbq, hsq⟩
  have KZ := Lib.hid (KZ.out.after hbq)
  have HB := Lib.hid (HB.out.trans (hbq.mono HB.out.size)); have HC := Lib.hid hcq
  clear hbq hsq hcq hrow hlow
  generalize w0.heap.size = c at HC HLC ⊢
  go_wp2_with fail
  refine (any7_any c c len _ hl HC.out).mono ?_
  rintro e x2 ⟨⟨zr, zm, zl, zt⟩, rfl, hcq, hgq⟩
  have KZ := Lib.hid (blk_grown KZ.out hgq (by have := HLC.out; omega))
  have HB := Lib.hid (HB.out.grown hgq HB.out.size (fun k e => by cases e; have := HLC.out; omega)); have HC := Lib.hid hcq
  clear hgq hcq
  unfold Bu.val
  simp only
  have hgq : x2.grownBy (x2.alloc (.cells #[.int .i64 zr, .int .i64 zm, .int .i64 zl, .int .i64 zt] 25)) (some c) := World.grownBy_alloc _ _ _
  have hcq : Cur c c len (x2.alloc (.cells #[.int .i64 zr, .int .i64 zm, .int .i64 zl, .int .i64 zt] 25)) := cur_alloc HC.out _ _
  have hnq : Blk (x2.alloc (.cells #[.int .i64 zr, .int .i64 zm, .int .i64 zl, .int .i64 zt] 25)) x2.heap.size #[.int .i64 zr, .int .i64 zm, .int .i64 zl, .int .i64 zt] 25 := blk_new _ _ rfl
  have hle : w.heap.size ≤ x2.heap.size := HB.out.size
  have hlcq : c < x2.heap.size := cur_lt HC.out
  have hltKZ := KZ.out.lt
  have HLTKB := Lib.hid (And.intro hle (And.intro hlcq (And.intro hltKZ trivial)))
  have KZ := Lib.hid (blk_grown KZ.out hgq (by have := HLC.out; omega))
  have HB := Lib.hid (HB.out.grown hgq HB.out.size (fun k e => by cases e; have := HLC.out; omega)); have HC := Lib.hid hcq
  clear hgq hcq
  have KB := Lib.hid hnq
  clear hnq hle hlcq hltKZ
  have HSKB := Lib.hid (show (x2.alloc (.cells #[.int .i64 zr, .int .i64 zm, .int .i64 zl, .int .i64 zt] 25)).heap.size = x2.heap.size + 1 by simp)
  have kz0 : (x2.alloc (.cells #[.int .i64 zr, .int .i64 zm, .int .i64 zl, .int .i64 zt] 25)).cell? ⟨w.heap.size, 0, none⟩ = some (.int .i64 0) := KZ.out.cell 0
  have kz1 : (x2.alloc (.cells #[.int .i64 zr, .int .i64 zm, .int .i64 zl, .int .i64 zt] 25)).cell? ⟨w.heap.size, 1, none⟩ = some (.int .i64 0) := KZ.out.cell 1
  have kz2 : (x2.alloc (.cells #[.int .i64 zr, .int .i64 zm, .int .i64 zl, .int .i64 zt] 25)).cell? ⟨w.heap.size, 2, none⟩ = some (.int .i64 0) := KZ.out.cell 2
  have kz3 : (x2.alloc (.cells #[.int .i64 zr, .int .i64 zm, .int .i64 zl, .int .i64 zt] 25)).cell? ⟨w.heap.size, 3, none⟩ = some (.int .i64 0) := KZ.out.cell 3
  have kzl : w.heap.size < (x2.alloc (.cells #[.int .i64 zr, .int .i64 zm, .int .i64 zl, .int .i64 zt] 25)).heap.size := KZ.out.lt
  have kb0 : (x2.alloc (.cells #[.int .i64 zr, .int .i64 zm, .int .i64 zl, .int .i64 zt] 25)).cell? ⟨x2.heap.size, 0, none⟩ = some (.int .i64 zr) := KB.out.cell 0
  have kb1 : (x2.alloc (.cells #[.int .i64 zr, .int .i64 zm, .int .i64 zl, .int .i64 zt] 25)).cell? ⟨x2.heap.size, 1, none⟩ = some (.int .i64 zm) := KB.out.cell 1
  have kb2 : (x2.alloc (.cells #[.int .i64 zr, .int .i64 zm, .int .i64 zl, .int .i64 zt] 25)).cell? ⟨x2.heap.size, 2, none⟩ = some (.int .i64 zl) := KB.out.cell 2
  have kb3 : (x2.alloc (.cells #[.int .i64 zr, .int .i64 zm, .int .i64 zl, .int .i64 zt] 25)).cell? ⟨x2.heap.size, 3, none⟩ = some (.int .i64 zt) := KB.out.cell 3
  have kbl : x2.heap.size < (x2.alloc (.cells #[.int .i64 zr, .int .i64 zm, .int .i64 zl, .int .i64 zt] 25)).heap.size := KB.out.lt
  go_wp2_with fail
  clear kz0 kz1 kz2 kz3 kzl kb0 kb1 kb2 kb3 kbl
  generalize x2.alloc (.cells #[.int .i64 zr, .int .i64 zm, .int .i64 zl, .int .i64 zt] 25) = x3 at KZ KB HC HB HSKB ⊢
  generalize x2.heap.size = e3 at KB HLTKB HSKB ⊢
  refine (pickInt_any c c len _ 5 5 [zt, wrap64 (zt + 1), wrap64 (zt + 7), wrap64 (zt - 1), 1000000000] (by decide) (by decide) _ hl (cur_alloc HC.out _ _) (by have := cur_lt HC.out; have := HLC.out; have := HLTKB.out; omega) ?_).mono ?_
  · intro i hi
    first | rw [World.cell?_alloc_at (hn := rfl)] | rw [World.cell?_alloc_at (hn := by simp)] | rw [World.cell?_alloc_at (hn := HSKB.out.symm)]
    match i, hi with
    | 0, _ | 1, _ | 2, _ | 3, _ | 4, _ => rfl
  rintro e x4 ⟨i, hip, rfl, hcq, hgq⟩
  generalize [zt, wrap64 (zt + 1), wrap64 (zt + 7), wrap64 (zt - 1), 1000000000].getD i (0 : Int) = p
  clear hip i
  have hgq := grown_trans (World.grownBy_alloc _ _ _) hgq
  have KZ := Lib.hid (blk_grown KZ.out hgq (by have := HLC.out; have := HLTKB.out; omega))
  have KB := Lib.hid (blk_grown KB.out hgq (by have := HLC.out; have := HLTKB.out; omega))
  have HB := Lib.hid (HB.out.grown hgq HB.out.size (fun k e => by cases e; have := HLC.out; have := HLTKB.out; omega)); have HC := Lib.hid hcq
  clear hgq hcq
  go_wp2_with fail
  refine wp_region_held_drew (S := fun w' => Blk w' e3 #[.int .i64 zr, .int .i64 zm, .int .i64 zl, .int .i64 zt] 25) (by kernel_rfl) (KB.out) (fun hHeld => ?_)
  refine wpAnyH_take (i := 0) (v := ?v23) rfl (by kernel_rfl) (by kernel_rfl) (by kernel_rfl) (fun _ _ _ h => h) (Or.inl ⟨by rfl, ?h23⟩) hHeld ?r23
  case h23 => intro wq hS; have c0 : wq.cell? ⟨e3, 0, none⟩ = some (.int .i64 zr) := hS.cell 0; have c1 : wq.cell? ⟨e3, 1, none⟩ = some (.int .i64 zm) := hS.cell 1; have c2 : wq.cell? ⟨e3, 2, none⟩ = some (.int .i64 zl) := hS.cell 2; have c3 : wq.cell? ⟨e3, 3, none⟩ = some (.int .i64 zt) := hS.cell 3; go_simp; with_reducible rfl
  try simp only [Act.put, List.getElem_toArray, List.getElem_cons_zero, List.getElem_cons_succ, List.setIfInBounds_toArray, List.set_cons_zero, List.set_cons_succ]
  refine wpAnyH_take (i := 1) (v := ?v24) rfl (by kernel_rfl) (by kernel_rfl) (by kernel_rfl) (fun _ _ _ h => h) (Or.inl ⟨by rfl, ?h24⟩) hHeld ?r24
  case h24 => intro wq hS; go_simp; with_reducible rfl
  try simp only [Act.put, List.getElem_toArray, List.getElem_cons_zero, List.getElem_cons_succ, List.setIfInBounds_toArray, List.set_cons_zero, List.set_cons_succ]
  refine wpAnyH_take (i := 2) (v := ?v25) rfl (by kernel_rfl) (by kernel_rfl) (by kernel_rfl) (fun _ _ _ h => h) (Or.inl ⟨by rfl, ?h25⟩) hHeld ?r25
  case h25 => intro wq hS; go_simp; with_reducible rfl
  try simp only [Act.put, List.getElem_toArray, List.getElem_cons_zero, List.getElem_cons_succ, List.setIfInBounds_toArray, List.set_cons_zero, List.set_cons_succ]
  refine wpAnyH_take (i := 3) (v := ?v26) rfl (by kernel_rfl) (by kernel_rfl) (by kernel_rfl) (fun _ _ _ h => h) (Or.inl ⟨by rfl, ?h26⟩) hHeld ?r26
  case h26 => intro wq hS; go_simp; with_reducible rfl
  try simp only [Act.put, List.getElem_toArray, List.getElem_cons_zero, List.getElem_cons_succ, List.setIfInBounds_toArray, List.set_cons_zero, List.set_cons_succ]
  refine wpAnyH_take (i := 4) (v := ?v27) rfl (by kernel_rfl) (by kernel_rfl) (by kernel_rfl) (fun _ _ _ h => h) (Or.inl ⟨by rfl, ?h27⟩) hHeld ?r27
  case h27 => intro wq hS; have c0 : wq.cell? ⟨e3, 0, none⟩ = some (.int .i64 zr) := hS.cell 0; have c1 : wq.cell? ⟨e3, 1, none⟩ = some (.int .i64 zm) := hS.cell 1; have c2 : wq.cell? ⟨e3, 2, none⟩ = some (.int .i64 zl) := hS.cell 2; have c3 : wq.cell? ⟨e3, 3, none⟩ = some (.int .i64 zt) := hS.cell 3; go_simp; with_reducible rfl
  try simp only [Act.put, List.getElem_toArray, List.getElem_cons_zero, List.getElem_cons_succ, List.setIfInBounds_toArray, List.set_cons_zero, List.set_cons_succ]
  refine wpAnyH_take (i := 5) (v := ?v28) rfl (by kernel_rfl) (by kernel_rfl) (by kernel_rfl) (fun _ _ _ h => h) (Or.inl ⟨by rfl, ?h28⟩) hHeld ?r28
  case h28 => intro wq hS; go_simp; with_reducible rfl
  try simp only [Act.put, List.getElem_toArray, List.getElem_cons_zero, List.getElem_cons_succ, List.setIfInBounds_toArray, List.set_cons_zero, List.set_cons_succ]
  refine wpAnyH_take (i := 6) (v := ?v29) rfl (by kernel_rfl) (by kernel_rfl) (by kernel_rfl) (fun _ _ _ h => h) (Or.inl ⟨by rfl, ?h29⟩) hHeld ?r29
  case h29 => intro wq hS; have c0 : wq.cell? ⟨e3, 0, none⟩ = some (.int .i64 zr) := hS.cell 0; have c1 : wq.cell? ⟨e3, 1, none⟩ = some (.int .i64 zm) := hS.cell 1; have c2 : wq.cell? ⟨e3, 2, none⟩ = some (.int .i64 zl) := hS.cell 2; have c3 : wq.cell? ⟨e3, 3, none⟩ = some (.int .i64 zt) := hS.cell 3; go_simp; with_reducible rfl
  try simp only [Act.put, List.getElem_toArray, List.getElem_cons_zero, List.getElem_cons_succ, List.setIfInBounds_toArray, List.set_cons_zero, List.set_cons_succ]
  refine wpAnyH_take (i := 7) (v := ?v30) rfl (by kernel_rfl) (by kernel_rfl) (by kernel_rfl) (fun _ _ _ h => h) (Or.inl ⟨by rfl, ?h30⟩) hHeld ?r30
  case h30 => intro wq hS; go_simp; with_reducible rfl
  try simp only [Act.put, List.getElem_toArray, List.getElem_cons_zero, List.getElem_cons_succ, List.setIfInBounds_toArray, List.set_cons_zero, List.set_cons_succ]
  refine wpAnyH_take (i := 8) (v := ?v31) rfl (by kernel_rfl) (by kernel_rfl) (by kernel_rfl) (fun _ _ _ h => h) (Or.inl ⟨by rfl, ?h31⟩) hHeld ?r31
  case h31 => intro wq hS; go_simp; with_reducible rfl
  try simp only [Act.put, List.getElem_toArray, List.getElem_cons_zero, List.getElem_cons_succ, List.setIfInBounds_toArray, List.set_cons_zero, List.set_cons_succ]
  refine wpAnyH_take (i := 9) (v := ?v32) rfl (by kernel_rfl) (by kernel_rfl) (by kernel_rfl) (fun _ _ _ h => h) (Or.inl ⟨by rfl, ?h32⟩) hHeld ?r32
  case h32 => intro wq hS; have c0 : wq.cell? ⟨e3, 0, none⟩ = some (.int .i64 zr) := hS.cell 0; have c1 : wq.cell? ⟨e3, 1, none⟩ = some (.int .i64 zm) := hS.cell 1; have c2 : wq.cell? ⟨e3, 2, none⟩ = some (.int .i64 zl) := hS.cell 2; have c3 : wq.cell? ⟨e3, 3, none⟩ = some (.int .i64 zt) := hS.cell 3; go_simp; with_reducible rfl
  try simp only [Act.put, List.getElem_toArray, List.getElem_cons_zero, List.getElem_cons_succ, List.setIfInBounds_toArray, List.set_cons_zero, List.set_cons_succ]
  refine wpAnyH_ready (rs := [10]) (by kernel_rfl) (by simp) ?_
  refine AllReadyH.cons rfl (fun K hK => ?_) AllReadyH.nil
  go_simp
  refine hK.out _ _ ((hHeld.alloc _).drew) (fun hHeld => ?_)
  clear hK K
  try simp only [Act.put, List.getElem_toArray, List.getElem_cons_zero, List.getElem_cons_succ, List.setIfInBounds_toArray, List.set_cons_zero, List.set_cons_succ]
  have hgq : x4.grownBy ((x4.alloc (.cells #[.int .i64 0, .int .i64 1, .int .i64 10, .int .i64 zl, .int .i64 (IntKind.i64.wrap (zl + 1)), .int .i64 zm, .int .i64 (-1), .int .i64 9223372036854775807] 3)).drew) (some c) := grown_draw (World.grownBy_alloc _ _ _)
  have hcq : Cur c c len ((x4.alloc (.cells #[.int .i64 0, .int .i64 1, .int .i64 10, .int .i64 zl, .int .i64 (IntKind.i64.wrap (zl + 1)), .int .i64 zm, .int .i64 (-1), .int .i64 9223372036854775807] 3)).drew) := cur_drew (cur_alloc HC.out _ _)
  have HLIT := Lib.hid (show Blk ((x4.alloc (.cells #[.int .i64 0, .int .i64 1, .int .i64 10, .int .i64 zl, .int .i64 (IntKind.i64.wrap (zl + 1)), .int .i64 zm, .int .i64 (-1), .int .i64 9223372036854775807] 3)).drew) x4.heap.size #[.int .i64 0, .int .i64 1, .int .i64 10, .int .i64 zl, .int .i64 (IntKind.i64.wrap (zl + 1)), .int .i64 zm, .int .i64 (-1), .int .i64 9223372036854775807] 3 from (blk_new _ _ rfl).drew)
  have hlx : c < x4.heap.size := cur_lt HC.out
  have KZ := Lib.hid (blk_grown KZ.out hgq (by have := HLC.out; have := HLTKB.out; omega))
  have KB := Lib.hid (blk_grown KB.out hgq (by have := HLC.out; have := HLTKB.out; omega))
  have HB := Lib.hid (HB.out.grown hgq HB.out.size (fun k e => by cases e; have := HLC.out; have := HLTKB.out; omega)); have HC := Lib.hid hcq
  clear hgq hcq
  generalize (x4.alloc (.cells #[.int .i64 0, .int .i64 1, .int .i64 10, .int .i64 zl, .int .i64 (IntKind.i64.wrap (zl + 1)), .int .i64 zm, .int .i64 (-1), .int .i64 9223372036854775807] 3)).drew = y0 at KZ KB HB HC HLIT hHeld ⊢
  refine wpAnyH_ready (rs := [11]) (by kernel_rfl) (by simp) ?_
  refine AllReadyH.cons rfl (fun K hK => ?_) AllReadyH.nil
  go_simp
  refine (pickInt_any c c len x4.heap.size 8 8 [0, 1, 10, zl, IntKind.i64.wrap (zl + 1), zm, -1, 9223372036854775807] (by decide) (by decide) _ hl HC.out (by omega) (fun i hi => by rw [HLIT.out.cell]; match i, hi with | 0, _ | 1, _ | 2, _ | 3, _ | 4, _ | 5, _ | 6, _ | 7, _ => rfl)).mono ?_
  rintro e y1 ⟨i, hiq, rfl, hcq, hgq⟩
  generalize [0, 1, 10, zl, IntKind.i64.wrap (zl + 1), zm, -1, 9223372036854775807].getD i (0 : Int) = q
  clear hiq i HLIT hlx
  have KZ := Lib.hid (blk_grown KZ.out hgq (by have := HLC.out; have := HLTKB.out; omega))
  have KB := Lib.hid (blk_grown KB.out hgq (by have := HLC.out; have := HLTKB.out; omega))
  have HB := Lib.hid (HB.out.grown hgq HB.out.size (fun k e => by cases e; have := HLC.out; have := HLTKB.out; omega)); have HC := Lib.hid hcq
  clear hgq hcq
  refine hK.out _ _ (KB.out) (fun hHeld => ?_)
  clear hK K
  try simp only [Act.put, List.getElem_toArray, List.getElem_cons_zero, List.getElem_cons_succ, List.setIfInBounds_toArray, List.set_cons_zero, List.set_cons_succ]
  refine wpAnyH_ready (rs := [12]) (by kernel_rfl) (by simp) ?_
  refine AllReadyH.cons rfl (fun K hK => ?_) AllReadyH.nil
  refine step_store_row rfl 25 (.tmp 2) (.tmp 26) rfl w.heap.size #[.int .i64 zr, .int .i64 zm, .int .i64 zl, .int .i64 zt] rfl rfl 25 #[.int .i64 0, .int .i64 0, .int .i64 0, .int .i64 0] KZ.out sizeBu rfl (by simp [Value.oneCell']) ?_
  refine hK.out _ _ (KB.out.rowOther (by have := HLC.out; have := HLTKB.out; omega) _) (fun hHeld => ?_)
  clear hK K
  try simp only [Act.put, List.getElem_toArray, List.getElem_cons_zero, List.getElem_cons_succ, List.setIfInBounds_toArray, List.set_cons_zero, List.set_cons_succ]
  refine wpAnyH_take (i := 13) (v := ?v33) rfl (by kernel_rfl) (by kernel_rfl) (by kernel_rfl) (fun _ _ _ h => h) (Or.inl ⟨by rfl, ?h33⟩) hHeld ?r33
  case h33 => intro wq hS; go_simp; with_reducible rfl
  try simp only [Act.put, List.getElem_toArray, List.getElem_cons_zero, List.getElem_cons_succ, List.setIfInBounds_toArray, List.set_cons_zero, List.set_cons_succ]
  refine wpAnyH_take (i := 14) (v := ?v34) rfl (by kernel_rfl) (by kernel_rfl) (by kernel_rfl) (fun _ _ _ h => h) (Or.inl ⟨by rfl, ?h34⟩) hHeld ?r34
  case h34 => intro wq hS; go_simp; with_reducible rfl
  try simp only [Act.put, List.getElem_toArray, List.getElem_cons_zero, List.getElem_cons_succ, List.setIfInBounds_toArray, List.set_cons_zero, List.set_cons_succ]
  refine wpAnyH_done (by kernel_rfl) ?_ _
  have KZ := Lib.hid (Blk.row (cs := #[.int .i64 zr, .int .i64 zm, .int .i64 zl, .int .i64 zt]) KZ.out); have KB := Lib.hid (KB.out.rowOther (g := w.heap.size) (by have := HLC.out; have := HLTKB.out; omega) #[.int .i64 zr, .int .i64 zm, .int .i64 zl, .int .i64 zt]); have HB := Lib.hid (Below.row HB.out (g := w.heap.size) (by have := HLC.out; have := HLTKB.out; omega) #[.int .i64 zr, .int .i64 zm, .int .i64 zl, .int .i64 zt])
  clear HC
  generalize y1.setRow (w.heap.size) #[.int .i64 zr, .int .i64 zm, .int .i64 zl, .int .i64 zt] = x5 at HB KZ KB ⊢
  clear hHeld
  have kz0 : x5.cell? ⟨w.heap.size, 0, none⟩ = some (.int .i64 zr) := KZ.out.cell 0
  have kz1 : x5.cell? ⟨w.heap.size, 1, none⟩ = some (.int .i64 zm) := KZ.out.cell 1
  have kz2 : x5.cell? ⟨w.heap.size, 2, none⟩ = some (.int .i64 zl) := KZ.out.cell 2
  have kz3 : x5.cell? ⟨w.heap.size, 3, none⟩ = some (.int .i64 zt) := KZ.out.cell 3
  have kzl : w.heap.size < x5.heap.size := KZ.out.lt
  go_wp2_with fail
  exact bodyPost_ret (v := .tuple #[.agg #[.int .i64 zr, .int .i64 zm, .int .i64 zl, .int .i64 zt], .int .i64 p, .int .i64 q]) (by simp [results, Try.results10, go_sem, kz0, kz1, kz2, kz3]) rfl ⟨⟨zr, zm, zl, zt⟩, p, q, rfl, HB.out⟩
end Go.Proofs.Ytjpimcckpbpahaa
