/- The drawn inputs of FnThrough. -/
import Derived.Test.YtbcpfciegamaeaaDoorDrVc
namespace Go.Proofs.YtbcpfciegamaeaaDoor
open Go.RowKit

def DrewVc3 (w : World) (e : Ending) (w' : World) : Prop := ∃ (v : Vc) (x y z : Int), e = .returned (.tuple #[v.val, .int .i64 x, .int .i64 y, .int .i64 z]) ∧ v.fit ∧ y ≤ 9223372036854775807 ∧ Below w.heap.size w w'
def DrewN2 (w : World) (e : Ending) (w' : World) : Prop := ∃ (x y : Int), e = .returned (.tuple #[.int .i64 x, .int .i64 y]) ∧ Below w.heap.size w w'
set_option linter.unusedVariables false in
set_option linter.unusedSimpArgs false in
set_option maxRecDepth 20000 in
set_option maxHeartbeats 4000000 in
theorem drawThrough_any (w : World) (a : Option Addr) (len cap : Nat) (zs : List Int) (hl : len ≤ 1048576) (hrow : IsRow .u8 w a len cap zs) (hlow : ∀ x, a = some x → 0 < cap → x.block < w.heap.size) :
    Calls Tryd.prog 6 #[.slice a len cap] w (DrewVc3 w) := by
  have hB : Below w.heap.size w (w.alloc (.cells #[.int .i64 0, .int .i64 0, .int .i64 0, .int .i64 0] 25)) := ((Below.refl _ _).alloc (by simp) _)
  have hKZ : Blk (w.alloc (.cells #[.int .i64 0, .int .i64 0, .int .i64 0, .int .i64 0] 25)) (w.heap.size) #[.int .i64 0, .int .i64 0, .int .i64 0, .int .i64 0] 25 := (blk_new _ _ (by simp))
  have HB := Lib.hid hB
  have KZ := Lib.hid hKZ
  clear hB hKZ 
  go_enter Tryd.func6, Tryd.ntmps6
  go_wp2_with fail
  have hsz : (w.alloc (.cells #[.int .i64 0, .int .i64 0, .int .i64 0, .int .i64 0] 25)).heap.size = w.heap.size + 1 := by simp
  have HLC := Lib.hid hsz
  clear hsz
  generalize w.alloc (.cells #[.int .i64 0, .int .i64 0, .int .i64 0, .int .i64 0] 25) = w0 at HB HLC KZ ⊢
  refine (new_any w0 a len cap zs hl (hrow.below hlow HB.out) (fun x hx hc => Nat.lt_of_lt_of_le (hlow x hx hc) HB.out.size)).mono ?_
  rintro e x1 ⟨rfl, hcq, hbq, hsq⟩
  have KZ := Lib.hid (KZ.out.after hbq)
  have HB := Lib.hid (HB.out.trans (hbq.mono HB.out.size)); have HC := Lib.hid hcq
  clear hbq hsq hcq hrow hlow
  generalize w0.heap.size = c at HC HLC ⊢
  go_wp2_with fail
  refine (any8_any c c len _ hl HC.out).mono ?_
  rintro e x2 ⟨⟨zr, zc, zb, zp⟩, rfl, hft, hcq, hgq⟩
  have KZ := Lib.hid (blk_grown KZ.out hgq (by have := HLC.out; omega))
  have HB := Lib.hid (HB.out.grown hgq HB.out.size (fun k e => by cases e; have := HLC.out; omega)); have HC := Lib.hid hcq
  clear hgq hcq
  have HF := Lib.hid (show zr ≤ 9223372036854775807 ∧ zb ≤ 9223372036854775807 from hft)
  clear hft
  unfold Vc.val
  simp only
  have hgq : x2.grownBy (x2.alloc (.cells #[.int .i64 zr, .int .i64 zc, .int .i64 zb, .int .i64 zp] 25)) (some c) := World.grownBy_alloc _ _ _
  have hcq : Cur c c len (x2.alloc (.cells #[.int .i64 zr, .int .i64 zc, .int .i64 zb, .int .i64 zp] 25)) := cur_alloc HC.out _ _
  have hnq : Blk (x2.alloc (.cells #[.int .i64 zr, .int .i64 zc, .int .i64 zb, .int .i64 zp] 25)) x2.heap.size #[.int .i64 zr, .int .i64 zc, .int .i64 zb, .int .i64 zp] 25 := blk_new _ _ rfl
  have hle : w.heap.size ≤ x2.heap.size := HB.out.size
  have hlcq : c < x2.heap.size := cur_lt HC.out
  have hltKZ := KZ.out.lt
  have HLTKB := Lib.hid (And.intro hle (And.intro hlcq (And.intro hltKZ trivial)))
  have KZ := Lib.hid (blk_grown KZ.out hgq (by have := HLC.out; omega))
  have HB := Lib.hid (HB.out.grown hgq HB.out.size (fun k e => by cases e; have := HLC.out; omega)); have HC := Lib.hid hcq
  clear hgq hcq
  have KB := Lib.hid hnq
  clear hnq hle hlcq hltKZ
  have HSKB := Lib.hid (show (x2.alloc (.cells #[.int .i64 zr, .int .i64 zc, .int .i64 zb, .int .i64 zp] 25)).heap.size = x2.heap.size + 1 by simp)
  have kz0 : (x2.alloc (.cells #[.int .i64 zr, .int .i64 zc, .int .i64 zb, .int .i64 zp] 25)).cell? ⟨w.heap.size, 0, none⟩ = some (.int .i64 0) := KZ.out.cell 0
  have kz1 : (x2.alloc (.cells #[.int .i64 zr, .int .i64 zc, .int .i64 zb, .int .i64 zp] 25)).cell? ⟨w.heap.size, 1, none⟩ = some (.int .i64 0) := KZ.out.cell 1
  have kz2 : (x2.alloc (.cells #[.int .i64 zr, .int .i64 zc, .int .i64 zb, .int .i64 zp] 25)).cell? ⟨w.heap.size, 2, none⟩ = some (.int .i64 0) := KZ.out.cell 2
  have kz3 : (x2.alloc (.cells #[.int .i64 zr, .int .i64 zc, .int .i64 zb, .int .i64 zp] 25)).cell? ⟨w.heap.size, 3, none⟩ = some (.int .i64 0) := KZ.out.cell 3
  have kzl : w.heap.size < (x2.alloc (.cells #[.int .i64 zr, .int .i64 zc, .int .i64 zb, .int .i64 zp] 25)).heap.size := KZ.out.lt
  have kb0 : (x2.alloc (.cells #[.int .i64 zr, .int .i64 zc, .int .i64 zb, .int .i64 zp] 25)).cell? ⟨x2.heap.size, 0, none⟩ = some (.int .i64 zr) := KB.out.cell 0
  have kb1 : (x2.alloc (.cells #[.int .i64 zr, .int .i64 zc, .int .i64 zb, .int .i64 zp] 25)).cell? ⟨x2.heap.size, 1, none⟩ = some (.int .i64 zc) := KB.out.cell 1
  have kb2 : (x2.alloc (.cells #[.int .i64 zr, .int .i64 zc, .int .i64 zb, .int .i64 zp] 25)).cell? ⟨x2.heap.size, 2, none⟩ = some (.int .i64 zb) := KB.out.cell 2
  have kb3 : (x2.alloc (.cells #[.int .i64 zr, .int .i64 zc, .int .i64 zb, .int .i64 zp] 25)).cell? ⟨x2.heap.size, 3, none⟩ = some (.int .i64 zp) := KB.out.cell 3
  have kbl : x2.heap.size < (x2.alloc (.cells #[.int .i64 zr, .int .i64 zc, .int .i64 zb, .int .i64 zp] 25)).heap.size := KB.out.lt
  go_wp2_with fail
  clear kz0 kz1 kz2 kz3 kzl kb0 kb1 kb2 kb3 kbl
  generalize x2.alloc (.cells #[.int .i64 zr, .int .i64 zc, .int .i64 zb, .int .i64 zp] 25) = x3 at KZ KB HC HB HSKB ⊢
  generalize x2.heap.size = e3 at KB HLTKB HSKB ⊢
  refine (pickInt_any c c len _ 8 8 [1, 4, 19, 0, -1, 200000000, 200000001, 9223372036854775807] (by decide) (by decide) _ hl (cur_alloc HC.out _ _) (by have := cur_lt HC.out; have := HLC.out; have := HLTKB.out; omega) ?_).mono ?_
  · intro i hi
    first | rw [World.cell?_alloc_at (hn := rfl)] | rw [World.cell?_alloc_at (hn := by simp)] | rw [World.cell?_alloc_at (hn := HSKB.out.symm)]
    match i, hi with
    | 0, _ | 1, _ | 2, _ | 3, _ | 4, _ | 5, _ | 6, _ | 7, _ => rfl
  rintro e x4 ⟨i, hik, rfl, hcq, hgq⟩
  generalize [1, 4, 19, 0, -1, 200000000, 200000001, 9223372036854775807].getD i (0 : Int) = k
  clear hik i
  have hgq := grown_trans (World.grownBy_alloc _ _ _) hgq
  have KZ := Lib.hid (blk_grown KZ.out hgq (by have := HLC.out; have := HLTKB.out; omega))
  have KB := Lib.hid (blk_grown KB.out hgq (by have := HLC.out; have := HLTKB.out; omega))
  have HB := Lib.hid (HB.out.grown hgq HB.out.size (fun k e => by cases e; have := HLC.out; have := HLTKB.out; omega)); have HC := Lib.hid hcq
  clear hgq hcq
  go_wp2_with fail
  refine (bridge_any c c len _ hl HC.out).mono ?_
  rintro e x5 ⟨b, rfl, hbt, hcq, hgq⟩
  have KZ := Lib.hid (blk_grown KZ.out hgq (by have := HLC.out; have := HLTKB.out; omega))
  have KB := Lib.hid (blk_grown KB.out hgq (by have := HLC.out; have := HLTKB.out; omega))
  have HB := Lib.hid (HB.out.grown hgq HB.out.size (fun k e => by cases e; have := HLC.out; have := HLTKB.out; omega)); have HC := Lib.hid hcq
  clear hgq hcq
  have HBT := Lib.hid hbt
  clear hbt
  go_wp2_with fail
  refine wp_region_held_drew (S := fun w' => Blk w' e3 #[.int .i64 zr, .int .i64 zc, .int .i64 zb, .int .i64 zp] 25) (by kernel_rfl) (KB.out) (fun hHeld => ?_)
  refine wpAnyH_take (i := 0) (v := ?v7) rfl (by kernel_rfl) (by kernel_rfl) (by kernel_rfl) (fun _ _ _ h => h) (Or.inl ⟨by rfl, ?h7⟩) hHeld ?r7
  case h7 => intro wq hS; have c0 : wq.cell? ⟨e3, 0, none⟩ = some (.int .i64 zr) := hS.cell 0; have c1 : wq.cell? ⟨e3, 1, none⟩ = some (.int .i64 zc) := hS.cell 1; have c2 : wq.cell? ⟨e3, 2, none⟩ = some (.int .i64 zb) := hS.cell 2; have c3 : wq.cell? ⟨e3, 3, none⟩ = some (.int .i64 zp) := hS.cell 3; go_simp; with_reducible rfl
  try simp only [Act.put, List.getElem_toArray, List.getElem_cons_zero, List.getElem_cons_succ, List.setIfInBounds_toArray, List.set_cons_zero, List.set_cons_succ]
  refine wpAnyH_take (i := 1) (v := ?v8) rfl (by kernel_rfl) (by kernel_rfl) (by kernel_rfl) (fun _ _ _ h => h) (Or.inl ⟨by rfl, ?h8⟩) hHeld ?r8
  case h8 => intro wq hS; go_simp; with_reducible rfl
  try simp only [Act.put, List.getElem_toArray, List.getElem_cons_zero, List.getElem_cons_succ, List.setIfInBounds_toArray, List.set_cons_zero, List.set_cons_succ]
  refine wpAnyH_take (i := 2) (v := ?v9) rfl (by kernel_rfl) (by kernel_rfl) (by kernel_rfl) (fun _ _ _ h => h) (Or.inl ⟨by rfl, ?h9⟩) hHeld ?r9
  case h9 => intro wq hS; go_simp; with_reducible rfl
  try simp only [Act.put, List.getElem_toArray, List.getElem_cons_zero, List.getElem_cons_succ, List.setIfInBounds_toArray, List.set_cons_zero, List.set_cons_succ]
  refine wpAnyH_take (i := 3) (v := ?v10) rfl (by kernel_rfl) (by kernel_rfl) (by kernel_rfl) (fun _ _ _ h => h) (Or.inl ⟨by rfl, ?h10⟩) hHeld ?r10
  case h10 => intro wq hS; go_simp; with_reducible rfl
  try simp only [Act.put, List.getElem_toArray, List.getElem_cons_zero, List.getElem_cons_succ, List.setIfInBounds_toArray, List.set_cons_zero, List.set_cons_succ]
  refine wpAnyH_ready (rs := [4]) (by kernel_rfl) (by simp) ?_
  refine AllReadyH.cons rfl (fun K hK => ?_) AllReadyH.nil
  go_simp
  refine hK.out _ _ ((hHeld.alloc _).drew) (fun hHeld => ?_)
  clear hK K
  try simp only [Act.put, List.getElem_toArray, List.getElem_cons_zero, List.getElem_cons_succ, List.setIfInBounds_toArray, List.set_cons_zero, List.set_cons_succ]
  have hgq : x5.grownBy ((x5.alloc (.cells #[.int .i64 1, .int .i64 2, .int .i64 16, .int .i64 17, .int .i64 0] 3)).drew) (some c) := grown_draw (World.grownBy_alloc _ _ _)
  have hcq : Cur c c len ((x5.alloc (.cells #[.int .i64 1, .int .i64 2, .int .i64 16, .int .i64 17, .int .i64 0] 3)).drew) := cur_drew (cur_alloc HC.out _ _)
  have HLIT := Lib.hid (show Blk ((x5.alloc (.cells #[.int .i64 1, .int .i64 2, .int .i64 16, .int .i64 17, .int .i64 0] 3)).drew) x5.heap.size #[.int .i64 1, .int .i64 2, .int .i64 16, .int .i64 17, .int .i64 0] 3 from (blk_new _ _ rfl).drew)
  have hlx : c < x5.heap.size := cur_lt HC.out
  have KZ := Lib.hid (blk_grown KZ.out hgq (by have := HLC.out; have := HLTKB.out; omega))
  have KB := Lib.hid (blk_grown KB.out hgq (by have := HLC.out; have := HLTKB.out; omega))
  have HB := Lib.hid (HB.out.grown hgq HB.out.size (fun k e => by cases e; have := HLC.out; have := HLTKB.out; omega)); have HC := Lib.hid hcq
  clear hgq hcq
  generalize (x5.alloc (.cells #[.int .i64 1, .int .i64 2, .int .i64 16, .int .i64 17, .int .i64 0] 3)).drew = y0 at KZ KB HB HC HLIT hHeld ⊢
  refine wpAnyH_ready (rs := [5]) (by kernel_rfl) (by simp) ?_
  refine AllReadyH.cons rfl (fun K hK => ?_) AllReadyH.nil
  go_simp
  refine (pickInt_any c c len x5.heap.size 5 5 [1, 2, 16, 17, 0] (by decide) (by decide) _ hl HC.out (by omega) (fun i hi => by rw [HLIT.out.cell]; match i, hi with | 0, _ | 1, _ | 2, _ | 3, _ | 4, _ => rfl)).mono ?_
  rintro e y1 ⟨i, hiq, rfl, hcq, hgq⟩
  generalize [1, 2, 16, 17, 0].getD i (0 : Int) = q
  clear hiq i HLIT hlx
  have KZ := Lib.hid (blk_grown KZ.out hgq (by have := HLC.out; have := HLTKB.out; omega))
  have KB := Lib.hid (blk_grown KB.out hgq (by have := HLC.out; have := HLTKB.out; omega))
  have HB := Lib.hid (HB.out.grown hgq HB.out.size (fun k e => by cases e; have := HLC.out; have := HLTKB.out; omega)); have HC := Lib.hid hcq
  clear hgq hcq
  refine hK.out _ _ (KB.out) (fun hHeld => ?_)
  clear hK K
  try simp only [Act.put, List.getElem_toArray, List.getElem_cons_zero, List.getElem_cons_succ, List.setIfInBounds_toArray, List.set_cons_zero, List.set_cons_succ]
  refine wpAnyH_ready (rs := [6]) (by kernel_rfl) (by simp) ?_
  refine AllReadyH.cons rfl (fun K hK => ?_) AllReadyH.nil
  refine step_store_row rfl 25 (.tmp 2) (.tmp 19) rfl (w.heap.size) #[.int .i64 zr, .int .i64 zc, .int .i64 zb, .int .i64 zp] rfl rfl 25 #[.int .i64 0, .int .i64 0, .int .i64 0, .int .i64 0] KZ.out sizeVc rfl (by simp [Value.oneCell']) ?_
  refine hK.out _ _ (KB.out.rowOther (by have := HLC.out; have := HLTKB.out; omega) _) (fun hHeld => ?_)
  clear hK K
  try simp only [Act.put, List.getElem_toArray, List.getElem_cons_zero, List.getElem_cons_succ, List.setIfInBounds_toArray, List.set_cons_zero, List.set_cons_succ]
  refine wpAnyH_take (i := 7) (v := ?v11) rfl (by kernel_rfl) (by kernel_rfl) (by kernel_rfl) (fun _ _ _ h => h) (Or.inl ⟨by rfl, ?h11⟩) hHeld ?r11
  case h11 => intro wq hS; go_simp; with_reducible rfl
  try simp only [Act.put, List.getElem_toArray, List.getElem_cons_zero, List.getElem_cons_succ, List.setIfInBounds_toArray, List.set_cons_zero, List.set_cons_succ]
  refine wpAnyH_take (i := 8) (v := ?v12) rfl (by kernel_rfl) (by kernel_rfl) (by kernel_rfl) (fun _ _ _ h => h) (Or.inl ⟨by rfl, ?h12⟩) hHeld ?r12
  case h12 => intro wq hS; go_simp; with_reducible rfl
  try simp only [Act.put, List.getElem_toArray, List.getElem_cons_zero, List.getElem_cons_succ, List.setIfInBounds_toArray, List.set_cons_zero, List.set_cons_succ]
  refine wpAnyH_take (i := 9) (v := ?v13) rfl (by kernel_rfl) (by kernel_rfl) (by kernel_rfl) (fun _ _ _ h => h) (Or.inl ⟨by rfl, ?h13⟩) hHeld ?r13
  case h13 => intro wq hS; go_simp; with_reducible rfl
  try simp only [Act.put, List.getElem_toArray, List.getElem_cons_zero, List.getElem_cons_succ, List.setIfInBounds_toArray, List.set_cons_zero, List.set_cons_succ]
  refine wpAnyH_done (by kernel_rfl) ?_ _
  have KZ := Lib.hid (Blk.row (cs := #[.int .i64 zr, .int .i64 zc, .int .i64 zb, .int .i64 zp]) KZ.out); have KB := Lib.hid (KB.out.rowOther (g := w.heap.size) (by have := HLC.out; have := HLTKB.out; omega) #[.int .i64 zr, .int .i64 zc, .int .i64 zb, .int .i64 zp]); have HB := Lib.hid (Below.row HB.out (g := w.heap.size) (by have := HLC.out; have := HLTKB.out; omega) #[.int .i64 zr, .int .i64 zc, .int .i64 zb, .int .i64 zp])
  clear HC
  generalize y1.setRow (w.heap.size) #[.int .i64 zr, .int .i64 zc, .int .i64 zb, .int .i64 zp] = x6 at HB KZ KB ⊢
  clear hHeld
  have kz0 : x6.cell? ⟨w.heap.size, 0, none⟩ = some (.int .i64 zr) := KZ.out.cell 0
  have kz1 : x6.cell? ⟨w.heap.size, 1, none⟩ = some (.int .i64 zc) := KZ.out.cell 1
  have kz2 : x6.cell? ⟨w.heap.size, 2, none⟩ = some (.int .i64 zb) := KZ.out.cell 2
  have kz3 : x6.cell? ⟨w.heap.size, 3, none⟩ = some (.int .i64 zp) := KZ.out.cell 3
  have kzl : w.heap.size < x6.heap.size := KZ.out.lt
  go_wp2_with fail
  exact bodyPost_ret (v := .tuple #[.agg #[.int .i64 zr, .int .i64 zc, .int .i64 zb, .int .i64 zp], .int .i64 k, .int .i64 b, .int .i64 q]) (by simp [results, Tryd.results6, go_sem, kz0, kz1, kz2, kz3]) rfl ⟨⟨zr, zc, zb, zp⟩, k, b, q, rfl, HF.out, HBT.out, HB.out⟩

set_option linter.unusedVariables false in
set_option linter.unusedSimpArgs false in
set_option maxRecDepth 20000 in
set_option maxHeartbeats 4000000 in
theorem drawId_any (w : World) (a : Option Addr) (len cap : Nat) (zs : List Int) (hl : len ≤ 1048576) (hrow : IsRow .u8 w a len cap zs) (hlow : ∀ x, a = some x → 0 < cap → x.block < w.heap.size) :
    Calls Tryd.prog 9 #[.slice a len cap] w (DrewN2 w) := by
  have hB : Below w.heap.size w w := (Below.refl _ _)
  have HB := Lib.hid hB
  clear hB  
  go_enter Tryd.func9, Tryd.ntmps9
  go_wp2_with fail
  have HLC := Lib.hid (show w.heap.size = w.heap.size + 0 from rfl)
  refine (new_any w a len cap zs hl (hrow.below hlow HB.out) (fun x hx hc => Nat.lt_of_lt_of_le (hlow x hx hc) HB.out.size)).mono ?_
  rintro e x1 ⟨rfl, hcq, hbq, hsq⟩
  have HB := Lib.hid (HB.out.trans (hbq.mono HB.out.size)); have HC := Lib.hid hcq
  clear hbq hsq hcq hrow hlow
  go_wp2_with fail
  refine (pickInt_any w.heap.size w.heap.size len _ 5 5 [0, 8, 15, 16, -1] (by decide) (by decide) _ hl (cur_alloc HC.out _ _) (by have := cur_lt HC.out; have := HLC.out; omega) ?_).mono ?_
  · intro i hi
    first | rw [World.cell?_alloc_at (hn := rfl)] | rw [World.cell?_alloc_at (hn := by simp)]
    match i, hi with
    | 0, _ | 1, _ | 2, _ | 3, _ | 4, _ => rfl
  rintro e x2 ⟨i, hir, rfl, hcq, hgq⟩
  generalize [0, 8, 15, 16, -1].getD i (0 : Int) = r
  clear hir i
  have hgq := grown_trans (World.grownBy_alloc _ _ _) hgq
  have HB := Lib.hid (HB.out.grown hgq HB.out.size (fun k e => by cases e; have := HLC.out; omega)); have HC := Lib.hid hcq
  clear hgq hcq
  go_wp2_with fail
  refine (any2_any w.heap.size w.heap.size len _ hl HC.out).mono ?_
  rintro e x3 ⟨m, rfl, _, _, hcq, hgq⟩
  have HB := Lib.hid (HB.out.grown hgq HB.out.size (fun k e => by cases e; have := HLC.out; omega)); have HC := Lib.hid hcq
  clear hgq hcq
  go_wp2_with fail
  exact bodyPost_ret (v := .tuple #[.int .i64 r, .int .i64 m]) (by simp [results, Tryd.results9, go_sem]) rfl ⟨r, m, rfl, HB.out⟩
end Go.Proofs.YtbcpfciegamaeaaDoor
