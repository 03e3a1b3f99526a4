/- The drawn vectors. -/
import Derived.Test.YtbcpfciegamaeaaDrB
import Derived.Test.YtbcpfciegamaeaaVc
import Derived.Deep.RegionHeld3
namespace Go.Proofs.Ytbcpfciegamaeaa
open Go.RowKit

/-- a vector is drawn; a number is -/
def DrawnVc (B c len : Nat) (w : World) (e : Ending) (w' : World) : Prop := ∃ b : Vc, e = .returned b.val ∧ b.fit ∧ Cur B c len w' ∧ w.grownBy w' (some c)
def DrawnN (B c len : Nat) (w : World) (e : Ending) (w' : World) : Prop := ∃ x : Int, e = .returned (.int .i64 x) ∧ x ≤ 9223372036854775807 ∧ Cur B c len w' ∧ w.grownBy w' (some c)
def DrewVc2 (w : World) (e : Ending) (w' : World) : Prop := ∃ a b : Vc, e = .returned (.tuple #[a.val, b.val]) ∧ Below w.heap.size w w'
set_option linter.unusedVariables false in
set_option linter.unusedSimpArgs false in
set_option maxRecDepth 20000 in
set_option maxHeartbeats 4000000 in
theorem bridge_any (B c len : Nat) (w : World) (hl : len ≤ 1048576) (hc : Cur B c len w) : Calls Try.prog 42 #[.pointer (some ⟨c, 0, none⟩)] w (DrawnN B c len w) := by
  have hC : Cur B c len w := hc
  have hG : w.grownBy w (some c) := (World.grownBy.refl w (some c))
  have hlc := cur_lt hc
  have HC := Lib.hid hC; have HG := Lib.hid hG; have HLC := Lib.hid hlc
  clear hC hG hlc hc  
  go_enter Try.func42, Try.ntmps42
  go_wp2_with fail
  refine (pickInt_any B c len _ 6 6 [8, 8, 8, 0, 15, 4] (by decide) (by decide) _ hl (cur_alloc HC.out _ _) (by have := cur_lt HC.out; have := HLC.out; omega) ?_).mono ?_
  · intro i hi
    first | rw [World.cell?_alloc_at (hn := rfl)] | rw [World.cell?_alloc_at (hn := by simp)]
    match i, hi with
    | 0, _ | 1, _ | 2, _ | 3, _ | 4, _ | 5, _ => rfl
  rintro e x1 ⟨i, hir, rfl, hcq, hgq⟩
  generalize [8, 8, 8, 0, 15, 4].getD i (0 : Int) = r
  clear hir i
  have hgq := grown_trans (World.grownBy_alloc _ _ _) hgq
  have HG := Lib.hid (grown_trans HG.out hgq); have HC := Lib.hid hcq
  clear hgq hcq
  go_wp2_with fail
  refine (pickInt_any B c len _ 5 5 [2199023255553, 2199023255554, 2199023255555, 2199023255556, 0] (by decide) (by decide) _ hl (cur_alloc HC.out _ _) (by have := cur_lt HC.out; have := HLC.out; omega) ?_).mono ?_
  · intro i hi
    first | rw [World.cell?_alloc_at (hn := rfl)] | rw [World.cell?_alloc_at (hn := by simp)]
    match i, hi with
    | 0, _ | 1, _ | 2, _ | 3, _ | 4, _ => rfl
  rintro e x2 ⟨i, him, rfl, hcq, hgq⟩
  generalize [2199023255553, 2199023255554, 2199023255555, 2199023255556, 0].getD i (0 : Int) = m
  clear him i
  have hgq := grown_trans (World.grownBy_alloc _ _ _) hgq
  have HG := Lib.hid (grown_trans HG.out hgq); have HC := Lib.hid hcq
  clear hgq hcq
  go_wp2_with fail
  refine (id_spec r m _).mono ?_
  rintro e ww ⟨rfl, rfl⟩
  go_wp2_with fail
  go_ret
  exact ⟨_, rfl, idOf_top _ _, HC.out, HG.out⟩

set_option linter.unusedVariables false in
set_option linter.unusedSimpArgs false in
set_option maxRecDepth 20000 in
set_option maxHeartbeats 4000000 in
theorem make8_any (B c len : Nat) (w : World) (hl : len ≤ 1048576) (hc : Cur B c len w) : Calls Try.prog 29 #[.pointer (some ⟨c, 0, none⟩)] w (DrawnVc B c len w) := by
  have hC : Cur B c len (w.alloc (.cells #[.int .i64 0, .int .i64 0, .int .i64 0, .int .i64 0] 25)) := (cur_alloc hc _ _)
  have hG : w.grownBy (w.alloc (.cells #[.int .i64 0, .int .i64 0, .int .i64 0, .int .i64 0] 25)) (some c) := (grown_new (World.grownBy.refl w (some c)) _)
  have hlc := cur_lt hc
  have hKZ : Blk (w.alloc (.cells #[.int .i64 0, .int .i64 0, .int .i64 0, .int .i64 0] 25)) (w.heap.size) #[.int .i64 0, .int .i64 0, .int .i64 0, .int .i64 0] 25 := (blk_new _ _ (by simp))
  have HC := Lib.hid hC; have HG := Lib.hid hG; have HLC := Lib.hid hlc
  have KZ := Lib.hid hKZ
  clear hC hG hlc hc hKZ 
  go_enter Try.func29, Try.ntmps29
  go_wp2_with fail
  refine (bridge_any B c len _ hl HC.out).mono ?_
  rintro e x1 ⟨r, rfl, hrt, hcq, hgq⟩
  have KZ := Lib.hid (blk_grown KZ.out hgq (by have := HLC.out; omega))
  have HG := Lib.hid (grown_trans HG.out hgq); have HC := Lib.hid hcq
  clear hgq hcq
  have HRT := Lib.hid hrt
  clear hrt
  go_wp2_with fail
  refine (pickInt_any B c len _ 5 5 [0, 4, 19, 20000, 200000000] (by decide) (by decide) _ hl (cur_alloc HC.out _ _) (by have := cur_lt HC.out; have := HLC.out; omega) ?_).mono ?_
  · intro i hi
    first | rw [World.cell?_alloc_at (hn := rfl)] | rw [World.cell?_alloc_at (hn := by simp)]
    match i, hi with
    | 0, _ | 1, _ | 2, _ | 3, _ | 4, _ => rfl
  rintro e x2 ⟨i, hik, rfl, hcq, hgq⟩
  generalize [0, 4, 19, 20000, 200000000].getD i (0 : Int) = k
  clear hik i
  have hgq := grown_trans (World.grownBy_alloc _ _ _) hgq
  have KZ := Lib.hid (blk_grown KZ.out hgq (by have := HLC.out; omega))
  have HG := Lib.hid (grown_trans HG.out hgq); have HC := Lib.hid hcq
  clear hgq hcq
  go_wp2_with fail
  refine (bridge_any B c len _ hl HC.out).mono ?_
  rintro e x3 ⟨b, rfl, hbt, hcq, hgq⟩
  have KZ := Lib.hid (blk_grown KZ.out hgq (by have := HLC.out; omega))
  have HG := Lib.hid (grown_trans HG.out hgq); have HC := Lib.hid hcq
  clear hgq hcq
  have HBT := Lib.hid hbt
  clear hbt
  go_wp2_with fail
  refine (below_any B c len 3 (by decide) (by decide) _ hl HC.out).mono ?_
  rintro e x4 ⟨q, rfl, _, _, hcq, hgq⟩
  have KZ := Lib.hid (blk_grown KZ.out hgq (by have := HLC.out; omega))
  have HG := Lib.hid (grown_trans HG.out hgq); have HC := Lib.hid hcq
  clear hgq hcq
  have kz0 : x4.cell? ⟨w.heap.size, 0, none⟩ = some (.int .i64 0) := KZ.out.cell 0
  have kz1 : x4.cell? ⟨w.heap.size, 1, none⟩ = some (.int .i64 0) := KZ.out.cell 1
  have kz2 : x4.cell? ⟨w.heap.size, 2, none⟩ = some (.int .i64 0) := KZ.out.cell 2
  have kz3 : x4.cell? ⟨w.heap.size, 3, none⟩ = some (.int .i64 0) := KZ.out.cell 3
  have kzl : w.heap.size < x4.heap.size := KZ.out.lt
  go_wp2_with (with_reducible refine store_here (ty := 25) rfl ?_)
  refine halt_go ?_
  clear kz0 kz1 kz2 kz3 kzl
  refine wpList_store_row rfl 25 _ _ rfl (w.heap.size) #[.int .i64 r, .int .i64 k, .int .i64 b, .int .i64 (1 + q)] rfl rfl 25 #[.int .i64 0, .int .i64 0, .int .i64 0, .int .i64 0] KZ.out sizeVc rfl (by simp [Value.oneCell']) ?_
  have KZ := Lib.hid (Blk.row (cs := #[.int .i64 r, .int .i64 k, .int .i64 b, .int .i64 (1 + q)]) KZ.out); have HG := Lib.hid (grown_row HG.out (b := w.heap.size) (by have := HLC.out; omega) #[.int .i64 r, .int .i64 k, .int .i64 b, .int .i64 (1 + q)]); have HC := Lib.hid (cur_row HC.out (b := w.heap.size) (by have := HLC.out; omega) #[.int .i64 r, .int .i64 k, .int .i64 b, .int .i64 (1 + q)])
  generalize x4.setRow (w.heap.size) #[.int .i64 r, .int .i64 k, .int .i64 b, .int .i64 (1 + q)] = x5 at HG HC KZ ⊢
  have kz0 : x5.cell? ⟨w.heap.size, 0, none⟩ = some (.int .i64 r) := KZ.out.cell 0
  have kz1 : x5.cell? ⟨w.heap.size, 1, none⟩ = some (.int .i64 k) := KZ.out.cell 1
  have kz2 : x5.cell? ⟨w.heap.size, 2, none⟩ = some (.int .i64 b) := KZ.out.cell 2
  have kz3 : x5.cell? ⟨w.heap.size, 3, none⟩ = some (.int .i64 (1 + q)) := KZ.out.cell 3
  have kzl : w.heap.size < x5.heap.size := KZ.out.lt
  go_wp2_with fail
  exact bodyPost_ret (v := .agg #[.int .i64 r, .int .i64 k, .int .i64 b, .int .i64 (1 + q)]) (by simp [results, Try.results29, go_sem, kz0, kz1, kz2, kz3]) rfl ⟨⟨r, k, b, 1 + q⟩, rfl, ⟨HRT.out, HBT.out⟩, HC.out, HG.out⟩

set_option linter.unusedVariables false in
set_option linter.unusedSimpArgs false in
set_option maxRecDepth 20000 in
set_option maxHeartbeats 4000000 in
theorem any8_any (B c len : Nat) (w : World) (hl : len ≤ 1048576) (hc : Cur B c len w) : Calls Try.prog 34 #[.pointer (some ⟨c, 0, none⟩)] w (DrawnVc B c len w) := by
  have hC : Cur B c len (w.alloc (.cells #[.int .i64 0, .int .i64 0, .int .i64 0, .int .i64 0] 25)) := (cur_alloc hc _ _)
  have hG : w.grownBy (w.alloc (.cells #[.int .i64 0, .int .i64 0, .int .i64 0, .int .i64 0] 25)) (some c) := (grown_new (World.grownBy.refl w (some c)) _)
  have hlc := cur_lt hc
  have hKZ : Blk (w.alloc (.cells #[.int .i64 0, .int .i64 0, .int .i64 0, .int .i64 0] 25)) (w.heap.size) #[.int .i64 0, .int .i64 0, .int .i64 0, .int .i64 0] 25 := (blk_new _ _ (by simp))
  have HC := Lib.hid hC; have HG := Lib.hid hG; have HLC := Lib.hid hlc
  have KZ := Lib.hid hKZ
  clear hC hG hlc hc hKZ 
  go_enter Try.func34, Try.ntmps34
  go_wp2_with fail
  refine (make8_any B c len _ hl HC.out).mono ?_
  rintro e x1 ⟨⟨zr, zc, zb, zp⟩, rfl, hft, hcq, hgq⟩
  have KZ := Lib.hid (blk_grown KZ.out hgq (by have := HLC.out; omega))
  have HG := Lib.hid (grown_trans HG.out hgq); have HC := Lib.hid hcq
  clear hgq hcq
  have HF := Lib.hid (show zr ≤ 9223372036854775807 ∧ zb ≤ 9223372036854775807 from hft)
  clear hft
  unfold Vc.val
  simp only
  have hgq : x1.grownBy (x1.alloc (.cells #[.int .i64 zr, .int .i64 zc, .int .i64 zb, .int .i64 zp] 25)) (some c) := World.grownBy_alloc _ _ _
  have hcq : Cur B c len (x1.alloc (.cells #[.int .i64 zr, .int .i64 zc, .int .i64 zb, .int .i64 zp] 25)) := cur_alloc HC.out _ _
  have hnq : Blk (x1.alloc (.cells #[.int .i64 zr, .int .i64 zc, .int .i64 zb, .int .i64 zp] 25)) x1.heap.size #[.int .i64 zr, .int .i64 zc, .int .i64 zb, .int .i64 zp] 25 := blk_new _ _ rfl
  have hle : w.heap.size ≤ x1.heap.size := HG.out.size
  have hlcq : c < x1.heap.size := cur_lt HC.out
  have hltKZ := KZ.out.lt
  have HLTKB := Lib.hid (And.intro hle (And.intro hlcq (And.intro hltKZ trivial)))
  have KZ := Lib.hid (blk_grown KZ.out hgq (by have := HLC.out; omega))
  have HG := Lib.hid (grown_trans HG.out hgq); have HC := Lib.hid hcq
  clear hgq hcq
  have KB := Lib.hid hnq
  clear hnq hle hlcq hltKZ
  have HSKB := Lib.hid (show (x1.alloc (.cells #[.int .i64 zr, .int .i64 zc, .int .i64 zb, .int .i64 zp] 25)).heap.size = x1.heap.size + 1 by simp)
  have kz0 : (x1.alloc (.cells #[.int .i64 zr, .int .i64 zc, .int .i64 zb, .int .i64 zp] 25)).cell? ⟨w.heap.size, 0, none⟩ = some (.int .i64 0) := KZ.out.cell 0
  have kz1 : (x1.alloc (.cells #[.int .i64 zr, .int .i64 zc, .int .i64 zb, .int .i64 zp] 25)).cell? ⟨w.heap.size, 1, none⟩ = some (.int .i64 0) := KZ.out.cell 1
  have kz2 : (x1.alloc (.cells #[.int .i64 zr, .int .i64 zc, .int .i64 zb, .int .i64 zp] 25)).cell? ⟨w.heap.size, 2, none⟩ = some (.int .i64 0) := KZ.out.cell 2
  have kz3 : (x1.alloc (.cells #[.int .i64 zr, .int .i64 zc, .int .i64 zb, .int .i64 zp] 25)).cell? ⟨w.heap.size, 3, none⟩ = some (.int .i64 0) := KZ.out.cell 3
  have kzl : w.heap.size < (x1.alloc (.cells #[.int .i64 zr, .int .i64 zc, .int .i64 zb, .int .i64 zp] 25)).heap.size := KZ.out.lt
  have kb0 : (x1.alloc (.cells #[.int .i64 zr, .int .i64 zc, .int .i64 zb, .int .i64 zp] 25)).cell? ⟨x1.heap.size, 0, none⟩ = some (.int .i64 zr) := KB.out.cell 0
  have kb1 : (x1.alloc (.cells #[.int .i64 zr, .int .i64 zc, .int .i64 zb, .int .i64 zp] 25)).cell? ⟨x1.heap.size, 1, none⟩ = some (.int .i64 zc) := KB.out.cell 1
  have kb2 : (x1.alloc (.cells #[.int .i64 zr, .int .i64 zc, .int .i64 zb, .int .i64 zp] 25)).cell? ⟨x1.heap.size, 2, none⟩ = some (.int .i64 zb) := KB.out.cell 2
  have kb3 : (x1.alloc (.cells #[.int .i64 zr, .int .i64 zc, .int .i64 zb, .int .i64 zp] 25)).cell? ⟨x1.heap.size, 3, none⟩ = some (.int .i64 zp) := KB.out.cell 3
  have kbl : x1.heap.size < (x1.alloc (.cells #[.int .i64 zr, .int .i64 zc, .int .i64 zb, .int .i64 zp] 25)).heap.size := KB.out.lt
  go_wp2_with fail
  clear kz0 kz1 kz2 kz3 kzl kb0 kb1 kb2 kb3 kbl
  generalize x1.alloc (.cells #[.int .i64 zr, .int .i64 zc, .int .i64 zb, .int .i64 zp] 25) = x2 at KZ KB HC HG HSKB ⊢
  generalize x1.heap.size = e2 at KB HLTKB HSKB ⊢
  refine (below_any B c len 14 (by decide) (by decide) _ hl HC.out).mono ?_
  rintro e x3 ⟨k, rfl, hk0, hk1, hcq, hgq⟩
  have KZ := Lib.hid (blk_grown KZ.out hgq (by have := HLC.out; have := HLTKB.out; omega))
  have KB := Lib.hid (blk_grown KB.out hgq (by have := HLC.out; have := HLTKB.out; omega))
  have HG := Lib.hid (grown_trans HG.out hgq); have HC := Lib.hid hcq
  clear hgq hcq
  have hk : k = 0 ∨ k = 1 ∨ k = 2 ∨ k = 3 ∨ 4 ≤ k := by omega
  rcases hk with rfl | rfl | rfl | rfl | hk4
  · go_wp2_with fail
    refine (int_any B c len _ hl HC.out).mono ?_
    rintro e x4 ⟨q, rfl, _, hqt, hcq, hgq⟩
    have KZ := Lib.hid (blk_grown KZ.out hgq (by have := HLC.out; have := HLTKB.out; omega))
    have KB := Lib.hid (blk_grown KB.out hgq (by have := HLC.out; have := HLTKB.out; omega))
    have HG := Lib.hid (grown_trans HG.out hgq); have HC := Lib.hid hcq
    clear hgq hcq
    have HQT := Lib.hid hqt
    clear hqt
    have kb0 : x4.cell? ⟨e2, 0, none⟩ = some (.int .i64 zr) := KB.out.cell 0
    have kb1 : x4.cell? ⟨e2, 1, none⟩ = some (.int .i64 zc) := KB.out.cell 1
    have kb2 : x4.cell? ⟨e2, 2, none⟩ = some (.int .i64 zb) := KB.out.cell 2
    have kb3 : x4.cell? ⟨e2, 3, none⟩ = some (.int .i64 zp) := KB.out.cell 3
    have kbl : e2 < x4.heap.size := KB.out.lt
    have kbf := KB.out.frozen
    have kby := KB.out.shape
    go_wp2_with (with_reducible refine store_here (ty := 25) rfl ?_)
    refine halt_go ?_
    clear kb0 kb1 kb2 kb3 kbl kbf kby
    have KZ := Lib.hid (KZ.out.other (j := 0) (g := e2) (by have := HLC.out; have := HLTKB.out; omega) (.int .i64 q)); have KB := Lib.hid (KB.out.set 0 (.int .i64 q)); have HG := Lib.hid (grown_store HG.out (j := 0) (b := e2) (by have := HLC.out; have := HLTKB.out; omega) (.int .i64 q)); have HC := Lib.hid (cur_store HC.out (j := 0) (b := e2) (by have := HLC.out; have := HLTKB.out; omega) (.int .i64 q))
    generalize x4.setCell ⟨e2, 0, none⟩ (.int .i64 q) = x5 at HG HC KZ KB ⊢
    refine wpList_store_row rfl 25 _ _ rfl (w.heap.size) #[.int .i64 q, .int .i64 zc, .int .i64 zb, .int .i64 zp] rfl rfl 25 #[.int .i64 0, .int .i64 0, .int .i64 0, .int .i64 0] KZ.out sizeVc rfl (by simp [Value.oneCell']) ?_
    have KZ := Lib.hid (Blk.row (cs := #[.int .i64 q, .int .i64 zc, .int .i64 zb, .int .i64 zp]) KZ.out); have KB := Lib.hid (KB.out.rowOther (g := w.heap.size) (by have := HLC.out; have := HLTKB.out; omega) #[.int .i64 q, .int .i64 zc, .int .i64 zb, .int .i64 zp]); have HG := Lib.hid (grown_row HG.out (b := w.heap.size) (by have := HLC.out; have := HLTKB.out; omega) #[.int .i64 q, .int .i64 zc, .int .i64 zb, .int .i64 zp]); have HC := Lib.hid (cur_row HC.out (b := w.heap.size) (by have := HLC.out; have := HLTKB.out; omega) #[.int .i64 q, .int .i64 zc, .int .i64 zb, .int .i64 zp])
    generalize x5.setRow (w.heap.size) #[.int .i64 q, .int .i64 zc, .int .i64 zb, .int .i64 zp] = x6 at HG HC KZ KB ⊢
    have kz0 : x6.cell? ⟨w.heap.size, 0, none⟩ = some (.int .i64 q) := KZ.out.cell 0
    have kz1 : x6.cell? ⟨w.heap.size, 1, none⟩ = some (.int .i64 zc) := KZ.out.cell 1
    have kz2 : x6.cell? ⟨w.heap.size, 2, none⟩ = some (.int .i64 zb) := KZ.out.cell 2
    have kz3 : x6.cell? ⟨w.heap.size, 3, none⟩ = some (.int .i64 zp) := KZ.out.cell 3
    have kzl : w.heap.size < x6.heap.size := KZ.out.lt
    go_wp2_with fail
    exact bodyPost_ret (v := .agg #[.int .i64 q, .int .i64 zc, .int .i64 zb, .int .i64 zp]) (by simp [results, Try.results34, go_sem, kz0, kz1, kz2, kz3]) rfl ⟨⟨q, zc, zb, zp⟩, rfl, ⟨HQT.out, HF.out.2⟩, HC.out, HG.out⟩
  · go_wp2_with fail
    refine (pickInt_any B c len _ 2 2 [-1, 200000001] (by decide) (by decide) _ hl (cur_alloc HC.out _ _) (by have := cur_lt HC.out; have := HLC.out; have := HLTKB.out; omega) ?_).mono ?_
    · intro i hi
      first | rw [World.cell?_alloc_at (hn := rfl)] | rw [World.cell?_alloc_at (hn := by simp)]
      match i, hi with
      | 0, _ | 1, _ => rfl
    rintro e x4 ⟨i, hiq, rfl, hcq, hgq⟩
    generalize [-1, 200000001].getD i (0 : Int) = q
    clear hiq i
    have hgq := grown_trans (World.grownBy_alloc _ _ _) hgq
    have KZ := Lib.hid (blk_grown KZ.out hgq (by have := HLC.out; have := HLTKB.out; omega))
    have KB := Lib.hid (blk_grown KB.out hgq (by have := HLC.out; have := HLTKB.out; omega))
    have HG := Lib.hid (grown_trans HG.out hgq); have HC := Lib.hid hcq
    clear hgq hcq
    have kb0 : x4.cell? ⟨e2, 0, none⟩ = some (.int .i64 zr) := KB.out.cell 0
    have kb1 : x4.cell? ⟨e2, 1, none⟩ = some (.int .i64 zc) := KB.out.cell 1
    have kb2 : x4.cell? ⟨e2, 2, none⟩ = some (.int .i64 zb) := KB.out.cell 2
    have kb3 : x4.cell? ⟨e2, 3, none⟩ = some (.int .i64 zp) := KB.out.cell 3
    have kbl : e2 < x4.heap.size := KB.out.lt
    have kbf := KB.out.frozen
    have kby := KB.out.shape
    go_wp2_with (with_reducible refine store_here (ty := 25) rfl ?_)
    refine halt_go ?_
    clear kb0 kb1 kb2 kb3 kbl kbf kby
    have KZ := Lib.hid (KZ.out.other (j := 1) (g := e2) (by have := HLC.out; have := HLTKB.out; omega) (.int .i64 q)); have KB := Lib.hid (KB.out.set 1 (.int .i64 q)); have HG := Lib.hid (grown_store HG.out (j := 1) (b := e2) (by have := HLC.out; have := HLTKB.out; omega) (.int .i64 q)); have HC := Lib.hid (cur_store HC.out (j := 1) (b := e2) (by have := HLC.out; have := HLTKB.out; omega) (.int .i64 q))
    generalize x4.setCell ⟨e2, 1, none⟩ (.int .i64 q) = x5 at HG HC KZ KB ⊢
    refine wpList_store_row rfl 25 _ _ rfl (w.heap.size) #[.int .i64 zr, .int .i64 q, .int .i64 zb, .int .i64 zp] rfl rfl 25 #[.int .i64 0, .int .i64 0, .int .i64 0, .int .i64 0] KZ.out sizeVc rfl (by simp [Value.oneCell']) ?_
    have KZ := Lib.hid (Blk.row (cs := #[.int .i64 zr, .int .i64 q, .int .i64 zb, .int .i64 zp]) KZ.out); have KB := Lib.hid (KB.out.rowOther (g := w.heap.size) (by have := HLC.out; have := HLTKB.out; omega) #[.int .i64 zr, .int .i64 q, .int .i64 zb, .int .i64 zp]); have HG := Lib.hid (grown_row HG.out (b := w.heap.size) (by have := HLC.out; have := HLTKB.out; omega) #[.int .i64 zr, .int .i64 q, .int .i64 zb, .int .i64 zp]); have HC := Lib.hid (cur_row HC.out (b := w.heap.size) (by have := HLC.out; have := HLTKB.out; omega) #[.int .i64 zr, .int .i64 q, .int .i64 zb, .int .i64 zp])
    generalize x5.setRow (w.heap.size) #[.int .i64 zr, .int .i64 q, .int .i64 zb, .int .i64 zp] = x6 at HG HC KZ KB ⊢
    have kz0 : x6.cell? ⟨w.heap.size, 0, none⟩ = some (.int .i64 zr) := KZ.out.cell 0
    have kz1 : x6.cell? ⟨w.heap.size, 1, none⟩ = some (.int .i64 q) := KZ.out.cell 1
    have kz2 : x6.cell? ⟨w.heap.size, 2, none⟩ = some (.int .i64 zb) := KZ.out.cell 2
    have kz3 : x6.cell? ⟨w.heap.size, 3, none⟩ = some (.int .i64 zp) := KZ.out.cell 3
    have kzl : w.heap.size < x6.heap.size := KZ.out.lt
    go_wp2_with fail
    exact bodyPost_ret (v := .agg #[.int .i64 zr, .int .i64 q, .int .i64 zb, .int .i64 zp]) (by simp [results, Try.results34, go_sem, kz0, kz1, kz2, kz3]) rfl ⟨⟨zr, q, zb, zp⟩, rfl, HF.out, HC.out, HG.out⟩
  · go_wp2_with fail
    refine (pickInt_any B c len _ 3 3 [0, 16, 17] (by decide) (by decide) _ hl (cur_alloc HC.out _ _) (by have := cur_lt HC.out; have := HLC.out; have := HLTKB.out; omega) ?_).mono ?_
    · intro i hi
      first | rw [World.cell?_alloc_at (hn := rfl)] | rw [World.cell?_alloc_at (hn := by simp)]
      match i, hi with
      | 0, _ | 1, _ | 2, _ => rfl
    rintro e x4 ⟨i, hiq, rfl, hcq, hgq⟩
    generalize [0, 16, 17].getD i (0 : Int) = q
    clear hiq i
    have hgq := grown_trans (World.grownBy_alloc _ _ _) hgq
    have KZ := Lib.hid (blk_grown KZ.out hgq (by have := HLC.out; have := HLTKB.out; omega))
    have KB := Lib.hid (blk_grown KB.out hgq (by have := HLC.out; have := HLTKB.out; omega))
    have HG := Lib.hid (grown_trans HG.out hgq); have HC := Lib.hid hcq
    clear hgq hcq
    have kb0 : x4.cell? ⟨e2, 0, none⟩ = some (.int .i64 zr) := KB.out.cell 0
    have kb1 : x4.cell? ⟨e2, 1, none⟩ = some (.int .i64 zc) := KB.out.cell 1
    have kb2 : x4.cell? ⟨e2, 2, none⟩ = some (.int .i64 zb) := KB.out.cell 2
    have kb3 : x4.cell? ⟨e2, 3, none⟩ = some (.int .i64 zp) := KB.out.cell 3
    have kbl : e2 < x4.heap.size := KB.out.lt
    have kbf := KB.out.frozen
    have kby := KB.out.shape
    go_wp2_with (with_reducible refine store_here (ty := 25) rfl ?_)
    refine halt_go ?_
    clear kb0 kb1 kb2 kb3 kbl kbf kby
    have KZ := Lib.hid (KZ.out.other (j := 3) (g := e2) (by have := HLC.out; have := HLTKB.out; omega) (.int .i64 q)); have KB := Lib.hid (KB.out.set 3 (.int .i64 q)); have HG := Lib.hid (grown_store HG.out (j := 3) (b := e2) (by have := HLC.out; have := HLTKB.out; omega) (.int .i64 q)); have HC := Lib.hid (cur_store HC.out (j := 3) (b := e2) (by have := HLC.out; have := HLTKB.out; omega) (.int .i64 q))
    generalize x4.setCell ⟨e2, 3, none⟩ (.int .i64 q) = x5 at HG HC KZ KB ⊢
    refine wpList_store_row rfl 25 _ _ rfl (w.heap.size) #[.int .i64 zr, .int .i64 zc, .int .i64 zb, .int .i64 q] rfl rfl 25 #[.int .i64 0, .int .i64 0, .int .i64 0, .int .i64 0] KZ.out sizeVc rfl (by simp [Value.oneCell']) ?_
    have KZ := Lib.hid (Blk.row (cs := #[.int .i64 zr, .int .i64 zc, .int .i64 zb, .int .i64 q]) KZ.out); have KB := Lib.hid (KB.out.rowOther (g := w.heap.size) (by have := HLC.out; have := HLTKB.out; omega) #[.int .i64 zr, .int .i64 zc, .int .i64 zb, .int .i64 q]); have HG := Lib.hid (grown_row HG.out (b := w.heap.size) (by have := HLC.out; have := HLTKB.out; omega) #[.int .i64 zr, .int .i64 zc, .int .i64 zb, .int .i64 q]); have HC := Lib.hid (cur_row HC.out (b := w.heap.size) (by have := HLC.out; have := HLTKB.out; omega) #[.int .i64 zr, .int .i64 zc, .int .i64 zb, .int .i64 q])
    generalize x5.setRow (w.heap.size) #[.int .i64 zr, .int .i64 zc, .int .i64 zb, .int .i64 q] = x6 at HG HC KZ KB ⊢
    have kz0 : x6.cell? ⟨w.heap.size, 0, none⟩ = some (.int .i64 zr) := KZ.out.cell 0
    have kz1 : x6.cell? ⟨w.heap.size, 1, none⟩ = some (.int .i64 zc) := KZ.out.cell 1
    have kz2 : x6.cell? ⟨w.heap.size, 2, none⟩ = some (.int .i64 zb) := KZ.out.cell 2
    have kz3 : x6.cell? ⟨w.heap.size, 3, none⟩ = some (.int .i64 q) := KZ.out.cell 3
    have kzl : w.heap.size < x6.heap.size := KZ.out.lt
    go_wp2_with fail
    exact bodyPost_ret (v := .agg #[.int .i64 zr, .int .i64 zc, .int .i64 zb, .int .i64 q]) (by simp [results, Try.results34, go_sem, kz0, kz1, kz2, kz3]) rfl ⟨⟨zr, zc, zb, q⟩, rfl, HF.out, HC.out, HG.out⟩
  · go_wp2_with fail
    refine (pickInt_any B c len _ 4 4 [-1, 4503599627370495, 4503599627370496, 1099511627776] (by decide) (by decide) _ hl (cur_alloc HC.out _ _) (by have := cur_lt HC.out; have := HLC.out; have := HLTKB.out; omega) ?_).mono ?_
    · intro i hi
      first | rw [World.cell?_alloc_at (hn := rfl)] | rw [World.cell?_alloc_at (hn := by simp)]
      match i, hi with
      | 0, _ | 1, _ | 2, _ | 3, _ => rfl
    rintro e x4 ⟨i, hiq, rfl, hcq, hgq⟩
    have hq : [-1, 4503599627370495, 4503599627370496, 1099511627776].getD i (0 : Int) ≤ 9223372036854775807 := by
      match i, hiq with
      | 0, _ | 1, _ | 2, _ | 3, _ => decide
    generalize [-1, 4503599627370495, 4503599627370496, 1099511627776].getD i (0 : Int) = q at hq ⊢
    clear hiq i
    have hgq := grown_trans (World.grownBy_alloc _ _ _) hgq
    have KZ := Lib.hid (blk_grown KZ.out hgq (by have := HLC.out; have := HLTKB.out; omega))
    have KB := Lib.hid (blk_grown KB.out hgq (by have := HLC.out; have := HLTKB.out; omega))
    have HG := Lib.hid (grown_trans HG.out hgq); have HC := Lib.hid hcq
    clear hgq hcq
    have HQT := Lib.hid hq
    clear hq
    have kb0 : x4.cell? ⟨e2, 0, none⟩ = some (.int .i64 zr) := KB.out.cell 0
    have kb1 : x4.cell? ⟨e2, 1, none⟩ = some (.int .i64 zc) := KB.out.cell 1
    have kb2 : x4.cell? ⟨e2, 2, none⟩ = some (.int .i64 zb) := KB.out.cell 2
    have kb3 : x4.cell? ⟨e2, 3, none⟩ = some (.int .i64 zp) := KB.out.cell 3
    have kbl : e2 < x4.heap.size := KB.out.lt
    have kbf := KB.out.frozen
    have kby := KB.out.shape
    go_wp2_with (with_reducible refine store_here (ty := 25) rfl ?_)
    refine halt_go ?_
    clear kb0 kb1 kb2 kb3 kbl kbf kby
    have KZ := Lib.hid (KZ.out.other (j := 2) (g := e2) (by have := HLC.out; have := HLTKB.out; omega) (.int .i64 q)); have KB := Lib.hid (KB.out.set 2 (.int .i64 q)); have HG := Lib.hid (grown_store HG.out (j := 2) (b := e2) (by have := HLC.out; have := HLTKB.out; omega) (.int .i64 q)); have HC := Lib.hid (cur_store HC.out (j := 2) (b := e2) (by have := HLC.out; have := HLTKB.out; omega) (.int .i64 q))
    generalize x4.setCell ⟨e2, 2, none⟩ (.int .i64 q) = x5 at HG HC KZ KB ⊢
    refine wpList_store_row rfl 25 _ _ rfl (w.heap.size) #[.int .i64 zr, .int .i64 zc, .int .i64 q, .int .i64 zp] rfl rfl 25 #[.int .i64 0, .int .i64 0, .int .i64 0, .int .i64 0] KZ.out sizeVc rfl (by simp [Value.oneCell']) ?_
    have KZ := Lib.hid (Blk.row (cs := #[.int .i64 zr, .int .i64 zc, .int .i64 q, .int .i64 zp]) KZ.out); have KB := Lib.hid (KB.out.rowOther (g := w.heap.size) (by have := HLC.out; have := HLTKB.out; omega) #[.int .i64 zr, .int .i64 zc, .int .i64 q, .int .i64 zp]); have HG := Lib.hid (grown_row HG.out (b := w.heap.size) (by have := HLC.out; have := HLTKB.out; omega) #[.int .i64 zr, .int .i64 zc, .int .i64 q, .int .i64 zp]); have HC := Lib.hid (cur_row HC.out (b := w.heap.size) (by have := HLC.out; have := HLTKB.out; omega) #[.int .i64 zr, .int .i64 zc, .int .i64 q, .int .i64 zp])
    generalize x5.setRow (w.heap.size) #[.int .i64 zr, .int .i64 zc, .int .i64 q, .int .i64 zp] = x6 at HG HC KZ KB ⊢
    have kz0 : x6.cell? ⟨w.heap.size, 0, none⟩ = some (.int .i64 zr) := KZ.out.cell 0
    have kz1 : x6.cell? ⟨w.heap.size, 1, none⟩ = some (.int .i64 zc) := KZ.out.cell 1
    have kz2 : x6.cell? ⟨w.heap.size, 2, none⟩ = some (.int .i64 q) := KZ.out.cell 2
    have kz3 : x6.cell? ⟨w.heap.size, 3, none⟩ = some (.int .i64 zp) := KZ.out.cell 3
    have kzl : w.heap.size < x6.heap.size := KZ.out.lt
    go_wp2_with fail
    exact bodyPost_ret (v := .agg #[.int .i64 zr, .int .i64 zc, .int .i64 q, .int .i64 zp]) (by simp [results, Try.results34, go_sem, kz0, kz1, kz2, kz3]) rfl ⟨⟨zr, zc, q, zp⟩, rfl, ⟨HF.out.1, HQT.out⟩, HC.out, HG.out⟩
  · have kb0 : x3.cell? ⟨e2, 0, none⟩ = some (.int .i64 zr) := KB.out.cell 0
    have kb1 : x3.cell? ⟨e2, 1, none⟩ = some (.int .i64 zc) := KB.out.cell 1
    have kb2 : x3.cell? ⟨e2, 2, none⟩ = some (.int .i64 zb) := KB.out.cell 2
    have kb3 : x3.cell? ⟨e2, 3, none⟩ = some (.int .i64 zp) := KB.out.cell 3
    have kbl : e2 < x3.heap.size := KB.out.lt
    go_wp2_with (with_reducible refine store_here (ty := 25) rfl ?_)
    refine halt_go ?_
    clear kb0 kb1 kb2 kb3 kbl
    refine wpList_store_row rfl 25 _ _ rfl (w.heap.size) #[.int .i64 zr, .int .i64 zc, .int .i64 zb, .int .i64 zp] rfl rfl 25 #[.int .i64 0, .int .i64 0, .int .i64 0, .int .i64 0] KZ.out sizeVc rfl (by simp [Value.oneCell']) ?_
    have KZ := Lib.hid (Blk.row (cs := #[.int .i64 zr, .int .i64 zc, .int .i64 zb, .int .i64 zp]) KZ.out); have KB := Lib.hid (KB.out.rowOther (g := w.heap.size) (by have := HLC.out; have := HLTKB.out; omega) #[.int .i64 zr, .int .i64 zc, .int .i64 zb, .int .i64 zp]); have HG := Lib.hid (grown_row HG.out (b := w.heap.size) (by have := HLC.out; have := HLTKB.out; omega) #[.int .i64 zr, .int .i64 zc, .int .i64 zb, .int .i64 zp]); have HC := Lib.hid (cur_row HC.out (b := w.heap.size) (by have := HLC.out; have := HLTKB.out; omega) #[.int .i64 zr, .int .i64 zc, .int .i64 zb, .int .i64 zp])
    generalize x3.setRow (w.heap.size) #[.int .i64 zr, .int .i64 zc, .int .i64 zb, .int .i64 zp] = x4 at HG HC KZ KB ⊢
    have kz0 : x4.cell? ⟨w.heap.size, 0, none⟩ = some (.int .i64 zr) := KZ.out.cell 0
    have kz1 : x4.cell? ⟨w.heap.size, 1, none⟩ = some (.int .i64 zc) := KZ.out.cell 1
    have kz2 : x4.cell? ⟨w.heap.size, 2, none⟩ = some (.int .i64 zb) := KZ.out.cell 2
    have kz3 : x4.cell? ⟨w.heap.size, 3, none⟩ = some (.int .i64 zp) := KZ.out.cell 3
    have kzl : w.heap.size < x4.heap.size := KZ.out.lt
    go_wp2_with fail
    exact bodyPost_ret (v := .agg #[.int .i64 zr, .int .i64 zc, .int .i64 zb, .int .i64 zp]) (by simp [results, Try.results34, go_sem, kz0, kz1, kz2, kz3]) rfl ⟨⟨zr, zc, zb, zp⟩, rfl, HF.out, HC.out, HG.out⟩

set_option linter.unusedVariables false in
set_option linter.unusedSimpArgs false in
set_option maxRecDepth 20000 in
set_option maxHeartbeats 4000000 in
theorem drawCompare_any (w : World) (a : Option Addr) (len cap : Nat) (zs : List Int) (hl : len ≤ 1048576) (hrow : IsRow .u8 w a len cap zs) (hlow : ∀ x, a = some x → 0 < cap → x.block < w.heap.size) :
    Calls Try.prog 11 #[.slice a len cap] w (DrewVc2 w) := by
  have hB : Below w.heap.size w ((w.alloc (.cells #[.int .i64 0, .int .i64 0, .int .i64 0, .int .i64 0] 25)).alloc (.cells #[.int .i64 0, .int .i64 0, .int .i64 0, .int .i64 0] 25)) := (((Below.refl _ _).alloc (by simp) _).alloc (by simp) _)
  have hKZ : Blk ((w.alloc (.cells #[.int .i64 0, .int .i64 0, .int .i64 0, .int .i64 0] 25)).alloc (.cells #[.int .i64 0, .int .i64 0, .int .i64 0, .int .i64 0] 25)) (w.heap.size) #[.int .i64 0, .int .i64 0, .int .i64 0, .int .i64 0] 25 := ((blk_new _ _ (by simp)).alloc _)
  have hKY : Blk ((w.alloc (.cells #[.int .i64 0, .int .i64 0, .int .i64 0, .int .i64 0] 25)).alloc (.cells #[.int .i64 0, .int .i64 0, .int .i64 0, .int .i64 0] 25)) (w.heap.size + 1) #[.int .i64 0, .int .i64 0, .int .i64 0, .int .i64 0] 25 := (blk_new _ _ (by simp))
  have HB := Lib.hid hB
  have KZ := Lib.hid hKZ; have KY := Lib.hid hKY
  clear hB hKZ hKY 
  go_enter Try.func11, Try.ntmps11
  go_wp2_with fail
  have hsz : ((w.alloc (.cells #[.int .i64 0, .int .i64 0, .int .i64 0, .int .i64 0] 25)).alloc (.cells #[.int .i64 0, .int .i64 0, .int .i64 0, .int .i64 0] 25)).heap.size = w.heap.size + 2 := by simp
  have HLC := Lib.hid hsz
  clear hsz
  generalize (w.alloc (.cells #[.int .i64 0, .int .i64 0, .int .i64 0, .int .i64 0] 25)).alloc (.cells #[.int .i64 0, .int .i64 0, .int .i64 0, .int .i64 0] 25) = w0 at HB HLC KZ KY ⊢
  refine (new_any w0 a len cap zs hl (hrow.below hlow HB.out) (fun x hx hc => Nat.lt_of_lt_of_le (hlow x hx hc) HB.out.size)).mono ?_
  rintro e x1 ⟨rfl, hcq, hbq, hsq⟩
  have KZ := Lib.hid (KZ.out.after hbq)
  have KY := Lib.hid (KY.out.after hbq)
  have HB := Lib.hid (HB.out.trans (hbq.mono HB.out.size)); have HC := Lib.hid hcq
  clear hbq hsq hcq hrow hlow
  generalize w0.heap.size = c at HC HLC ⊢
  go_wp2_with fail
  refine (make8_any c c len _ hl HC.out).mono ?_
  rintro e x2 ⟨⟨ar, ac, ab, ap⟩, rfl, _, hcq, hgq⟩
  have KZ := Lib.hid (blk_grown KZ.out hgq (by have := HLC.out; omega))
  have KY := Lib.hid (blk_grown KY.out hgq (by have := HLC.out; omega))
  have HB := Lib.hid (HB.out.grown hgq HB.out.size (fun k e => by cases e; have := HLC.out; omega)); have HC := Lib.hid hcq
  clear hgq hcq
  unfold Vc.val
  simp only
  have hgq : x2.grownBy (x2.alloc (.cells #[.int .i64 ar, .int .i64 ac, .int .i64 ab, .int .i64 ap] 25)) (some c) := World.grownBy_alloc _ _ _
  have hcq : Cur c c len (x2.alloc (.cells #[.int .i64 ar, .int .i64 ac, .int .i64 ab, .int .i64 ap] 25)) := cur_alloc HC.out _ _
  have hnq : Blk (x2.alloc (.cells #[.int .i64 ar, .int .i64 ac, .int .i64 ab, .int .i64 ap] 25)) x2.heap.size #[.int .i64 ar, .int .i64 ac, .int .i64 ab, .int .i64 ap] 25 := blk_new _ _ rfl
  have hle : w.heap.size ≤ x2.heap.size := HB.out.size
  have hlcq : c < x2.heap.size := cur_lt HC.out
  have hltKZ := KZ.out.lt
  have hltKY := KY.out.lt
  have HLTKA := Lib.hid (And.intro hle (And.intro hlcq (And.intro hltKZ (And.intro hltKY trivial))))
  have KZ := Lib.hid (blk_grown KZ.out hgq (by have := HLC.out; omega))
  have KY := Lib.hid (blk_grown KY.out hgq (by have := HLC.out; omega))
  have HB := Lib.hid (HB.out.grown hgq HB.out.size (fun k e => by cases e; have := HLC.out; omega)); have HC := Lib.hid hcq
  clear hgq hcq
  have KA := Lib.hid hnq
  clear hnq hle hlcq hltKZ hltKY
  have HSKA := Lib.hid (show (x2.alloc (.cells #[.int .i64 ar, .int .i64 ac, .int .i64 ab, .int .i64 ap] 25)).heap.size = x2.heap.size + 1 by simp)
  have kz0 : (x2.alloc (.cells #[.int .i64 ar, .int .i64 ac, .int .i64 ab, .int .i64 ap] 25)).cell? ⟨w.heap.size, 0, none⟩ = some (.int .i64 0) := KZ.out.cell 0
  have kz1 : (x2.alloc (.cells #[.int .i64 ar, .int .i64 ac, .int .i64 ab, .int .i64 ap] 25)).cell? ⟨w.heap.size, 1, none⟩ = some (.int .i64 0) := KZ.out.cell 1
  have kz2 : (x2.alloc (.cells #[.int .i64 ar, .int .i64 ac, .int .i64 ab, .int .i64 ap] 25)).cell? ⟨w.heap.size, 2, none⟩ = some (.int .i64 0) := KZ.out.cell 2
  have kz3 : (x2.alloc (.cells #[.int .i64 ar, .int .i64 ac, .int .i64 ab, .int .i64 ap] 25)).cell? ⟨w.heap.size, 3, none⟩ = some (.int .i64 0) := KZ.out.cell 3
  have kzl : w.heap.size < (x2.alloc (.cells #[.int .i64 ar, .int .i64 ac, .int .i64 ab, .int .i64 ap] 25)).heap.size := KZ.out.lt
  have ky0 : (x2.alloc (.cells #[.int .i64 ar, .int .i64 ac, .int .i64 ab, .int .i64 ap] 25)).cell? ⟨w.heap.size + 1, 0, none⟩ = some (.int .i64 0) := KY.out.cell 0
  have ky1 : (x2.alloc (.cells #[.int .i64 ar, .int .i64 ac, .int .i64 ab, .int .i64 ap] 25)).cell? ⟨w.heap.size + 1, 1, none⟩ = some (.int .i64 0) := KY.out.cell 1
  have ky2 : (x2.alloc (.cells #[.int .i64 ar, .int .i64 ac, .int .i64 ab, .int .i64 ap] 25)).cell? ⟨w.heap.size + 1, 2, none⟩ = some (.int .i64 0) := KY.out.cell 2
  have ky3 : (x2.alloc (.cells #[.int .i64 ar, .int .i64 ac, .int .i64 ab, .int .i64 ap] 25)).cell? ⟨w.heap.size + 1, 3, none⟩ = some (.int .i64 0) := KY.out.cell 3
  have kyl : w.heap.size + 1 < (x2.alloc (.cells #[.int .i64 ar, .int .i64 ac, .int .i64 ab, .int .i64 ap] 25)).heap.size := KY.out.lt
  have ka0 : (x2.alloc (.cells #[.int .i64 ar, .int .i64 ac, .int .i64 ab, .int .i64 ap] 25)).cell? ⟨x2.heap.size, 0, none⟩ = some (.int .i64 ar) := KA.out.cell 0
  have ka1 : (x2.alloc (.cells #[.int .i64 ar, .int .i64 ac, .int .i64 ab, .int .i64 ap] 25)).cell? ⟨x2.heap.size, 1, none⟩ = some (.int .i64 ac) := KA.out.cell 1
  have ka2 : (x2.alloc (.cells #[.int .i64 ar, .int .i64 ac, .int .i64 ab, .int .i64 ap] 25)).cell? ⟨x2.heap.size, 2, none⟩ = some (.int .i64 ab) := KA.out.cell 2
  have ka3 : (x2.alloc (.cells #[.int .i64 ar, .int .i64 ac, .int .i64 ab, .int .i64 ap] 25)).cell? ⟨x2.heap.size, 3, none⟩ = some (.int .i64 ap) := KA.out.cell 3
  have kal : x2.heap.size < (x2.alloc (.cells #[.int .i64 ar, .int .i64 ac, .int .i64 ab, .int .i64 ap] 25)).heap.size := KA.out.lt
  go_wp2_with fail
  clear kz0 kz1 kz2 kz3 kzl ky0 ky1 ky2 ky3 kyl ka0 ka1 ka2 ka3 kal
  generalize x2.alloc (.cells #[.int .i64 ar, .int .i64 ac, .int .i64 ab, .int .i64 ap] 25) = x3 at KZ KY KA HC HB HSKA ⊢
  generalize x2.heap.size = e3 at KA HLTKA HSKA ⊢
  refine (make8_any c c len _ hl HC.out).mono ?_
  rintro e x4 ⟨⟨br, bc, bb, bp⟩, rfl, _, hcq, hgq⟩
  have KZ := Lib.hid (blk_grown KZ.out hgq (by have := HLC.out; have := HLTKA.out; omega))
  have KY := Lib.hid (blk_grown KY.out hgq (by have := HLC.out; have := HLTKA.out; omega))
  have KA := Lib.hid (blk_grown KA.out hgq (by have := HLC.out; have := HLTKA.out; omega))
  have HB := Lib.hid (HB.out.grown hgq HB.out.size (fun k e => by cases e; have := HLC.out; have := HLTKA.out; omega)); have HC := Lib.hid hcq
  clear hgq hcq
  unfold Vc.val
  simp only
  have hgq : x4.grownBy (x4.alloc (.cells #[.int .i64 br, .int .i64 bc, .int .i64 bb, .int .i64 bp] 25)) (some c) := World.grownBy_alloc _ _ _
  have hcq : Cur c c len (x4.alloc (.cells #[.int .i64 br, .int .i64 bc, .int .i64 bb, .int .i64 bp] 25)) := cur_alloc HC.out _ _
  have hnq : Blk (x4.alloc (.cells #[.int .i64 br, .int .i64 bc, .int .i64 bb, .int .i64 bp] 25)) x4.heap.size #[.int .i64 br, .int .i64 bc, .int .i64 bb, .int .i64 bp] 25 := blk_new _ _ rfl
  have hle : w.heap.size ≤ x4.heap.size := HB.out.size
  have hlcq : c < x4.heap.size := cur_lt HC.out
  have hltKZ := KZ.out.lt
  have hltKY := KY.out.lt
  have hltKA := KA.out.lt
  have HLTKB := Lib.hid (And.intro hle (And.intro hlcq (And.intro hltKZ (And.intro hltKY (And.intro hltKA trivial)))))
  have KZ := Lib.hid (blk_grown KZ.out hgq (by have := HLC.out; have := HLTKA.out; omega))
  have KY := Lib.hid (blk_grown KY.out hgq (by have := HLC.out; have := HLTKA.out; omega))
  have KA := Lib.hid (blk_grown KA.out hgq (by have := HLC.out; have := HLTKA.out; omega))
  have HB := Lib.hid (HB.out.grown hgq HB.out.size (fun k e => by cases e; have := HLC.out; have := HLTKA.out; omega)); have HC := Lib.hid hcq
  clear hgq hcq
  have KB := Lib.hid hnq
  clear hnq hle hlcq hltKZ hltKY hltKA
  have HSKB := Lib.hid (show (x4.alloc (.cells #[.int .i64 br, .int .i64 bc, .int .i64 bb, .int .i64 bp] 25)).heap.size = x4.heap.size + 1 by simp)
  have kz0 : (x4.alloc (.cells #[.int .i64 br, .int .i64 bc, .int .i64 bb, .int .i64 bp] 25)).cell? ⟨w.heap.size, 0, none⟩ = some (.int .i64 0) := KZ.out.cell 0
  have kz1 : (x4.alloc (.cells #[.int .i64 br, .int .i64 bc, .int .i64 bb, .int .i64 bp] 25)).cell? ⟨w.heap.size, 1, none⟩ = some (.int .i64 0) := KZ.out.cell 1
  have kz2 : (x4.alloc (.cells #[.int .i64 br, .int .i64 bc, .int .i64 bb, .int .i64 bp] 25)).cell? ⟨w.heap.size, 2, none⟩ = some (.int .i64 0) := KZ.out.cell 2
  have kz3 : (x4.alloc (.cells #[.int .i64 br, .int .i64 bc, .int .i64 bb, .int .i64 bp] 25)).cell? ⟨w.heap.size, 3, none⟩ = some (.int .i64 0) := KZ.out.cell 3
  have kzl : w.heap.size < (x4.alloc (.cells #[.int .i64 br, .int .i64 bc, .int .i64 bb, .int .i64 bp] 25)).heap.size := KZ.out.lt
  have ky0 : (x4.alloc (.cells #[.int .i64 br, .int .i64 bc, .int .i64 bb, .int .i64 bp] 25)).cell? ⟨w.heap.size + 1, 0, none⟩ = some (.int .i64 0) := KY.out.cell 0
  have ky1 : (x4.alloc (.cells #[.int .i64 br, .int .i64 bc, .int .i64 bb, .int .i64 bp] 25)).cell? ⟨w.heap.size + 1, 1, none⟩ = some (.int .i64 0) := KY.out.cell 1
  have ky2 : (x4.alloc (.cells #[.int .i64 br, .int .i64 bc, .int .i64 bb, .int .i64 bp] 25)).cell? ⟨w.heap.size + 1, 2, none⟩ = some (.int .i64 0) := KY.out.cell 2
  have ky3 : (x4.alloc (.cells #[.int .i64 br, .int .i64 bc, .int .i64 bb, .int .i64 bp] 25)).cell? ⟨w.heap.size + 1, 3, none⟩ = some (.int .i64 0) := KY.out.cell 3
  have kyl : w.heap.size + 1 < (x4.alloc (.cells #[.int .i64 br, .int .i64 bc, .int .i64 bb, .int .i64 bp] 25)).heap.size := KY.out.lt
  have ka0 : (x4.alloc (.cells #[.int .i64 br, .int .i64 bc, .int .i64 bb, .int .i64 bp] 25)).cell? ⟨e3, 0, none⟩ = some (.int .i64 ar) := KA.out.cell 0
  have ka1 : (x4.alloc (.cells #[.int .i64 br, .int .i64 bc, .int .i64 bb, .int .i64 bp] 25)).cell? ⟨e3, 1, none⟩ = some (.int .i64 ac) := KA.out.cell 1
  have ka2 : (x4.alloc (.cells #[.int .i64 br, .int .i64 bc, .int .i64 bb, .int .i64 bp] 25)).cell? ⟨e3, 2, none⟩ = some (.int .i64 ab) := KA.out.cell 2
  have ka3 : (x4.alloc (.cells #[.int .i64 br, .int .i64 bc, .int .i64 bb, .int .i64 bp] 25)).cell? ⟨e3, 3, none⟩ = some (.int .i64 ap) := KA.out.cell 3
  have kal : e3 < (x4.alloc (.cells #[.int .i64 br, .int .i64 bc, .int .i64 bb, .int .i64 bp] 25)).heap.size := KA.out.lt
  have kb0 : (x4.alloc (.cells #[.int .i64 br, .int .i64 bc, .int .i64 bb, .int .i64 bp] 25)).cell? ⟨x4.heap.size, 0, none⟩ = some (.int .i64 br) := KB.out.cell 0
  have kb1 : (x4.alloc (.cells #[.int .i64 br, .int .i64 bc, .int .i64 bb, .int .i64 bp] 25)).cell? ⟨x4.heap.size, 1, none⟩ = some (.int .i64 bc) := KB.out.cell 1
  have kb2 : (x4.alloc (.cells #[.int .i64 br, .int .i64 bc, .int .i64 bb, .int .i64 bp] 25)).cell? ⟨x4.heap.size, 2, none⟩ = some (.int .i64 bb) := KB.out.cell 2
  have kb3 : (x4.alloc (.cells #[.int .i64 br, .int .i64 bc, .int .i64 bb, .int .i64 bp] 25)).cell? ⟨x4.heap.size, 3, none⟩ = some (.int .i64 bp) := KB.out.cell 3
  have kbl : x4.heap.size < (x4.alloc (.cells #[.int .i64 br, .int .i64 bc, .int .i64 bb, .int .i64 bp] 25)).heap.size := KB.out.lt
  go_wp2_with fail
  clear kz0 kz1 kz2 kz3 kzl ky0 ky1 ky2 ky3 kyl ka0 ka1 ka2 ka3 kal kb0 kb1 kb2 kb3 kbl
  generalize x4.alloc (.cells #[.int .i64 br, .int .i64 bc, .int .i64 bb, .int .i64 bp] 25) = x5 at KZ KY KA KB HC HB HSKB ⊢
  generalize x4.heap.size = e5 at KB HLTKB HSKB ⊢
  refine (once_any c c len 2 (by decide) (by decide) _ hl HC.out).mono ?_
  rintro e x6 ⟨u, rfl, hcq, hgq⟩
  have KZ := Lib.hid (blk_grown KZ.out hgq (by have := HLC.out; have := HLTKA.out; have := HLTKB.out; omega))
  have KY := Lib.hid (blk_grown KY.out hgq (by have := HLC.out; have := HLTKA.out; have := HLTKB.out; omega))
  have KA := Lib.hid (blk_grown KA.out hgq (by have := HLC.out; have := HLTKA.out; have := HLTKB.out; omega))
  have KB := Lib.hid (blk_grown KB.out hgq (by have := HLC.out; have := HLTKA.out; have := HLTKB.out; omega))
  have HB := Lib.hid (HB.out.grown hgq HB.out.size (fun k e => by cases e; have := HLC.out; have := HLTKA.out; have := HLTKB.out; omega)); have HC := Lib.hid hcq
  clear hgq hcq
  cases u
  · go_wp2_with fail
    refine wp_region_held_drew (S := fun w' => Blk w' e3 #[.int .i64 ar, .int .i64 ac, .int .i64 ab, .int .i64 ap] 25 ∧ Blk w' e5 #[.int .i64 br, .int .i64 bc, .int .i64 bb, .int .i64 bp] 25) (by kernel_rfl) (⟨KA.out.drew, KB.out.drew⟩) (fun hHeld => ?_)
    refine wpAnyH_take (i := 0) (v := ?v1) rfl (by kernel_rfl) (by kernel_rfl) (by kernel_rfl) (fun _ _ _ h => h) (Or.inl ⟨by rfl, ?h1⟩) hHeld ?r1
    case h1 => intro wq hS; have c0 : wq.cell? ⟨e3, 0, none⟩ = some (.int .i64 ar) := hS.1.cell 0; have c1 : wq.cell? ⟨e3, 1, none⟩ = some (.int .i64 ac) := hS.1.cell 1; have c2 : wq.cell? ⟨e3, 2, none⟩ = some (.int .i64 ab) := hS.1.cell 2; have c3 : wq.cell? ⟨e3, 3, none⟩ = some (.int .i64 ap) := hS.1.cell 3; go_simp; with_reducible rfl
    try simp only [Act.put, List.getElem_toArray, List.getElem_cons_zero, List.getElem_cons_succ, List.setIfInBounds_toArray, List.set_cons_zero, List.set_cons_succ]
    refine wpAnyH_take (i := 1) (v := ?v2) rfl (by kernel_rfl) (by kernel_rfl) (by kernel_rfl) (fun _ _ _ h => h) (Or.inl ⟨by rfl, ?h2⟩) hHeld ?r2
    case h2 => intro wq hS; have c0 : wq.cell? ⟨e5, 0, none⟩ = some (.int .i64 br) := hS.2.cell 0; have c1 : wq.cell? ⟨e5, 1, none⟩ = some (.int .i64 bc) := hS.2.cell 1; have c2 : wq.cell? ⟨e5, 2, none⟩ = some (.int .i64 bb) := hS.2.cell 2; have c3 : wq.cell? ⟨e5, 3, none⟩ = some (.int .i64 bp) := hS.2.cell 3; go_simp; with_reducible rfl
    try simp only [Act.put, List.getElem_toArray, List.getElem_cons_zero, List.getElem_cons_succ, List.setIfInBounds_toArray, List.set_cons_zero, List.set_cons_succ]
    refine wpAnyH_ready (rs := [2]) (by kernel_rfl) (by simp) ?_
    refine AllReadyH.cons rfl (fun K hK => ?_) AllReadyH.nil
    refine step_store_row rfl 25 (.tmp 2) (.tmp 23) rfl (w.heap.size) #[.int .i64 ar, .int .i64 ac, .int .i64 ab, .int .i64 ap] rfl rfl 25 #[.int .i64 0, .int .i64 0, .int .i64 0, .int .i64 0] KZ.out.drew sizeVc rfl (by simp [Value.oneCell']) ?_
    refine hK.out _ _ (⟨hHeld.1.rowOther (by have := HLC.out; have := HLTKA.out; have := HLTKB.out; omega) _, hHeld.2.rowOther (by have := HLC.out; have := HLTKA.out; have := HLTKB.out; omega) _⟩) (fun hHeld => ?_)
    clear hK K
    try simp only [Act.put, List.getElem_toArray, List.getElem_cons_zero, List.getElem_cons_succ, List.setIfInBounds_toArray, List.set_cons_zero, List.set_cons_succ]
    refine wpAnyH_ready (rs := [3]) (by kernel_rfl) (by simp) ?_
    refine AllReadyH.cons rfl (fun K hK => ?_) AllReadyH.nil
    refine step_store_row rfl 25 (.tmp 3) (.tmp 24) rfl (w.heap.size + 1) #[.int .i64 br, .int .i64 bc, .int .i64 bb, .int .i64 bp] rfl rfl 25 #[.int .i64 0, .int .i64 0, .int .i64 0, .int .i64 0] (KY.out.drew.rowOther (by omega) _) sizeVc rfl (by simp [Value.oneCell']) ?_
    refine hK.out _ _ (⟨(hHeld.1).rowOther (by have := HLC.out; have := HLTKA.out; have := HLTKB.out; omega) _, (hHeld.2).rowOther (by have := HLC.out; have := HLTKA.out; have := HLTKB.out; omega) _⟩) (fun hHeld => ?_)
    clear hK K
    try simp only [Act.put, List.getElem_toArray, List.getElem_cons_zero, List.getElem_cons_succ, List.setIfInBounds_toArray, List.set_cons_zero, List.set_cons_succ]
    refine wpAnyH_done (by kernel_rfl) ?_ _
    clear hHeld
    have hZ : Blk ((x6.drew.setRow w.heap.size #[.int .i64 ar, .int .i64 ac, .int .i64 ab, .int .i64 ap]).setRow (w.heap.size + 1) #[.int .i64 br, .int .i64 bc, .int .i64 bb, .int .i64 bp]) w.heap.size #[.int .i64 ar, .int .i64 ac, .int .i64 ab, .int .i64 ap] 25 := (Blk.row (cs := #[.int .i64 ar, .int .i64 ac, .int .i64 ab, .int .i64 ap]) KZ.out.drew).rowOther (g := w.heap.size + 1) (by omega) #[.int .i64 br, .int .i64 bc, .int .i64 bb, .int .i64 bp]
    have hY : Blk ((x6.drew.setRow w.heap.size #[.int .i64 ar, .int .i64 ac, .int .i64 ab, .int .i64 ap]).setRow (w.heap.size + 1) #[.int .i64 br, .int .i64 bc, .int .i64 bb, .int .i64 bp]) (w.heap.size + 1) #[.int .i64 br, .int .i64 bc, .int .i64 bb, .int .i64 bp] 25 := Blk.row (cs := #[.int .i64 br, .int .i64 bc, .int .i64 bb, .int .i64 bp]) (KY.out.drew.rowOther (g := w.heap.size) (by omega) #[.int .i64 ar, .int .i64 ac, .int .i64 ab, .int .i64 ap])
    have hB : Below w.heap.size w ((x6.drew.setRow w.heap.size #[.int .i64 ar, .int .i64 ac, .int .i64 ab, .int .i64 ap]).setRow (w.heap.size + 1) #[.int .i64 br, .int .i64 bc, .int .i64 bb, .int .i64 bp]) := Below.row (Below.row HB.out.drew (g := w.heap.size) (by omega) #[.int .i64 ar, .int .i64 ac, .int .i64 ab, .int .i64 ap]) (g := w.heap.size + 1) (by omega) #[.int .i64 br, .int .i64 bc, .int .i64 bb, .int .i64 bp]
    have KZ := Lib.hid hZ; have KY := Lib.hid hY; have HB := Lib.hid hB
    clear hZ hY hB HC
    generalize (x6.drew.setRow w.heap.size #[.int .i64 ar, .int .i64 ac, .int .i64 ab, .int .i64 ap]).setRow (w.heap.size + 1) #[.int .i64 br, .int .i64 bc, .int .i64 bb, .int .i64 bp] = xe at KZ KY HB ⊢
    have kz0 : xe.cell? ⟨w.heap.size, 0, none⟩ = some (.int .i64 ar) := KZ.out.cell 0
    have kz1 : xe.cell? ⟨w.heap.size, 1, none⟩ = some (.int .i64 ac) := KZ.out.cell 1
    have kz2 : xe.cell? ⟨w.heap.size, 2, none⟩ = some (.int .i64 ab) := KZ.out.cell 2
    have kz3 : xe.cell? ⟨w.heap.size, 3, none⟩ = some (.int .i64 ap) := KZ.out.cell 3
    have kzl : w.heap.size < xe.heap.size := KZ.out.lt
    have ky0 : xe.cell? ⟨w.heap.size + 1, 0, none⟩ = some (.int .i64 br) := KY.out.cell 0
    have ky1 : xe.cell? ⟨w.heap.size + 1, 1, none⟩ = some (.int .i64 bc) := KY.out.cell 1
    have ky2 : xe.cell? ⟨w.heap.size + 1, 2, none⟩ = some (.int .i64 bb) := KY.out.cell 2
    have ky3 : xe.cell? ⟨w.heap.size + 1, 3, none⟩ = some (.int .i64 bp) := KY.out.cell 3
    have kyl : w.heap.size + 1 < xe.heap.size := KY.out.lt
    go_wp2_with fail
    exact bodyPost_ret (v := .tuple #[.agg #[.int .i64 ar, .int .i64 ac, .int .i64 ab, .int .i64 ap], .agg #[.int .i64 br, .int .i64 bc, .int .i64 bb, .int .i64 bp]]) (by simp [results, Try.results11, go_sem, kz0, kz1, kz2, kz3, ky0, ky1, ky2, ky3]) rfl ⟨⟨ar, ac, ab, ap⟩, ⟨br, bc, bb, bp⟩, rfl, HB.out⟩
  have ka0 : x6.cell? ⟨e3, 0, none⟩ = some (.int .i64 ar) := KA.out.cell 0
  have ka1 : x6.cell? ⟨e3, 1, none⟩ = some (.int .i64 ac) := KA.out.cell 1
  have ka2 : x6.cell? ⟨e3, 2, none⟩ = some (.int .i64 ab) := KA.out.cell 2
  have ka3 : x6.cell? ⟨e3, 3, none⟩ = some (.int .i64 ap) := KA.out.cell 3
  have kal : e3 < x6.heap.size := KA.out.lt
  have kb0 : x6.cell? ⟨e5, 0, none⟩ = some (.int .i64 br) := KB.out.cell 0
  have kb1 : x6.cell? ⟨e5, 1, none⟩ = some (.int .i64 bc) := KB.out.cell 1
  have kb2 : x6.cell? ⟨e5, 2, none⟩ = some (.int .i64 bb) := KB.out.cell 2
  have kb3 : x6.cell? ⟨e5, 3, none⟩ = some (.int .i64 bp) := KB.out.cell 3
  have kbl : e5 < x6.heap.size := KB.out.lt
  have kbf := KB.out.frozen
  have kby := KB.out.shape
  have nKAKB : ¬ e3 = e5 := by have := HLC.out; have := HLTKA.out; have := HLTKB.out; omega
  have mKAKB : ¬ e5 = e3 := by have := HLC.out; have := HLTKA.out; have := HLTKB.out; omega
  go_wp2_with fail
  clear nKAKB mKAKB
  clear ka0 ka1 ka2 ka3 kal kb0 kb1 kb2 kb3 kbl kbf kby
  have KZ := Lib.hid (KZ.out.other (j := 0) (g := e5) (by have := HLC.out; have := HLTKA.out; have := HLTKB.out; omega) (.int .i64 ar)); have KY := Lib.hid (KY.out.other (j := 0) (g := e5) (by have := HLC.out; have := HLTKA.out; have := HLTKB.out; omega) (.int .i64 ar)); have KA := Lib.hid (KA.out.other (j := 0) (g := e5) (by have := HLC.out; have := HLTKA.out; have := HLTKB.out; omega) (.int .i64 ar)); have KB := Lib.hid (KB.out.set 0 (.int .i64 ar)); have HB := Lib.hid (HB.out.setCell (p := ⟨e5, 0, none⟩) (by show w.heap.size ≤ e5; have := HLC.out; have := HLTKA.out; have := HLTKB.out; omega) (.int .i64 ar)); have HC := Lib.hid (cur_store HC.out (j := 0) (b := e5) (by have := HLC.out; have := HLTKA.out; have := HLTKB.out; omega) (.int .i64 ar))
  generalize x6.setCell ⟨e5, 0, none⟩ (.int .i64 ar) = x7 at HB HC KZ KY KA KB ⊢
  refine (once_any c c len 2 (by decide) (by decide) _ hl HC.out).mono ?_
  rintro e x8 ⟨v, rfl, hcq, hgq⟩
  have KZ := Lib.hid (blk_grown KZ.out hgq (by have := HLC.out; have := HLTKA.out; have := HLTKB.out; omega))
  have KY := Lib.hid (blk_grown KY.out hgq (by have := HLC.out; have := HLTKA.out; have := HLTKB.out; omega))
  have KA := Lib.hid (blk_grown KA.out hgq (by have := HLC.out; have := HLTKA.out; have := HLTKB.out; omega))
  have KB := Lib.hid (blk_grown KB.out hgq (by have := HLC.out; have := HLTKA.out; have := HLTKB.out; omega))
  have HB := Lib.hid (HB.out.grown hgq HB.out.size (fun k e => by cases e; have := HLC.out; have := HLTKA.out; have := HLTKB.out; omega)); have HC := Lib.hid hcq
  clear hgq hcq
  cases v
  · go_wp2_with fail
    refine wp_region_held_drew (S := fun w' => Blk w' e3 #[.int .i64 ar, .int .i64 ac, .int .i64 ab, .int .i64 ap] 25 ∧ Blk w' e5 #[.int .i64 ar, .int .i64 bc, .int .i64 bb, .int .i64 bp] 25) (by kernel_rfl) (⟨KA.out.drew, KB.out.drew⟩) (fun hHeld => ?_)
    refine wpAnyH_take (i := 0) (v := ?v3) rfl (by kernel_rfl) (by kernel_rfl) (by kernel_rfl) (fun _ _ _ h => h) (Or.inl ⟨by rfl, ?h3⟩) hHeld ?r3
    case h3 => intro wq hS; have c0 : wq.cell? ⟨e3, 0, none⟩ = some (.int .i64 ar) := hS.1.cell 0; have c1 : wq.cell? ⟨e3, 1, none⟩ = some (.int .i64 ac) := hS.1.cell 1; have c2 : wq.cell? ⟨e3, 2, none⟩ = some (.int .i64 ab) := hS.1.cell 2; have c3 : wq.cell? ⟨e3, 3, none⟩ = some (.int .i64 ap) := hS.1.cell 3; go_simp; with_reducible rfl
    try simp only [Act.put, List.getElem_toArray, List.getElem_cons_zero, List.getElem_cons_succ, List.setIfInBounds_toArray, List.set_cons_zero, List.set_cons_succ]
    refine wpAnyH_take (i := 1) (v := ?v4) rfl (by kernel_rfl) (by kernel_rfl) (by kernel_rfl) (fun _ _ _ h => h) (Or.inl ⟨by rfl, ?h4⟩) hHeld ?r4
    case h4 => intro wq hS; have c0 : wq.cell? ⟨e5, 0, none⟩ = some (.int .i64 ar) := hS.2.cell 0; have c1 : wq.cell? ⟨e5, 1, none⟩ = some (.int .i64 bc) := hS.2.cell 1; have c2 : wq.cell? ⟨e5, 2, none⟩ = some (.int .i64 bb) := hS.2.cell 2; have c3 : wq.cell? ⟨e5, 3, none⟩ = some (.int .i64 bp) := hS.2.cell 3; go_simp; with_reducible rfl
    try simp only [Act.put, List.getElem_toArray, List.getElem_cons_zero, List.getElem_cons_succ, List.setIfInBounds_toArray, List.set_cons_zero, List.set_cons_succ]
    refine wpAnyH_ready (rs := [2]) (by kernel_rfl) (by simp) ?_
    refine AllReadyH.cons rfl (fun K hK => ?_) AllReadyH.nil
    refine step_store_row rfl 25 (.tmp 2) (.tmp 23) rfl (w.heap.size) #[.int .i64 ar, .int .i64 ac, .int .i64 ab, .int .i64 ap] rfl rfl 25 #[.int .i64 0, .int .i64 0, .int .i64 0, .int .i64 0] KZ.out.drew sizeVc rfl (by simp [Value.oneCell']) ?_
    refine hK.out _ _ (⟨hHeld.1.rowOther (by have := HLC.out; have := HLTKA.out; have := HLTKB.out; omega) _, hHeld.2.rowOther (by have := HLC.out; have := HLTKA.out; have := HLTKB.out; omega) _⟩) (fun hHeld => ?_)
    clear hK K
    try simp only [Act.put, List.getElem_toArray, List.getElem_cons_zero, List.getElem_cons_succ, List.setIfInBounds_toArray, List.set_cons_zero, List.set_cons_succ]
    refine wpAnyH_ready (rs := [3]) (by kernel_rfl) (by simp) ?_
    refine AllReadyH.cons rfl (fun K hK => ?_) AllReadyH.nil
    refine step_store_row rfl 25 (.tmp 3) (.tmp 24) rfl (w.heap.size + 1) #[.int .i64 ar, .int .i64 bc, .int .i64 bb, .int .i64 bp] rfl rfl 25 #[.int .i64 0, .int .i64 0, .int .i64 0, .int .i64 0] (KY.out.drew.rowOther (by omega) _) sizeVc rfl (by simp [Value.oneCell']) ?_
    refine hK.out _ _ (⟨(hHeld.1).rowOther (by have := HLC.out; have := HLTKA.out; have := HLTKB.out; omega) _, (hHeld.2).rowOther (by have := HLC.out; have := HLTKA.out; have := HLTKB.out; omega) _⟩) (fun hHeld => ?_)
    clear hK K
    try simp only [Act.put, List.getElem_toArray, List.getElem_cons_zero, List.getElem_cons_succ, List.setIfInBounds_toArray, List.set_cons_zero, List.set_cons_succ]
    refine wpAnyH_done (by kernel_rfl) ?_ _
    clear hHeld
    have hZ : Blk ((x8.drew.setRow w.heap.size #[.int .i64 ar, .int .i64 ac, .int .i64 ab, .int .i64 ap]).setRow (w.heap.size + 1) #[.int .i64 ar, .int .i64 bc, .int .i64 bb, .int .i64 bp]) w.heap.size #[.int .i64 ar, .int .i64 ac, .int .i64 ab, .int .i64 ap] 25 := (Blk.row (cs := #[.int .i64 ar, .int .i64 ac, .int .i64 ab, .int .i64 ap]) KZ.out.drew).rowOther (g := w.heap.size + 1) (by omega) #[.int .i64 ar, .int .i64 bc, .int .i64 bb, .int .i64 bp]
    have hY : Blk ((x8.drew.setRow w.heap.size #[.int .i64 ar, .int .i64 ac, .int .i64 ab, .int .i64 ap]).setRow (w.heap.size + 1) #[.int .i64 ar, .int .i64 bc, .int .i64 bb, .int .i64 bp]) (w.heap.size + 1) #[.int .i64 ar, .int .i64 bc, .int .i64 bb, .int .i64 bp] 25 := Blk.row (cs := #[.int .i64 ar, .int .i64 bc, .int .i64 bb, .int .i64 bp]) (KY.out.drew.rowOther (g := w.heap.size) (by omega) #[.int .i64 ar, .int .i64 ac, .int .i64 ab, .int .i64 ap])
    have hB : Below w.heap.size w ((x8.drew.setRow w.heap.size #[.int .i64 ar, .int .i64 ac, .int .i64 ab, .int .i64 ap]).setRow (w.heap.size + 1) #[.int .i64 ar, .int .i64 bc, .int .i64 bb, .int .i64 bp]) := Below.row (Below.row HB.out.drew (g := w.heap.size) (by omega) #[.int .i64 ar, .int .i64 ac, .int .i64 ab, .int .i64 ap]) (g := w.heap.size + 1) (by omega) #[.int .i64 ar, .int .i64 bc, .int .i64 bb, .int .i64 bp]
    have KZ := Lib.hid hZ; have KY := Lib.hid hY; have HB := Lib.hid hB
    clear hZ hY hB HC
    generalize (x8.drew.setRow w.heap.size #[.int .i64 ar, .int .i64 ac, .int .i64 ab, .int .i64 ap]).setRow (w.heap.size + 1) #[.int .i64 ar, .int .i64 bc, .int .i64 bb, .int .i64 bp] = xe at KZ KY HB ⊢
    have kz0 : xe.cell? ⟨w.heap.size, 0, none⟩ = some (.int .i64 ar) := KZ.out.cell 0
    have kz1 : xe.cell? ⟨w.heap.size, 1, none⟩ = some (.int .i64 ac) := KZ.out.cell 1
    have kz2 : xe.cell? ⟨w.heap.size, 2, none⟩ = some (.int .i64 ab) := KZ.out.cell 2
    have kz3 : xe.cell? ⟨w.heap.size, 3, none⟩ = some (.int .i64 ap) := KZ.out.cell 3
    have kzl : w.heap.size < xe.heap.size := KZ.out.lt
    have ky0 : xe.cell? ⟨w.heap.size + 1, 0, none⟩ = some (.int .i64 ar) := KY.out.cell 0
    have ky1 : xe.cell? ⟨w.heap.size + 1, 1, none⟩ = some (.int .i64 bc) := KY.out.cell 1
    have ky2 : xe.cell? ⟨w.heap.size + 1, 2, none⟩ = some (.int .i64 bb) := KY.out.cell 2
    have ky3 : xe.cell? ⟨w.heap.size + 1, 3, none⟩ = some (.int .i64 bp) := KY.out.cell 3
    have kyl : w.heap.size + 1 < xe.heap.size := KY.out.lt
    go_wp2_with fail
    exact bodyPost_ret (v := .tuple #[.agg #[.int .i64 ar, .int .i64 ac, .int .i64 ab, .int .i64 ap], .agg #[.int .i64 ar, .int .i64 bc, .int .i64 bb, .int .i64 bp]]) (by simp [results, Try.results11, go_sem, kz0, kz1, kz2, kz3, ky0, ky1, ky2, ky3]) rfl ⟨⟨ar, ac, ab, ap⟩, ⟨ar, bc, bb, bp⟩, rfl, HB.out⟩
  have ka0 : x8.cell? ⟨e3, 0, none⟩ = some (.int .i64 ar) := KA.out.cell 0
  have ka1 : x8.cell? ⟨e3, 1, none⟩ = some (.int .i64 ac) := KA.out.cell 1
  have ka2 : x8.cell? ⟨e3, 2, none⟩ = some (.int .i64 ab) := KA.out.cell 2
  have ka3 : x8.cell? ⟨e3, 3, none⟩ = some (.int .i64 ap) := KA.out.cell 3
  have kal : e3 < x8.heap.size := KA.out.lt
  have kb0 : x8.cell? ⟨e5, 0, none⟩ = some (.int .i64 ar) := KB.out.cell 0
  have kb1 : x8.cell? ⟨e5, 1, none⟩ = some (.int .i64 bc) := KB.out.cell 1
  have kb2 : x8.cell? ⟨e5, 2, none⟩ = some (.int .i64 bb) := KB.out.cell 2
  have kb3 : x8.cell? ⟨e5, 3, none⟩ = some (.int .i64 bp) := KB.out.cell 3
  have kbl : e5 < x8.heap.size := KB.out.lt
  have kbf := KB.out.frozen
  have kby := KB.out.shape
  have nKAKB : ¬ e3 = e5 := by have := HLC.out; have := HLTKA.out; have := HLTKB.out; omega
  have mKAKB : ¬ e5 = e3 := by have := HLC.out; have := HLTKA.out; have := HLTKB.out; omega
  go_wp2_with fail
  clear nKAKB mKAKB
  clear ka0 ka1 ka2 ka3 kal kb0 kb1 kb2 kb3 kbl kbf kby
  have KZ := Lib.hid (KZ.out.other (j := 1) (g := e5) (by have := HLC.out; have := HLTKA.out; have := HLTKB.out; omega) (.int .i64 ac)); have KY := Lib.hid (KY.out.other (j := 1) (g := e5) (by have := HLC.out; have := HLTKA.out; have := HLTKB.out; omega) (.int .i64 ac)); have KA := Lib.hid (KA.out.other (j := 1) (g := e5) (by have := HLC.out; have := HLTKA.out; have := HLTKB.out; omega) (.int .i64 ac)); have KB := Lib.hid (KB.out.set 1 (.int .i64 ac)); have HB := Lib.hid (HB.out.setCell (p := ⟨e5, 1, none⟩) (by show w.heap.size ≤ e5; have := HLC.out; have := HLTKA.out; have := HLTKB.out; omega) (.int .i64 ac)); have HC := Lib.hid (cur_store HC.out (j := 1) (b := e5) (by have := HLC.out; have := HLTKA.out; have := HLTKB.out; omega) (.int .i64 ac))
  generalize x8.setCell ⟨e5, 1, none⟩ (.int .i64 ac) = x9 at HB HC KZ KY KA KB ⊢
  refine wp_region_held_drew (S := fun w' => Blk w' e3 #[.int .i64 ar, .int .i64 ac, .int .i64 ab, .int .i64 ap] 25 ∧ Blk w' e5 #[.int .i64 ar, .int .i64 ac, .int .i64 bb, .int .i64 bp] 25) (by kernel_rfl) (⟨KA.out.drew, KB.out.drew⟩) (fun hHeld => ?_)
  refine wpAnyH_take (i := 0) (v := ?v5) rfl (by kernel_rfl) (by kernel_rfl) (by kernel_rfl) (fun _ _ _ h => h) (Or.inl ⟨by rfl, ?h5⟩) hHeld ?r5
  case h5 => intro wq hS; have c0 : wq.cell? ⟨e3, 0, none⟩ = some (.int .i64 ar) := hS.1.cell 0; have c1 : wq.cell? ⟨e3, 1, none⟩ = some (.int .i64 ac) := hS.1.cell 1; have c2 : wq.cell? ⟨e3, 2, none⟩ = some (.int .i64 ab) := hS.1.cell 2; have c3 : wq.cell? ⟨e3, 3, none⟩ = some (.int .i64 ap) := hS.1.cell 3; go_simp; with_reducible rfl
  try simp only [Act.put, List.getElem_toArray, List.getElem_cons_zero, List.getElem_cons_succ, List.setIfInBounds_toArray, List.set_cons_zero, List.set_cons_succ]
  refine wpAnyH_take (i := 1) (v := ?v6) rfl (by kernel_rfl) (by kernel_rfl) (by kernel_rfl) (fun _ _ _ h => h) (Or.inl ⟨by rfl, ?h6⟩) hHeld ?r6
  case h6 => intro wq hS; have c0 : wq.cell? ⟨e5, 0, none⟩ = some (.int .i64 ar) := hS.2.cell 0; have c1 : wq.cell? ⟨e5, 1, none⟩ = some (.int .i64 ac) := hS.2.cell 1; have c2 : wq.cell? ⟨e5, 2, none⟩ = some (.int .i64 bb) := hS.2.cell 2; have c3 : wq.cell? ⟨e5, 3, none⟩ = some (.int .i64 bp) := hS.2.cell 3; go_simp; with_reducible rfl
  try simp only [Act.put, List.getElem_toArray, List.getElem_cons_zero, List.getElem_cons_succ, List.setIfInBounds_toArray, List.set_cons_zero, List.set_cons_succ]
  refine wpAnyH_ready (rs := [2]) (by kernel_rfl) (by simp) ?_
  refine AllReadyH.cons rfl (fun K hK => ?_) AllReadyH.nil
  refine step_store_row rfl 25 (.tmp 2) (.tmp 23) rfl (w.heap.size) #[.int .i64 ar, .int .i64 ac, .int .i64 ab, .int .i64 ap] rfl rfl 25 #[.int .i64 0, .int .i64 0, .int .i64 0, .int .i64 0] KZ.out.drew sizeVc rfl (by simp [Value.oneCell']) ?_
  refine hK.out _ _ (⟨hHeld.1.rowOther (by have := HLC.out; have := HLTKA.out; have := HLTKB.out; omega) _, hHeld.2.rowOther (by have := HLC.out; have := HLTKA.out; have := HLTKB.out; omega) _⟩) (fun hHeld => ?_)
  clear hK K
  try simp only [Act.put, List.getElem_toArray, List.getElem_cons_zero, List.getElem_cons_succ, List.setIfInBounds_toArray, List.set_cons_zero, List.set_cons_succ]
  refine wpAnyH_ready (rs := [3]) (by kernel_rfl) (by simp) ?_
  refine AllReadyH.cons rfl (fun K hK => ?_) AllReadyH.nil
  refine step_store_row rfl 25 (.tmp 3) (.tmp 24) rfl (w.heap.size + 1) #[.int .i64 ar, .int .i64 ac, .int .i64 bb, .int .i64 bp] rfl rfl 25 #[.int .i64 0, .int .i64 0, .int .i64 0, .int .i64 0] (KY.out.drew.rowOther (by omega) _) sizeVc rfl (by simp [Value.oneCell']) ?_
  refine hK.out _ _ (⟨(hHeld.1).rowOther (by have := HLC.out; have := HLTKA.out; have := HLTKB.out; omega) _, (hHeld.2).rowOther (by have := HLC.out; have := HLTKA.out; have := HLTKB.out; omega) _⟩) (fun hHeld => ?_)
  clear hK K
  try simp only [Act.put, List.getElem_toArray, List.getElem_cons_zero, List.getElem_cons_succ, List.setIfInBounds_toArray, List.set_cons_zero, List.set_cons_succ]
  refine wpAnyH_done (by kernel_rfl) ?_ _
  clear hHeld
  have hZ : Blk ((x9.drew.setRow w.heap.size #[.int .i64 ar, .int .i64 ac, .int .i64 ab, .int .i64 ap]).setRow (w.heap.size + 1) #[.int .i64 ar, .int .i64 ac, .int .i64 bb, .int .i64 bp]) w.heap.size #[.int .i64 ar, .int .i64 ac, .int .i64 ab, .int .i64 ap] 25 := (Blk.row (cs := #[.int .i64 ar, .int .i64 ac, .int .i64 ab, .int .i64 ap]) KZ.out.drew).rowOther (g := w.heap.size + 1) (by omega) #[.int .i64 ar, .int .i64 ac, .int .i64 bb, .int .i64 bp]
  have hY : Blk ((x9.drew.setRow w.heap.size #[.int .i64 ar, .int .i64 ac, .int .i64 ab, .int .i64 ap]).setRow (w.heap.size + 1) #[.int .i64 ar, .int .i64 ac, .int .i64 bb, .int .i64 bp]) (w.heap.size + 1) #[.int .i64 ar, .int .i64 ac, .int .i64 bb, .int .i64 bp] 25 := Blk.row (cs := #[.int .i64 ar, .int .i64 ac, .int .i64 bb, .int .i64 bp]) (KY.out.drew.rowOther (g := w.heap.size) (by omega) #[.int .i64 ar, .int .i64 ac, .int .i64 ab, .int .i64 ap])
  have hB : Below w.heap.size w ((x9.drew.setRow w.heap.size #[.int .i64 ar, .int .i64 ac, .int .i64 ab, .int .i64 ap]).setRow (w.heap.size + 1) #[.int .i64 ar, .int .i64 ac, .int .i64 bb, .int .i64 bp]) := Below.row (Below.row HB.out.drew (g := w.heap.size) (by omega) #[.int .i64 ar, .int .i64 ac, .int .i64 ab, .int .i64 ap]) (g := w.heap.size + 1) (by omega) #[.int .i64 ar, .int .i64 ac, .int .i64 bb, .int .i64 bp]
  have KZ := Lib.hid hZ; have KY := Lib.hid hY; have HB := Lib.hid hB
  clear hZ hY hB HC
  generalize (x9.drew.setRow w.heap.size #[.int .i64 ar, .int .i64 ac, .int .i64 ab, .int .i64 ap]).setRow (w.heap.size + 1) #[.int .i64 ar, .int .i64 ac, .int .i64 bb, .int .i64 bp] = xe at KZ KY HB ⊢
  have kz0 : xe.cell? ⟨w.heap.size, 0, none⟩ = some (.int .i64 ar) := KZ.out.cell 0
  have kz1 : xe.cell? ⟨w.heap.size, 1, none⟩ = some (.int .i64 ac) := KZ.out.cell 1
  have kz2 : xe.cell? ⟨w.heap.size, 2, none⟩ = some (.int .i64 ab) := KZ.out.cell 2
  have kz3 : xe.cell? ⟨w.heap.size, 3, none⟩ = some (.int .i64 ap) := KZ.out.cell 3
  have kzl : w.heap.size < xe.heap.size := KZ.out.lt
  have ky0 : xe.cell? ⟨w.heap.size + 1, 0, none⟩ = some (.int .i64 ar) := KY.out.cell 0
  have ky1 : xe.cell? ⟨w.heap.size + 1, 1, none⟩ = some (.int .i64 ac) := KY.out.cell 1
  have ky2 : xe.cell? ⟨w.heap.size + 1, 2, none⟩ = some (.int .i64 bb) := KY.out.cell 2
  have ky3 : xe.cell? ⟨w.heap.size + 1, 3, none⟩ = some (.int .i64 bp) := KY.out.cell 3
  have kyl : w.heap.size + 1 < xe.heap.size := KY.out.lt
  go_wp2_with fail
  exact bodyPost_ret (v := .tuple #[.agg #[.int .i64 ar, .int .i64 ac, .int .i64 ab, .int .i64 ap], .agg #[.int .i64 ar, .int .i64 ac, .int .i64 bb, .int .i64 bp]]) (by simp [results, Try.results11, go_sem, kz0, kz1, kz2, kz3, ky0, ky1, ky2, ky3]) rfl ⟨⟨ar, ac, ab, ap⟩, ⟨ar, ac, bb, bp⟩, rfl, HB.out⟩
end Go.Proofs.Ytbcpfciegamaeaa
