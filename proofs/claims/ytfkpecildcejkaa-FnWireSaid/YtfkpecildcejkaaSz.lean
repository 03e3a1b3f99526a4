/- copyOfPort of the program. -/
import Derived.Test.YtfkpecildcejkaaSy
import Derived.Test.YtfkpecildcejkaaIj
namespace Go.Proofs.Ytfkpecildcejkaa
open Go.RowKit

theorem got_of_owns {w W : World} {p : Pt} {a b : Option Addr} {ca cb k : Nat} (hI : OwnI W w.heap.size (.slice a p.ins.length ca) p.ins) (hP : OwnI W k (.slice b p.plain.length cb) p.plain) (hlt : ∀ g, (Value.slice a p.ins.length ca).ownBlock = some g → g < k) (hk : w.heap.size ≤ k)
    (hB : Below w.heap.size w W) (hli : p.ins.length ≤ 2097152) (hlp : p.plain.length ≤ 2097152) (hf : p.fits) : GotPort w p (.returned (ptVal p.pvid a p.ins.length ca b p.plain.length cb p.acc)) W := by
  obtain ⟨a1, c1, e1, s1, g1, l1, m1⟩ := ownI_slin hI
  cases e1
  obtain ⟨a2, c2, e2, s2, g2, l2, m2⟩ := ownI_slin hP
  cases e2
  have hbi : ∀ x, x ∈ blkN a p.ins.length → w.heap.size ≤ x ∧ x < k := by
    intro x hx
    obtain ⟨y, rfl, rfl⟩ := mem_blkN hx
    refine ⟨g1 y rfl, ?_⟩
    rcases hI.2 with ⟨h0, _⟩ | ⟨g, cap, cur, h0, _⟩
    · cases h0
    · cases h0; exact hlt g rfl
  have hbp : ∀ x, x ∈ blkN b p.plain.length → k ≤ x := by
    intro x hx
    obtain ⟨y, rfl, rfl⟩ := mem_blkN hx
    exact g2 y rfl
  exact ⟨_, _, a, p.ins.length, ca, b, p.plain.length, cb, p.pvid, p.acc, rfl, ⟨a, ca, b, cb, rfl, s1, s2, ⟨rfl, m1⟩, ⟨rfl, m2⟩, hli, hlp, hf⟩, fun x hx => (hbi x hx).1, fun x hx => Nat.le_trans hk (hbp x hx), fun x hx hy => by have := (hbi x hx).2; have := hbp x hy; omega, hB, hI, own_lower hP hk, fun g h e1 e2 => by have := hlt g e1; have := (World.ownsRow.lt hP h e2).1; omega⟩

set_option maxRecDepth 20000 in
set_option maxHeartbeats 1000000 in
set_option linter.unusedSimpArgs false in
theorem copy_impl {w : World} {B C : List Nat} {v : Value} {p : Pt} (h : PortIn w B C v p) : Calls Try.prog 52 #[v] w (GotPort w p) := by
  obtain ⟨a, ca, b, cb, rfl, hi, hp, _, _, hli, hlp, hf⟩ := h
  obtain ⟨pv, ins, plain, ac⟩ := p
  simp only at hi hp hli hlp ⊢
  have hC1 := fun w' (hb : Below w.heap.size w w') => clone_ints ins a ins.length ca w' rfl (hi.after hb) hli
  have hC2 := fun w' (hb : Below w.heap.size w w') => clone_ints plain b plain.length cb w' rfl (hp.after hb) hlp
  have hb2 : Below w.heap.size w ((w.alloc (.cells #[.int .i64 pv, .slice a ins.length ca, .slice b plain.length cb, .int .i64 ac] 26)).alloc (.cells #[.int .i64 0, .slice none 0 0, .slice none 0 0, .int .i64 0] 26)) := ((Below.refl _ _).alloc (Nat.le_refl _) _).alloc (by simp) _
  have g0 : Blk ((w.alloc (.cells #[.int .i64 pv, .slice a ins.length ca, .slice b plain.length cb, .int .i64 ac] 26)).alloc (.cells #[.int .i64 0, .slice none 0 0, .slice none 0 0, .int .i64 0] 26)) w.heap.size #[.int .i64 pv, .slice a ins.length ca, .slice b plain.length cb, .int .i64 ac] 26 := (blk_new _ _ rfl).alloc _
  have g1 : Blk ((w.alloc (.cells #[.int .i64 pv, .slice a ins.length ca, .slice b plain.length cb, .int .i64 ac] 26)).alloc (.cells #[.int .i64 0, .slice none 0 0, .slice none 0 0, .int .i64 0] 26)) (w.heap.size + 1) #[.int .i64 0, .slice none 0 0, .slice none 0 0, .int .i64 0] 26 := blk_new _ _ (by simp)
  unfold ptVal
  have HB2 := Lib.hid hb2; have G0 := Lib.hid g0; have G1 := Lib.hid g1; have HF := Lib.hid hf; have HC1 := Lib.hid hC1; have HC2 := Lib.hid hC2
  clear hi hp hb2 g0 g1 hf hC1 hC2
  go_enter Try.func52, Try.ntmps52
  go_wp2_with fail
  refine (HC1.out _ HB2.out).mono ?_
  have hsz2 : ((w.alloc (.cells #[.int .i64 pv, .slice a ins.length ca, .slice b plain.length cb, .int .i64 ac] 26)).alloc (.cells #[.int .i64 0, .slice none 0 0, .slice none 0 0, .int .i64 0] 26)).heap.size = w.heap.size + 2 := by simp
  rintro e w1 ⟨v1, rfl, hown, h1⟩
  have h1' := h1
  rw [hsz2] at hown h1'
  obtain ⟨va, vc, rfl⟩ := own_form hown
  have gz0 := G0.out.after h1
  have gz1 := G1.out.after h1
  have hB1 := HB2.out.trans (h1.mono HB2.out.size)
  have hl1 : w.heap.size + 2 ≤ w1.heap.size := by have := h1.size; omega
  have hl1' : w.heap.size < w1.heap.size := by omega
  have k1 : w1.cell? ⟨w.heap.size, 1, none⟩ = some (.slice a ins.length ca) := gz0.cell 1
  have k2 : w1.cell? ⟨w.heap.size, 2, none⟩ = some (.slice b plain.length cb) := gz0.cell 2
  have z0 := gz0.frozen
  have y0 := gz0.shape
  have F0 := Lib.hid (gz0.set 1 (.slice va ins.length vc)); have F1 := Lib.hid (gz1.other (j := 1) (g := w.heap.size) (by omega) (.slice va ins.length vc))
  have HO := Lib.hid (own_setCell (b := w.heap.size) (j := 1) hown (by omega) (.slice va ins.length vc))
  have HBB := Lib.hid (hB1.setCell (p := ⟨w.heap.size, 1, none⟩) (by simp) (.slice va ins.length vc))
  have HSZ := Lib.hid (show (w1.setCell ⟨w.heap.size, 1, none⟩ (.slice va ins.length vc)).heap.size = w1.heap.size by simp [World.setCell])
  have HL1 := Lib.hid hl1
  clear h1 h1' gz0 gz1 hB1 hown hsz2 HB2 G0 G1 hl1
  go_wp2_with fail
  generalize w1.setCell ⟨w.heap.size, 1, none⟩ (.slice va ins.length vc) = w2 at F0 F1 HO HBB HSZ ⊢
  refine (HC2.out _ HBB.out).mono ?_
  rintro e w3 ⟨v2, rfl, hown2, h3⟩
  obtain ⟨vb, vd, rfl⟩ := own_form hown2
  have hs2 := HSZ.out
  have hl1 := HL1.out
  have hl3 := h3.size
  have f0 := F0.out.after h3
  have f1 := F1.out.after h3
  have hB3 := HBB.out.trans (h3.mono HBB.out.size)
  have hO3 := ownI_below (xs := ins) HO.out h3
  have l0 : w.heap.size < w3.heap.size := by omega
  have l1 : w.heap.size + 1 < w3.heap.size := by omega
  have l2 : w.heap.size + 2 ≤ w2.heap.size := by omega
  have q0 : w3.cell? ⟨w.heap.size, 0, none⟩ = some (.int .i64 pv) := f0.cell 0
  have q1 : w3.cell? ⟨w.heap.size, 1, none⟩ = some (.slice va ins.length vc) := f0.cell 1
  have q2 : w3.cell? ⟨w.heap.size, 2, none⟩ = some (.slice b plain.length cb) := f0.cell 2
  have q3 : w3.cell? ⟨w.heap.size, 3, none⟩ = some (.int .i64 ac) := f0.cell 3
  have s0 : w3.cell? ⟨w.heap.size + 1, 0, none⟩ = some (.int .i64 0) := f1.cell 0
  have s1 : w3.cell? ⟨w.heap.size + 1, 1, none⟩ = some (.slice none 0 0) := f1.cell 1
  have s2 : w3.cell? ⟨w.heap.size + 1, 2, none⟩ = some (.slice none 0 0) := f1.cell 2
  have s3 : w3.cell? ⟨w.heap.size + 1, 3, none⟩ = some (.int .i64 0) := f1.cell 3
  have z0 := f0.frozen
  have y0 := f0.shape
  have z1 := f1.frozen
  have y1 := f1.shape
  have HG := Lib.hid (((((f1.other (j := 2) (g := w.heap.size) (by omega) (.slice vb plain.length vd)).set 0 (.int .i64 pv)).set 1 (.slice va ins.length vc)).set 2 (.slice vb plain.length vd)).set 3 (.int .i64 ac))
  have HOI := Lib.hid (own_setCell (b := w.heap.size + 1) (j := 3) (own_setCell (b := w.heap.size + 1) (j := 2) (own_setCell (b := w.heap.size + 1) (j := 1) (own_setCell (b := w.heap.size + 1) (j := 0) (own_setCell (b := w.heap.size) (j := 2) hO3 (by omega) (.slice vb plain.length vd)) (by omega) (.int .i64 pv)) (by omega) (.slice va ins.length vc)) (by omega) (.slice vb plain.length vd)) (by omega) (.int .i64 ac))
  have HOP := Lib.hid (own_setCell (b := w.heap.size + 1) (j := 3) (own_setCell (b := w.heap.size + 1) (j := 2) (own_setCell (b := w.heap.size + 1) (j := 1) (own_setCell (b := w.heap.size + 1) (j := 0) (own_setCell (b := w.heap.size) (j := 2) hown2 (by omega) (.slice vb plain.length vd)) (by omega) (.int .i64 pv)) (by omega) (.slice va ins.length vc)) (by omega) (.slice vb plain.length vd)) (by omega) (.int .i64 ac))
  have HBX := Lib.hid (((((hB3.setCell (p := ⟨w.heap.size, 2, none⟩) (by simp <;> omega) (.slice vb plain.length vd)).setCell (p := ⟨w.heap.size + 1, 0, none⟩) (by simp <;> omega) (.int .i64 pv)).setCell (p := ⟨w.heap.size + 1, 1, none⟩) (by simp <;> omega) (.slice va ins.length vc)).setCell (p := ⟨w.heap.size + 1, 2, none⟩) (by simp <;> omega) (.slice vb plain.length vd)).setCell (p := ⟨w.heap.size + 1, 3, none⟩) (by simp <;> omega) (.int .i64 ac))
  have HLT := Lib.hid (fun g e => (World.ownsRow.lt HO.out g e).2)
  have HL2 := Lib.hid l2
  clear f0 f1 hB3 hO3 hown2 h3 hs2 hl1 hl3 HO HBB HSZ F0 F1 k1 k2 l2 hl1'
  go_wp2_with fail
  have r0 := HG.out.cell 0
  have r1 := HG.out.cell 1
  have r2 := HG.out.cell 2
  have r3 := HG.out.cell 3
  generalize ((((w3.setCell ⟨w.heap.size, 2, none⟩ (.slice vb plain.length vd)).setCell ⟨w.heap.size + 1, 0, none⟩ (.int .i64 pv)).setCell ⟨w.heap.size + 1, 1, none⟩ (.slice va ins.length vc)).setCell ⟨w.heap.size + 1, 2, none⟩ (.slice vb plain.length vd)).setCell ⟨w.heap.size + 1, 3, none⟩ (.int .i64 ac) = X at r0 r1 r2 r3 HOI HOP HBX ⊢
  replace r0 : X.cell? ⟨w.heap.size + 1, 0, none⟩ = some (.int .i64 pv) := r0
  replace r1 : X.cell? ⟨w.heap.size + 1, 1, none⟩ = some (.slice va ins.length vc) := r1
  replace r2 : X.cell? ⟨w.heap.size + 1, 2, none⟩ = some (.slice vb plain.length vd) := r2
  replace r3 : X.cell? ⟨w.heap.size + 1, 3, none⟩ = some (.int .i64 ac) := r3
  refine bodyPost_ret (v := .agg #[.int .i64 pv, .slice va ins.length vc, .slice vb plain.length vd, .int .i64 ac]) (by simp [results, Try.results52, go_sem, r0, r1, r2, r3]) rfl ?_
  exact got_of_owns (p := ⟨pv, ins, plain, ac⟩) (OwnI.lower (base := w.heap.size + 2) HOI.out (by omega)) HOP.out HLT.out (by have := HL2.out; omega) HBX.out hli hlp HF.out
end Go.Proofs.Ytfkpecildcejkaa
