/- DropMember of the program. -/
import Derived.Test.YtfkpecildcejkaaSm
namespace Go.Proofs.Ytfkpecildcejkaa
open Go.RowKit

set_option maxRecDepth 20000 in
set_option maxHeartbeats 2000000 in
set_option linter.unusedSimpArgs false in
theorem drop_impl {w : World} {B C : List Nat} {v : Value} {p : Pt} (h : PortIn w B C v p) (vid : Int) : Calls Try.prog 26 #[v, .int .i64 vid] w (GotPort w (dropM p vid)) := by
  have hPO := fun w' (hb : Below w.heap.size w w') => portOk_impl (h.after hb)
  have hCP := fun w' (hb : Below w.heap.size w w') => copy_impl (h.after hb)
  obtain ⟨a, ca, b, cb, rfl, hi, hp, _, _, hli, hlp, hf⟩ := h
  have hVL := vlans_impl p.pvid a b p.ins.length ca p.plain.length cb p.acc
  obtain ⟨r1, hr1⟩ : ∃ r, decide (portOk p) = r := ⟨_, rfl⟩
  simp only [hr1] at hPO
  obtain ⟨z, hz⟩ : ∃ z, dropM p vid = z := ⟨_, rfl⟩
  rw [hz]
  unfold dropM at hz
  have HZ := Lib.hid hz; have HR1 := Lib.hid hr1; have HP := Lib.hid hp; have HI := Lib.hid hi; have HF := Lib.hid hf
  clear hz hr1 hp hi hf
  obtain ⟨pv, ins, plain, ac⟩ := p
  simp only at hPO hCP hVL hli hlp HI HP
  unfold ptVal at *
  have hb : Below w.heap.size w ((w.alloc (.cells #[.int .i64 pv, .slice a ins.length ca, .slice b plain.length cb, .int .i64 ac] 26)).alloc (.cells #[.int .i64 0, .slice none 0 0, .slice none 0 0, .int .i64 0] 26)) := ((Below.refl _ _).alloc (Nat.le_refl _) _).alloc (by simp) _
  have gP : Blk ((w.alloc (.cells #[.int .i64 pv, .slice a ins.length ca, .slice b plain.length cb, .int .i64 ac] 26)).alloc (.cells #[.int .i64 0, .slice none 0 0, .slice none 0 0, .int .i64 0] 26)) w.heap.size #[.int .i64 pv, .slice a ins.length ca, .slice b plain.length cb, .int .i64 ac] 26 := (blk_new _ _ rfl).alloc _
  have gZ : Blk ((w.alloc (.cells #[.int .i64 pv, .slice a ins.length ca, .slice b plain.length cb, .int .i64 ac] 26)).alloc (.cells #[.int .i64 0, .slice none 0 0, .slice none 0 0, .int .i64 0] 26)) (w.heap.size + 1) #[.int .i64 0, .slice none 0 0, .slice none 0 0, .int .i64 0] 26 := blk_new _ _ (by simp)
  have HB := Lib.hid hb; have GP := Lib.hid gP; have GZ := Lib.hid gZ; have HPO := Lib.hid hPO; have HCP := Lib.hid hCP; have HVL := Lib.hid hVL
  clear hb gP gZ hPO hCP hVL
  go_enter Try.func26, Try.ntmps26
  go_wp2_with fail
  refine (HPO.out _ HB.out).mono ?_
  rintro e w1 ⟨rfl, h1⟩
  have H1 := Lib.hid (HB.out.trans (h1.mono HB.out.size)); have GP1 := Lib.hid (GP.out.after h1); have GZ1 := Lib.hid (GZ.out.after h1)
  clear h1 GP GZ
  have p0 := GP1.out.cell 0
  have p1 := GP1.out.cell 1
  have p2 := GP1.out.cell 2
  have p3 := GP1.out.cell 3
  cases r1
  · obtain rfl : z = ⟨pv, ins, plain, ac⟩ := by rw [← HZ.out]; exact if_neg (fun h => of_decide_eq_false HR1.out h)
    clear p0 p1 p2 p3
    have p0 : w1.cell? ⟨w.heap.size, 0, none⟩ = some (.int .i64 pv) := GP1.out.cell 0
    have p1 : w1.cell? ⟨w.heap.size, 1, none⟩ = some (.slice a ins.length ca) := GP1.out.cell 1
    have p2 : w1.cell? ⟨w.heap.size, 2, none⟩ = some (.slice b plain.length cb) := GP1.out.cell 2
    have p3 : w1.cell? ⟨w.heap.size, 3, none⟩ = some (.int .i64 ac) := GP1.out.cell 3
    go_wp2_with fail
    refine (HCP.out _ H1.out).mono ?_
    rintro e ws hG
    have hG2 := hG
    obtain ⟨_, _, a1, n1, c1, b1, m1, d1, pv1, ac1, rfl, _, _, _, _, hB2, _⟩ := hG
    unfold ptVal
    have gz := GZ1.out.after hB2
    have HG2 := Lib.hid hG2
    clear hG2 hB2
    have s0 : ws.cell? ⟨w.heap.size + 1, 0, none⟩ = some (.int .i64 0) := gz.cell 0
    have s1 : ws.cell? ⟨w.heap.size + 1, 1, none⟩ = some (.slice none 0 0) := gz.cell 1
    have s2 : ws.cell? ⟨w.heap.size + 1, 2, none⟩ = some (.slice none 0 0) := gz.cell 2
    have s3 : ws.cell? ⟨w.heap.size + 1, 3, none⟩ = some (.int .i64 0) := gz.cell 3
    have z1 := gz.frozen
    have y1 := gz.shape
    have l1 := gz.lt
    have HG := Lib.hid ((((gz.set 0 (.int .i64 pv1)).set 1 (.slice a1 n1 c1)).set 2 (.slice b1 m1 d1)).set 3 (.int .i64 ac1))
    have HT := Lib.hid (((((Turned.refl [w.heap.size + 1] ws).setCell (p := ⟨w.heap.size + 1, 0, none⟩) (by simp) (.int .i64 pv1)).setCell (p := ⟨w.heap.size + 1, 1, none⟩) (by simp) (.slice a1 n1 c1)).setCell (p := ⟨w.heap.size + 1, 2, none⟩) (by simp) (.slice b1 m1 d1)).setCell (p := ⟨w.heap.size + 1, 3, none⟩) (by simp) (.int .i64 ac1))
    go_wp2_with fail
    have r0 := HG.out.cell 0
    have r1 := HG.out.cell 1
    have r2 := HG.out.cell 2
    have r3 := HG.out.cell 3
    have hT := HT.out
    generalize (((ws.setCell ⟨w.heap.size + 1, 0, none⟩ (.int .i64 pv1)).setCell ⟨w.heap.size + 1, 1, none⟩ (.slice a1 n1 c1)).setCell ⟨w.heap.size + 1, 2, none⟩ (.slice b1 m1 d1)).setCell ⟨w.heap.size + 1, 3, none⟩ (.int .i64 ac1) = X at r0 r1 r2 r3 hT ⊢
    replace r0 : X.cell? ⟨w.heap.size + 1, 0, none⟩ = some (.int .i64 pv1) := r0
    replace r1 : X.cell? ⟨w.heap.size + 1, 1, none⟩ = some (.slice a1 n1 c1) := r1
    replace r2 : X.cell? ⟨w.heap.size + 1, 2, none⟩ = some (.slice b1 m1 d1) := r2
    replace r3 : X.cell? ⟨w.heap.size + 1, 3, none⟩ = some (.int .i64 ac1) := r3
    refine bodyPost_ret (v := .agg #[.int .i64 pv1, .slice a1 n1 c1, .slice b1 m1 d1, .int .i64 ac1]) (by simp [results, Try.results26, go_sem, r0, r1, r2, r3]) rfl ?_
    exact HG2.out.later H1.out hT (fun x hx => by simp only [List.mem_singleton] at hx; have := GZ1.out.lt; omega)
  obtain rfl : z = ⟨pv, without ins vid, without plain vid, ac⟩ := by rw [← HZ.out]; exact if_pos (of_decide_eq_true HR1.out)
  go_wp2_with fail
  refine (HVL.out _).mono ?_
  rintro e w2 ⟨rfl, h2⟩
  have H2 := Lib.hid (H1.out.trans (h2.mono H1.out.size)); have GP2 := Lib.hid (GP1.out.after h2); have GZ2 := Lib.hid (GZ1.out.after h2)
  clear h2 GP1 GZ1 p0 p1 p2 p3
  have p0 := GP2.out.cell 0
  have p1 := GP2.out.cell 1
  have p2 := GP2.out.cell 2
  have p3 := GP2.out.cell 3
  have l0 := GP2.out.lt
  have l1 := GZ2.out.lt
  go_wp2_with fail
  have hb4 : Below w.heap.size w (w2.alloc (.cells #[.slice a ins.length ca, .slice b plain.length cb] 66)) := H2.out.alloc H2.out.size _
  have gP : Blk (w2.alloc (.cells #[.slice a ins.length ca, .slice b plain.length cb] 66)) w.heap.size #[.int .i64 pv, .slice a ins.length ca, .slice b plain.length cb, .int .i64 ac] 26 := GP2.out.alloc _
  have gZ : Blk (w2.alloc (.cells #[.slice a ins.length ca, .slice b plain.length cb] 66)) (w.heap.size + 1) #[.int .i64 0, .slice none 0 0, .slice none 0 0, .int .i64 0] 26 := GZ2.out.alloc _
  have gJ : Blk (w2.alloc (.cells #[.slice a ins.length ca, .slice b plain.length cb] 66)) w2.heap.size #[.slice a ins.length ca, .slice b plain.length cb] 66 := blk_new _ _ rfl
  have hs4 : (w2.alloc (.cells #[.slice a ins.length ca, .slice b plain.length cb] 66)).heap.size = w2.heap.size + 1 := by simp
  clear H2 GP2 GZ2 p0 p1 p2 p3
  generalize w2.alloc (.cells #[.slice a ins.length ca, .slice b plain.length cb] 66) = w4 at hb4 gP gZ gJ hs4 ⊢
  generalize w2.heap.size = jb at gJ hs4 l0 l1 ⊢
  refine (without_impl ins a ins.length ca vid w4 rfl (HI.out.after hb4) hli).mono ?_
  rintro e w5 ⟨v1, rfl, hown, h5⟩
  obtain ⟨va, vc, rfl⟩ := own_form hown
  have gP5 := gP.after h5
  have gZ5 := gZ.after h5
  have gJ5 := gJ.after h5
  have hb5 := hb4.trans (h5.mono hb4.size)
  rw [hs4] at hown
  have hs5 := h5.size
  rw [hs4] at hs5
  have HP6 := Lib.hid (gP5.set 1 (.slice va (without ins vid).length vc))
  have HZ6 := Lib.hid (gZ5.other (j := 1) (g := w.heap.size) (by omega) (.slice va (without ins vid).length vc))
  have HB6 := Lib.hid (hb5.setCell (p := ⟨w.heap.size, 1, none⟩) (by simp <;> omega) (.slice va (without ins vid).length vc))
  have HO6 := Lib.hid (own_setCell (b := w.heap.size) (j := 1) hown (by omega) (.slice va (without ins vid).length vc))
  have HS6 := Lib.hid (show (w5.setCell ⟨w.heap.size, 1, none⟩ (.slice va (without ins vid).length vc)).heap.size = w5.heap.size by simp [World.setCell])
  have HL5 := Lib.hid hs5
  have HL := Lib.hid l1
  have c0 : w5.cell? ⟨w.heap.size, 0, none⟩ = some (.int .i64 pv) := gP5.cell 0
  have c1 : w5.cell? ⟨w.heap.size, 1, none⟩ = some (.slice a ins.length ca) := gP5.cell 1
  have c2 : w5.cell? ⟨w.heap.size, 2, none⟩ = some (.slice b plain.length cb) := gP5.cell 2
  have c3 : w5.cell? ⟨w.heap.size, 3, none⟩ = some (.int .i64 ac) := gP5.cell 3
  have j0 : w5.cell? ⟨jb, 0, none⟩ = some (.slice a ins.length ca) := gJ5.cell 0
  have j1 : w5.cell? ⟨jb, 1, none⟩ = some (.slice b plain.length cb) := gJ5.cell 1
  have zc := gP5.frozen
  have yc := gP5.shape
  have lc := gP5.lt
  have lj := gJ5.lt
  clear gP gZ gJ hb4 h5 gP5 gZ5 gJ5 hb5 hown hs4 hs5 l0
  go_wp2_with fail
  clear c0 c1 c2 c3 j0 j1 zc yc lc lj l1
  generalize w5.setCell ⟨w.heap.size, 1, none⟩ (.slice va (without ins vid).length vc) = w6 at HP6 HZ6 HB6 HO6 HS6 ⊢
  refine (without_impl plain b plain.length cb vid w6 rfl (HP.out.after HB6.out) hlp).mono ?_
  rintro e w7 ⟨v2, rfl, hown2, h7⟩
  obtain ⟨vb, vd, rfl⟩ := own_form hown2
  have gP7 := HP6.out.after h7
  have gZ7 := HZ6.out.after h7
  have hb7 := HB6.out.trans (h7.mono HB6.out.size)
  have hs7 := h7.size
  have hown1 := ownI_below (xs := without ins vid) HO6.out h7
  have hl6 := HL5.out
  have he6 := HS6.out
  have hl := HL.out
  have HLT := Lib.hid (fun g e => (World.ownsRow.lt HO6.out g e).2)
  have HBASE := Lib.hid HB6.out.size
  have HG := Lib.hid (((((gZ7.other (j := 2) (g := w.heap.size) (by omega) (.slice vb (without plain vid).length vd)).set 0 (.int .i64 pv)).set 1 (.slice va (without ins vid).length vc)).set 2 (.slice vb (without plain vid).length vd)).set 3 (.int .i64 ac))
  have HOX := Lib.hid (own_setCell (b := w.heap.size + 1) (j := 3) (own_setCell (b := w.heap.size + 1) (j := 2) (own_setCell (b := w.heap.size + 1) (j := 1) (own_setCell (b := w.heap.size + 1) (j := 0) (own_setCell (b := w.heap.size) (j := 2) hown1 (by omega) (.slice vb (without plain vid).length vd)) (by omega) (.int .i64 pv)) (by omega) (.slice va (without ins vid).length vc)) (by omega) (.slice vb (without plain vid).length vd)) (by omega) (.int .i64 ac))
  have HQX := Lib.hid (own_setCell (b := w.heap.size + 1) (j := 3) (own_setCell (b := w.heap.size + 1) (j := 2) (own_setCell (b := w.heap.size + 1) (j := 1) (own_setCell (b := w.heap.size + 1) (j := 0) (own_setCell (b := w.heap.size) (j := 2) hown2 (by omega) (.slice vb (without plain vid).length vd)) (by omega) (.int .i64 pv)) (by omega) (.slice va (without ins vid).length vc)) (by omega) (.slice vb (without plain vid).length vd)) (by omega) (.int .i64 ac))
  have HBX := Lib.hid (((((hb7.setCell (p := ⟨w.heap.size, 2, none⟩) (by simp <;> omega) (.slice vb (without plain vid).length vd)).setCell (p := ⟨w.heap.size + 1, 0, none⟩) (by simp <;> omega) (.int .i64 pv)).setCell (p := ⟨w.heap.size + 1, 1, none⟩) (by simp <;> omega) (.slice va (without ins vid).length vc)).setCell (p := ⟨w.heap.size + 1, 2, none⟩) (by simp <;> omega) (.slice vb (without plain vid).length vd)).setCell (p := ⟨w.heap.size + 1, 3, none⟩) (by simp <;> omega) (.int .i64 ac))
  have c0 : w7.cell? ⟨w.heap.size, 0, none⟩ = some (.int .i64 pv) := gP7.cell 0
  have c1 : w7.cell? ⟨w.heap.size, 1, none⟩ = some (.slice va (without ins vid).length vc) := gP7.cell 1
  have c2 : w7.cell? ⟨w.heap.size, 2, none⟩ = some (.slice b plain.length cb) := gP7.cell 2
  have c3 : w7.cell? ⟨w.heap.size, 3, none⟩ = some (.int .i64 ac) := gP7.cell 3
  have zc := gP7.frozen
  have yc := gP7.shape
  have lc := gP7.lt
  have s0 : w7.cell? ⟨w.heap.size + 1, 0, none⟩ = some (.int .i64 0) := gZ7.cell 0
  have s1 : w7.cell? ⟨w.heap.size + 1, 1, none⟩ = some (.slice none 0 0) := gZ7.cell 1
  have s2 : w7.cell? ⟨w.heap.size + 1, 2, none⟩ = some (.slice none 0 0) := gZ7.cell 2
  have s3 : w7.cell? ⟨w.heap.size + 1, 3, none⟩ = some (.int .i64 0) := gZ7.cell 3
  have zs := gZ7.frozen
  have ys := gZ7.shape
  have ls := gZ7.lt
  clear gP7 gZ7 hb7 hs7 hown1 hown2 hl6 he6 h7
  go_wp2_with fail
  have r0 := HG.out.cell 0
  have r1 := HG.out.cell 1
  have r2 := HG.out.cell 2
  have r3 := HG.out.cell 3
  generalize ((((w7.setCell ⟨w.heap.size, 2, none⟩ (.slice vb (without plain vid).length vd)).setCell ⟨w.heap.size + 1, 0, none⟩ (.int .i64 pv)).setCell ⟨w.heap.size + 1, 1, none⟩ (.slice va (without ins vid).length vc)).setCell ⟨w.heap.size + 1, 2, none⟩ (.slice vb (without plain vid).length vd)).setCell ⟨w.heap.size + 1, 3, none⟩ (.int .i64 ac) = X at r0 r1 r2 r3 HOX HQX HBX ⊢
  replace r0 : X.cell? ⟨w.heap.size + 1, 0, none⟩ = some (.int .i64 pv) := r0
  replace r1 : X.cell? ⟨w.heap.size + 1, 1, none⟩ = some (.slice va (without ins vid).length vc) := r1
  replace r2 : X.cell? ⟨w.heap.size + 1, 2, none⟩ = some (.slice vb (without plain vid).length vd) := r2
  replace r3 : X.cell? ⟨w.heap.size + 1, 3, none⟩ = some (.int .i64 ac) := r3
  refine bodyPost_ret (v := .agg #[.int .i64 pv, .slice va (without ins vid).length vc, .slice vb (without plain vid).length vd, .int .i64 ac]) (by simp [results, Try.results26, go_sem, r0, r1, r2, r3]) rfl ?_
  exact got_of_owns (p := ⟨pv, without ins vid, without plain vid, ac⟩) (OwnI.lower (base := jb + 1) HOX.out (by omega)) HQX.out HLT.out HBASE.out HBX.out (Nat.le_trans (without_len _ _) hli) (Nat.le_trans (without_len _ _) hlp) ⟨HF.out.1, fits_without HF.out.2.1 vid, fits_without HF.out.2.2.1 vid, HF.out.2.2.2⟩
end Go.Proofs.Ytfkpecildcejkaa
