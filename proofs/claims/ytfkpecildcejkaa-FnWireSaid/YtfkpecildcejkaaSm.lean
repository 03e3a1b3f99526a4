/- SetMember of the program. -/
import Derived.Test.YtfkpecildcejkaaSz
namespace Go.Proofs.Ytfkpecildcejkaa
open Go.RowKit

theorem GotPort.later {w w1 w2 W : World} {p : Pt} {e : Ending} {D : List Nat} (h : GotPort w1 p e w2) (hb : Below w.heap.size w w1) (hT : Turned D w2 W) (hD : ∀ b ∈ D, w.heap.size ≤ b ∧ b < w1.heap.size) : GotPort w p e W := by
  obtain ⟨B, C, a, n, ca, b, m, cb, pv, ac, rfl, hP, h1, h2, h3, h4, o1, o2, o3⟩ := h
  have hw := hb.size
  refine ⟨B, C, a, n, ca, b, m, cb, pv, ac, rfl, hP.turned hT (fun x hx hd => by have := h1 x hx; have := (hD x hd).2; omega) (fun x hx hd => by have := h2 x hx; have := (hD x hd).2; omega), fun x hx => Nat.le_trans hw (h1 x hx), fun x hx => Nat.le_trans hw (h2 x hx), h3, ?_, own_lower (own_turned o1 hT (fun b hb => (hD b hb).2)) hw, own_lower (own_turned o2 hT (fun b hb => (hD b hb).2)) hw, o3⟩
  exact hb.trans ((h4.mono hw).trans (hT.below (Nat.le_trans hw h4.size) (fun x hx => (hD x hx).1)))
theorem pin_of_owns {W : World} {p : Pt} {a b : Option Addr} {ca cb k1 k2 : Nat} (hI : OwnI W k1 (.slice a p.ins.length ca) p.ins) (hP : OwnI W k2 (.slice b p.plain.length cb) p.plain) (hli : p.ins.length ≤ 2097152) (hlp : p.plain.length ≤ 2097152) (hf : p.fits) :
    PortIn W (blkN a p.ins.length) (blkN b p.plain.length) (ptVal p.pvid a p.ins.length ca b p.plain.length cb p.acc) p := by
  obtain ⟨a1, c1, e1, s1, _, _, m1⟩ := ownI_slin hI
  cases e1
  obtain ⟨a2, c2, e2, s2, _, _, m2⟩ := ownI_slin hP
  cases e2
  exact ⟨a, ca, b, cb, rfl, s1, s2, ⟨rfl, m1⟩, ⟨rfl, m2⟩, hli, hlp, hf⟩
theorem fits_put {l : List Int} (h : ∀ x ∈ l, wf64 x) {vid : Int} (hv : wf64 vid) : ∀ x ∈ putN l vid, wf64 x := fun x hx => (mem_putN.1 hx).elim (fun e => e ▸ hv) (h x)
theorem fits_without {l : List Int} (h : ∀ x ∈ l, wf64 x) (vid : Int) : ∀ x ∈ without l vid, wf64 x := fun x hx => h x (mem_without.1 hx).1
theorem want_list {p : Pt} (h : portOk p) (vid : Int) (u : Bool) : (wantM p vid u).plain = if u = true then putN p.plain vid else without p.plain vid := by
  unfold wantM
  cases u
  · rfl
  · exact put_without h.2.2.1.2.2 vid
theorem want_fits {p : Pt} (h : p.fits) (vid : Int) (hv : wf64 vid) (u : Bool) : (wantM p vid u).fits := by
  obtain ⟨h1, h2, h3, h4⟩ := h
  refine ⟨h1, fits_put h2 hv, ?_, h4⟩
  unfold wantM
  cases u
  · exact fits_without h3 vid
  · exact fits_put (fits_without h3 vid) hv

set_option maxRecDepth 20000 in
set_option maxHeartbeats 2000000 in
set_option linter.unusedSimpArgs false in
theorem set_impl {w : World} {B C : List Nat} {v : Value} {p : Pt} (h : PortIn w B C v p) (vid : Int) (u : Bool) (hv : wf64 vid) : Calls Try.prog 22 #[v, .int .i64 vid, .bool u] w (GotPort w (setM p vid u)) := by
  have hPO := fun w' (hb : Below w.heap.size w w') => portOk_impl (h.after hb)
  have hCP := fun w' (hb : Below w.heap.size w w') => copy_impl (h.after hb)
  obtain ⟨a, ca, b, cb, rfl, hi, hp, _, _, hli, hlp, hf⟩ := h
  have hVL := vlans_impl p.pvid a b p.ins.length ca p.plain.length cb p.acc
  obtain ⟨r1, hr1⟩ : ∃ r, decide (portOk p) = r := ⟨_, rfl⟩
  simp only [hr1] at hPO
  obtain ⟨z, hz⟩ : ∃ z, setM p vid u = z := ⟨_, rfl⟩
  rw [hz]
  have HZ := Lib.hid hz; have HR1 := Lib.hid hr1; have HP := Lib.hid hp; have HI := Lib.hid hi; have HF := Lib.hid hf; have HV := Lib.hid hv
  clear hz hr1 hp hi hf hv
  obtain ⟨pv, ins, plain, ac⟩ := p
  simp only at hPO hCP hVL hli hlp HI HP
  unfold ptVal at *
  have hb : Below w.heap.size w ((w.alloc (.cells #[.int .i64 pv, .slice a ins.length ca, .slice b plain.length cb, .int .i64 ac] 26)).alloc (.cells #[.int .i64 0, .slice none 0 0, .slice none 0 0, .int .i64 0] 26)) := ((Below.refl _ _).alloc (Nat.le_refl _) _).alloc (by simp) _
  have gP : Blk ((w.alloc (.cells #[.int .i64 pv, .slice a ins.length ca, .slice b plain.length cb, .int .i64 ac] 26)).alloc (.cells #[.int .i64 0, .slice none 0 0, .slice none 0 0, .int .i64 0] 26)) w.heap.size #[.int .i64 pv, .slice a ins.length ca, .slice b plain.length cb, .int .i64 ac] 26 := (blk_new _ _ rfl).alloc _
  have gZ : Blk ((w.alloc (.cells #[.int .i64 pv, .slice a ins.length ca, .slice b plain.length cb, .int .i64 ac] 26)).alloc (.cells #[.int .i64 0, .slice none 0 0, .slice none 0 0, .int .i64 0] 26)) (w.heap.size + 1) #[.int .i64 0, .slice none 0 0, .slice none 0 0, .int .i64 0] 26 := blk_new _ _ (by simp)
  have HB := Lib.hid hb; have GP := Lib.hid gP; have GZ := Lib.hid gZ; have HPO := Lib.hid hPO; have HCP := Lib.hid hCP; have HVL := Lib.hid hVL
  clear hb gP gZ hPO hCP hVL
  go_enter Try.func22, Try.ntmps22
  go_wp2_with fail
  refine (HPO.out _ HB.out).mono ?_
  rintro e w1 ⟨rfl, h1⟩
  have H1 := Lib.hid (HB.out.trans (h1.mono HB.out.size)); have GP1 := Lib.hid (GP.out.after h1); have GZ1 := Lib.hid (GZ.out.after h1)
  clear h1 GP GZ
  have p0 := GP1.out.cell 0
  have p1 := GP1.out.cell 1
  have p2 := GP1.out.cell 2
  have p3 := GP1.out.cell 3
  cases r1
  · obtain rfl : z = ⟨pv, ins, plain, ac⟩ := by rw [← HZ.out]; exact if_neg (fun h => of_decide_eq_false HR1.out h.1)
    clear p0 p1 p2 p3
    have p0 : w1.cell? ⟨w.heap.size, 0, none⟩ = some (.int .i64 pv) := GP1.out.cell 0
    have p1 : w1.cell? ⟨w.heap.size, 1, none⟩ = some (.slice a ins.length ca) := GP1.out.cell 1
    have p2 : w1.cell? ⟨w.heap.size, 2, none⟩ = some (.slice b plain.length cb) := GP1.out.cell 2
    have p3 : w1.cell? ⟨w.heap.size, 3, none⟩ = some (.int .i64 ac) := GP1.out.cell 3
    go_wp2_with fail
    refine (HCP.out _ H1.out).mono ?_
    rintro e ws hG
    have hG2 := hG
    obtain ⟨_, _, a1, n1, c1, b1, m1, d1, pv1, ac1, rfl, _, _, _, _, hB2, _⟩ := hG
    unfold ptVal
    have gz := GZ1.out.after hB2
    have HG2 := Lib.hid hG2
    clear hG2 hB2
    have s0 : ws.cell? ⟨w.heap.size + 1, 0, none⟩ = some (.int .i64 0) := gz.cell 0
    have s1 : ws.cell? ⟨w.heap.size + 1, 1, none⟩ = some (.slice none 0 0) := gz.cell 1
    have s2 : ws.cell? ⟨w.heap.size + 1, 2, none⟩ = some (.slice none 0 0) := gz.cell 2
    have s3 : ws.cell? ⟨w.heap.size + 1, 3, none⟩ = some (.int .i64 0) := gz.cell 3
    have z1 := gz.frozen
    have y1 := gz.shape
    have l1 := gz.lt
    have HG := Lib.hid ((((gz.set 0 (.int .i64 pv1)).set 1 (.slice a1 n1 c1)).set 2 (.slice b1 m1 d1)).set 3 (.int .i64 ac1))
    have HT := Lib.hid (((((Turned.refl [w.heap.size + 1] ws).setCell (p := ⟨w.heap.size + 1, 0, none⟩) (by simp) (.int .i64 pv1)).setCell (p := ⟨w.heap.size + 1, 1, none⟩) (by simp) (.slice a1 n1 c1)).setCell (p := ⟨w.heap.size + 1, 2, none⟩) (by simp) (.slice b1 m1 d1)).setCell (p := ⟨w.heap.size + 1, 3, none⟩) (by simp) (.int .i64 ac1))
    go_wp2_with fail
    have r0 := HG.out.cell 0
    have r1 := HG.out.cell 1
    have r2 := HG.out.cell 2
    have r3 := HG.out.cell 3
    have hT := HT.out
    generalize (((ws.setCell ⟨w.heap.size + 1, 0, none⟩ (.int .i64 pv1)).setCell ⟨w.heap.size + 1, 1, none⟩ (.slice a1 n1 c1)).setCell ⟨w.heap.size + 1, 2, none⟩ (.slice b1 m1 d1)).setCell ⟨w.heap.size + 1, 3, none⟩ (.int .i64 ac1) = X at r0 r1 r2 r3 hT ⊢
    replace r0 : X.cell? ⟨w.heap.size + 1, 0, none⟩ = some (.int .i64 pv1) := r0
    replace r1 : X.cell? ⟨w.heap.size + 1, 1, none⟩ = some (.slice a1 n1 c1) := r1
    replace r2 : X.cell? ⟨w.heap.size + 1, 2, none⟩ = some (.slice b1 m1 d1) := r2
    replace r3 : X.cell? ⟨w.heap.size + 1, 3, none⟩ = some (.int .i64 ac1) := r3
    refine bodyPost_ret (v := .agg #[.int .i64 pv1, .slice a1 n1 c1, .slice b1 m1 d1, .int .i64 ac1]) (by simp [results, Try.results22, go_sem, r0, r1, r2, r3]) rfl ?_
    exact HG2.out.later H1.out hT (fun x hx => by simp only [List.mem_singleton] at hx; have := GZ1.out.lt; omega)
  have hok : portOk ⟨pv, ins, plain, ac⟩ := of_decide_eq_true HR1.out
  have HOK := Lib.hid hok
  clear hok
  go_wp2_with fail
  refine (HVL.out _).mono ?_
  rintro e w2 ⟨rfl, h2⟩
  have H2 := Lib.hid (H1.out.trans (h2.mono H1.out.size)); have GP2 := Lib.hid (GP1.out.after h2); have GZ2 := Lib.hid (GZ1.out.after h2)
  clear h2 GP1 GZ1 p0 p1 p2 p3
  have p0 := GP2.out.cell 0
  have p1 := GP2.out.cell 1
  have p2 := GP2.out.cell 2
  have p3 := GP2.out.cell 3
  have l0 := GP2.out.lt
  have l1 := GZ2.out.lt
  go_wp2_with fail
  have hb4 : Below w.heap.size w ((w2.alloc (.cells #[.slice a ins.length ca, .slice b plain.length cb] 66)).alloc (.cells #[.int .i64 pv, .slice a ins.length ca, .slice b plain.length cb, .int .i64 ac] 26)) := (H2.out.alloc H2.out.size _).alloc (by simp; omega) _
  have gP : Blk ((w2.alloc (.cells #[.slice a ins.length ca, .slice b plain.length cb] 66)).alloc (.cells #[.int .i64 pv, .slice a ins.length ca, .slice b plain.length cb, .int .i64 ac] 26)) w.heap.size #[.int .i64 pv, .slice a ins.length ca, .slice b plain.length cb, .int .i64 ac] 26 := (GP2.out.alloc _).alloc _
  have gZ : Blk ((w2.alloc (.cells #[.slice a ins.length ca, .slice b plain.length cb] 66)).alloc (.cells #[.int .i64 pv, .slice a ins.length ca, .slice b plain.length cb, .int .i64 ac] 26)) (w.heap.size + 1) #[.int .i64 0, .slice none 0 0, .slice none 0 0, .int .i64 0] 26 := (GZ2.out.alloc _).alloc _
  have gJ : Blk ((w2.alloc (.cells #[.slice a ins.length ca, .slice b plain.length cb] 66)).alloc (.cells #[.int .i64 pv, .slice a ins.length ca, .slice b plain.length cb, .int .i64 ac] 26)) w2.heap.size #[.slice a ins.length ca, .slice b plain.length cb] 66 := (blk_new _ _ rfl).alloc _
  have gC : Blk ((w2.alloc (.cells #[.slice a ins.length ca, .slice b plain.length cb] 66)).alloc (.cells #[.int .i64 pv, .slice a ins.length ca, .slice b plain.length cb, .int .i64 ac] 26)) (w2.heap.size + 1) #[.int .i64 pv, .slice a ins.length ca, .slice b plain.length cb, .int .i64 ac] 26 := blk_new _ _ (by simp)
  have hs4 : ((w2.alloc (.cells #[.slice a ins.length ca, .slice b plain.length cb] 66)).alloc (.cells #[.int .i64 pv, .slice a ins.length ca, .slice b plain.length cb, .int .i64 ac] 26)).heap.size = w2.heap.size + 2 := by simp
  clear H2 GP2 GZ2 p0 p1 p2 p3
  generalize (w2.alloc (.cells #[.slice a ins.length ca, .slice b plain.length cb] 66)).alloc (.cells #[.int .i64 pv, .slice a ins.length ca, .slice b plain.length cb, .int .i64 ac] 26) = w4 at hb4 gP gZ gJ gC hs4 ⊢
  generalize w2.heap.size = jb at gJ gC hs4 l0 l1 ⊢
  refine (with_impl ins a ins.length ca vid w4 rfl (HI.out.after hb4) (by have := HOK.out.2.1.1; simp only at this; omega) HOK.out.2.1.2.2).mono ?_
  rintro e w5 ⟨v1, rfl, hown, h5⟩
  obtain ⟨va, vc, rfl⟩ := own_form hown
  have gP5 := gP.after h5
  have gZ5 := gZ.after h5
  have gJ5 := gJ.after h5
  have gC5 := gC.after h5
  have hb5 := hb4.trans (h5.mono hb4.size)
  rw [hs4] at hown
  have hs5 := h5.size
  rw [hs4] at hs5
  have HP6 := Lib.hid (gP5.other (j := 1) (g := jb + 1) (by omega) (.slice va (putN ins vid).length vc))
  have HZ6 := Lib.hid (gZ5.other (j := 1) (g := jb + 1) (by omega) (.slice va (putN ins vid).length vc))
  have HJ6 := Lib.hid (gJ5.other (j := 1) (g := jb + 1) (by omega) (.slice va (putN ins vid).length vc))
  have HC6 := Lib.hid (gC5.set 1 (.slice va (putN ins vid).length vc))
  have HB6 := Lib.hid (hb5.setCell (p := ⟨jb + 1, 1, none⟩) (by simp <;> omega) (.slice va (putN ins vid).length vc))
  have HO6 := Lib.hid (own_setCell (b := jb + 1) (j := 1) hown (by omega) (.slice va (putN ins vid).length vc))
  have HS6 := Lib.hid (show (w5.setCell ⟨jb + 1, 1, none⟩ (.slice va (putN ins vid).length vc)).heap.size = w5.heap.size by simp [World.setCell])
  have HL5 := Lib.hid hs5
  have HL := Lib.hid l1
  have c0 : w5.cell? ⟨jb + 1, 0, none⟩ = some (.int .i64 pv) := gC5.cell 0
  have c1 : w5.cell? ⟨jb + 1, 1, none⟩ = some (.slice a ins.length ca) := gC5.cell 1
  have c2 : w5.cell? ⟨jb + 1, 2, none⟩ = some (.slice b plain.length cb) := gC5.cell 2
  have c3 : w5.cell? ⟨jb + 1, 3, none⟩ = some (.int .i64 ac) := gC5.cell 3
  have j0 : w5.cell? ⟨jb, 0, none⟩ = some (.slice a ins.length ca) := gJ5.cell 0
  have j1 : w5.cell? ⟨jb, 1, none⟩ = some (.slice b plain.length cb) := gJ5.cell 1
  have zc := gC5.frozen
  have yc := gC5.shape
  have lc := gC5.lt
  have lj := gJ5.lt
  clear gP gZ gJ gC hb4 h5 gP5 gZ5 gJ5 gC5 hb5 hown hs4 hs5 l0 l1
  go_wp2_with fail
  clear c0 c1 c2 c3 j0 j1 zc yc lc lj
  generalize w5.setCell ⟨jb + 1, 1, none⟩ (.slice va (putN ins vid).length vc) = w6 at HP6 HZ6 HJ6 HC6 HB6 HO6 HS6 ⊢
  refine (without_impl plain b plain.length cb vid w6 rfl (HP.out.after HB6.out) hlp).mono ?_
  rintro e w7 ⟨v2, rfl, hown2, h7⟩
  obtain ⟨vb, vd, rfl⟩ := own_form hown2
  have gP7 := HP6.out.after h7
  have gZ7 := HZ6.out.after h7
  have gJ7 := HJ6.out.after h7
  have gC7 := HC6.out.after h7
  have hb7 := HB6.out.trans (h7.mono HB6.out.size)
  have hs7 := h7.size
  have hown1 := ownI_below (xs := putN ins vid) HO6.out h7
  have hl6 := HL5.out
  have he6 := HS6.out
  have hl := HL.out
  cases u
  · have HPq := Lib.hid (gP7.other (j := 2) (g := jb + 1) (by omega) (.slice vb (without plain vid).length vd))
    have HZq := Lib.hid (gZ7.other (j := 2) (g := jb + 1) (by omega) (.slice vb (without plain vid).length vd))
    have HJq := Lib.hid (gJ7.other (j := 2) (g := jb + 1) (by omega) (.slice vb (without plain vid).length vd))
    have HCq := Lib.hid (gC7.set 2 (.slice vb (without plain vid).length vd))
    have HBq := Lib.hid (hb7.setCell (p := ⟨jb + 1, 2, none⟩) (by simp <;> omega) (.slice vb (without plain vid).length vd))
    have HOq := Lib.hid (own_setCell (b := jb + 1) (j := 2) hown1 (by omega) (.slice vb (without plain vid).length vd))
    have HQq := Lib.hid (own_setCell (b := jb + 1) (j := 2) hown2 (by omega) (.slice vb (without plain vid).length vd))
    have HSq := Lib.hid (show (w7.setCell ⟨jb + 1, 2, none⟩ (.slice vb (without plain vid).length vd)).heap.size = w7.heap.size by simp [World.setCell])
    have HLT := Lib.hid (fun g e => (World.ownsRow.lt HO6.out g e).2)
    have HBASE := Lib.hid (show w.heap.size ≤ w6.heap.size from HB6.out.size)
    have c0 : w7.cell? ⟨jb + 1, 0, none⟩ = some (.int .i64 pv) := gC7.cell 0
    have c1 : w7.cell? ⟨jb + 1, 1, none⟩ = some (.slice va (putN ins vid).length vc) := gC7.cell 1
    have c2 : w7.cell? ⟨jb + 1, 2, none⟩ = some (.slice b plain.length cb) := gC7.cell 2
    have c3 : w7.cell? ⟨jb + 1, 3, none⟩ = some (.int .i64 ac) := gC7.cell 3
    have zc := gC7.frozen
    have yc := gC7.shape
    have lc := gC7.lt
    clear gP7 gZ7 gJ7 gC7 hb7 hs7 hown1 hown2
    go_wp2_with fail
    clear c0 c1 c2 c3 zc yc lc
    generalize w7.setCell ⟨jb + 1, 2, none⟩ (.slice vb (without plain vid).length vd) = wq at HPq HZq HJq HCq HBq HOq HQq HSq ⊢
    have hq : (wantM ⟨pv, ins, plain, ac⟩ vid false).plain = without plain vid := want_list HOK.out vid false
    have hwp : wantM ⟨pv, ins, plain, ac⟩ vid false = ⟨pv, putN ins vid, without plain vid, ac⟩ := by rw [← hq]; rfl
    have hfit := want_fits HF.out vid HV.out false
    have hzz := HZ.out
    unfold setM at hzz
    rw [hwp] at hfit hzz
    have hn1 : (putN ins vid).length ≤ 2097152 := by have := putN_len ins vid; have := HOK.out.2.1.1; simp only at this; omega
    have hn2 : (without plain vid).length ≤ 2097152 := by have := without_len plain vid; have := HOK.out.2.2.1.1; simp only at this; omega
    have hpin := pin_of_owns (p := ⟨pv, putN ins vid, without plain vid, ac⟩) HOq.out HQq.out hn1 hn2 hfit
    unfold ptVal at hpin
    have hk := portOk_impl hpin
    obtain ⟨r2, hr2⟩ : ∃ r, decide (portOk ⟨pv, putN ins vid, without plain vid, ac⟩) = r := ⟨_, rfl⟩
    rw [hr2] at hk
    have HK := Lib.hid hk; have HR2 := Lib.hid hr2; have HZZ := Lib.hid hzz; have HFIT := Lib.hid hfit; have HN1 := Lib.hid hn1; have HN2 := Lib.hid hn2
    clear hq hwp hk hr2 hzz hpin hfit hn1 hn2
    refine HK.out.mono ?_
    rintro e wr ⟨rfl, hr⟩
    have HPr := Lib.hid (HPq.out.after hr); have HZr := Lib.hid (HZq.out.after hr); have HCr := Lib.hid (HCq.out.after hr); have HBr := Lib.hid (HBq.out.trans (hr.mono HBq.out.size)); have HOr := Lib.hid (ownI_below (xs := putN ins vid) HOq.out hr); have HQr := Lib.hid (ownI_below (xs := without plain vid) HQq.out hr)
    clear hr HPq HZq HJq HCq HBq HOq HQq
    cases r2
    · obtain rfl : z = ⟨pv, ins, plain, ac⟩ := by rw [← HZZ.out]; exact if_neg (fun h => of_decide_eq_false HR2.out h.2)
      have p0 : wr.cell? ⟨w.heap.size, 0, none⟩ = some (.int .i64 pv) := HPr.out.cell 0
      have p1 : wr.cell? ⟨w.heap.size, 1, none⟩ = some (.slice a ins.length ca) := HPr.out.cell 1
      have p2 : wr.cell? ⟨w.heap.size, 2, none⟩ = some (.slice b plain.length cb) := HPr.out.cell 2
      have p3 : wr.cell? ⟨w.heap.size, 3, none⟩ = some (.int .i64 ac) := HPr.out.cell 3
      go_wp2_with fail
      refine (HCP.out _ HBr.out).mono ?_
      rintro e ws hG
      have hG2 := hG
      obtain ⟨_, _, a1, n1, c1, b1, m1, d1, pv1, ac1, rfl, _, _, _, _, hB2, _⟩ := hG
      unfold ptVal
      have gz := HZr.out.after hB2
      have HG2 := Lib.hid hG2
      clear hG2 hB2
      have s0 : ws.cell? ⟨w.heap.size + 1, 0, none⟩ = some (.int .i64 0) := gz.cell 0
      have s1 : ws.cell? ⟨w.heap.size + 1, 1, none⟩ = some (.slice none 0 0) := gz.cell 1
      have s2 : ws.cell? ⟨w.heap.size + 1, 2, none⟩ = some (.slice none 0 0) := gz.cell 2
      have s3 : ws.cell? ⟨w.heap.size + 1, 3, none⟩ = some (.int .i64 0) := gz.cell 3
      have z1 := gz.frozen
      have y1 := gz.shape
      have l1 := gz.lt
      have HG := Lib.hid ((((gz.set 0 (.int .i64 pv1)).set 1 (.slice a1 n1 c1)).set 2 (.slice b1 m1 d1)).set 3 (.int .i64 ac1))
      have HT := Lib.hid (((((Turned.refl [w.heap.size + 1] ws).setCell (p := ⟨w.heap.size + 1, 0, none⟩) (by simp) (.int .i64 pv1)).setCell (p := ⟨w.heap.size + 1, 1, none⟩) (by simp) (.slice a1 n1 c1)).setCell (p := ⟨w.heap.size + 1, 2, none⟩) (by simp) (.slice b1 m1 d1)).setCell (p := ⟨w.heap.size + 1, 3, none⟩) (by simp) (.int .i64 ac1))
      go_wp2_with fail
      have r0 := HG.out.cell 0
      have r1 := HG.out.cell 1
      have r2 := HG.out.cell 2
      have r3 := HG.out.cell 3
      have hT := HT.out
      generalize (((ws.setCell ⟨w.heap.size + 1, 0, none⟩ (.int .i64 pv1)).setCell ⟨w.heap.size + 1, 1, none⟩ (.slice a1 n1 c1)).setCell ⟨w.heap.size + 1, 2, none⟩ (.slice b1 m1 d1)).setCell ⟨w.heap.size + 1, 3, none⟩ (.int .i64 ac1) = X at r0 r1 r2 r3 hT ⊢
      replace r0 : X.cell? ⟨w.heap.size + 1, 0, none⟩ = some (.int .i64 pv1) := r0
      replace r1 : X.cell? ⟨w.heap.size + 1, 1, none⟩ = some (.slice a1 n1 c1) := r1
      replace r2 : X.cell? ⟨w.heap.size + 1, 2, none⟩ = some (.slice b1 m1 d1) := r2
      replace r3 : X.cell? ⟨w.heap.size + 1, 3, none⟩ = some (.int .i64 ac1) := r3
      refine bodyPost_ret (v := .agg #[.int .i64 pv1, .slice a1 n1 c1, .slice b1 m1 d1, .int .i64 ac1]) (by simp [results, Try.results22, go_sem, r0, r1, r2, r3]) rfl ?_
      exact HG2.out.later HBr.out hT (fun x hx => by simp only [List.mem_singleton] at hx; have := HZr.out.lt; omega)
    · obtain rfl : z = ⟨pv, putN ins vid, without plain vid, ac⟩ := by rw [← HZZ.out]; exact if_pos ⟨HOK.out, of_decide_eq_true HR2.out⟩
      have hl := HL.out
      have hbb := HBASE.out
      have gz := HZr.out
      have c0 : wr.cell? ⟨jb + 1, 0, none⟩ = some (.int .i64 pv) := HCr.out.cell 0
      have c1 : wr.cell? ⟨jb + 1, 1, none⟩ = some (.slice va (putN ins vid).length vc) := HCr.out.cell 1
      have c2 : wr.cell? ⟨jb + 1, 2, none⟩ = some (.slice vb (without plain vid).length vd) := HCr.out.cell 2
      have c3 : wr.cell? ⟨jb + 1, 3, none⟩ = some (.int .i64 ac) := HCr.out.cell 3
      have s0 : wr.cell? ⟨w.heap.size + 1, 0, none⟩ = some (.int .i64 0) := gz.cell 0
      have s1 : wr.cell? ⟨w.heap.size + 1, 1, none⟩ = some (.slice none 0 0) := gz.cell 1
      have s2 : wr.cell? ⟨w.heap.size + 1, 2, none⟩ = some (.slice none 0 0) := gz.cell 2
      have s3 : wr.cell? ⟨w.heap.size + 1, 3, none⟩ = some (.int .i64 0) := gz.cell 3
      have z1 := gz.frozen
      have y1 := gz.shape
      have l1 := gz.lt
      have HG := Lib.hid ((((gz.set 0 (.int .i64 pv)).set 1 (.slice va (putN ins vid).length vc)).set 2 (.slice vb (without plain vid).length vd)).set 3 (.int .i64 ac))
      have HT := Lib.hid (((((Turned.refl [w.heap.size + 1] wr).setCell (p := ⟨w.heap.size + 1, 0, none⟩) (by simp) (.int .i64 pv)).setCell (p := ⟨w.heap.size + 1, 1, none⟩) (by simp) (.slice va (putN ins vid).length vc)).setCell (p := ⟨w.heap.size + 1, 2, none⟩) (by simp) (.slice vb (without plain vid).length vd)).setCell (p := ⟨w.heap.size + 1, 3, none⟩) (by simp) (.int .i64 ac))
      have HOX := Lib.hid (own_setCell (b := w.heap.size + 1) (j := 3) (own_setCell (b := w.heap.size + 1) (j := 2) (own_setCell (b := w.heap.size + 1) (j := 1) (own_setCell (b := w.heap.size + 1) (j := 0) HOr.out (by omega) (.int .i64 pv)) (by omega) (.slice va (putN ins vid).length vc)) (by omega) (.slice vb (without plain vid).length vd)) (by omega) (.int .i64 ac))
      have HQX := Lib.hid (own_setCell (b := w.heap.size + 1) (j := 3) (own_setCell (b := w.heap.size + 1) (j := 2) (own_setCell (b := w.heap.size + 1) (j := 1) (own_setCell (b := w.heap.size + 1) (j := 0) HQr.out (by omega) (.int .i64 pv)) (by omega) (.slice va (putN ins vid).length vc)) (by omega) (.slice vb (without plain vid).length vd)) (by omega) (.int .i64 ac))
      have HBX := Lib.hid ((((HBr.out.setCell (p := ⟨w.heap.size + 1, 0, none⟩) (by simp <;> omega) (.int .i64 pv)).setCell (p := ⟨w.heap.size + 1, 1, none⟩) (by simp <;> omega) (.slice va (putN ins vid).length vc)).setCell (p := ⟨w.heap.size + 1, 2, none⟩) (by simp <;> omega) (.slice vb (without plain vid).length vd)).setCell (p := ⟨w.heap.size + 1, 3, none⟩) (by simp <;> omega) (.int .i64 ac))
      go_wp2_with fail
      have r0 := HG.out.cell 0
      have r1 := HG.out.cell 1
      have r2 := HG.out.cell 2
      have r3 := HG.out.cell 3
      have hT := HT.out
      generalize (((wr.setCell ⟨w.heap.size + 1, 0, none⟩ (.int .i64 pv)).setCell ⟨w.heap.size + 1, 1, none⟩ (.slice va (putN ins vid).length vc)).setCell ⟨w.heap.size + 1, 2, none⟩ (.slice vb (without plain vid).length vd)).setCell ⟨w.heap.size + 1, 3, none⟩ (.int .i64 ac) = X at r0 r1 r2 r3 hT HOX HQX HBX ⊢
      replace r0 : X.cell? ⟨w.heap.size + 1, 0, none⟩ = some (.int .i64 pv) := r0
      replace r1 : X.cell? ⟨w.heap.size + 1, 1, none⟩ = some (.slice va (putN ins vid).length vc) := r1
      replace r2 : X.cell? ⟨w.heap.size + 1, 2, none⟩ = some (.slice vb (without plain vid).length vd) := r2
      replace r3 : X.cell? ⟨w.heap.size + 1, 3, none⟩ = some (.int .i64 ac) := r3
      refine bodyPost_ret (v := .agg #[.int .i64 pv, .slice va (putN ins vid).length vc, .slice vb (without plain vid).length vd, .int .i64 ac]) (by simp [results, Try.results22, go_sem, r0, r1, r2, r3]) rfl ?_
      exact got_of_owns (p := ⟨pv, putN ins vid, without plain vid, ac⟩) (OwnI.lower (base := jb + 2) HOX.out (by omega)) HQX.out HLT.out HBASE.out HBX.out HN1.out HN2.out HFIT.out
  · have HP8 := Lib.hid (gP7.other (j := 2) (g := jb + 1) (by omega) (.slice vb (without plain vid).length vd))
    have HZ8 := Lib.hid (gZ7.other (j := 2) (g := jb + 1) (by omega) (.slice vb (without plain vid).length vd))
    have HJ8 := Lib.hid (gJ7.other (j := 2) (g := jb + 1) (by omega) (.slice vb (without plain vid).length vd))
    have HC8 := Lib.hid (gC7.set 2 (.slice vb (without plain vid).length vd))
    have HB8 := Lib.hid (hb7.setCell (p := ⟨jb + 1, 2, none⟩) (by simp <;> omega) (.slice vb (without plain vid).length vd))
    have HO8 := Lib.hid (own_setCell (b := jb + 1) (j := 2) hown1 (by omega) (.slice vb (without plain vid).length vd))
    have HS8 := Lib.hid (show (w7.setCell ⟨jb + 1, 2, none⟩ (.slice vb (without plain vid).length vd)).heap.size = w7.heap.size by simp [World.setCell])
    have c0 : w7.cell? ⟨jb + 1, 0, none⟩ = some (.int .i64 pv) := gC7.cell 0
    have c1 : w7.cell? ⟨jb + 1, 1, none⟩ = some (.slice va (putN ins vid).length vc) := gC7.cell 1
    have c2 : w7.cell? ⟨jb + 1, 2, none⟩ = some (.slice b plain.length cb) := gC7.cell 2
    have c3 : w7.cell? ⟨jb + 1, 3, none⟩ = some (.int .i64 ac) := gC7.cell 3
    have j0 : w7.cell? ⟨jb, 0, none⟩ = some (.slice a ins.length ca) := gJ7.cell 0
    have j1 : w7.cell? ⟨jb, 1, none⟩ = some (.slice b plain.length cb) := gJ7.cell 1
    have zc := gC7.frozen
    have yc := gC7.shape
    have lc := gC7.lt
    have lj := gJ7.lt
    have HL7 := Lib.hid (show jb + 2 ≤ w7.heap.size by omega)
    clear gP7 gZ7 gJ7 gC7 hb7 hs7 hown1 hown2 hl6 he6
    go_wp2_with fail
    clear c0 c1 c2 c3 j0 j1 zc yc lc lj
    generalize w7.setCell ⟨jb + 1, 2, none⟩ (.slice vb (without plain vid).length vd) = w8 at HP8 HZ8 HJ8 HC8 HB8 HO8 HS8 ⊢
    refine (with_impl plain b plain.length cb vid w8 rfl (HP.out.after HB8.out) (by have := HOK.out.2.2.1.1; simp only at this; omega) HOK.out.2.2.1.2.2).mono ?_
    rintro e w9 ⟨v3, rfl, hown3, h9⟩
    obtain ⟨ve, vf, rfl⟩ := own_form hown3
    have gP9 := HP8.out.after h9
    have gZ9 := HZ8.out.after h9
    have gJ9 := HJ8.out.after h9
    have gC9 := HC8.out.after h9
    have hb9 := HB8.out.trans (h9.mono HB8.out.size)
    have hs9 := h9.size
    have hown1 := ownI_below (xs := putN ins vid) HO8.out h9
    have hl6 := HL7.out
    have he6 := HS8.out
    have HPq := Lib.hid (gP9.other (j := 2) (g := jb + 1) (by omega) (.slice ve (putN plain vid).length vf))
    have HZq := Lib.hid (gZ9.other (j := 2) (g := jb + 1) (by omega) (.slice ve (putN plain vid).length vf))
    have HJq := Lib.hid (gJ9.other (j := 2) (g := jb + 1) (by omega) (.slice ve (putN plain vid).length vf))
    have HCq := Lib.hid (gC9.set 2 (.slice ve (putN plain vid).length vf))
    have HBq := Lib.hid (hb9.setCell (p := ⟨jb + 1, 2, none⟩) (by simp <;> omega) (.slice ve (putN plain vid).length vf))
    have HOq := Lib.hid (own_setCell (b := jb + 1) (j := 2) hown1 (by omega) (.slice ve (putN plain vid).length vf))
    have HQq := Lib.hid (own_setCell (b := jb + 1) (j := 2) hown3 (by omega) (.slice ve (putN plain vid).length vf))
    have HSq := Lib.hid (show (w9.setCell ⟨jb + 1, 2, none⟩ (.slice ve (putN plain vid).length vf)).heap.size = w9.heap.size by simp [World.setCell])
    have HLT := Lib.hid (fun g e => (World.ownsRow.lt HO8.out g e).2)
    have HBASE := Lib.hid (show w.heap.size ≤ w8.heap.size from HB8.out.size)
    have c0 : w9.cell? ⟨jb + 1, 0, none⟩ = some (.int .i64 pv) := gC9.cell 0
    have c1 : w9.cell? ⟨jb + 1, 1, none⟩ = some (.slice va (putN ins vid).length vc) := gC9.cell 1
    have c2 : w9.cell? ⟨jb + 1, 2, none⟩ = some (.slice vb (without plain vid).length vd) := gC9.cell 2
    have c3 : w9.cell? ⟨jb + 1, 3, none⟩ = some (.int .i64 ac) := gC9.cell 3
    have zc := gC9.frozen
    have yc := gC9.shape
    have lc := gC9.lt
    clear gP9 gZ9 gJ9 gC9 hb9 hs9 hown1 hown3
    go_wp2_with fail
    clear c0 c1 c2 c3 zc yc lc
    generalize w9.setCell ⟨jb + 1, 2, none⟩ (.slice ve (putN plain vid).length vf) = wq at HPq HZq HJq HCq HBq HOq HQq HSq ⊢
    have hq : (wantM ⟨pv, ins, plain, ac⟩ vid true).plain = putN plain vid := want_list HOK.out vid true
    have hwp : wantM ⟨pv, ins, plain, ac⟩ vid true = ⟨pv, putN ins vid, putN plain vid, ac⟩ := by rw [← hq]; rfl
    have hfit := want_fits HF.out vid HV.out true
    have hzz := HZ.out
    unfold setM at hzz
    rw [hwp] at hfit hzz
    have hn1 : (putN ins vid).length ≤ 2097152 := by have := putN_len ins vid; have := HOK.out.2.1.1; simp only at this; omega
    have hn2 : (putN plain vid).length ≤ 2097152 := by have := putN_len plain vid; have := HOK.out.2.2.1.1; simp only at this; omega
    have hpin := pin_of_owns (p := ⟨pv, putN ins vid, putN plain vid, ac⟩) HOq.out HQq.out hn1 hn2 hfit
    unfold ptVal at hpin
    have hk := portOk_impl hpin
    obtain ⟨r2, hr2⟩ : ∃ r, decide (portOk ⟨pv, putN ins vid, putN plain vid, ac⟩) = r := ⟨_, rfl⟩
    rw [hr2] at hk
    have HK := Lib.hid hk; have HR2 := Lib.hid hr2; have HZZ := Lib.hid hzz; have HFIT := Lib.hid hfit; have HN1 := Lib.hid hn1; have HN2 := Lib.hid hn2
    clear hq hwp hk hr2 hzz hpin hfit hn1 hn2
    refine HK.out.mono ?_
    rintro e wr ⟨rfl, hr⟩
    have HPr := Lib.hid (HPq.out.after hr); have HZr := Lib.hid (HZq.out.after hr); have HCr := Lib.hid (HCq.out.after hr); have HBr := Lib.hid (HBq.out.trans (hr.mono HBq.out.size)); have HOr := Lib.hid (ownI_below (xs := putN ins vid) HOq.out hr); have HQr := Lib.hid (ownI_below (xs := putN plain vid) HQq.out hr)
    clear hr HPq HZq HJq HCq HBq HOq HQq
    cases r2
    · obtain rfl : z = ⟨pv, ins, plain, ac⟩ := by rw [← HZZ.out]; exact if_neg (fun h => of_decide_eq_false HR2.out h.2)
      have p0 : wr.cell? ⟨w.heap.size, 0, none⟩ = some (.int .i64 pv) := HPr.out.cell 0
      have p1 : wr.cell? ⟨w.heap.size, 1, none⟩ = some (.slice a ins.length ca) := HPr.out.cell 1
      have p2 : wr.cell? ⟨w.heap.size, 2, none⟩ = some (.slice b plain.length cb) := HPr.out.cell 2
      have p3 : wr.cell? ⟨w.heap.size, 3, none⟩ = some (.int .i64 ac) := HPr.out.cell 3
      go_wp2_with fail
      refine (HCP.out _ HBr.out).mono ?_
      rintro e ws hG
      have hG2 := hG
      obtain ⟨_, _, a1, n1, c1, b1, m1, d1, pv1, ac1, rfl, _, _, _, _, hB2, _⟩ := hG
      unfold ptVal
      have gz := HZr.out.after hB2
      have HG2 := Lib.hid hG2
      clear hG2 hB2
      have s0 : ws.cell? ⟨w.heap.size + 1, 0, none⟩ = some (.int .i64 0) := gz.cell 0
      have s1 : ws.cell? ⟨w.heap.size + 1, 1, none⟩ = some (.slice none 0 0) := gz.cell 1
      have s2 : ws.cell? ⟨w.heap.size + 1, 2, none⟩ = some (.slice none 0 0) := gz.cell 2
      have s3 : ws.cell? ⟨w.heap.size + 1, 3, none⟩ = some (.int .i64 0) := gz.cell 3
      have z1 := gz.frozen
      have y1 := gz.shape
      have l1 := gz.lt
      have HG := Lib.hid ((((gz.set 0 (.int .i64 pv1)).set 1 (.slice a1 n1 c1)).set 2 (.slice b1 m1 d1)).set 3 (.int .i64 ac1))
      have HT := Lib.hid (((((Turned.refl [w.heap.size + 1] ws).setCell (p := ⟨w.heap.size + 1, 0, none⟩) (by simp) (.int .i64 pv1)).setCell (p := ⟨w.heap.size + 1, 1, none⟩) (by simp) (.slice a1 n1 c1)).setCell (p := ⟨w.heap.size + 1, 2, none⟩) (by simp) (.slice b1 m1 d1)).setCell (p := ⟨w.heap.size + 1, 3, none⟩) (by simp) (.int .i64 ac1))
      go_wp2_with fail
      have r0 := HG.out.cell 0
      have r1 := HG.out.cell 1
      have r2 := HG.out.cell 2
      have r3 := HG.out.cell 3
      have hT := HT.out
      generalize (((ws.setCell ⟨w.heap.size + 1, 0, none⟩ (.int .i64 pv1)).setCell ⟨w.heap.size + 1, 1, none⟩ (.slice a1 n1 c1)).setCell ⟨w.heap.size + 1, 2, none⟩ (.slice b1 m1 d1)).setCell ⟨w.heap.size + 1, 3, none⟩ (.int .i64 ac1) = X at r0 r1 r2 r3 hT ⊢
      replace r0 : X.cell? ⟨w.heap.size + 1, 0, none⟩ = some (.int .i64 pv1) := r0
      replace r1 : X.cell? ⟨w.heap.size + 1, 1, none⟩ = some (.slice a1 n1 c1) := r1
      replace r2 : X.cell? ⟨w.heap.size + 1, 2, none⟩ = some (.slice b1 m1 d1) := r2
      replace r3 : X.cell? ⟨w.heap.size + 1, 3, none⟩ = some (.int .i64 ac1) := r3
      refine bodyPost_ret (v := .agg #[.int .i64 pv1, .slice a1 n1 c1, .slice b1 m1 d1, .int .i64 ac1]) (by simp [results, Try.results22, go_sem, r0, r1, r2, r3]) rfl ?_
      exact HG2.out.later HBr.out hT (fun x hx => by simp only [List.mem_singleton] at hx; have := HZr.out.lt; omega)
    · obtain rfl : z = ⟨pv, putN ins vid, putN plain vid, ac⟩ := by rw [← HZZ.out]; exact if_pos ⟨HOK.out, of_decide_eq_true HR2.out⟩
      have hl := HL.out
      have hbb := HBASE.out
      have gz := HZr.out
      have c0 : wr.cell? ⟨jb + 1, 0, none⟩ = some (.int .i64 pv) := HCr.out.cell 0
      have c1 : wr.cell? ⟨jb + 1, 1, none⟩ = some (.slice va (putN ins vid).length vc) := HCr.out.cell 1
      have c2 : wr.cell? ⟨jb + 1, 2, none⟩ = some (.slice ve (putN plain vid).length vf) := HCr.out.cell 2
      have c3 : wr.cell? ⟨jb + 1, 3, none⟩ = some (.int .i64 ac) := HCr.out.cell 3
      have s0 : wr.cell? ⟨w.heap.size + 1, 0, none⟩ = some (.int .i64 0) := gz.cell 0
      have s1 : wr.cell? ⟨w.heap.size + 1, 1, none⟩ = some (.slice none 0 0) := gz.cell 1
      have s2 : wr.cell? ⟨w.heap.size + 1, 2, none⟩ = some (.slice none 0 0) := gz.cell 2
      have s3 : wr.cell? ⟨w.heap.size + 1, 3, none⟩ = some (.int .i64 0) := gz.cell 3
      have z1 := gz.frozen
      have y1 := gz.shape
      have l1 := gz.lt
      have HG := Lib.hid ((((gz.set 0 (.int .i64 pv)).set 1 (.slice va (putN ins vid).length vc)).set 2 (.slice ve (putN plain vid).length vf)).set 3 (.int .i64 ac))
      have HT := Lib.hid (((((Turned.refl [w.heap.size + 1] wr).setCell (p := ⟨w.heap.size + 1, 0, none⟩) (by simp) (.int .i64 pv)).setCell (p := ⟨w.heap.size + 1, 1, none⟩) (by simp) (.slice va (putN ins vid).length vc)).setCell (p := ⟨w.heap.size + 1, 2, none⟩) (by simp) (.slice ve (putN plain vid).length vf)).setCell (p := ⟨w.heap.size + 1, 3, none⟩) (by simp) (.int .i64 ac))
      have HOX := Lib.hid (own_setCell (b := w.heap.size + 1) (j := 3) (own_setCell (b := w.heap.size + 1) (j := 2) (own_setCell (b := w.heap.size + 1) (j := 1) (own_setCell (b := w.heap.size + 1) (j := 0) HOr.out (by omega) (.int .i64 pv)) (by omega) (.slice va (putN ins vid).length vc)) (by omega) (.slice ve (putN plain vid).length vf)) (by omega) (.int .i64 ac))
      have HQX := Lib.hid (own_setCell (b := w.heap.size + 1) (j := 3) (own_setCell (b := w.heap.size + 1) (j := 2) (own_setCell (b := w.heap.size + 1) (j := 1) (own_setCell (b := w.heap.size + 1) (j := 0) HQr.out (by omega) (.int .i64 pv)) (by omega) (.slice va (putN ins vid).length vc)) (by omega) (.slice ve (putN plain vid).length vf)) (by omega) (.int .i64 ac))
      have HBX := Lib.hid ((((HBr.out.setCell (p := ⟨w.heap.size + 1, 0, none⟩) (by simp <;> omega) (.int .i64 pv)).setCell (p := ⟨w.heap.size + 1, 1, none⟩) (by simp <;> omega) (.slice va (putN ins vid).length vc)).setCell (p := ⟨w.heap.size + 1, 2, none⟩) (by simp <;> omega) (.slice ve (putN plain vid).length vf)).setCell (p := ⟨w.heap.size + 1, 3, none⟩) (by simp <;> omega) (.int .i64 ac))
      go_wp2_with fail
      have r0 := HG.out.cell 0
      have r1 := HG.out.cell 1
      have r2 := HG.out.cell 2
      have r3 := HG.out.cell 3
      have hT := HT.out
      generalize (((wr.setCell ⟨w.heap.size + 1, 0, none⟩ (.int .i64 pv)).setCell ⟨w.heap.size + 1, 1, none⟩ (.slice va (putN ins vid).length vc)).setCell ⟨w.heap.size + 1, 2, none⟩ (.slice ve (putN plain vid).length vf)).setCell ⟨w.heap.size + 1, 3, none⟩ (.int .i64 ac) = X at r0 r1 r2 r3 hT HOX HQX HBX ⊢
      replace r0 : X.cell? ⟨w.heap.size + 1, 0, none⟩ = some (.int .i64 pv) := r0
      replace r1 : X.cell? ⟨w.heap.size + 1, 1, none⟩ = some (.slice va (putN ins vid).length vc) := r1
      replace r2 : X.cell? ⟨w.heap.size + 1, 2, none⟩ = some (.slice ve (putN plain vid).length vf) := r2
      replace r3 : X.cell? ⟨w.heap.size + 1, 3, none⟩ = some (.int .i64 ac) := r3
      refine bodyPost_ret (v := .agg #[.int .i64 pv, .slice va (putN ins vid).length vc, .slice ve (putN plain vid).length vf, .int .i64 ac]) (by simp [results, Try.results22, go_sem, r0, r1, r2, r3]) rfl ?_
      exact got_of_owns (p := ⟨pv, putN ins vid, putN plain vid, ac⟩) (OwnI.lower (base := jb + 2) HOX.out (by omega)) HQX.out HLT.out HBASE.out HBX.out HN1.out HN2.out HFIT.out
end Go.Proofs.Ytfkpecildcejkaa
