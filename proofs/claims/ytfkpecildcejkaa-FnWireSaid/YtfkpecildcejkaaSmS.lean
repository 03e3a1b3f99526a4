/- SetMember and DropMember of the model. -/
import Derived.Test.YtfkpecildcejkaaSm
import Derived.Test.YtfkpecildcejkaaIo
namespace Go.Proofs.Ytfkpecildcejkaa
open Go.RowKit

set_option maxRecDepth 20000 in
set_option maxHeartbeats 2000000 in
set_option linter.unusedSimpArgs false in
theorem set_spec {w : World} {B C : List Nat} {v : Value} {p : Pt} (h : PortIn w B C v p) (vid : Int) (u : Bool) (hv : wf64 vid) : Calls Try.prog 25 #[v, .int .i64 vid, .bool u] w (GotPort w (setM p vid u)) := by
  have hPO := fun w' (hb : Below w.heap.size w w') => portOk_spec (h.after hb)
  have hCP := fun w' (hb : Below w.heap.size w w') => copy6_own (h.after hb)
  obtain ⟨a, ca, b, cb, rfl, hi, hp, _, _, hli, hlp, hf⟩ := h
  obtain ⟨r1, hr1⟩ : ∃ r, decide (portOk p) = r := ⟨_, rfl⟩
  simp only [hr1] at hPO
  obtain ⟨z, hz⟩ : ∃ z, setM p vid u = z := ⟨_, rfl⟩
  rw [hz]
  have HZ := Lib.hid hz; have HR1 := Lib.hid hr1; have HF := Lib.hid hf; have HV := Lib.hid hv
  clear hz hr1 hp hi hf hv
  obtain ⟨pv, ins, plain, ac⟩ := p
  simp only at hPO hCP hli hlp
  unfold ptVal at *
  have hb : Below w.heap.size w ((w.alloc (.cells #[.int .i64 pv, .slice a ins.length ca, .slice b plain.length cb, .int .i64 ac] 26)).alloc (.cells #[.int .i64 0, .slice none 0 0, .slice none 0 0, .int .i64 0] 26)) := ((Below.refl _ _).alloc (Nat.le_refl _) _).alloc (by simp) _
  have gP : Blk ((w.alloc (.cells #[.int .i64 pv, .slice a ins.length ca, .slice b plain.length cb, .int .i64 ac] 26)).alloc (.cells #[.int .i64 0, .slice none 0 0, .slice none 0 0, .int .i64 0] 26)) w.heap.size #[.int .i64 pv, .slice a ins.length ca, .slice b plain.length cb, .int .i64 ac] 26 := (blk_new _ _ rfl).alloc _
  have gZ : Blk ((w.alloc (.cells #[.int .i64 pv, .slice a ins.length ca, .slice b plain.length cb, .int .i64 ac] 26)).alloc (.cells #[.int .i64 0, .slice none 0 0, .slice none 0 0, .int .i64 0] 26)) (w.heap.size + 1) #[.int .i64 0, .slice none 0 0, .slice none 0 0, .int .i64 0] 26 := blk_new _ _ (by simp)
  have HB := Lib.hid hb; have GP := Lib.hid gP; have GZ := Lib.hid gZ; have HPO := Lib.hid hPO; have HCP := Lib.hid hCP
  clear hb gP gZ hPO hCP
  go_enter Try.func25, Try.ntmps25
  go_wp2_with fail
  refine (HPO.out _ HB.out).mono ?_
  rintro e w1 ⟨rfl, h1⟩
  have H1 := Lib.hid (HB.out.trans (h1.mono HB.out.size)); have GP1 := Lib.hid (GP.out.after h1); have GZ1 := Lib.hid (GZ.out.after h1)
  clear h1 GP GZ
  have p0 := GP1.out.cell 0
  have p1 := GP1.out.cell 1
  have p2 := GP1.out.cell 2
  have p3 := GP1.out.cell 3
  cases r1
  · obtain rfl : z = ⟨pv, ins, plain, ac⟩ := by rw [← HZ.out]; exact if_neg (fun h => of_decide_eq_false HR1.out h.1)
    go_wp2_with fail
    refine (HCP.out _ H1.out).mono ?_
    rintro e ws hG
    have hG2 := hG
    obtain ⟨_, _, a1, n1, c1, b1, m1, d1, pv1, ac1, rfl, _, _, _, _, hB2, _⟩ := hG
    unfold ptVal
    have gz := GZ1.out.after hB2
    have HG2 := Lib.hid hG2
    clear hG2 hB2
    have s0 : ws.cell? ⟨w.heap.size + 1, 0, none⟩ = some (.int .i64 0) := gz.cell 0
    have s1 : ws.cell? ⟨w.heap.size + 1, 1, none⟩ = some (.slice none 0 0) := gz.cell 1
    have s2 : ws.cell? ⟨w.heap.size + 1, 2, none⟩ = some (.slice none 0 0) := gz.cell 2
    have s3 : ws.cell? ⟨w.heap.size + 1, 3, none⟩ = some (.int .i64 0) := gz.cell 3
    have z1 := gz.frozen
    have y1 := gz.shape
    have l1 := gz.lt
    have HG := Lib.hid ((((gz.set 0 (.int .i64 pv1)).set 1 (.slice a1 n1 c1)).set 2 (.slice b1 m1 d1)).set 3 (.int .i64 ac1))
    have HT := Lib.hid (((((Turned.refl [w.heap.size + 1] ws).setCell (p := ⟨w.heap.size + 1, 0, none⟩) (by simp) (.int .i64 pv1)).setCell (p := ⟨w.heap.size + 1, 1, none⟩) (by simp) (.slice a1 n1 c1)).setCell (p := ⟨w.heap.size + 1, 2, none⟩) (by simp) (.slice b1 m1 d1)).setCell (p := ⟨w.heap.size + 1, 3, none⟩) (by simp) (.int .i64 ac1))
    go_wp2_with fail
    have r0 := HG.out.cell 0
    have r1 := HG.out.cell 1
    have r2 := HG.out.cell 2
    have r3 := HG.out.cell 3
    have hT := HT.out
    generalize (((ws.setCell ⟨w.heap.size + 1, 0, none⟩ (.int .i64 pv1)).setCell ⟨w.heap.size + 1, 1, none⟩ (.slice a1 n1 c1)).setCell ⟨w.heap.size + 1, 2, none⟩ (.slice b1 m1 d1)).setCell ⟨w.heap.size + 1, 3, none⟩ (.int .i64 ac1) = X at r0 r1 r2 r3 hT ⊢
    replace r0 : X.cell? ⟨w.heap.size + 1, 0, none⟩ = some (.int .i64 pv1) := r0
    replace r1 : X.cell? ⟨w.heap.size + 1, 1, none⟩ = some (.slice a1 n1 c1) := r1
    replace r2 : X.cell? ⟨w.heap.size + 1, 2, none⟩ = some (.slice b1 m1 d1) := r2
    replace r3 : X.cell? ⟨w.heap.size + 1, 3, none⟩ = some (.int .i64 ac1) := r3
    refine bodyPost_ret (v := .agg #[.int .i64 pv1, .slice a1 n1 c1, .slice b1 m1 d1, .int .i64 ac1]) (by simp [results, Try.results25, go_sem, r0, r1, r2, r3]) rfl ?_
    exact HG2.out.later H1.out hT (fun x hx => by simp only [List.mem_singleton] at hx; have := GZ1.out.lt; omega)
  have hok : portOk ⟨pv, ins, plain, ac⟩ := of_decide_eq_true HR1.out
  have HOK := Lib.hid hok
  clear hok
  go_wp2_with fail
  refine (HCP.out _ H1.out).mono ?_
  rintro e w3 hG
  obtain ⟨_, _, ao, no, co, bo, mo, do_, pvo, aco, rfl, ⟨xa, xc, xb, xd, hv, hs1, hs2, _⟩, _, _, _, hB3, _⟩ := hG
  unfold ptVal at hv
  cases hv
  unfold ptVal
  simp only at hs1 hs2
  have HS1 := Lib.hid hs1; have HS2 := Lib.hid hs2
  have H3 := Lib.hid (H1.out.trans (hB3.mono H1.out.size)); have GP3 := Lib.hid (GP1.out.after hB3); have GZ3 := Lib.hid (GZ1.out.after hB3)
  clear hs1 hs2 hB3
  clear GP1 GZ1 p0 p1 p2 p3
  go_wp2_with fail
  have hb4 : Below w.heap.size w (w3.alloc (.cells #[.int .i64 pv, .slice ao ins.length co, .slice bo plain.length do_, .int .i64 ac] 26)) := H3.out.alloc H3.out.size _
  have hK4 : Below w3.heap.size w3 (w3.alloc (.cells #[.int .i64 pv, .slice ao ins.length co, .slice bo plain.length do_, .int .i64 ac] 26)) := (Below.refl _ _).alloc (Nat.le_refl _) _
  have gP4 : Blk (w3.alloc (.cells #[.int .i64 pv, .slice ao ins.length co, .slice bo plain.length do_, .int .i64 ac] 26)) w.heap.size #[.int .i64 pv, .slice a ins.length ca, .slice b plain.length cb, .int .i64 ac] 26 := GP3.out.alloc _
  have gZ4 : Blk (w3.alloc (.cells #[.int .i64 pv, .slice ao ins.length co, .slice bo plain.length do_, .int .i64 ac] 26)) (w.heap.size + 1) #[.int .i64 0, .slice none 0 0, .slice none 0 0, .int .i64 0] 26 := GZ3.out.alloc _
  have gC4 : Blk (w3.alloc (.cells #[.int .i64 pv, .slice ao ins.length co, .slice bo plain.length do_, .int .i64 ac] 26)) w3.heap.size #[.int .i64 pv, .slice ao ins.length co, .slice bo plain.length do_, .int .i64 ac] 26 := blk_new _ _ rfl
  have hs4 : (w3.alloc (.cells #[.int .i64 pv, .slice ao ins.length co, .slice bo plain.length do_, .int .i64 ac] 26)).heap.size = w3.heap.size + 1 := by simp
  have l1 := GZ3.out.lt
  have HSA := Lib.hid (fun w' (hb : Below w3.heap.size w3 w') => HS1.out.after hb); have HSB := Lib.hid (fun w' (hb : Below w3.heap.size w3 w') => HS2.out.after hb)
  clear HS1 HS2 H3 GP3 GZ3
  generalize w3.alloc (.cells #[.int .i64 pv, .slice ao ins.length co, .slice bo plain.length do_, .int .i64 ac] 26) = w4 at hb4 hK4 gP4 gZ4 gC4 hs4 ⊢
  obtain ⟨ob, hob⟩ : ∃ ob, w3.heap.size = ob := ⟨_, rfl⟩
  rw [hob] at hK4 gC4 hs4 l1 HSA HSB ⊢
  clear hob
  have HE := Lib.hid hs4
  refine (put6_spec ins ao ins.length co vid w4 rfl (HSA.out _ hK4) hli HOK.out.2.1.2.2).mono ?_
  rintro e w5 ⟨v1, rfl, hown, h5⟩
  obtain ⟨va, vc, rfl⟩ := own_form hown
  have gP5 := gP4.after h5
  have gZ5 := gZ4.after h5
  have gC5 := gC4.after h5
  have hb5 := hb4.trans (h5.mono hb4.size)
  have hK5 := hK4.trans (h5.mono (by omega))
  rw [hs4] at hown
  have hs5 := h5.size
  rw [hs4] at hs5
  have HP6 := Lib.hid (gP5.other (j := 1) (g := ob) (by omega) (.slice va (putN ins vid).length vc))
  have HZ6 := Lib.hid (gZ5.other (j := 1) (g := ob) (by omega) (.slice va (putN ins vid).length vc))
  have HC6 := Lib.hid (gC5.set 1 (.slice va (putN ins vid).length vc))
  have HB6 := Lib.hid (hb5.setCell (p := ⟨ob, 1, none⟩) (by simp <;> omega) (.slice va (putN ins vid).length vc))
  have HK6 := Lib.hid (hK5.setCell (p := ⟨ob, 1, none⟩) (by simp <;> omega) (.slice va (putN ins vid).length vc))
  have HO6 := Lib.hid (own_setCell (b := ob) (j := 1) hown (by omega) (.slice va (putN ins vid).length vc))
  have HS6 := Lib.hid (show (w5.setCell ⟨ob, 1, none⟩ (.slice va (putN ins vid).length vc)).heap.size = w5.heap.size by simp [World.setCell])
  have HL := Lib.hid hs5
  have HL1 := Lib.hid l1
  have c0 : w5.cell? ⟨ob, 0, none⟩ = some (.int .i64 pv) := gC5.cell 0
  have c1 : w5.cell? ⟨ob, 1, none⟩ = some (.slice ao ins.length co) := gC5.cell 1
  have c2 : w5.cell? ⟨ob, 2, none⟩ = some (.slice bo plain.length do_) := gC5.cell 2
  have c3 : w5.cell? ⟨ob, 3, none⟩ = some (.int .i64 ac) := gC5.cell 3
  have zc := gC5.frozen
  have yc := gC5.shape
  have lc := gC5.lt
  clear gP4 gZ4 gC4 hb4 hK4 h5 gP5 gZ5 gC5 hb5 hK5 hown hs4 hs5 l1
  go_wp2_with fail
  clear c0 c1 c2 c3 zc yc lc
  generalize w5.setCell ⟨ob, 1, none⟩ (.slice va (putN ins vid).length vc) = w6 at HP6 HZ6 HC6 HB6 HK6 HS6 HO6 ⊢
  refine (without_spec plain bo plain.length do_ vid w6 rfl (HSB.out _ HK6.out) hlp).mono ?_
  rintro e w7 ⟨v2, rfl, hown2, h7⟩
  obtain ⟨vb, vd, rfl⟩ := own_form hown2
  have gP7 := HP6.out.after h7
  have gZ7 := HZ6.out.after h7
  have gC7 := HC6.out.after h7
  have hb7 := HB6.out.trans (h7.mono HB6.out.size)
  have hK7 := HK6.out.trans (h7.mono (by have := HL.out; have := HE.out; have := HS6.out; omega))
  have hs7 := h7.size
  have hown1 := ownI_below (xs := putN ins vid) HO6.out h7
  have hl6 := HL.out
  have he6 := HS6.out
  have hl := HL1.out
  cases u
  · have HPq := Lib.hid (gP7.other (j := 2) (g := ob) (by omega) (.slice vb (without plain vid).length vd))
    have HZq := Lib.hid (gZ7.other (j := 2) (g := ob) (by omega) (.slice vb (without plain vid).length vd))
    have HCq := Lib.hid (gC7.set 2 (.slice vb (without plain vid).length vd))
    have HBq := Lib.hid (hb7.setCell (p := ⟨ob, 2, none⟩) (by simp <;> omega) (.slice vb (without plain vid).length vd))
    have HKq := Lib.hid (hK7.setCell (p := ⟨ob, 2, none⟩) (by simp <;> omega) (.slice vb (without plain vid).length vd))
    have HOq := Lib.hid (own_setCell (b := ob) (j := 2) hown1 (by omega) (.slice vb (without plain vid).length vd))
    have HQq := Lib.hid (own_setCell (b := ob) (j := 2) hown2 (by omega) (.slice vb (without plain vid).length vd))
    have HSq := Lib.hid (show (w7.setCell ⟨ob, 2, none⟩ (.slice vb (without plain vid).length vd)).heap.size = w7.heap.size by simp [World.setCell])
    have HLT := Lib.hid (fun g e => (World.ownsRow.lt HO6.out g e).2)
    have HBASE := Lib.hid (show w.heap.size ≤ w6.heap.size from HB6.out.size)
    have c0 : w7.cell? ⟨ob, 0, none⟩ = some (.int .i64 pv) := gC7.cell 0
    have c1 : w7.cell? ⟨ob, 1, none⟩ = some (.slice va (putN ins vid).length vc) := gC7.cell 1
    have c2 : w7.cell? ⟨ob, 2, none⟩ = some (.slice bo plain.length do_) := gC7.cell 2
    have c3 : w7.cell? ⟨ob, 3, none⟩ = some (.int .i64 ac) := gC7.cell 3
    have zc := gC7.frozen
    have yc := gC7.shape
    have lc := gC7.lt
    clear gP7 gZ7 gC7 hb7 hK7 hs7 hown1 hown2
    go_wp2_with fail
    clear c0 c1 c2 c3 zc yc lc
    generalize w7.setCell ⟨ob, 2, none⟩ (.slice vb (without plain vid).length vd) = wq at HPq HZq HCq HBq HKq HSq HOq HQq ⊢
    have hwp : wantM ⟨pv, ins, plain, ac⟩ vid false = ⟨pv, putN ins vid, without plain vid, ac⟩ := rfl
    have hfit := want_fits HF.out vid HV.out false
    have hzz := HZ.out
    unfold setM at hzz
    rw [hwp] at hfit hzz
    have hn1 : (putN ins vid).length ≤ 2097152 := by have := putN_len ins vid; have := HOK.out.2.1.1; simp only at this; omega
    have hn2 : (without plain vid).length ≤ 2097152 := by have := without_len plain vid; have := HOK.out.2.2.1.1; simp only at this; omega
    have hpin := pin_of_owns (p := ⟨pv, putN ins vid, without plain vid, ac⟩) HOq.out HQq.out hn1 hn2 hfit
    unfold ptVal at hpin
    have hk := portOk_spec hpin
    obtain ⟨r2, hr2⟩ : ∃ r, decide (portOk ⟨pv, putN ins vid, without plain vid, ac⟩) = r := ⟨_, rfl⟩
    rw [hr2] at hk
    have HKK := Lib.hid hk; have HR2 := Lib.hid hr2; have HZZ := Lib.hid hzz; have HFIT := Lib.hid hfit; have HN1 := Lib.hid hn1; have HN2 := Lib.hid hn2
    clear hwp hk hr2 hzz hpin hfit hn1 hn2
    refine HKK.out.mono ?_
    rintro e wr ⟨rfl, hr⟩
    have HPr := Lib.hid (HPq.out.after hr); have HZr := Lib.hid (HZq.out.after hr); have HCr := Lib.hid (HCq.out.after hr); have HBr := Lib.hid (HBq.out.trans (hr.mono HBq.out.size)); have HOr := Lib.hid (ownI_below (xs := putN ins vid) HOq.out hr); have HQr := Lib.hid (ownI_below (xs := without plain vid) HQq.out hr)
    clear hr HPq HZq HCq HBq HOq HQq HKq
    cases r2
    · obtain rfl : z = ⟨pv, ins, plain, ac⟩ := by rw [← HZZ.out]; exact if_neg (fun h => of_decide_eq_false HR2.out h.2)
      have p0 : wr.cell? ⟨w.heap.size, 0, none⟩ = some (.int .i64 pv) := HPr.out.cell 0
      have p1 : wr.cell? ⟨w.heap.size, 1, none⟩ = some (.slice a ins.length ca) := HPr.out.cell 1
      have p2 : wr.cell? ⟨w.heap.size, 2, none⟩ = some (.slice b plain.length cb) := HPr.out.cell 2
      have p3 : wr.cell? ⟨w.heap.size, 3, none⟩ = some (.int .i64 ac) := HPr.out.cell 3
      go_wp2_with fail
      refine (HCP.out _ HBr.out).mono ?_
      rintro e ws hG
      have hG2 := hG
      obtain ⟨_, _, a1, n1, c1, b1, m1, d1, pv1, ac1, rfl, _, _, _, _, hB2, _⟩ := hG
      unfold ptVal
      have gz := HZr.out.after hB2
      have HG2 := Lib.hid hG2
      clear hG2 hB2
      have s0 : ws.cell? ⟨w.heap.size + 1, 0, none⟩ = some (.int .i64 0) := gz.cell 0
      have s1 : ws.cell? ⟨w.heap.size + 1, 1, none⟩ = some (.slice none 0 0) := gz.cell 1
      have s2 : ws.cell? ⟨w.heap.size + 1, 2, none⟩ = some (.slice none 0 0) := gz.cell 2
      have s3 : ws.cell? ⟨w.heap.size + 1, 3, none⟩ = some (.int .i64 0) := gz.cell 3
      have z1 := gz.frozen
      have y1 := gz.shape
      have l1 := gz.lt
      have HG := Lib.hid ((((gz.set 0 (.int .i64 pv1)).set 1 (.slice a1 n1 c1)).set 2 (.slice b1 m1 d1)).set 3 (.int .i64 ac1))
      have HT := Lib.hid (((((Turned.refl [w.heap.size + 1] ws).setCell (p := ⟨w.heap.size + 1, 0, none⟩) (by simp) (.int .i64 pv1)).setCell (p := ⟨w.heap.size + 1, 1, none⟩) (by simp) (.slice a1 n1 c1)).setCell (p := ⟨w.heap.size + 1, 2, none⟩) (by simp) (.slice b1 m1 d1)).setCell (p := ⟨w.heap.size + 1, 3, none⟩) (by simp) (.int .i64 ac1))
      go_wp2_with fail
      have r0 := HG.out.cell 0
      have r1 := HG.out.cell 1
      have r2 := HG.out.cell 2
      have r3 := HG.out.cell 3
      have hT := HT.out
      generalize (((ws.setCell ⟨w.heap.size + 1, 0, none⟩ (.int .i64 pv1)).setCell ⟨w.heap.size + 1, 1, none⟩ (.slice a1 n1 c1)).setCell ⟨w.heap.size + 1, 2, none⟩ (.slice b1 m1 d1)).setCell ⟨w.heap.size + 1, 3, none⟩ (.int .i64 ac1) = X at r0 r1 r2 r3 hT ⊢
      replace r0 : X.cell? ⟨w.heap.size + 1, 0, none⟩ = some (.int .i64 pv1) := r0
      replace r1 : X.cell? ⟨w.heap.size + 1, 1, none⟩ = some (.slice a1 n1 c1) := r1
      replace r2 : X.cell? ⟨w.heap.size + 1, 2, none⟩ = some (.slice b1 m1 d1) := r2
      replace r3 : X.cell? ⟨w.heap.size + 1, 3, none⟩ = some (.int .i64 ac1) := r3
      refine bodyPost_ret (v := .agg #[.int .i64 pv1, .slice a1 n1 c1, .slice b1 m1 d1, .int .i64 ac1]) (by simp [results, Try.results25, go_sem, r0, r1, r2, r3]) rfl ?_
      exact HG2.out.later HBr.out hT (fun x hx => by simp only [List.mem_singleton] at hx; have := HZr.out.lt; omega)
    · obtain rfl : z = ⟨pv, putN ins vid, without plain vid, ac⟩ := by rw [← HZZ.out]; exact if_pos ⟨HOK.out, of_decide_eq_true HR2.out⟩
      have hl := HL1.out
      have hbb := HBASE.out
      have gz := HZr.out
      have c0 : wr.cell? ⟨ob, 0, none⟩ = some (.int .i64 pv) := HCr.out.cell 0
      have c1 : wr.cell? ⟨ob, 1, none⟩ = some (.slice va (putN ins vid).length vc) := HCr.out.cell 1
      have c2 : wr.cell? ⟨ob, 2, none⟩ = some (.slice vb (without plain vid).length vd) := HCr.out.cell 2
      have c3 : wr.cell? ⟨ob, 3, none⟩ = some (.int .i64 ac) := HCr.out.cell 3
      have s0 : wr.cell? ⟨w.heap.size + 1, 0, none⟩ = some (.int .i64 0) := gz.cell 0
      have s1 : wr.cell? ⟨w.heap.size + 1, 1, none⟩ = some (.slice none 0 0) := gz.cell 1
      have s2 : wr.cell? ⟨w.heap.size + 1, 2, none⟩ = some (.slice none 0 0) := gz.cell 2
      have s3 : wr.cell? ⟨w.heap.size + 1, 3, none⟩ = some (.int .i64 0) := gz.cell 3
      have z1 := gz.frozen
      have y1 := gz.shape
      have l1 := gz.lt
      have HG := Lib.hid ((((gz.set 0 (.int .i64 pv)).set 1 (.slice va (putN ins vid).length vc)).set 2 (.slice vb (without plain vid).length vd)).set 3 (.int .i64 ac))
      have HT := Lib.hid (((((Turned.refl [w.heap.size + 1] wr).setCell (p := ⟨w.heap.size + 1, 0, none⟩) (by simp) (.int .i64 pv)).setCell (p := ⟨w.heap.size + 1, 1, none⟩) (by simp) (.slice va (putN ins vid).length vc)).setCell (p := ⟨w.heap.size + 1, 2, none⟩) (by simp) (.slice vb (without plain vid).length vd)).setCell (p := ⟨w.heap.size + 1, 3, none⟩) (by simp) (.int .i64 ac))
      have HOX := Lib.hid (own_setCell (b := w.heap.size + 1) (j := 3) (own_setCell (b := w.heap.size + 1) (j := 2) (own_setCell (b := w.heap.size + 1) (j := 1) (own_setCell (b := w.heap.size + 1) (j := 0) HOr.out (by omega) (.int .i64 pv)) (by omega) (.slice va (putN ins vid).length vc)) (by omega) (.slice vb (without plain vid).length vd)) (by omega) (.int .i64 ac))
      have HQX := Lib.hid (own_setCell (b := w.heap.size + 1) (j := 3) (own_setCell (b := w.heap.size + 1) (j := 2) (own_setCell (b := w.heap.size + 1) (j := 1) (own_setCell (b := w.heap.size + 1) (j := 0) HQr.out (by omega) (.int .i64 pv)) (by omega) (.slice va (putN ins vid).length vc)) (by omega) (.slice vb (without plain vid).length vd)) (by omega) (.int .i64 ac))
      have HBX := Lib.hid ((((HBr.out.setCell (p := ⟨w.heap.size + 1, 0, none⟩) (by simp <;> omega) (.int .i64 pv)).setCell (p := ⟨w.heap.size + 1, 1, none⟩) (by simp <;> omega) (.slice va (putN ins vid).length vc)).setCell (p := ⟨w.heap.size + 1, 2, none⟩) (by simp <;> omega) (.slice vb (without plain vid).length vd)).setCell (p := ⟨w.heap.size + 1, 3, none⟩) (by simp <;> omega) (.int .i64 ac))
      go_wp2_with fail
      have r0 := HG.out.cell 0
      have r1 := HG.out.cell 1
      have r2 := HG.out.cell 2
      have r3 := HG.out.cell 3
      have hT := HT.out
      generalize (((wr.setCell ⟨w.heap.size + 1, 0, none⟩ (.int .i64 pv)).setCell ⟨w.heap.size + 1, 1, none⟩ (.slice va (putN ins vid).length vc)).setCell ⟨w.heap.size + 1, 2, none⟩ (.slice vb (without plain vid).length vd)).setCell ⟨w.heap.size + 1, 3, none⟩ (.int .i64 ac) = X at r0 r1 r2 r3 hT HOX HQX HBX ⊢
      replace r0 : X.cell? ⟨w.heap.size + 1, 0, none⟩ = some (.int .i64 pv) := r0
      replace r1 : X.cell? ⟨w.heap.size + 1, 1, none⟩ = some (.slice va (putN ins vid).length vc) := r1
      replace r2 : X.cell? ⟨w.heap.size + 1, 2, none⟩ = some (.slice vb (without plain vid).length vd) := r2
      replace r3 : X.cell? ⟨w.heap.size + 1, 3, none⟩ = some (.int .i64 ac) := r3
      refine bodyPost_ret (v := .agg #[.int .i64 pv, .slice va (putN ins vid).length vc, .slice vb (without plain vid).length vd, .int .i64 ac]) (by simp [results, Try.results25, go_sem, r0, r1, r2, r3]) rfl ?_
      exact got_of_owns (p := ⟨pv, putN ins vid, without plain vid, ac⟩) (OwnI.lower (base := ob + 1) HOX.out (by omega)) HQX.out HLT.out HBASE.out HBX.out HN1.out HN2.out HFIT.out
  · have HP8 := Lib.hid (gP7.other (j := 2) (g := ob) (by omega) (.slice vb (without plain vid).length vd))
    have HZ8 := Lib.hid (gZ7.other (j := 2) (g := ob) (by omega) (.slice vb (without plain vid).length vd))
    have HC8 := Lib.hid (gC7.set 2 (.slice vb (without plain vid).length vd))
    have HB8 := Lib.hid (hb7.setCell (p := ⟨ob, 2, none⟩) (by simp <;> omega) (.slice vb (without plain vid).length vd))
    have HK8 := Lib.hid (hK7.setCell (p := ⟨ob, 2, none⟩) (by simp <;> omega) (.slice vb (without plain vid).length vd))
    have HO8 := Lib.hid (own_setCell (b := ob) (j := 2) hown1 (by omega) (.slice vb (without plain vid).length vd))
    have HQ8 := Lib.hid (own_setCell (b := ob) (j := 2) hown2 (by omega) (.slice vb (without plain vid).length vd))
    have HS8 := Lib.hid (show (w7.setCell ⟨ob, 2, none⟩ (.slice vb (without plain vid).length vd)).heap.size = w7.heap.size by simp [World.setCell])
    have c0 : w7.cell? ⟨ob, 0, none⟩ = some (.int .i64 pv) := gC7.cell 0
    have c1 : w7.cell? ⟨ob, 1, none⟩ = some (.slice va (putN ins vid).length vc) := gC7.cell 1
    have c2 : w7.cell? ⟨ob, 2, none⟩ = some (.slice bo plain.length do_) := gC7.cell 2
    have c3 : w7.cell? ⟨ob, 3, none⟩ = some (.int .i64 ac) := gC7.cell 3
    have zc := gC7.frozen
    have yc := gC7.shape
    have lc := gC7.lt
    have HL7 := Lib.hid (show ob + 1 ≤ w7.heap.size by omega)
    clear gP7 gZ7 gC7 hb7 hK7 hs7 hown1 hown2 hl6 he6
    go_wp2_with fail
    clear c0 c1 c2 c3 zc yc lc
    generalize w7.setCell ⟨ob, 2, none⟩ (.slice vb (without plain vid).length vd) = w8 at HP8 HZ8 HC8 HB8 HK8 HS8 HO8 HQ8 ⊢
    obtain ⟨a9, c9, e9, s9, _⟩ := ownI_slin (xs := without plain vid) HQ8.out
    cases e9
    refine (put6_spec (without plain vid) vb (without plain vid).length vd vid w8 rfl s9 (by have := without_len plain vid; omega) (without_asc HOK.out.2.2.1.2.2 vid)).mono ?_
    rintro e w9 ⟨v3, rfl, hown3, h9⟩
    clear s9
    obtain ⟨ve, vf, rfl⟩ := own_form hown3
    have gP9 := HP8.out.after h9
    have gZ9 := HZ8.out.after h9
    have gC9 := HC8.out.after h9
    have hb9 := HB8.out.trans (h9.mono HB8.out.size)
    have hK9 := HK8.out.trans (h9.mono (by have := HL7.out; have := HE.out; have := HS8.out; omega))
    have hs9 := h9.size
    have hown1 := ownI_below (xs := putN ins vid) HO8.out h9
    have hl6 := HL7.out
    have he6 := HS8.out
    have HPq := Lib.hid (gP9.other (j := 2) (g := ob) (by omega) (.slice ve (putN (without plain vid) vid).length vf))
    have HZq := Lib.hid (gZ9.other (j := 2) (g := ob) (by omega) (.slice ve (putN (without plain vid) vid).length vf))
    have HCq := Lib.hid (gC9.set 2 (.slice ve (putN (without plain vid) vid).length vf))
    have HBq := Lib.hid (hb9.setCell (p := ⟨ob, 2, none⟩) (by simp <;> omega) (.slice ve (putN (without plain vid) vid).length vf))
    have HKq := Lib.hid (hK9.setCell (p := ⟨ob, 2, none⟩) (by simp <;> omega) (.slice ve (putN (without plain vid) vid).length vf))
    have HOq := Lib.hid (own_setCell (b := ob) (j := 2) hown1 (by omega) (.slice ve (putN (without plain vid) vid).length vf))
    have HQq := Lib.hid (own_setCell (b := ob) (j := 2) hown3 (by omega) (.slice ve (putN (without plain vid) vid).length vf))
    have HSq := Lib.hid (show (w9.setCell ⟨ob, 2, none⟩ (.slice ve (putN (without plain vid) vid).length vf)).heap.size = w9.heap.size by simp [World.setCell])
    have HLT := Lib.hid (fun g e => (World.ownsRow.lt HO8.out g e).2)
    have HBASE := Lib.hid (show w.heap.size ≤ w8.heap.size from HB8.out.size)
    have c0 : w9.cell? ⟨ob, 0, none⟩ = some (.int .i64 pv) := gC9.cell 0
    have c1 : w9.cell? ⟨ob, 1, none⟩ = some (.slice va (putN ins vid).length vc) := gC9.cell 1
    have c2 : w9.cell? ⟨ob, 2, none⟩ = some (.slice vb (without plain vid).length vd) := gC9.cell 2
    have c3 : w9.cell? ⟨ob, 3, none⟩ = some (.int .i64 ac) := gC9.cell 3
    have zc := gC9.frozen
    have yc := gC9.shape
    have lc := gC9.lt
    clear gP9 gZ9 gC9 hb9 hK9 hs9 hown1 hown3
    go_wp2_with fail
    clear c0 c1 c2 c3 zc yc lc
    generalize w9.setCell ⟨ob, 2, none⟩ (.slice ve (putN (without plain vid) vid).length vf) = wq at HPq HZq HCq HBq HKq HSq HOq HQq ⊢
    have hwp : wantM ⟨pv, ins, plain, ac⟩ vid true = ⟨pv, putN ins vid, putN (without plain vid) vid, ac⟩ := rfl
    have hfit := want_fits HF.out vid HV.out true
    have hzz := HZ.out
    unfold setM at hzz
    rw [hwp] at hfit hzz
    have hn1 : (putN ins vid).length ≤ 2097152 := by have := putN_len ins vid; have := HOK.out.2.1.1; simp only at this; omega
    have hn2 : (putN (without plain vid) vid).length ≤ 2097152 := by have := without_len plain vid; have := putN_len (without plain vid) vid; have := HOK.out.2.2.1.1; simp only at this; omega
    have hpin := pin_of_owns (p := ⟨pv, putN ins vid, putN (without plain vid) vid, ac⟩) HOq.out HQq.out hn1 hn2 hfit
    unfold ptVal at hpin
    have hk := portOk_spec hpin
    obtain ⟨r2, hr2⟩ : ∃ r, decide (portOk ⟨pv, putN ins vid, putN (without plain vid) vid, ac⟩) = r := ⟨_, rfl⟩
    rw [hr2] at hk
    have HKK := Lib.hid hk; have HR2 := Lib.hid hr2; have HZZ := Lib.hid hzz; have HFIT := Lib.hid hfit; have HN1 := Lib.hid hn1; have HN2 := Lib.hid hn2
    clear hwp hk hr2 hzz hpin hfit hn1 hn2
    refine HKK.out.mono ?_
    rintro e wr ⟨rfl, hr⟩
    have HPr := Lib.hid (HPq.out.after hr); have HZr := Lib.hid (HZq.out.after hr); have HCr := Lib.hid (HCq.out.after hr); have HBr := Lib.hid (HBq.out.trans (hr.mono HBq.out.size)); have HOr := Lib.hid (ownI_below (xs := putN ins vid) HOq.out hr); have HQr := Lib.hid (ownI_below (xs := putN (without plain vid) vid) HQq.out hr)
    clear hr HPq HZq HCq HBq HOq HQq HKq
    cases r2
    · obtain rfl : z = ⟨pv, ins, plain, ac⟩ := by rw [← HZZ.out]; exact if_neg (fun h => of_decide_eq_false HR2.out h.2)
      have p0 : wr.cell? ⟨w.heap.size, 0, none⟩ = some (.int .i64 pv) := HPr.out.cell 0
      have p1 : wr.cell? ⟨w.heap.size, 1, none⟩ = some (.slice a ins.length ca) := HPr.out.cell 1
      have p2 : wr.cell? ⟨w.heap.size, 2, none⟩ = some (.slice b plain.length cb) := HPr.out.cell 2
      have p3 : wr.cell? ⟨w.heap.size, 3, none⟩ = some (.int .i64 ac) := HPr.out.cell 3
      go_wp2_with fail
      refine (HCP.out _ HBr.out).mono ?_
      rintro e ws hG
      have hG2 := hG
      obtain ⟨_, _, a1, n1, c1, b1, m1, d1, pv1, ac1, rfl, _, _, _, _, hB2, _⟩ := hG
      unfold ptVal
      have gz := HZr.out.after hB2
      have HG2 := Lib.hid hG2
      clear hG2 hB2
      have s0 : ws.cell? ⟨w.heap.size + 1, 0, none⟩ = some (.int .i64 0) := gz.cell 0
      have s1 : ws.cell? ⟨w.heap.size + 1, 1, none⟩ = some (.slice none 0 0) := gz.cell 1
      have s2 : ws.cell? ⟨w.heap.size + 1, 2, none⟩ = some (.slice none 0 0) := gz.cell 2
      have s3 : ws.cell? ⟨w.heap.size + 1, 3, none⟩ = some (.int .i64 0) := gz.cell 3
      have z1 := gz.frozen
      have y1 := gz.shape
      have l1 := gz.lt
      have HG := Lib.hid ((((gz.set 0 (.int .i64 pv1)).set 1 (.slice a1 n1 c1)).set 2 (.slice b1 m1 d1)).set 3 (.int .i64 ac1))
      have HT := Lib.hid (((((Turned.refl [w.heap.size + 1] ws).setCell (p := ⟨w.heap.size + 1, 0, none⟩) (by simp) (.int .i64 pv1)).setCell (p := ⟨w.heap.size + 1, 1, none⟩) (by simp) (.slice a1 n1 c1)).setCell (p := ⟨w.heap.size + 1, 2, none⟩) (by simp) (.slice b1 m1 d1)).setCell (p := ⟨w.heap.size + 1, 3, none⟩) (by simp) (.int .i64 ac1))
      go_wp2_with fail
      have r0 := HG.out.cell 0
      have r1 := HG.out.cell 1
      have r2 := HG.out.cell 2
      have r3 := HG.out.cell 3
      have hT := HT.out
      generalize (((ws.setCell ⟨w.heap.size + 1, 0, none⟩ (.int .i64 pv1)).setCell ⟨w.heap.size + 1, 1, none⟩ (.slice a1 n1 c1)).setCell ⟨w.heap.size + 1, 2, none⟩ (.slice b1 m1 d1)).setCell ⟨w.heap.size + 1, 3, none⟩ (.int .i64 ac1) = X at r0 r1 r2 r3 hT ⊢
      replace r0 : X.cell? ⟨w.heap.size + 1, 0, none⟩ = some (.int .i64 pv1) := r0
      replace r1 : X.cell? ⟨w.heap.size + 1, 1, none⟩ = some (.slice a1 n1 c1) := r1
      replace r2 : X.cell? ⟨w.heap.size + 1, 2, none⟩ = some (.slice b1 m1 d1) := r2
      replace r3 : X.cell? ⟨w.heap.size + 1, 3, none⟩ = some (.int .i64 ac1) := r3
      refine bodyPost_ret (v := .agg #[.int .i64 pv1, .slice a1 n1 c1, .slice b1 m1 d1, .int .i64 ac1]) (by simp [results, Try.results25, go_sem, r0, r1, r2, r3]) rfl ?_
      exact HG2.out.later HBr.out hT (fun x hx => by simp only [List.mem_singleton] at hx; have := HZr.out.lt; omega)
    · obtain rfl : z = ⟨pv, putN ins vid, putN (without plain vid) vid, ac⟩ := by rw [← HZZ.out]; exact if_pos ⟨HOK.out, of_decide_eq_true HR2.out⟩
      have hl := HL1.out
      have hbb := HBASE.out
      have gz := HZr.out
      have c0 : wr.cell? ⟨ob, 0, none⟩ = some (.int .i64 pv) := HCr.out.cell 0
      have c1 : wr.cell? ⟨ob, 1, none⟩ = some (.slice va (putN ins vid).length vc) := HCr.out.cell 1
      have c2 : wr.cell? ⟨ob, 2, none⟩ = some (.slice ve (putN (without plain vid) vid).length vf) := HCr.out.cell 2
      have c3 : wr.cell? ⟨ob, 3, none⟩ = some (.int .i64 ac) := HCr.out.cell 3
      have s0 : wr.cell? ⟨w.heap.size + 1, 0, none⟩ = some (.int .i64 0) := gz.cell 0
      have s1 : wr.cell? ⟨w.heap.size + 1, 1, none⟩ = some (.slice none 0 0) := gz.cell 1
      have s2 : wr.cell? ⟨w.heap.size + 1, 2, none⟩ = some (.slice none 0 0) := gz.cell 2
      have s3 : wr.cell? ⟨w.heap.size + 1, 3, none⟩ = some (.int .i64 0) := gz.cell 3
      have z1 := gz.frozen
      have y1 := gz.shape
      have l1 := gz.lt
      have HG := Lib.hid ((((gz.set 0 (.int .i64 pv)).set 1 (.slice va (putN ins vid).length vc)).set 2 (.slice ve (putN (without plain vid) vid).length vf)).set 3 (.int .i64 ac))
      have HT := Lib.hid (((((Turned.refl [w.heap.size + 1] wr).setCell (p := ⟨w.heap.size + 1, 0, none⟩) (by simp) (.int .i64 pv)).setCell (p := ⟨w.heap.size + 1, 1, none⟩) (by simp) (.slice va (putN ins vid).length vc)).setCell (p := ⟨w.heap.size + 1, 2, none⟩) (by simp) (.slice ve (putN (without plain vid) vid).length vf)).setCell (p := ⟨w.heap.size + 1, 3, none⟩) (by simp) (.int .i64 ac))
      have HOX := Lib.hid (own_setCell (b := w.heap.size + 1) (j := 3) (own_setCell (b := w.heap.size + 1) (j := 2) (own_setCell (b := w.heap.size + 1) (j := 1) (own_setCell (b := w.heap.size + 1) (j := 0) HOr.out (by omega) (.int .i64 pv)) (by omega) (.slice va (putN ins vid).length vc)) (by omega) (.slice ve (putN (without plain vid) vid).length vf)) (by omega) (.int .i64 ac))
      have HQX := Lib.hid (own_setCell (b := w.heap.size + 1) (j := 3) (own_setCell (b := w.heap.size + 1) (j := 2) (own_setCell (b := w.heap.size + 1) (j := 1) (own_setCell (b := w.heap.size + 1) (j := 0) HQr.out (by omega) (.int .i64 pv)) (by omega) (.slice va (putN ins vid).length vc)) (by omega) (.slice ve (putN (without plain vid) vid).length vf)) (by omega) (.int .i64 ac))
      have HBX := Lib.hid ((((HBr.out.setCell (p := ⟨w.heap.size + 1, 0, none⟩) (by simp <;> omega) (.int .i64 pv)).setCell (p := ⟨w.heap.size + 1, 1, none⟩) (by simp <;> omega) (.slice va (putN ins vid).length vc)).setCell (p := ⟨w.heap.size + 1, 2, none⟩) (by simp <;> omega) (.slice ve (putN (without plain vid) vid).length vf)).setCell (p := ⟨w.heap.size + 1, 3, none⟩) (by simp <;> omega) (.int .i64 ac))
      go_wp2_with fail
      have r0 := HG.out.cell 0
      have r1 := HG.out.cell 1
      have r2 := HG.out.cell 2
      have r3 := HG.out.cell 3
      have hT := HT.out
      generalize (((wr.setCell ⟨w.heap.size + 1, 0, none⟩ (.int .i64 pv)).setCell ⟨w.heap.size + 1, 1, none⟩ (.slice va (putN ins vid).length vc)).setCell ⟨w.heap.size + 1, 2, none⟩ (.slice ve (putN (without plain vid) vid).length vf)).setCell ⟨w.heap.size + 1, 3, none⟩ (.int .i64 ac) = X at r0 r1 r2 r3 hT HOX HQX HBX ⊢
      replace r0 : X.cell? ⟨w.heap.size + 1, 0, none⟩ = some (.int .i64 pv) := r0
      replace r1 : X.cell? ⟨w.heap.size + 1, 1, none⟩ = some (.slice va (putN ins vid).length vc) := r1
      replace r2 : X.cell? ⟨w.heap.size + 1, 2, none⟩ = some (.slice ve (putN (without plain vid) vid).length vf) := r2
      replace r3 : X.cell? ⟨w.heap.size + 1, 3, none⟩ = some (.int .i64 ac) := r3
      refine bodyPost_ret (v := .agg #[.int .i64 pv, .slice va (putN ins vid).length vc, .slice ve (putN (without plain vid) vid).length vf, .int .i64 ac]) (by simp [results, Try.results25, go_sem, r0, r1, r2, r3]) rfl ?_
      exact got_of_owns (p := ⟨pv, putN ins vid, putN (without plain vid) vid, ac⟩) (OwnI.lower (base := ob + 1) HOX.out (by omega)) HQX.out HLT.out HBASE.out HBX.out HN1.out HN2.out HFIT.out

set_option maxRecDepth 20000 in
set_option maxHeartbeats 2000000 in
set_option linter.unusedSimpArgs false in
theorem drop_spec {w : World} {B C : List Nat} {v : Value} {p : Pt} (h : PortIn w B C v p) (vid : Int) : Calls Try.prog 36 #[v, .int .i64 vid] w (GotPort w (dropM p vid)) := by
  have hPO := fun w' (hb : Below w.heap.size w w') => portOk_spec (h.after hb)
  have hCP := fun w' (hb : Below w.heap.size w w') => copy6_own (h.after hb)
  obtain ⟨a, ca, b, cb, rfl, hi, hp, _, _, hli, hlp, hf⟩ := h
  obtain ⟨r1, hr1⟩ : ∃ r, decide (portOk p) = r := ⟨_, rfl⟩
  simp only [hr1] at hPO
  obtain ⟨z, hz⟩ : ∃ z, dropM p vid = z := ⟨_, rfl⟩
  rw [hz]
  unfold dropM at hz
  have HZ := Lib.hid hz; have HR1 := Lib.hid hr1; have HF := Lib.hid hf
  clear hz hr1 hp hi hf
  obtain ⟨pv, ins, plain, ac⟩ := p
  simp only at hPO hCP hli hlp
  unfold ptVal at *
  have hb : Below w.heap.size w ((w.alloc (.cells #[.int .i64 pv, .slice a ins.length ca, .slice b plain.length cb, .int .i64 ac] 26)).alloc (.cells #[.int .i64 0, .slice none 0 0, .slice none 0 0, .int .i64 0] 26)) := ((Below.refl _ _).alloc (Nat.le_refl _) _).alloc (by simp) _
  have gP : Blk ((w.alloc (.cells #[.int .i64 pv, .slice a ins.length ca, .slice b plain.length cb, .int .i64 ac] 26)).alloc (.cells #[.int .i64 0, .slice none 0 0, .slice none 0 0, .int .i64 0] 26)) w.heap.size #[.int .i64 pv, .slice a ins.length ca, .slice b plain.length cb, .int .i64 ac] 26 := (blk_new _ _ rfl).alloc _
  have gZ : Blk ((w.alloc (.cells #[.int .i64 pv, .slice a ins.length ca, .slice b plain.length cb, .int .i64 ac] 26)).alloc (.cells #[.int .i64 0, .slice none 0 0, .slice none 0 0, .int .i64 0] 26)) (w.heap.size + 1) #[.int .i64 0, .slice none 0 0, .slice none 0 0, .int .i64 0] 26 := blk_new _ _ (by simp)
  have HB := Lib.hid hb; have GP := Lib.hid gP; have GZ := Lib.hid gZ; have HPO := Lib.hid hPO; have HCP := Lib.hid hCP
  clear hb gP gZ hPO hCP
  go_enter Try.func36, Try.ntmps36
  go_wp2_with fail
  refine (HCP.out _ HB.out).mono ?_
  rintro e w3 hG
  have HG0 := Lib.hid hG
  obtain ⟨_, _, ao, no, co, bo, mo, do_, pvo, aco, rfl, ⟨xa, xc, xb, xd, hv, hs1, hs2, _⟩, _, _, _, hB3, _⟩ := hG
  unfold ptVal at hv
  cases hv
  unfold ptVal
  simp only at hs1 hs2
  have HS1 := Lib.hid hs1; have HS2 := Lib.hid hs2
  have H3 := Lib.hid (HB.out.trans (hB3.mono HB.out.size)); have GP3 := Lib.hid (GP.out.after hB3); have GZ3 := Lib.hid (GZ.out.after hB3)
  have HR2 := Lib.hid GZ.out.lt
  clear hs1 hs2 hB3
  clear GP GZ
  have p0 : w3.cell? ⟨w.heap.size, 0, none⟩ = some (.int .i64 pv) := GP3.out.cell 0
  have p1 : w3.cell? ⟨w.heap.size, 1, none⟩ = some (.slice a ins.length ca) := GP3.out.cell 1
  have p2 : w3.cell? ⟨w.heap.size, 2, none⟩ = some (.slice b plain.length cb) := GP3.out.cell 2
  have p3 : w3.cell? ⟨w.heap.size, 3, none⟩ = some (.int .i64 ac) := GP3.out.cell 3
  have lp := GP3.out.lt
  have lz := GZ3.out.lt
  go_wp2_with fail
  clear p0 p1 p2 p3 lp lz
  have hb4 : Below w.heap.size w (w3.alloc (.cells #[.int .i64 pv, .slice ao ins.length co, .slice bo plain.length do_, .int .i64 ac] 26)) := H3.out.alloc H3.out.size _
  have hK4 : Below w3.heap.size w3 (w3.alloc (.cells #[.int .i64 pv, .slice ao ins.length co, .slice bo plain.length do_, .int .i64 ac] 26)) := (Below.refl _ _).alloc (Nat.le_refl _) _
  have gP4 : Blk (w3.alloc (.cells #[.int .i64 pv, .slice ao ins.length co, .slice bo plain.length do_, .int .i64 ac] 26)) w.heap.size #[.int .i64 pv, .slice a ins.length ca, .slice b plain.length cb, .int .i64 ac] 26 := GP3.out.alloc _
  have gZ4 : Blk (w3.alloc (.cells #[.int .i64 pv, .slice ao ins.length co, .slice bo plain.length do_, .int .i64 ac] 26)) (w.heap.size + 1) #[.int .i64 0, .slice none 0 0, .slice none 0 0, .int .i64 0] 26 := GZ3.out.alloc _
  have gC4 : Blk (w3.alloc (.cells #[.int .i64 pv, .slice ao ins.length co, .slice bo plain.length do_, .int .i64 ac] 26)) w3.heap.size #[.int .i64 pv, .slice ao ins.length co, .slice bo plain.length do_, .int .i64 ac] 26 := blk_new _ _ rfl
  have hs4 : (w3.alloc (.cells #[.int .i64 pv, .slice ao ins.length co, .slice bo plain.length do_, .int .i64 ac] 26)).heap.size = w3.heap.size + 1 := by simp
  have l1 := GZ3.out.lt
  have HSA := Lib.hid (fun w' (hb : Below w3.heap.size w3 w') => HS1.out.after hb); have HSB := Lib.hid (fun w' (hb : Below w3.heap.size w3 w') => HS2.out.after hb)
  clear HS1 HS2 H3 GP3 GZ3
  generalize w3.alloc (.cells #[.int .i64 pv, .slice ao ins.length co, .slice bo plain.length do_, .int .i64 ac] 26) = w4 at hb4 hK4 gP4 gZ4 gC4 hs4 ⊢
  obtain ⟨ob, hob⟩ : ∃ ob, w3.heap.size = ob := ⟨_, rfl⟩
  rw [hob] at hK4 gC4 hs4 l1 HSA HSB ⊢
  have HOB := Lib.hid hob
  clear hob
  have HE := Lib.hid hs4; have HL1 := Lib.hid l1
  refine (HPO.out _ hb4).mono ?_
  rintro e w5 ⟨rfl, h5⟩
  have hP5 := Lib.hid (gP4.after h5); have hZ5 := Lib.hid (gZ4.after h5); have hC5 := Lib.hid (gC4.after h5); have hB5 := Lib.hid (hb4.trans (h5.mono hb4.size)); have hK5 := Lib.hid (hK4.trans (h5.mono (by omega))); have hS5 := Lib.hid h5.size
  clear gP4 gZ4 gC4 hb4 hK4 h5 hs4 l1
  have c0 : w5.cell? ⟨ob, 0, none⟩ = some (.int .i64 pv) := hC5.out.cell 0
  have c1 : w5.cell? ⟨ob, 1, none⟩ = some (.slice ao ins.length co) := hC5.out.cell 1
  have c2 : w5.cell? ⟨ob, 2, none⟩ = some (.slice bo plain.length do_) := hC5.out.cell 2
  have c3 : w5.cell? ⟨ob, 3, none⟩ = some (.int .i64 ac) := hC5.out.cell 3
  cases r1
  · obtain rfl : z = ⟨pv, ins, plain, ac⟩ := by rw [← HZ.out]; exact if_neg (fun h => of_decide_eq_false HR1.out h)
    have gz := hZ5.out
    have s0 : w5.cell? ⟨w.heap.size + 1, 0, none⟩ = some (.int .i64 0) := gz.cell 0
    have s1 : w5.cell? ⟨w.heap.size + 1, 1, none⟩ = some (.slice none 0 0) := gz.cell 1
    have s2 : w5.cell? ⟨w.heap.size + 1, 2, none⟩ = some (.slice none 0 0) := gz.cell 2
    have s3 : w5.cell? ⟨w.heap.size + 1, 3, none⟩ = some (.int .i64 0) := gz.cell 3
    have z1 := gz.frozen
    have y1 := gz.shape
    have l1 := gz.lt
    have HG := Lib.hid ((((gz.set 0 (.int .i64 pv)).set 1 (.slice ao ins.length co)).set 2 (.slice bo plain.length do_)).set 3 (.int .i64 ac))
    have HT := Lib.hid (((((Turned.refl [w.heap.size + 1] w5).setCell (p := ⟨w.heap.size + 1, 0, none⟩) (by simp) (.int .i64 pv)).setCell (p := ⟨w.heap.size + 1, 1, none⟩) (by simp) (.slice ao ins.length co)).setCell (p := ⟨w.heap.size + 1, 2, none⟩) (by simp) (.slice bo plain.length do_)).setCell (p := ⟨w.heap.size + 1, 3, none⟩) (by simp) (.int .i64 ac))
    have HKX := Lib.hid (show Below w3.heap.size w3 w5 from by have := hK5.out; rwa [HOB.out])
    go_wp2_with fail
    have r0 := HG.out.cell 0
    have r1 := HG.out.cell 1
    have r2 := HG.out.cell 2
    have r3 := HG.out.cell 3
    have hT := HT.out
    generalize (((w5.setCell ⟨w.heap.size + 1, 0, none⟩ (.int .i64 pv)).setCell ⟨w.heap.size + 1, 1, none⟩ (.slice ao ins.length co)).setCell ⟨w.heap.size + 1, 2, none⟩ (.slice bo plain.length do_)).setCell ⟨w.heap.size + 1, 3, none⟩ (.int .i64 ac) = X at r0 r1 r2 r3 hT ⊢
    replace r0 : X.cell? ⟨w.heap.size + 1, 0, none⟩ = some (.int .i64 pv) := r0
    replace r1 : X.cell? ⟨w.heap.size + 1, 1, none⟩ = some (.slice ao ins.length co) := r1
    replace r2 : X.cell? ⟨w.heap.size + 1, 2, none⟩ = some (.slice bo plain.length do_) := r2
    replace r3 : X.cell? ⟨w.heap.size + 1, 3, none⟩ = some (.int .i64 ac) := r3
    refine bodyPost_ret (v := .agg #[.int .i64 pv, .slice ao ins.length co, .slice bo plain.length do_, .int .i64 ac]) (by simp [results, Try.results36, go_sem, r0, r1, r2, r3]) rfl ?_
    exact HG0.out.later HB.out ((Turned.of_below HKX.out).trans1 hT) (fun x hx => by simp only [List.mem_singleton] at hx; have := HR2.out; omega)
  · obtain rfl : z = ⟨pv, without ins vid, without plain vid, ac⟩ := by rw [← HZ.out]; exact if_pos (of_decide_eq_true HR1.out)
    go_wp2_with fail
    refine (without_spec ins ao ins.length co vid w5 rfl (HSA.out _ hK5.out) hli).mono ?_
    rintro e w6 ⟨v1, rfl, hown, h6⟩
    obtain ⟨va, vc, rfl⟩ := own_form hown
    have gP6 := hP5.out.after h6
    have gZ6 := hZ5.out.after h6
    have gC6 := hC5.out.after h6
    have hb6 := hB5.out.trans (h6.mono hB5.out.size)
    have hl1 := HL1.out
    have hE := HE.out
    have hS := hS5.out
    have hK6 := hK5.out.trans (h6.mono (by omega))
    have hs6 := h6.size
    have hown0 := OwnI.lower (base' := ob + 1) hown (by omega)
    clear c0 c1 c2 c3
    have HP7 := Lib.hid (gP6.other (j := 1) (g := ob) (by omega) (.slice va (without ins vid).length vc))
    have HZ7 := Lib.hid (gZ6.other (j := 1) (g := ob) (by omega) (.slice va (without ins vid).length vc))
    have HC7 := Lib.hid (gC6.set 1 (.slice va (without ins vid).length vc))
    have HB7 := Lib.hid (hb6.setCell (p := ⟨ob, 1, none⟩) (by simp <;> omega) (.slice va (without ins vid).length vc))
    have HK7 := Lib.hid (hK6.setCell (p := ⟨ob, 1, none⟩) (by simp <;> omega) (.slice va (without ins vid).length vc))
    have HO7 := Lib.hid (own_setCell (b := ob) (j := 1) hown0 (by omega) (.slice va (without ins vid).length vc))
    have HS7 := Lib.hid (show (w6.setCell ⟨ob, 1, none⟩ (.slice va (without ins vid).length vc)).heap.size = w6.heap.size by simp [World.setCell])
    have c0 : w6.cell? ⟨ob, 0, none⟩ = some (.int .i64 pv) := gC6.cell 0
    have c1 : w6.cell? ⟨ob, 1, none⟩ = some (.slice ao ins.length co) := gC6.cell 1
    have c2 : w6.cell? ⟨ob, 2, none⟩ = some (.slice bo plain.length do_) := gC6.cell 2
    have c3 : w6.cell? ⟨ob, 3, none⟩ = some (.int .i64 ac) := gC6.cell 3
    have zc := gC6.frozen
    have yc := gC6.shape
    have lc := gC6.lt
    have HL6 := Lib.hid (show ob + 1 ≤ w6.heap.size by omega)
    clear gP6 gZ6 gC6 hb6 hK6 h6 hown hown0 hs6 hE hS hl1
    go_wp2_with fail
    clear c0 c1 c2 c3 zc yc lc
    generalize w6.setCell ⟨ob, 1, none⟩ (.slice va (without ins vid).length vc) = w7 at HP7 HZ7 HC7 HB7 HK7 HS7 HO7 ⊢
    refine (without_spec plain bo plain.length do_ vid w7 rfl (HSB.out _ HK7.out) hlp).mono ?_
    rintro e w8 ⟨v2, rfl, hown2, h8⟩
    obtain ⟨vb, vd, rfl⟩ := own_form hown2
    have gP8 := HP7.out.after h8
    have gZ8 := HZ7.out.after h8
    have gC8 := HC7.out.after h8
    have hb8 := HB7.out.trans (h8.mono HB7.out.size)
    have hl6 := HL6.out
    have hs7 := HS7.out
    have hl1 := HL1.out
    have hs8 := h8.size
    have hown1 := ownI_below (xs := without ins vid) HO7.out h8
    have HLT := Lib.hid (fun g e => (World.ownsRow.lt HO7.out g e).2)
    have HBASE := Lib.hid HB7.out.size
    have HG := Lib.hid (((((gZ8.other (j := 2) (g := ob) (by omega) (.slice vb (without plain vid).length vd)).set 0 (.int .i64 pv)).set 1 (.slice va (without ins vid).length vc)).set 2 (.slice vb (without plain vid).length vd)).set 3 (.int .i64 ac))
    have HOX := Lib.hid (own_setCell (b := w.heap.size + 1) (j := 3) (own_setCell (b := w.heap.size + 1) (j := 2) (own_setCell (b := w.heap.size + 1) (j := 1) (own_setCell (b := w.heap.size + 1) (j := 0) (own_setCell (b := ob) (j := 2) hown1 (by omega) (.slice vb (without plain vid).length vd)) (by omega) (.int .i64 pv)) (by omega) (.slice va (without ins vid).length vc)) (by omega) (.slice vb (without plain vid).length vd)) (by omega) (.int .i64 ac))
    have HQX := Lib.hid (own_setCell (b := w.heap.size + 1) (j := 3) (own_setCell (b := w.heap.size + 1) (j := 2) (own_setCell (b := w.heap.size + 1) (j := 1) (own_setCell (b := w.heap.size + 1) (j := 0) (own_setCell (b := ob) (j := 2) hown2 (by omega) (.slice vb (without plain vid).length vd)) (by omega) (.int .i64 pv)) (by omega) (.slice va (without ins vid).length vc)) (by omega) (.slice vb (without plain vid).length vd)) (by omega) (.int .i64 ac))
    have HBX := Lib.hid (((((hb8.setCell (p := ⟨ob, 2, none⟩) (by simp <;> omega) (.slice vb (without plain vid).length vd)).setCell (p := ⟨w.heap.size + 1, 0, none⟩) (by simp <;> omega) (.int .i64 pv)).setCell (p := ⟨w.heap.size + 1, 1, none⟩) (by simp <;> omega) (.slice va (without ins vid).length vc)).setCell (p := ⟨w.heap.size + 1, 2, none⟩) (by simp <;> omega) (.slice vb (without plain vid).length vd)).setCell (p := ⟨w.heap.size + 1, 3, none⟩) (by simp <;> omega) (.int .i64 ac))
    have c0 : w8.cell? ⟨ob, 0, none⟩ = some (.int .i64 pv) := gC8.cell 0
    have c1 : w8.cell? ⟨ob, 1, none⟩ = some (.slice va (without ins vid).length vc) := gC8.cell 1
    have c2 : w8.cell? ⟨ob, 2, none⟩ = some (.slice bo plain.length do_) := gC8.cell 2
    have c3 : w8.cell? ⟨ob, 3, none⟩ = some (.int .i64 ac) := gC8.cell 3
    have zc := gC8.frozen
    have yc := gC8.shape
    have lc := gC8.lt
    have s0 : w8.cell? ⟨w.heap.size + 1, 0, none⟩ = some (.int .i64 0) := gZ8.cell 0
    have s1 : w8.cell? ⟨w.heap.size + 1, 1, none⟩ = some (.slice none 0 0) := gZ8.cell 1
    have s2 : w8.cell? ⟨w.heap.size + 1, 2, none⟩ = some (.slice none 0 0) := gZ8.cell 2
    have s3 : w8.cell? ⟨w.heap.size + 1, 3, none⟩ = some (.int .i64 0) := gZ8.cell 3
    have zs := gZ8.frozen
    have ys := gZ8.shape
    have ls := gZ8.lt
    clear gP8 gZ8 gC8 hb8 hs8 hown1 hown2 hl6 hs7 h8
    go_wp2_with fail
    have r0 := HG.out.cell 0
    have r1 := HG.out.cell 1
    have r2 := HG.out.cell 2
    have r3 := HG.out.cell 3
    generalize ((((w8.setCell ⟨ob, 2, none⟩ (.slice vb (without plain vid).length vd)).setCell ⟨w.heap.size + 1, 0, none⟩ (.int .i64 pv)).setCell ⟨w.heap.size + 1, 1, none⟩ (.slice va (without ins vid).length vc)).setCell ⟨w.heap.size + 1, 2, none⟩ (.slice vb (without plain vid).length vd)).setCell ⟨w.heap.size + 1, 3, none⟩ (.int .i64 ac) = X at r0 r1 r2 r3 HOX HQX HBX ⊢
    replace r0 : X.cell? ⟨w.heap.size + 1, 0, none⟩ = some (.int .i64 pv) := r0
    replace r1 : X.cell? ⟨w.heap.size + 1, 1, none⟩ = some (.slice va (without ins vid).length vc) := r1
    replace r2 : X.cell? ⟨w.heap.size + 1, 2, none⟩ = some (.slice vb (without plain vid).length vd) := r2
    replace r3 : X.cell? ⟨w.heap.size + 1, 3, none⟩ = some (.int .i64 ac) := r3
    refine bodyPost_ret (v := .agg #[.int .i64 pv, .slice va (without ins vid).length vc, .slice vb (without plain vid).length vd, .int .i64 ac]) (by simp [results, Try.results36, go_sem, r0, r1, r2, r3]) rfl ?_
    exact got_of_owns (p := ⟨pv, without ins vid, without plain vid, ac⟩) (OwnI.lower (base := ob + 1) HOX.out (by omega)) HQX.out HLT.out HBASE.out HBX.out (Nat.le_trans (without_len _ _) hli) (Nat.le_trans (without_len _ _) hlp) ⟨HF.out.1, fits_without HF.out.2.1 vid, fits_without HF.out.2.2.1 vid, HF.out.2.2.2⟩
end Go.Proofs.Ytfkpecildcejkaa
