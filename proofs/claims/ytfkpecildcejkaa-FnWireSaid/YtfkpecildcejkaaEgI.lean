/- Egress of the program. -/
import Derived.Test.YtfkpecildcejkaaRow
import Derived.Test.YtfkpecildcejkaaSm
namespace Go.Proofs.Ytfkpecildcejkaa
open Go.RowKit

set_option linter.unusedSimpArgs false in
set_option maxRecDepth 20000 in
set_option maxHeartbeats 4000000 in
theorem egress_impl {w : World} {B C : List Nat} {v : Value} {p : Pt} (h : PortIn w B C v p) (vid : Int) (f : Fr) (pri : Int) (hbs : f.body.size ≤ 1048576) :
    Calls Try.prog 14 #[v, .int .i64 vid, f.val, .int .i64 pri] w fun e w' => e = .returned (.tuple #[(if mayOut p vid f pri then outFr p vid f pri else Fr.zero).val, .bool (decide (mayOut p vid f pri))]) ∧ Below w.heap.size w w' := by
  have hP := fun w' (hb : Below w.heap.size w w') => portOk_impl (h.after hb)
  obtain ⟨a, ca, b, cb, rfl, hi, hp, _, _, hli, hlp, _⟩ := h
  obtain ⟨pv, ins, plain, ac⟩ := p
  obtain ⟨dst, src, tagged, fv, fp, type, body⟩ := f
  simp only at hi hp hli hlp hbs ⊢
  have hH := fun w' (hb : Below w.heap.size w w') => has_impl plain b plain.length cb vid w' rfl (hp.after hb) hlp
  have hM := fun w' (hb : Below w.heap.size w w') => has_impl ins a ins.length ca vid w' rfl (hi.after hb) hli
  have hVL := vlans_impl pv a b ins.length ca plain.length cb ac
  unfold ptVal at *
  simp only at hP hM
  obtain ⟨r, hr⟩ : ∃ r, decide (mayOut ⟨pv, ins, plain, ac⟩ vid ⟨dst, src, tagged, fv, fp, type, body⟩ pri) = r := ⟨_, rfl⟩
  obtain ⟨z, hz⟩ : ∃ z, (if mayOut ⟨pv, ins, plain, ac⟩ vid ⟨dst, src, tagged, fv, fp, type, body⟩ pri then outFr ⟨pv, ins, plain, ac⟩ vid ⟨dst, src, tagged, fv, fp, type, body⟩ pri else Fr.zero) = z := ⟨_, rfl⟩
  rw [hr, hz]
  obtain ⟨d, hd⟩ : ∃ d, decide (vid ∈ plain) = d := ⟨_, rfl⟩
  simp only [hd] at hH
  obtain ⟨r1, hr1⟩ : ∃ r, decide (portOk ⟨pv, ins, plain, ac⟩) = r := ⟨_, rfl⟩
  simp only [hr1] at hP
  obtain ⟨r3, hr3⟩ : ∃ r, decide (vid ∈ ins) = r := ⟨_, rfl⟩
  simp only [hr3] at hM
  obtain ⟨g, hg⟩ : ∃ g, g = outFr ⟨pv, ins, plain, ac⟩ vid ⟨dst, src, tagged, fv, fp, type, body⟩ pri := ⟨_, rfl⟩
  have hgs : g.body = body := by rw [hg]; unfold outFr; split <;> rfl
  have hF := frameOk_impl g (by rw [hgs]; exact hbs)
  obtain ⟨r2, hr2⟩ : ∃ r, decide (frOk g) = r := ⟨_, rfl⟩
  simp only [hr2] at hF
  have hno : ¬ (r1 = true ∧ r3 = true ∧ r2 = true) → r = false ∧ z = Fr.zero := by
    intro k
    have k' : ¬ mayOut ⟨pv, ins, plain, ac⟩ vid ⟨dst, src, tagged, fv, fp, type, body⟩ pri := fun h => k ⟨by rw [← hr1]; exact decide_eq_true h.1, by rw [← hr3]; exact decide_eq_true h.2.1, by rw [← hr2, hg]; exact decide_eq_true h.2.2⟩
    exact ⟨by rw [← hr]; exact decide_eq_false k', by rw [← hz, if_neg k']⟩
  have hyes : r1 = true → r3 = true → r2 = true → r = true ∧ z = g := by
    intro k1 k2 k3
    have k' : mayOut ⟨pv, ins, plain, ac⟩ vid ⟨dst, src, tagged, fv, fp, type, body⟩ pri := ⟨of_decide_eq_true (hr1.trans k1), of_decide_eq_true (hr3.trans k2), by rw [← hg]; exact of_decide_eq_true (hr2.trans k3)⟩
    exact ⟨by rw [← hr]; exact decide_eq_true k', by rw [← hz, if_pos k', hg]⟩
  have hg1 : d = true → g = ⟨dst, src, false, 0, 0, type, body⟩ := fun k => by rw [hg]; unfold outFr; rw [if_pos (of_decide_eq_true (hd.trans k))]
  have hg0 : d = false → g = ⟨dst, src, true, vid, pri, type, body⟩ := fun k => by rw [hg]; unfold outFr; rw [if_neg (of_decide_eq_false (hd.trans k))]
  have hb : Below w.heap.size w (((w.alloc (.cells #[.int .i64 pv, .slice a ins.length ca, .slice b plain.length cb, .int .i64 ac] 26)).alloc (.cells #[.int .i64 dst, .int .i64 src, .bool tagged, .int .i64 fv, .int .i64 fp, .int .i64 type, .string body] 28)).alloc (.cells #[.int .i64 0, .int .i64 0, .bool false, .int .i64 0, .int .i64 0, .int .i64 0, .string ⟨#[]⟩] 28)) := (((Below.refl _ _).alloc (Nat.le_refl _) _).alloc (by simp) _).alloc (by simp; omega) _
  have gP : Blk (((w.alloc (.cells #[.int .i64 pv, .slice a ins.length ca, .slice b plain.length cb, .int .i64 ac] 26)).alloc (.cells #[.int .i64 dst, .int .i64 src, .bool tagged, .int .i64 fv, .int .i64 fp, .int .i64 type, .string body] 28)).alloc (.cells #[.int .i64 0, .int .i64 0, .bool false, .int .i64 0, .int .i64 0, .int .i64 0, .string ⟨#[]⟩] 28)) w.heap.size #[.int .i64 pv, .slice a ins.length ca, .slice b plain.length cb, .int .i64 ac] 26 := ((blk_new _ _ rfl).alloc _).alloc _
  have gF : Blk (((w.alloc (.cells #[.int .i64 pv, .slice a ins.length ca, .slice b plain.length cb, .int .i64 ac] 26)).alloc (.cells #[.int .i64 dst, .int .i64 src, .bool tagged, .int .i64 fv, .int .i64 fp, .int .i64 type, .string body] 28)).alloc (.cells #[.int .i64 0, .int .i64 0, .bool false, .int .i64 0, .int .i64 0, .int .i64 0, .string ⟨#[]⟩] 28)) (w.heap.size + 1) #[.int .i64 dst, .int .i64 src, .bool tagged, .int .i64 fv, .int .i64 fp, .int .i64 type, .string body] 28 := (blk_new _ _ (by simp)).alloc _
  have gZ : Blk (((w.alloc (.cells #[.int .i64 pv, .slice a ins.length ca, .slice b plain.length cb, .int .i64 ac] 26)).alloc (.cells #[.int .i64 dst, .int .i64 src, .bool tagged, .int .i64 fv, .int .i64 fp, .int .i64 type, .string body] 28)).alloc (.cells #[.int .i64 0, .int .i64 0, .bool false, .int .i64 0, .int .i64 0, .int .i64 0, .string ⟨#[]⟩] 28)) (w.heap.size + 1 + 1) #[.int .i64 0, .int .i64 0, .bool false, .int .i64 0, .int .i64 0, .int .i64 0, .string ⟨#[]⟩] 28 := blk_new _ _ (by simp)
  have H0 := Lib.hid hb; have GP0 := Lib.hid gP; have GF0 := Lib.hid gF; have GZ0 := Lib.hid gZ; have HP := Lib.hid hP; have HM := Lib.hid hM; have HH := Lib.hid hH; have HF := Lib.hid hF; have HNO := Lib.hid hno; have HYES := Lib.hid hyes; have HG1 := Lib.hid hg1; have HG0 := Lib.hid hg0; have HVL := Lib.hid hVL
  clear hb gP gF gZ hP hM hH hF hno hyes hg1 hg0 hgs hg hr2 hr3 hr1 hd hr hz hi hp hli hlp hbs hVL
  unfold Fr.val
  go_enter Try.func14, Try.ntmps14
  go_wp2_with fail
  refine (HVL.out _).mono ?_
  rintro e w1 ⟨rfl, h1⟩
  have H1 := Lib.hid (H0.out.trans (h1.mono H0.out.size)); have GP1 := Lib.hid (GP0.out.after h1); have GF1 := Lib.hid (GF0.out.after h1); have GZ1 := Lib.hid (GZ0.out.after h1)
  clear h1 GP0 GF0 GZ0
  have p0 := GP1.out.cell 0
  have p1 := GP1.out.cell 1
  have p2 := GP1.out.cell 2
  have p3 := GP1.out.cell 3
  have l0 := GP1.out.lt
  have l1 := GF1.out.lt
  have l2 := GZ1.out.lt
  go_wp2_with fail
  have hs2 : (w1.alloc (.cells #[.slice a ins.length ca, .slice b plain.length cb] 66)).heap.size = w1.heap.size + 1 := by simp
  have gJ : Blk (w1.alloc (.cells #[.slice a ins.length ca, .slice b plain.length cb] 66)) w1.heap.size #[.slice a ins.length ca, .slice b plain.length cb] 66 := blk_new _ _ rfl
  have H2 := Lib.hid (show Below w.heap.size w (w1.alloc (.cells #[.slice a ins.length ca, .slice b plain.length cb] 66)) from H1.out.alloc H1.out.size _); have GP2 := Lib.hid (show Blk (w1.alloc (.cells #[.slice a ins.length ca, .slice b plain.length cb] 66)) _ _ _ from GP1.out.alloc _); have GF2 := Lib.hid (show Blk (w1.alloc (.cells #[.slice a ins.length ca, .slice b plain.length cb] 66)) _ _ _ from GF1.out.alloc _); have GZ2 := Lib.hid (show Blk (w1.alloc (.cells #[.slice a ins.length ca, .slice b plain.length cb] 66)) _ _ _ from GZ1.out.alloc _); have GJ2 := Lib.hid gJ
  clear gJ H1 GP1 GF1 GZ1 p0 p1 p2 p3 hs2
  generalize w1.alloc (.cells #[.slice a ins.length ca, .slice b plain.length cb] 66) = w2 at H2 GP2 GF2 GZ2 GJ2 ⊢
  generalize w1.heap.size = jb at GJ2 l0 l1 l2 ⊢
  have HL := Lib.hid (And.intro l0 (And.intro l1 l2))
  clear l0 l1 l2
  refine (HP.out _ H2.out).mono ?_
  rintro e w3 ⟨rfl, h3⟩
  have H3 := Lib.hid (H2.out.trans (h3.mono H2.out.size)); have GP3 := Lib.hid (GP2.out.after h3); have GF3 := Lib.hid (GF2.out.after h3); have GZ3 := Lib.hid (GZ2.out.after h3)
  have GJ3 := Lib.hid (GJ2.out.after h3)
  clear h3 GP2 GF2 GZ2 GJ2
  have j0 := GJ3.out.cell 0
  have j1 := GJ3.out.cell 1
  cases r1
  · obtain ⟨rfl, rfl⟩ := HNO.out (by simp)
    go_wp2_with (with_reducible refine store_here rfl ?_)
    refine halt_go ?_
    refine wpList_store_row rfl 28 _ _ rfl (w.heap.size + 1 + 1) #[.int .i64 0, .int .i64 0, .bool false, .int .i64 0, .int .i64 0, .int .i64 0, .string ⟨#[]⟩] rfl rfl 28 #[.int .i64 0, .int .i64 0, .bool false, .int .i64 0, .int .i64 0, .int .i64 0, .string ⟨#[]⟩] GZ3.out sizeFr rfl (by simp [Value.oneCell']) ?_
    have HG := Lib.hid (Blk.row (cs := #[.int .i64 0, .int .i64 0, .bool false, .int .i64 0, .int .i64 0, .int .i64 0, .string ⟨#[]⟩]) GZ3.out)
    have HE := Lib.hid (Below.row H3.out (g := w.heap.size + 1 + 1) (by omega) #[.int .i64 0, .int .i64 0, .bool false, .int .i64 0, .int .i64 0, .int .i64 0, .string ⟨#[]⟩])
    generalize w3.setRow (w.heap.size + 1 + 1) #[.int .i64 0, .int .i64 0, .bool false, .int .i64 0, .int .i64 0, .int .i64 0, .string ⟨#[]⟩] = X at HG HE ⊢
    have r0 := HG.out.cell 0
    have r1 := HG.out.cell 1
    have r2 := HG.out.cell 2
    have r3 := HG.out.cell 3
    have r4 := HG.out.cell 4
    have r5 := HG.out.cell 5
    have r6 := HG.out.cell 6
    go_wp2_with fail
    exact bodyPost_ret (v := .tuple #[.agg #[.int .i64 0, .int .i64 0, .bool false, .int .i64 0, .int .i64 0, .int .i64 0, .string ⟨#[]⟩], .bool false]) (by simp [results, Try.results14, go_sem, r0, r1, r2, r3, r4, r5, r6]) rfl ⟨rfl, HE.out⟩
  go_wp2_with fail
  refine (HM.out _ H3.out).mono ?_
  rintro e w4 ⟨rfl, rfl⟩
  cases r3
  · obtain ⟨rfl, rfl⟩ := HNO.out (by simp)
    go_wp2_with (with_reducible refine store_here rfl ?_)
    refine halt_go ?_
    refine wpList_store_row rfl 28 _ _ rfl (w.heap.size + 1 + 1) #[.int .i64 0, .int .i64 0, .bool false, .int .i64 0, .int .i64 0, .int .i64 0, .string ⟨#[]⟩] rfl rfl 28 #[.int .i64 0, .int .i64 0, .bool false, .int .i64 0, .int .i64 0, .int .i64 0, .string ⟨#[]⟩] GZ3.out sizeFr rfl (by simp [Value.oneCell']) ?_
    have HG := Lib.hid (Blk.row (cs := #[.int .i64 0, .int .i64 0, .bool false, .int .i64 0, .int .i64 0, .int .i64 0, .string ⟨#[]⟩]) GZ3.out)
    have HE := Lib.hid (Below.row H3.out (g := w.heap.size + 1 + 1) (by omega) #[.int .i64 0, .int .i64 0, .bool false, .int .i64 0, .int .i64 0, .int .i64 0, .string ⟨#[]⟩])
    generalize w4.setRow (w.heap.size + 1 + 1) #[.int .i64 0, .int .i64 0, .bool false, .int .i64 0, .int .i64 0, .int .i64 0, .string ⟨#[]⟩] = X at HG HE ⊢
    have r0 := HG.out.cell 0
    have r1 := HG.out.cell 1
    have r2 := HG.out.cell 2
    have r3 := HG.out.cell 3
    have r4 := HG.out.cell 4
    have r5 := HG.out.cell 5
    have r6 := HG.out.cell 6
    go_wp2_with fail
    exact bodyPost_ret (v := .tuple #[.agg #[.int .i64 0, .int .i64 0, .bool false, .int .i64 0, .int .i64 0, .int .i64 0, .string ⟨#[]⟩], .bool false]) (by simp [results, Try.results14, go_sem, r0, r1, r2, r3, r4, r5, r6]) rfl ⟨rfl, HE.out⟩
  have f0 := GF3.out.cell 0
  have f1 := GF3.out.cell 1
  have f2 := GF3.out.cell 2
  have f3 := GF3.out.cell 3
  have f4 := GF3.out.cell 4
  have f5 := GF3.out.cell 5
  have f6 := GF3.out.cell 6
  have zf := GF3.out.frozen
  have yf := GF3.out.shape
  have lj := GJ3.out.lt
  have lf := GF3.out.lt
  have hL := HL.out
  go_wp2_with fail
  clear f0 f1 f2 f3 f4 f5 f6 zf yf lf lj hL GP3
  have H5 := Lib.hid (((H3.out.setCell (p := ⟨w.heap.size + 1, 2, none⟩) (by simp) (.bool true)).setCell (p := ⟨w.heap.size + 1, 3, none⟩) (by simp) (.int .i64 vid)).setCell (p := ⟨w.heap.size + 1, 4, none⟩) (by simp) (.int .i64 pri)); have GF5 := Lib.hid (((GF3.out.set 2 (.bool true)).set 3 (.int .i64 vid)).set 4 (.int .i64 pri)); have GZ5 := Lib.hid (((GZ3.out.other (j := 2) (g := w.heap.size + 1) (by omega) (.bool true)).other (j := 3) (g := w.heap.size + 1) (by omega) (.int .i64 vid)).other (j := 4) (g := w.heap.size + 1) (by omega) (.int .i64 pri))
  generalize ((w4.setCell ⟨w.heap.size + 1, 2, none⟩ (.bool true)).setCell ⟨w.heap.size + 1, 3, none⟩ (.int .i64 vid)).setCell ⟨w.heap.size + 1, 4, none⟩ (.int .i64 pri) = w5 at H5 GF5 GZ5 ⊢
  clear H3 GF3 GZ3 GJ3
  refine (HH.out _ H5.out).mono ?_
  rintro e w6 ⟨rfl, rfl⟩
  cases d
  · obtain rfl := HG0.out rfl
    have hF := HF.out
    unfold Fr.val at hF
    simp only at hF
    have HF' := Lib.hid hF
    clear hF
    have f0 := GF5.out.cell 0
    have f1 := GF5.out.cell 1
    have f2 := GF5.out.cell 2
    have f3 := GF5.out.cell 3
    have f4 := GF5.out.cell 4
    have f5 := GF5.out.cell 5
    have f6 := GF5.out.cell 6
    go_wp2_with fail
    refine (HF'.out _).mono ?_
    rintro e w7 ⟨rfl, h7⟩
    have H7 := Lib.hid (H5.out.trans (h7.mono H5.out.size)); have GF7 := Lib.hid (GF5.out.after h7); have GZ7 := Lib.hid (GZ5.out.after h7)
    clear h7 f0 f1 f2 f3 f4 f5 f6
    cases r2
    · obtain ⟨rfl, rfl⟩ := HNO.out (by simp)
      go_wp2_with (with_reducible refine store_here rfl ?_)
      refine halt_go ?_
      refine wpList_store_row rfl 28 _ _ rfl (w.heap.size + 1 + 1) #[.int .i64 0, .int .i64 0, .bool false, .int .i64 0, .int .i64 0, .int .i64 0, .string ⟨#[]⟩] rfl rfl 28 #[.int .i64 0, .int .i64 0, .bool false, .int .i64 0, .int .i64 0, .int .i64 0, .string ⟨#[]⟩] GZ7.out sizeFr rfl (by simp [Value.oneCell']) ?_
      have HG := Lib.hid (Blk.row (cs := #[.int .i64 0, .int .i64 0, .bool false, .int .i64 0, .int .i64 0, .int .i64 0, .string ⟨#[]⟩]) GZ7.out)
      have HE := Lib.hid (Below.row H7.out (g := w.heap.size + 1 + 1) (by omega) #[.int .i64 0, .int .i64 0, .bool false, .int .i64 0, .int .i64 0, .int .i64 0, .string ⟨#[]⟩])
      generalize w7.setRow (w.heap.size + 1 + 1) #[.int .i64 0, .int .i64 0, .bool false, .int .i64 0, .int .i64 0, .int .i64 0, .string ⟨#[]⟩] = X at HG HE ⊢
      have r0 := HG.out.cell 0
      have r1 := HG.out.cell 1
      have r2 := HG.out.cell 2
      have r3 := HG.out.cell 3
      have r4 := HG.out.cell 4
      have r5 := HG.out.cell 5
      have r6 := HG.out.cell 6
      go_wp2_with fail
      exact bodyPost_ret (v := .tuple #[.agg #[.int .i64 0, .int .i64 0, .bool false, .int .i64 0, .int .i64 0, .int .i64 0, .string ⟨#[]⟩], .bool false]) (by simp [results, Try.results14, go_sem, r0, r1, r2, r3, r4, r5, r6]) rfl ⟨rfl, HE.out⟩
    · obtain ⟨rfl, rfl⟩ := HYES.out (by simp) (by simp) (by simp)
      have f0 := GF7.out.cell 0
      have f1 := GF7.out.cell 1
      have f2 := GF7.out.cell 2
      have f3 := GF7.out.cell 3
      have f4 := GF7.out.cell 4
      have f5 := GF7.out.cell 5
      have f6 := GF7.out.cell 6
      go_wp2_with (with_reducible refine store_here rfl ?_)
      refine halt_go ?_
      refine wpList_store_row rfl 28 _ _ rfl (w.heap.size + 1 + 1) #[.int .i64 dst, .int .i64 src, .bool true, .int .i64 vid, .int .i64 pri, .int .i64 type, .string body] rfl rfl 28 #[.int .i64 0, .int .i64 0, .bool false, .int .i64 0, .int .i64 0, .int .i64 0, .string ⟨#[]⟩] GZ7.out sizeFr rfl (by simp [Value.oneCell']) ?_
      have HG := Lib.hid (Blk.row (cs := #[.int .i64 dst, .int .i64 src, .bool true, .int .i64 vid, .int .i64 pri, .int .i64 type, .string body]) GZ7.out)
      have HE := Lib.hid (Below.row H7.out (g := w.heap.size + 1 + 1) (by omega) #[.int .i64 dst, .int .i64 src, .bool true, .int .i64 vid, .int .i64 pri, .int .i64 type, .string body])
      generalize w7.setRow (w.heap.size + 1 + 1) #[.int .i64 dst, .int .i64 src, .bool true, .int .i64 vid, .int .i64 pri, .int .i64 type, .string body] = X at HG HE ⊢
      have r0 := HG.out.cell 0
      have r1 := HG.out.cell 1
      have r2 := HG.out.cell 2
      have r3 := HG.out.cell 3
      have r4 := HG.out.cell 4
      have r5 := HG.out.cell 5
      have r6 := HG.out.cell 6
      go_wp2_with fail
      exact bodyPost_ret (v := .tuple #[.agg #[.int .i64 dst, .int .i64 src, .bool true, .int .i64 vid, .int .i64 pri, .int .i64 type, .string body], .bool true]) (by simp [results, Try.results14, go_sem, r0, r1, r2, r3, r4, r5, r6]) rfl ⟨rfl, HE.out⟩
  · obtain rfl := HG1.out rfl
    have f0 := GF5.out.cell 0
    have f1 := GF5.out.cell 1
    have f2 := GF5.out.cell 2
    have f3 := GF5.out.cell 3
    have f4 := GF5.out.cell 4
    have f5 := GF5.out.cell 5
    have f6 := GF5.out.cell 6
    have zf := GF5.out.frozen
    have yf := GF5.out.shape
    have lf := GF5.out.lt
    go_wp2_with fail
    clear f0 f1 f2 f3 f4 f5 f6 zf yf lf
    have H8 := Lib.hid (((H5.out.setCell (p := ⟨w.heap.size + 1, 2, none⟩) (by simp) (.bool false)).setCell (p := ⟨w.heap.size + 1, 3, none⟩) (by simp) (.int .i64 0)).setCell (p := ⟨w.heap.size + 1, 4, none⟩) (by simp) (.int .i64 0)); have GF8 := Lib.hid (((GF5.out.set 2 (.bool false)).set 3 (.int .i64 0)).set 4 (.int .i64 0)); have GZ8 := Lib.hid (((GZ5.out.other (j := 2) (g := w.heap.size + 1) (by omega) (.bool false)).other (j := 3) (g := w.heap.size + 1) (by omega) (.int .i64 0)).other (j := 4) (g := w.heap.size + 1) (by omega) (.int .i64 0))
    generalize ((w6.setCell ⟨w.heap.size + 1, 2, none⟩ (.bool false)).setCell ⟨w.heap.size + 1, 3, none⟩ (.int .i64 0)).setCell ⟨w.heap.size + 1, 4, none⟩ (.int .i64 0) = w8 at H8 GF8 GZ8 ⊢
    clear H5 GF5 GZ5
    have hF := HF.out
    unfold Fr.val at hF
    simp only at hF
    have HF' := Lib.hid hF
    clear hF
    have f0 := GF8.out.cell 0
    have f1 := GF8.out.cell 1
    have f2 := GF8.out.cell 2
    have f3 := GF8.out.cell 3
    have f4 := GF8.out.cell 4
    have f5 := GF8.out.cell 5
    have f6 := GF8.out.cell 6
    go_wp2_with fail
    refine (HF'.out _).mono ?_
    rintro e w7 ⟨rfl, h7⟩
    have H7 := Lib.hid (H8.out.trans (h7.mono H8.out.size)); have GF7 := Lib.hid (GF8.out.after h7); have GZ7 := Lib.hid (GZ8.out.after h7)
    clear h7 f0 f1 f2 f3 f4 f5 f6
    cases r2
    · obtain ⟨rfl, rfl⟩ := HNO.out (by simp)
      go_wp2_with (with_reducible refine store_here rfl ?_)
      refine halt_go ?_
      refine wpList_store_row rfl 28 _ _ rfl (w.heap.size + 1 + 1) #[.int .i64 0, .int .i64 0, .bool false, .int .i64 0, .int .i64 0, .int .i64 0, .string ⟨#[]⟩] rfl rfl 28 #[.int .i64 0, .int .i64 0, .bool false, .int .i64 0, .int .i64 0, .int .i64 0, .string ⟨#[]⟩] GZ7.out sizeFr rfl (by simp [Value.oneCell']) ?_
      have HG := Lib.hid (Blk.row (cs := #[.int .i64 0, .int .i64 0, .bool false, .int .i64 0, .int .i64 0, .int .i64 0, .string ⟨#[]⟩]) GZ7.out)
      have HE := Lib.hid (Below.row H7.out (g := w.heap.size + 1 + 1) (by omega) #[.int .i64 0, .int .i64 0, .bool false, .int .i64 0, .int .i64 0, .int .i64 0, .string ⟨#[]⟩])
      generalize w7.setRow (w.heap.size + 1 + 1) #[.int .i64 0, .int .i64 0, .bool false, .int .i64 0, .int .i64 0, .int .i64 0, .string ⟨#[]⟩] = X at HG HE ⊢
      have r0 := HG.out.cell 0
      have r1 := HG.out.cell 1
      have r2 := HG.out.cell 2
      have r3 := HG.out.cell 3
      have r4 := HG.out.cell 4
      have r5 := HG.out.cell 5
      have r6 := HG.out.cell 6
      go_wp2_with fail
      exact bodyPost_ret (v := .tuple #[.agg #[.int .i64 0, .int .i64 0, .bool false, .int .i64 0, .int .i64 0, .int .i64 0, .string ⟨#[]⟩], .bool false]) (by simp [results, Try.results14, go_sem, r0, r1, r2, r3, r4, r5, r6]) rfl ⟨rfl, HE.out⟩
    · obtain ⟨rfl, rfl⟩ := HYES.out (by simp) (by simp) (by simp)
      have f0 := GF7.out.cell 0
      have f1 := GF7.out.cell 1
      have f2 := GF7.out.cell 2
      have f3 := GF7.out.cell 3
      have f4 := GF7.out.cell 4
      have f5 := GF7.out.cell 5
      have f6 := GF7.out.cell 6
      go_wp2_with (with_reducible refine store_here rfl ?_)
      refine halt_go ?_
      refine wpList_store_row rfl 28 _ _ rfl (w.heap.size + 1 + 1) #[.int .i64 dst, .int .i64 src, .bool false, .int .i64 0, .int .i64 0, .int .i64 type, .string body] rfl rfl 28 #[.int .i64 0, .int .i64 0, .bool false, .int .i64 0, .int .i64 0, .int .i64 0, .string ⟨#[]⟩] GZ7.out sizeFr rfl (by simp [Value.oneCell']) ?_
      have HG := Lib.hid (Blk.row (cs := #[.int .i64 dst, .int .i64 src, .bool false, .int .i64 0, .int .i64 0, .int .i64 type, .string body]) GZ7.out)
      have HE := Lib.hid (Below.row H7.out (g := w.heap.size + 1 + 1) (by omega) #[.int .i64 dst, .int .i64 src, .bool false, .int .i64 0, .int .i64 0, .int .i64 type, .string body])
      generalize w7.setRow (w.heap.size + 1 + 1) #[.int .i64 dst, .int .i64 src, .bool false, .int .i64 0, .int .i64 0, .int .i64 type, .string body] = X at HG HE ⊢
      have r0 := HG.out.cell 0
      have r1 := HG.out.cell 1
      have r2 := HG.out.cell 2
      have r3 := HG.out.cell 3
      have r4 := HG.out.cell 4
      have r5 := HG.out.cell 5
      have r6 := HG.out.cell 6
      go_wp2_with fail
      exact bodyPost_ret (v := .tuple #[.agg #[.int .i64 dst, .int .i64 src, .bool false, .int .i64 0, .int .i64 0, .int .i64 type, .string body], .bool true]) (by simp [results, Try.results14, go_sem, r0, r1, r2, r3, r4, r5, r6]) rfl ⟨rfl, HE.out⟩
end Go.Proofs.Ytfkpecildcejkaa
