/- The walk of FnWire. -/
import Derived.Test.YtfkpecildcejkaaEgI
import Derived.Test.YtfkpecildcejkaaEgS
import Derived.Test.YtfkpecildcejkaaDrX
import Derived.Test.YtfkpecildcejkaaBig
import Derived.Deep.RegionHeld3
import Derived.Deep.RegionWith
import Derived.Deep.DeepCutAuto
namespace Go.Proofs.Ytfkpecildcejkaa
open Go.RowKit

theorem port_re {w : World} {C D : List Nat} {p : Pt} {a b : Option Addr} {ca cb : Nat} (h : PortIn w C D (.agg #[.int .i64 p.pvid, .slice a p.ins.length ca, .slice b p.plain.length cb, .int .i64 p.acc]) p) {x y : Int} (hx : wf64 x) (hy : wf64 y) :
    PortIn w C D (.agg #[.int .i64 x, .slice a p.ins.length ca, .slice b p.plain.length cb, .int .i64 y]) ⟨x, p.ins, p.plain, y⟩ := by
  obtain ⟨a', ca', b', cb', hv, h1, h2, h3, h4, h5, h6, h7⟩ := h
  unfold ptVal at hv
  cases hv
  exact ⟨_, _, _, _, rfl, h1, h2, h3, h4, h5, h6, hx, h7.2.1, h7.2.2.1, hy⟩
theorem port_wf {w : World} {C D : List Nat} {p : Pt} {v : Value} (h : PortIn w C D v p) : wf64 p.pvid := by
  obtain ⟨a', ca', b', cb', hv, h1, h2, h3, h4, h5, h6, h7⟩ := h
  exact h7.1

set_option linter.unusedVariables false in
set_option linter.unusedSimpArgs false in
set_option maxRecDepth 20000 in
set_option maxHeartbeats 4000000 in
theorem walk_FnWire (a : Option Addr) (len cap : Nat) (zs : List Int) (w : World) (hrow : IsRow .u8 w a len cap zs) :
    Calls Try.prog 3 #[.slice a len cap] w fun e w' => e = .returned (.bool true) ∧ Below w.heap.size w w' := by
  have hlow := hrow.low
  have hmax : len ≤ 9223372036854775807 := by
    rcases hrow with ⟨_, rfl, _⟩ | ⟨_, _, h1, h2, _⟩
    · omega
    · unfold maxLen at h2; omega
  by_cases hl : len ≤ 1048576
  case neg =>
    go_enter Try.func3, Try.ntmps3
    go_wp2_with fail
    refine (big_yes a len cap w (by omega)).mono ?_
    rintro e w' ⟨rfl, rfl⟩
    go_wp2_with fail
    go_ret
    exact ⟨rfl, Below.refl _ _⟩
  go_enter Try.func3, Try.ntmps3
  go_wp2_with fail
  refine (big_no a len cap w hl).mono ?_
  rintro e w9 ⟨rfl, rfl⟩
  go_wp2_with fail
  refine (drawEgress_any w a len cap zs hl hrow hlow).mono ?_
  rintro e x0 ⟨p, v, vid, f, pri, rfl, ⟨C, D, pa, pca, pb, pcb, rfl, hP, hb1⟩, hfs, hvid, hpri⟩
  obtain ⟨fd, fs, ft, fv, fp, fy, fb⟩ := f
  simp only at hfs
  unfold Fr.val
  clear hrow hlow
  have HB := Lib.hid hb1; have HP := Lib.hid hP
  have hbs : fb.size ≤ 1048576 := by omega
  have hi := fun (w : World) (h : PortIn w C D (.agg #[.int .i64 p.pvid, .slice pa p.ins.length pca, .slice pb p.plain.length pcb, .int .i64 p.acc]) p) => egress_impl h vid ⟨fd, fs, ft, fv, fp, fy, fb⟩ pri hbs
  have hs := fun (w : World) (h : PortIn w C D (.agg #[.int .i64 p.pvid, .slice pa p.ins.length pca, .slice pb p.plain.length pcb, .int .i64 p.acc]) p) => egress_spec h vid ⟨fd, fs, ft, fv, fp, fy, fb⟩ pri hbs
  obtain ⟨r, hr⟩ : ∃ r, decide (mayOut p vid ⟨fd, fs, ft, fv, fp, fy, fb⟩ pri) = r := ⟨_, rfl⟩
  obtain ⟨z, hz⟩ : ∃ z, (if mayOut p vid ⟨fd, fs, ft, fv, fp, fy, fb⟩ pri then outFr p vid ⟨fd, fs, ft, fv, fp, fy, fb⟩ pri else Fr.zero) = z := ⟨_, rfl⟩
  simp only [hr, hz] at hi hs
  have hno : r = false → z = Fr.zero := fun k => by rw [← hz, if_neg (of_decide_eq_false (hr.trans k))]
  have hyes : r = true → (z.dst = fd ∧ z.src = fs ∧ z.body = fb) ∧ frOk z ∧ vid ∈ p.ins ∧ ∀ q : Pt, q = ⟨if z.tagged = true then p.pvid else vid, p.ins, p.plain, 0⟩ → mayIn q z ∧ netOf q z = vid := by
    intro k
    have k' : mayOut p vid ⟨fd, fs, ft, fv, fp, fy, fb⟩ pri := of_decide_eq_true (hr.trans k)
    rw [if_pos k'] at hz
    subst hz
    refine ⟨?_, k'.2.2, k'.2.1, fun q hq => out_in k' q hq⟩
    unfold outFr
    split <;> exact ⟨rfl, rfl, rfl⟩
  obtain ⟨zd, zs, zt, zv, zp, zy, zb⟩ := z
  unfold Fr.val at hi hs
  simp only at hi hs hno hyes
  have HI := Lib.hid hi; have HS := Lib.hid hs; have HYES := Lib.hid hyes; have HNO := Lib.hid hno; have HV := Lib.hid hvid; have HBS := Lib.hid hbs
  clear hb1 hP hfs hi hs hr hz hyes hno hbs hvid hpri
  go_wp2_with fail
  have hbq : Below x0.heap.size x0 ((x0.alloc (.cells #[.int .i64 p.pvid, .slice pa p.ins.length pca, .slice pb p.plain.length pcb, .int .i64 p.acc] 26)).alloc (.cells #[.int .i64 fd, .int .i64 fs, .bool ft, .int .i64 fv, .int .i64 fp, .int .i64 fy, .string fb] 28)) := ((Below.refl _ _).alloc (Nat.le_refl _) _).alloc (by simp) _
  have KP := Lib.hid (show Blk ((x0.alloc (.cells #[.int .i64 p.pvid, .slice pa p.ins.length pca, .slice pb p.plain.length pcb, .int .i64 p.acc] 26)).alloc (.cells #[.int .i64 fd, .int .i64 fs, .bool ft, .int .i64 fv, .int .i64 fp, .int .i64 fy, .string fb] 28)) x0.heap.size #[.int .i64 p.pvid, .slice pa p.ins.length pca, .slice pb p.plain.length pcb, .int .i64 p.acc] 26 from (blk_new _ _ rfl).alloc _)
  have KF := Lib.hid (show Blk ((x0.alloc (.cells #[.int .i64 p.pvid, .slice pa p.ins.length pca, .slice pb p.plain.length pcb, .int .i64 p.acc] 26)).alloc (.cells #[.int .i64 fd, .int .i64 fs, .bool ft, .int .i64 fv, .int .i64 fp, .int .i64 fy, .string fb] 28)) (x0.heap.size + 1) #[.int .i64 fd, .int .i64 fs, .bool ft, .int .i64 fv, .int .i64 fp, .int .i64 fy, .string fb] 28 from blk_new _ _ (by simp))
  have HP := Lib.hid (HP.out.after hbq)
  have HB := Lib.hid (HB.out.trans (hbq.mono HB.out.size))
  clear hbq
  generalize (x0.alloc (.cells #[.int .i64 p.pvid, .slice pa p.ins.length pca, .slice pb p.plain.length pcb, .int .i64 p.acc] 26)).alloc (.cells #[.int .i64 fd, .int .i64 fs, .bool ft, .int .i64 fv, .int .i64 fp, .int .i64 fy, .string fb] 28) = x1 at KP KF HP HB ⊢
  generalize x0.heap.size = e1 at KP KF ⊢
  refine (HI.out _ HP.out).mono ?_
  rintro e x2 ⟨rfl, hbq⟩
  have HP := Lib.hid (HP.out.after hbq)
  have KP := Lib.hid (KP.out.after hbq)
  have KF := Lib.hid (KF.out.after hbq)
  have HB := Lib.hid (HB.out.trans (hbq.mono HB.out.size))
  clear hbq
  have hbq : Below x2.heap.size x2 (x2.alloc (.cells #[.int .i64 zd, .int .i64 zs, .bool zt, .int .i64 zv, .int .i64 zp, .int .i64 zy, .string zb] 28)) := (Below.refl _ _).alloc (Nat.le_refl _) _
  have hnq : Blk (x2.alloc (.cells #[.int .i64 zd, .int .i64 zs, .bool zt, .int .i64 zv, .int .i64 zp, .int .i64 zy, .string zb] 28)) x2.heap.size #[.int .i64 zd, .int .i64 zs, .bool zt, .int .i64 zv, .int .i64 zp, .int .i64 zy, .string zb] 28 := blk_new _ _ rfl
  have HP := Lib.hid (HP.out.after hbq)
  have KP := Lib.hid (KP.out.after hbq)
  have KF := Lib.hid (KF.out.after hbq)
  have HB := Lib.hid (HB.out.trans (hbq.mono HB.out.size))
  have KG := Lib.hid hnq
  clear hbq hnq
  have kp0 : (x2.alloc (.cells #[.int .i64 zd, .int .i64 zs, .bool zt, .int .i64 zv, .int .i64 zp, .int .i64 zy, .string zb] 28)).cell? ⟨e1, 0, none⟩ = some (.int .i64 p.pvid) := KP.out.cell 0
  have kp1 : (x2.alloc (.cells #[.int .i64 zd, .int .i64 zs, .bool zt, .int .i64 zv, .int .i64 zp, .int .i64 zy, .string zb] 28)).cell? ⟨e1, 1, none⟩ = some (.slice pa p.ins.length pca) := KP.out.cell 1
  have kp2 : (x2.alloc (.cells #[.int .i64 zd, .int .i64 zs, .bool zt, .int .i64 zv, .int .i64 zp, .int .i64 zy, .string zb] 28)).cell? ⟨e1, 2, none⟩ = some (.slice pb p.plain.length pcb) := KP.out.cell 2
  have kp3 : (x2.alloc (.cells #[.int .i64 zd, .int .i64 zs, .bool zt, .int .i64 zv, .int .i64 zp, .int .i64 zy, .string zb] 28)).cell? ⟨e1, 3, none⟩ = some (.int .i64 p.acc) := KP.out.cell 3
  have kpl : e1 < (x2.alloc (.cells #[.int .i64 zd, .int .i64 zs, .bool zt, .int .i64 zv, .int .i64 zp, .int .i64 zy, .string zb] 28)).heap.size := KP.out.lt
  have kf0 : (x2.alloc (.cells #[.int .i64 zd, .int .i64 zs, .bool zt, .int .i64 zv, .int .i64 zp, .int .i64 zy, .string zb] 28)).cell? ⟨e1 + 1, 0, none⟩ = some (.int .i64 fd) := KF.out.cell 0
  have kf1 : (x2.alloc (.cells #[.int .i64 zd, .int .i64 zs, .bool zt, .int .i64 zv, .int .i64 zp, .int .i64 zy, .string zb] 28)).cell? ⟨e1 + 1, 1, none⟩ = some (.int .i64 fs) := KF.out.cell 1
  have kf2 : (x2.alloc (.cells #[.int .i64 zd, .int .i64 zs, .bool zt, .int .i64 zv, .int .i64 zp, .int .i64 zy, .string zb] 28)).cell? ⟨e1 + 1, 2, none⟩ = some (.bool ft) := KF.out.cell 2
  have kf3 : (x2.alloc (.cells #[.int .i64 zd, .int .i64 zs, .bool zt, .int .i64 zv, .int .i64 zp, .int .i64 zy, .string zb] 28)).cell? ⟨e1 + 1, 3, none⟩ = some (.int .i64 fv) := KF.out.cell 3
  have kf4 : (x2.alloc (.cells #[.int .i64 zd, .int .i64 zs, .bool zt, .int .i64 zv, .int .i64 zp, .int .i64 zy, .string zb] 28)).cell? ⟨e1 + 1, 4, none⟩ = some (.int .i64 fp) := KF.out.cell 4
  have kf5 : (x2.alloc (.cells #[.int .i64 zd, .int .i64 zs, .bool zt, .int .i64 zv, .int .i64 zp, .int .i64 zy, .string zb] 28)).cell? ⟨e1 + 1, 5, none⟩ = some (.int .i64 fy) := KF.out.cell 5
  have kf6 : (x2.alloc (.cells #[.int .i64 zd, .int .i64 zs, .bool zt, .int .i64 zv, .int .i64 zp, .int .i64 zy, .string zb] 28)).cell? ⟨e1 + 1, 6, none⟩ = some (.string fb) := KF.out.cell 6
  have kfl : e1 + 1 < (x2.alloc (.cells #[.int .i64 zd, .int .i64 zs, .bool zt, .int .i64 zv, .int .i64 zp, .int .i64 zy, .string zb] 28)).heap.size := KF.out.lt
  have kg0 : (x2.alloc (.cells #[.int .i64 zd, .int .i64 zs, .bool zt, .int .i64 zv, .int .i64 zp, .int .i64 zy, .string zb] 28)).cell? ⟨x2.heap.size, 0, none⟩ = some (.int .i64 zd) := KG.out.cell 0
  have kg1 : (x2.alloc (.cells #[.int .i64 zd, .int .i64 zs, .bool zt, .int .i64 zv, .int .i64 zp, .int .i64 zy, .string zb] 28)).cell? ⟨x2.heap.size, 1, none⟩ = some (.int .i64 zs) := KG.out.cell 1
  have kg2 : (x2.alloc (.cells #[.int .i64 zd, .int .i64 zs, .bool zt, .int .i64 zv, .int .i64 zp, .int .i64 zy, .string zb] 28)).cell? ⟨x2.heap.size, 2, none⟩ = some (.bool zt) := KG.out.cell 2
  have kg3 : (x2.alloc (.cells #[.int .i64 zd, .int .i64 zs, .bool zt, .int .i64 zv, .int .i64 zp, .int .i64 zy, .string zb] 28)).cell? ⟨x2.heap.size, 3, none⟩ = some (.int .i64 zv) := KG.out.cell 3
  have kg4 : (x2.alloc (.cells #[.int .i64 zd, .int .i64 zs, .bool zt, .int .i64 zv, .int .i64 zp, .int .i64 zy, .string zb] 28)).cell? ⟨x2.heap.size, 4, none⟩ = some (.int .i64 zp) := KG.out.cell 4
  have kg5 : (x2.alloc (.cells #[.int .i64 zd, .int .i64 zs, .bool zt, .int .i64 zv, .int .i64 zp, .int .i64 zy, .string zb] 28)).cell? ⟨x2.heap.size, 5, none⟩ = some (.int .i64 zy) := KG.out.cell 5
  have kg6 : (x2.alloc (.cells #[.int .i64 zd, .int .i64 zs, .bool zt, .int .i64 zv, .int .i64 zp, .int .i64 zy, .string zb] 28)).cell? ⟨x2.heap.size, 6, none⟩ = some (.string zb) := KG.out.cell 6
  have kgl : x2.heap.size < (x2.alloc (.cells #[.int .i64 zd, .int .i64 zs, .bool zt, .int .i64 zv, .int .i64 zp, .int .i64 zy, .string zb] 28)).heap.size := KG.out.lt
  go_wp2_with fail
  clear kp0 kp1 kp2 kp3 kpl kf0 kf1 kf2 kf3 kf4 kf5 kf6 kfl kg0 kg1 kg2 kg3 kg4 kg5 kg6 kgl
  generalize (x2.alloc (.cells #[.int .i64 zd, .int .i64 zs, .bool zt, .int .i64 zv, .int .i64 zp, .int .i64 zy, .string zb] 28)) = x3 at HP KP KF KG HB ⊢
  generalize x2.heap.size = e3 at HP KP KF KG HB ⊢
  refine (HS.out _ HP.out).mono ?_
  rintro e x4 ⟨rfl, hbq⟩
  have HP := Lib.hid (HP.out.after hbq)
  have KP := Lib.hid (KP.out.after hbq)
  have KF := Lib.hid (KF.out.after hbq)
  have KG := Lib.hid (KG.out.after hbq)
  have HB := Lib.hid (HB.out.trans (hbq.mono HB.out.size))
  clear hbq
  have q1 : (r != r) = false := by simp
  cases r
  · have hz0 := HNO.out (by simp)
    unfold Fr.zero at hz0
    cases hz0
    have kg0 : x4.cell? ⟨e3, 0, none⟩ = some (.int .i64 0) := KG.out.cell 0
    have kg1 : x4.cell? ⟨e3, 1, none⟩ = some (.int .i64 0) := KG.out.cell 1
    have kg2 : x4.cell? ⟨e3, 2, none⟩ = some (.bool false) := KG.out.cell 2
    have kg3 : x4.cell? ⟨e3, 3, none⟩ = some (.int .i64 0) := KG.out.cell 3
    have kg4 : x4.cell? ⟨e3, 4, none⟩ = some (.int .i64 0) := KG.out.cell 4
    have kg5 : x4.cell? ⟨e3, 5, none⟩ = some (.int .i64 0) := KG.out.cell 5
    have kg6 : x4.cell? ⟨e3, 6, none⟩ = some (.string ⟨#[]⟩) := KG.out.cell 6
    have kgl : e3 < x4.heap.size := KG.out.lt
    have hbz : ∀ o, Below w.heap.size w (x4.alloc o) := fun o => HB.out.alloc HB.out.size o
    go_wp2_with fail
    go_ret
    exact ⟨rfl, hbz _⟩
  have hy := HYES.out (by simp)
  obtain ⟨⟨rfl, rfl, rfl⟩, hfo, hmem, hq⟩ := hy
  have HFO := Lib.hid hfo; have HMEM := Lib.hid hmem; have HQ := Lib.hid hq
  clear hfo hmem hq HYES HNO
  cases zt
  · have kp0 : x4.cell? ⟨e1, 0, none⟩ = some (.int .i64 p.pvid) := KP.out.cell 0
    have kp1 : x4.cell? ⟨e1, 1, none⟩ = some (.slice pa p.ins.length pca) := KP.out.cell 1
    have kp2 : x4.cell? ⟨e1, 2, none⟩ = some (.slice pb p.plain.length pcb) := KP.out.cell 2
    have kp3 : x4.cell? ⟨e1, 3, none⟩ = some (.int .i64 p.acc) := KP.out.cell 3
    have kpl : e1 < x4.heap.size := KP.out.lt
    have kg0 : x4.cell? ⟨e3, 0, none⟩ = some (.int .i64 zd) := KG.out.cell 0
    have kg1 : x4.cell? ⟨e3, 1, none⟩ = some (.int .i64 zs) := KG.out.cell 1
    have kg2 : x4.cell? ⟨e3, 2, none⟩ = some (.bool false) := KG.out.cell 2
    have kg3 : x4.cell? ⟨e3, 3, none⟩ = some (.int .i64 zv) := KG.out.cell 3
    have kg4 : x4.cell? ⟨e3, 4, none⟩ = some (.int .i64 zp) := KG.out.cell 4
    have kg5 : x4.cell? ⟨e3, 5, none⟩ = some (.int .i64 zy) := KG.out.cell 5
    have kg6 : x4.cell? ⟨e3, 6, none⟩ = some (.string zb) := KG.out.cell 6
    have kgl : e3 < x4.heap.size := KG.out.lt
    go_wp2_with fail
    clear kp0 kp1 kp2 kp3 kpl kg0 kg1 kg2 kg3 kg4 kg5 kg6 kgl
    have hbq : Below x4.heap.size x4 ((x4.alloc (.cells #[.int .i64 zd, .int .i64 zs, .bool false, .int .i64 zv, .int .i64 zp, .int .i64 zy, .string zb] 28)).alloc (.cells #[.int .i64 vid, .slice pa p.ins.length pca, .slice pb p.plain.length pcb, .int .i64 0] 26)) := ((Below.refl _ _).alloc (Nat.le_refl _) _).alloc (by simp) _
    have KQ := Lib.hid (show Blk ((x4.alloc (.cells #[.int .i64 zd, .int .i64 zs, .bool false, .int .i64 zv, .int .i64 zp, .int .i64 zy, .string zb] 28)).alloc (.cells #[.int .i64 vid, .slice pa p.ins.length pca, .slice pb p.plain.length pcb, .int .i64 0] 26)) (x4.heap.size + 1) #[.int .i64 vid, .slice pa p.ins.length pca, .slice pb p.plain.length pcb, .int .i64 0] 26 from blk_new _ _ (by simp))
    have HP := Lib.hid (HP.out.after hbq)
    have KP := Lib.hid (KP.out.after hbq)
    have KF := Lib.hid (KF.out.after hbq)
    have KG := Lib.hid (KG.out.after hbq)
    have HB := Lib.hid (HB.out.trans (hbq.mono HB.out.size))
    clear hbq
    generalize (x4.alloc (.cells #[.int .i64 zd, .int .i64 zs, .bool false, .int .i64 zv, .int .i64 zp, .int .i64 zy, .string zb] 28)).alloc (.cells #[.int .i64 vid, .slice pa p.ins.length pca, .slice pb p.plain.length pcb, .int .i64 0] 26) = y1 at KP KF KG KQ HP HB ⊢
    generalize x4.heap.size = e9 at KQ ⊢
    have hqq := HQ.out ⟨vid, p.ins, p.plain, 0⟩ (by simp)
    have hin := fun (w : World) (h : PortIn w C D (.agg #[.int .i64 vid, .slice pa p.ins.length pca, .slice pb p.plain.length pcb, .int .i64 0]) ⟨vid, p.ins, p.plain, 0⟩) => ingress_impl h ⟨zd, zs, false, zv, zp, zy, zb⟩ HBS.out
    simp only [if_pos hqq.1, decide_eq_true hqq.1, hqq.2] at hin
    have hfk := frameOk_impl ⟨zd, zs, false, zv, zp, zy, zb⟩ HBS.out
    rw [decide_eq_true HFO.out] at hfk
    unfold Fr.val at hin hfk
    simp only at hin hfk
    have hmi := fun (w : World) (h : PortIn w C D (.agg #[.int .i64 p.pvid, .slice pa p.ins.length pca, .slice pb p.plain.length pcb, .int .i64 p.acc]) p) => member_impl h vid
    rw [decide_eq_true HMEM.out] at hmi
    have HIN := Lib.hid hin; have HFK := Lib.hid hfk; have HMI := Lib.hid hmi
    clear hin hfk hmi hqq
    have hpr := port_re HP.out HV.out (show (Lit.int .i64 0).wf = true by decide)
    refine (HIN.out _ hpr).mono ?_
    rintro e x5 ⟨rfl, hbq⟩
    have HP := Lib.hid (HP.out.after hbq)
    have KP := Lib.hid (KP.out.after hbq)
    have KF := Lib.hid (KF.out.after hbq)
    have KG := Lib.hid (KG.out.after hbq)
    have KQ := Lib.hid (KQ.out.after hbq)
    have HB := Lib.hid (HB.out.trans (hbq.mono HB.out.size))
    clear hbq
    clear hpr
    have kg0 : x5.cell? ⟨e3, 0, none⟩ = some (.int .i64 zd) := KG.out.cell 0
    have kg1 : x5.cell? ⟨e3, 1, none⟩ = some (.int .i64 zs) := KG.out.cell 1
    have kg2 : x5.cell? ⟨e3, 2, none⟩ = some (.bool false) := KG.out.cell 2
    have kg3 : x5.cell? ⟨e3, 3, none⟩ = some (.int .i64 zv) := KG.out.cell 3
    have kg4 : x5.cell? ⟨e3, 4, none⟩ = some (.int .i64 zp) := KG.out.cell 4
    have kg5 : x5.cell? ⟨e3, 5, none⟩ = some (.int .i64 zy) := KG.out.cell 5
    have kg6 : x5.cell? ⟨e3, 6, none⟩ = some (.string zb) := KG.out.cell 6
    have kgl : e3 < x5.heap.size := KG.out.lt
    go_wp2_with fail
    refine (HFK.out _).mono ?_
    rintro e x6 ⟨rfl, hbq⟩
    clear kg0 kg1 kg2 kg3 kg4 kg5 kg6 kgl
    have HP := Lib.hid (HP.out.after hbq)
    have KP := Lib.hid (KP.out.after hbq)
    have KF := Lib.hid (KF.out.after hbq)
    have KG := Lib.hid (KG.out.after hbq)
    have KQ := Lib.hid (KQ.out.after hbq)
    have HB := Lib.hid (HB.out.trans (hbq.mono HB.out.size))
    clear hbq
    have kp0 : x6.cell? ⟨e1, 0, none⟩ = some (.int .i64 p.pvid) := KP.out.cell 0
    have kp1 : x6.cell? ⟨e1, 1, none⟩ = some (.slice pa p.ins.length pca) := KP.out.cell 1
    have kp2 : x6.cell? ⟨e1, 2, none⟩ = some (.slice pb p.plain.length pcb) := KP.out.cell 2
    have kp3 : x6.cell? ⟨e1, 3, none⟩ = some (.int .i64 p.acc) := KP.out.cell 3
    have kpl : e1 < x6.heap.size := KP.out.lt
    have kf0 : x6.cell? ⟨e1 + 1, 0, none⟩ = some (.int .i64 zd) := KF.out.cell 0
    have kf1 : x6.cell? ⟨e1 + 1, 1, none⟩ = some (.int .i64 zs) := KF.out.cell 1
    have kf2 : x6.cell? ⟨e1 + 1, 2, none⟩ = some (.bool ft) := KF.out.cell 2
    have kf3 : x6.cell? ⟨e1 + 1, 3, none⟩ = some (.int .i64 fv) := KF.out.cell 3
    have kf4 : x6.cell? ⟨e1 + 1, 4, none⟩ = some (.int .i64 fp) := KF.out.cell 4
    have kf5 : x6.cell? ⟨e1 + 1, 5, none⟩ = some (.int .i64 fy) := KF.out.cell 5
    have kf6 : x6.cell? ⟨e1 + 1, 6, none⟩ = some (.string zb) := KF.out.cell 6
    have kfl : e1 + 1 < x6.heap.size := KF.out.lt
    have kg0 : x6.cell? ⟨e3, 0, none⟩ = some (.int .i64 zd) := KG.out.cell 0
    have kg1 : x6.cell? ⟨e3, 1, none⟩ = some (.int .i64 zs) := KG.out.cell 1
    have kg2 : x6.cell? ⟨e3, 2, none⟩ = some (.bool false) := KG.out.cell 2
    have kg3 : x6.cell? ⟨e3, 3, none⟩ = some (.int .i64 zv) := KG.out.cell 3
    have kg4 : x6.cell? ⟨e3, 4, none⟩ = some (.int .i64 zp) := KG.out.cell 4
    have kg5 : x6.cell? ⟨e3, 5, none⟩ = some (.int .i64 zy) := KG.out.cell 5
    have kg6 : x6.cell? ⟨e3, 6, none⟩ = some (.string zb) := KG.out.cell 6
    have kgl : e3 < x6.heap.size := KG.out.lt
    go_wp2_with fail
    refine (HMI.out _ HP.out).mono ?_
    rintro e x7 ⟨rfl, hbq⟩
    clear kp0 kp1 kp2 kp3 kpl kf0 kf1 kf2 kf3 kf4 kf5 kf6 kfl kg0 kg1 kg2 kg3 kg4 kg5 kg6 kgl
    have HP := Lib.hid (HP.out.after hbq)
    have KP := Lib.hid (KP.out.after hbq)
    have KF := Lib.hid (KF.out.after hbq)
    have KG := Lib.hid (KG.out.after hbq)
    have KQ := Lib.hid (KQ.out.after hbq)
    have HB := Lib.hid (HB.out.trans (hbq.mono HB.out.size))
    clear hbq
    go_wp2_with fail
    go_ret
    exact ⟨rfl, HB.out⟩
  · have kp0 : x4.cell? ⟨e1, 0, none⟩ = some (.int .i64 p.pvid) := KP.out.cell 0
    have kp1 : x4.cell? ⟨e1, 1, none⟩ = some (.slice pa p.ins.length pca) := KP.out.cell 1
    have kp2 : x4.cell? ⟨e1, 2, none⟩ = some (.slice pb p.plain.length pcb) := KP.out.cell 2
    have kp3 : x4.cell? ⟨e1, 3, none⟩ = some (.int .i64 p.acc) := KP.out.cell 3
    have kpl : e1 < x4.heap.size := KP.out.lt
    have kg0 : x4.cell? ⟨e3, 0, none⟩ = some (.int .i64 zd) := KG.out.cell 0
    have kg1 : x4.cell? ⟨e3, 1, none⟩ = some (.int .i64 zs) := KG.out.cell 1
    have kg2 : x4.cell? ⟨e3, 2, none⟩ = some (.bool true) := KG.out.cell 2
    have kg3 : x4.cell? ⟨e3, 3, none⟩ = some (.int .i64 zv) := KG.out.cell 3
    have kg4 : x4.cell? ⟨e3, 4, none⟩ = some (.int .i64 zp) := KG.out.cell 4
    have kg5 : x4.cell? ⟨e3, 5, none⟩ = some (.int .i64 zy) := KG.out.cell 5
    have kg6 : x4.cell? ⟨e3, 6, none⟩ = some (.string zb) := KG.out.cell 6
    have kgl : e3 < x4.heap.size := KG.out.lt
    go_wp2_with fail
    clear kp0 kp1 kp2 kp3 kpl kg0 kg1 kg2 kg3 kg4 kg5 kg6 kgl
    have hbq : Below x4.heap.size x4 ((x4.alloc (.cells #[.int .i64 zd, .int .i64 zs, .bool true, .int .i64 zv, .int .i64 zp, .int .i64 zy, .string zb] 28)).alloc (.cells #[.int .i64 p.pvid, .slice pa p.ins.length pca, .slice pb p.plain.length pcb, .int .i64 0] 26)) := ((Below.refl _ _).alloc (Nat.le_refl _) _).alloc (by simp) _
    have KQ := Lib.hid (show Blk ((x4.alloc (.cells #[.int .i64 zd, .int .i64 zs, .bool true, .int .i64 zv, .int .i64 zp, .int .i64 zy, .string zb] 28)).alloc (.cells #[.int .i64 p.pvid, .slice pa p.ins.length pca, .slice pb p.plain.length pcb, .int .i64 0] 26)) (x4.heap.size + 1) #[.int .i64 p.pvid, .slice pa p.ins.length pca, .slice pb p.plain.length pcb, .int .i64 0] 26 from blk_new _ _ (by simp))
    have HP := Lib.hid (HP.out.after hbq)
    have KP := Lib.hid (KP.out.after hbq)
    have KF := Lib.hid (KF.out.after hbq)
    have KG := Lib.hid (KG.out.after hbq)
    have HB := Lib.hid (HB.out.trans (hbq.mono HB.out.size))
    clear hbq
    generalize (x4.alloc (.cells #[.int .i64 zd, .int .i64 zs, .bool true, .int .i64 zv, .int .i64 zp, .int .i64 zy, .string zb] 28)).alloc (.cells #[.int .i64 p.pvid, .slice pa p.ins.length pca, .slice pb p.plain.length pcb, .int .i64 0] 26) = y1 at KP KF KG KQ HP HB ⊢
    generalize x4.heap.size = e9 at KQ ⊢
    have hqq := HQ.out ⟨p.pvid, p.ins, p.plain, 0⟩ (by simp)
    have hin := fun (w : World) (h : PortIn w C D (.agg #[.int .i64 p.pvid, .slice pa p.ins.length pca, .slice pb p.plain.length pcb, .int .i64 0]) ⟨p.pvid, p.ins, p.plain, 0⟩) => ingress_impl h ⟨zd, zs, true, zv, zp, zy, zb⟩ HBS.out
    simp only [if_pos hqq.1, decide_eq_true hqq.1, hqq.2] at hin
    have hfk := frameOk_impl ⟨zd, zs, true, zv, zp, zy, zb⟩ HBS.out
    rw [decide_eq_true HFO.out] at hfk
    unfold Fr.val at hin hfk
    simp only at hin hfk
    have hmi := fun (w : World) (h : PortIn w C D (.agg #[.int .i64 p.pvid, .slice pa p.ins.length pca, .slice pb p.plain.length pcb, .int .i64 p.acc]) p) => member_impl h vid
    rw [decide_eq_true HMEM.out] at hmi
    have HIN := Lib.hid hin; have HFK := Lib.hid hfk; have HMI := Lib.hid hmi
    clear hin hfk hmi hqq
    have hpr := port_re HP.out (port_wf HP.out) (show (Lit.int .i64 0).wf = true by decide)
    refine (HIN.out _ hpr).mono ?_
    rintro e x5 ⟨rfl, hbq⟩
    have HP := Lib.hid (HP.out.after hbq)
    have KP := Lib.hid (KP.out.after hbq)
    have KF := Lib.hid (KF.out.after hbq)
    have KG := Lib.hid (KG.out.after hbq)
    have KQ := Lib.hid (KQ.out.after hbq)
    have HB := Lib.hid (HB.out.trans (hbq.mono HB.out.size))
    clear hbq
    clear hpr
    have kg0 : x5.cell? ⟨e3, 0, none⟩ = some (.int .i64 zd) := KG.out.cell 0
    have kg1 : x5.cell? ⟨e3, 1, none⟩ = some (.int .i64 zs) := KG.out.cell 1
    have kg2 : x5.cell? ⟨e3, 2, none⟩ = some (.bool true) := KG.out.cell 2
    have kg3 : x5.cell? ⟨e3, 3, none⟩ = some (.int .i64 zv) := KG.out.cell 3
    have kg4 : x5.cell? ⟨e3, 4, none⟩ = some (.int .i64 zp) := KG.out.cell 4
    have kg5 : x5.cell? ⟨e3, 5, none⟩ = some (.int .i64 zy) := KG.out.cell 5
    have kg6 : x5.cell? ⟨e3, 6, none⟩ = some (.string zb) := KG.out.cell 6
    have kgl : e3 < x5.heap.size := KG.out.lt
    go_wp2_with fail
    refine (HFK.out _).mono ?_
    rintro e x6 ⟨rfl, hbq⟩
    clear kg0 kg1 kg2 kg3 kg4 kg5 kg6 kgl
    have HP := Lib.hid (HP.out.after hbq)
    have KP := Lib.hid (KP.out.after hbq)
    have KF := Lib.hid (KF.out.after hbq)
    have KG := Lib.hid (KG.out.after hbq)
    have KQ := Lib.hid (KQ.out.after hbq)
    have HB := Lib.hid (HB.out.trans (hbq.mono HB.out.size))
    clear hbq
    have kp0 : x6.cell? ⟨e1, 0, none⟩ = some (.int .i64 p.pvid) := KP.out.cell 0
    have kp1 : x6.cell? ⟨e1, 1, none⟩ = some (.slice pa p.ins.length pca) := KP.out.cell 1
    have kp2 : x6.cell? ⟨e1, 2, none⟩ = some (.slice pb p.plain.length pcb) := KP.out.cell 2
    have kp3 : x6.cell? ⟨e1, 3, none⟩ = some (.int .i64 p.acc) := KP.out.cell 3
    have kpl : e1 < x6.heap.size := KP.out.lt
    have kf0 : x6.cell? ⟨e1 + 1, 0, none⟩ = some (.int .i64 zd) := KF.out.cell 0
    have kf1 : x6.cell? ⟨e1 + 1, 1, none⟩ = some (.int .i64 zs) := KF.out.cell 1
    have kf2 : x6.cell? ⟨e1 + 1, 2, none⟩ = some (.bool ft) := KF.out.cell 2
    have kf3 : x6.cell? ⟨e1 + 1, 3, none⟩ = some (.int .i64 fv) := KF.out.cell 3
    have kf4 : x6.cell? ⟨e1 + 1, 4, none⟩ = some (.int .i64 fp) := KF.out.cell 4
    have kf5 : x6.cell? ⟨e1 + 1, 5, none⟩ = some (.int .i64 fy) := KF.out.cell 5
    have kf6 : x6.cell? ⟨e1 + 1, 6, none⟩ = some (.string zb) := KF.out.cell 6
    have kfl : e1 + 1 < x6.heap.size := KF.out.lt
    have kg0 : x6.cell? ⟨e3, 0, none⟩ = some (.int .i64 zd) := KG.out.cell 0
    have kg1 : x6.cell? ⟨e3, 1, none⟩ = some (.int .i64 zs) := KG.out.cell 1
    have kg2 : x6.cell? ⟨e3, 2, none⟩ = some (.bool true) := KG.out.cell 2
    have kg3 : x6.cell? ⟨e3, 3, none⟩ = some (.int .i64 zv) := KG.out.cell 3
    have kg4 : x6.cell? ⟨e3, 4, none⟩ = some (.int .i64 zp) := KG.out.cell 4
    have kg5 : x6.cell? ⟨e3, 5, none⟩ = some (.int .i64 zy) := KG.out.cell 5
    have kg6 : x6.cell? ⟨e3, 6, none⟩ = some (.string zb) := KG.out.cell 6
    have kgl : e3 < x6.heap.size := KG.out.lt
    go_wp2_with fail
    refine (HMI.out _ HP.out).mono ?_
    rintro e x7 ⟨rfl, hbq⟩
    clear kp0 kp1 kp2 kp3 kpl kf0 kf1 kf2 kf3 kf4 kf5 kf6 kfl kg0 kg1 kg2 kg3 kg4 kg5 kg6 kgl
    have HP := Lib.hid (HP.out.after hbq)
    have KP := Lib.hid (KP.out.after hbq)
    have KF := Lib.hid (KF.out.after hbq)
    have KG := Lib.hid (KG.out.after hbq)
    have KQ := Lib.hid (KQ.out.after hbq)
    have HB := Lib.hid (HB.out.trans (hbq.mono HB.out.size))
    clear hbq
    go_wp2_with fail
    go_ret
    exact ⟨rfl, HB.out⟩
end Go.Proofs.Ytfkpecildcejkaa
