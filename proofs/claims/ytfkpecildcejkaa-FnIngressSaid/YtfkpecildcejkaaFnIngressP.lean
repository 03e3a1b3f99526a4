/- The walk of FnIngress. -/
import Derived.Test.YtfkpecildcejkaaIj
import Derived.Test.YtfkpecildcejkaaIo
import Derived.Test.YtfkpecildcejkaaDrX
import Derived.Test.YtfkpecildcejkaaBig
import Derived.Deep.RegionHeld3
import Derived.Deep.RegionWith
import Derived.Deep.DeepCutAuto
namespace Go.Proofs.Ytfkpecildcejkaa
open Go.RowKit

set_option linter.unusedVariables false in
set_option linter.unusedSimpArgs false in
set_option maxRecDepth 20000 in
set_option maxHeartbeats 4000000 in
theorem walk_FnIngress (a : Option Addr) (len cap : Nat) (zs : List Int) (w : World) (hrow : IsRow .u8 w a len cap zs) :
    Calls Try.prog 4 #[.slice a len cap] w fun e w' => e = .returned (.bool true) ∧ Below w.heap.size w w' := by
  have hlow := hrow.low
  have hmax : len ≤ 9223372036854775807 := by
    rcases hrow with ⟨_, rfl, _⟩ | ⟨_, _, h1, h2, _⟩
    · omega
    · unfold maxLen at h2; omega
  by_cases hl : len ≤ 1048576
  case neg =>
    go_enter Try.func4, Try.ntmps4
    go_wp2_with fail
    refine (big_yes a len cap w (by omega)).mono ?_
    rintro e w' ⟨rfl, rfl⟩
    go_wp2_with fail
    go_ret
    exact ⟨rfl, Below.refl _ _⟩
  go_enter Try.func4, Try.ntmps4
  go_wp2_with fail
  refine (big_no a len cap w hl).mono ?_
  rintro e w9 ⟨rfl, rfl⟩
  go_wp2_with fail
  refine (drawIngress_any w a len cap zs hl hrow hlow).mono ?_
  rintro e x0 ⟨p, v, f, rfl, ⟨C, D, pa, pca, pb, pcb, rfl, hP, hb1⟩, hfs⟩
  obtain ⟨fd, fs, ft, fv, fp, fy, fb⟩ := f
  simp only at hfs
  unfold Fr.val
  clear hrow hlow
  have HB := Lib.hid hb1; have HP := Lib.hid hP
  have hbs : fb.size ≤ 1048576 := by omega
  have hi := fun (w : World) (h : PortIn w C D (.agg #[.int .i64 p.pvid, .slice pa p.ins.length pca, .slice pb p.plain.length pcb, .int .i64 p.acc]) p) => ingress_impl h ⟨fd, fs, ft, fv, fp, fy, fb⟩ hbs
  have hs := fun (w : World) (h : PortIn w C D (.agg #[.int .i64 p.pvid, .slice pa p.ins.length pca, .slice pb p.plain.length pcb, .int .i64 p.acc]) p) => ingress_spec h ⟨fd, fs, ft, fv, fp, fy, fb⟩ hbs
  obtain ⟨r, hr⟩ : ∃ r, decide (mayIn p ⟨fd, fs, ft, fv, fp, fy, fb⟩) = r := ⟨_, rfl⟩
  obtain ⟨z, hz⟩ : ∃ z, (if mayIn p ⟨fd, fs, ft, fv, fp, fy, fb⟩ then netOf p ⟨fd, fs, ft, fv, fp, fy, fb⟩ else 0) = z := ⟨_, rfl⟩
  simp only [hr, hz] at hi hs
  unfold Fr.val at hi hs
  simp only at hi hs
  have hyes : r = true → z ∈ p.ins ∧ (ft = true → fv = z) ∧ (ft = false → p.pvid = z) := by
    intro k
    have k' : mayIn p ⟨fd, fs, ft, fv, fp, fy, fb⟩ := of_decide_eq_true (hr.trans k)
    rw [if_pos k'] at hz
    subst hz
    refine ⟨k'.2.2.2.2, fun e => ?_, fun e => ?_⟩
    · subst e; rfl
    · subst e; rfl
  have HI := Lib.hid hi; have HS := Lib.hid hs; have HYES := Lib.hid hyes
  clear hb1 hP hfs hi hs hr hz hyes hbs
  go_wp2_with fail
  have hbq : Below x0.heap.size x0 ((x0.alloc (.cells #[.int .i64 p.pvid, .slice pa p.ins.length pca, .slice pb p.plain.length pcb, .int .i64 p.acc] 26)).alloc (.cells #[.int .i64 fd, .int .i64 fs, .bool ft, .int .i64 fv, .int .i64 fp, .int .i64 fy, .string fb] 28)) := ((Below.refl _ _).alloc (Nat.le_refl _) _).alloc (by simp) _
  have KP := Lib.hid (show Blk ((x0.alloc (.cells #[.int .i64 p.pvid, .slice pa p.ins.length pca, .slice pb p.plain.length pcb, .int .i64 p.acc] 26)).alloc (.cells #[.int .i64 fd, .int .i64 fs, .bool ft, .int .i64 fv, .int .i64 fp, .int .i64 fy, .string fb] 28)) x0.heap.size #[.int .i64 p.pvid, .slice pa p.ins.length pca, .slice pb p.plain.length pcb, .int .i64 p.acc] 26 from (blk_new _ _ rfl).alloc _)
  have KF := Lib.hid (show Blk ((x0.alloc (.cells #[.int .i64 p.pvid, .slice pa p.ins.length pca, .slice pb p.plain.length pcb, .int .i64 p.acc] 26)).alloc (.cells #[.int .i64 fd, .int .i64 fs, .bool ft, .int .i64 fv, .int .i64 fp, .int .i64 fy, .string fb] 28)) (x0.heap.size + 1) #[.int .i64 fd, .int .i64 fs, .bool ft, .int .i64 fv, .int .i64 fp, .int .i64 fy, .string fb] 28 from blk_new _ _ (by simp))
  have HP := Lib.hid (HP.out.after hbq)
  have HB := Lib.hid (HB.out.trans (hbq.mono HB.out.size))
  clear hbq
  generalize (x0.alloc (.cells #[.int .i64 p.pvid, .slice pa p.ins.length pca, .slice pb p.plain.length pcb, .int .i64 p.acc] 26)).alloc (.cells #[.int .i64 fd, .int .i64 fs, .bool ft, .int .i64 fv, .int .i64 fp, .int .i64 fy, .string fb] 28) = x1 at KP KF HP HB ⊢
  generalize x0.heap.size = e1 at KP KF ⊢
  refine (HI.out _ HP.out).mono ?_
  rintro e x2 ⟨rfl, hbq⟩
  have HP := Lib.hid (HP.out.after hbq)
  have KP := Lib.hid (KP.out.after hbq)
  have KF := Lib.hid (KF.out.after hbq)
  have HB := Lib.hid (HB.out.trans (hbq.mono HB.out.size))
  clear hbq
  have kp0 : x2.cell? ⟨e1, 0, none⟩ = some (.int .i64 p.pvid) := KP.out.cell 0
  have kp1 : x2.cell? ⟨e1, 1, none⟩ = some (.slice pa p.ins.length pca) := KP.out.cell 1
  have kp2 : x2.cell? ⟨e1, 2, none⟩ = some (.slice pb p.plain.length pcb) := KP.out.cell 2
  have kp3 : x2.cell? ⟨e1, 3, none⟩ = some (.int .i64 p.acc) := KP.out.cell 3
  have kpl : e1 < x2.heap.size := KP.out.lt
  have kf0 : x2.cell? ⟨e1 + 1, 0, none⟩ = some (.int .i64 fd) := KF.out.cell 0
  have kf1 : x2.cell? ⟨e1 + 1, 1, none⟩ = some (.int .i64 fs) := KF.out.cell 1
  have kf2 : x2.cell? ⟨e1 + 1, 2, none⟩ = some (.bool ft) := KF.out.cell 2
  have kf3 : x2.cell? ⟨e1 + 1, 3, none⟩ = some (.int .i64 fv) := KF.out.cell 3
  have kf4 : x2.cell? ⟨e1 + 1, 4, none⟩ = some (.int .i64 fp) := KF.out.cell 4
  have kf5 : x2.cell? ⟨e1 + 1, 5, none⟩ = some (.int .i64 fy) := KF.out.cell 5
  have kf6 : x2.cell? ⟨e1 + 1, 6, none⟩ = some (.string fb) := KF.out.cell 6
  have kfl : e1 + 1 < x2.heap.size := KF.out.lt
  go_wp2_with fail
  refine (HS.out _ HP.out).mono ?_
  rintro e x3 ⟨rfl, hbq⟩
  clear kp0 kp1 kp2 kp3 kpl kf0 kf1 kf2 kf3 kf4 kf5 kf6 kfl
  have HP := Lib.hid (HP.out.after hbq)
  have KP := Lib.hid (KP.out.after hbq)
  have KF := Lib.hid (KF.out.after hbq)
  have HB := Lib.hid (HB.out.trans (hbq.mono HB.out.size))
  clear hbq
  have q1 : (r != r) = false := by simp
  have q2 : (z != z) = false := by simp
  cases r
  · have kp0 : x3.cell? ⟨e1, 0, none⟩ = some (.int .i64 p.pvid) := KP.out.cell 0
    have kp1 : x3.cell? ⟨e1, 1, none⟩ = some (.slice pa p.ins.length pca) := KP.out.cell 1
    have kp2 : x3.cell? ⟨e1, 2, none⟩ = some (.slice pb p.plain.length pcb) := KP.out.cell 2
    have kp3 : x3.cell? ⟨e1, 3, none⟩ = some (.int .i64 p.acc) := KP.out.cell 3
    have kpl : e1 < x3.heap.size := KP.out.lt
    have kf0 : x3.cell? ⟨e1 + 1, 0, none⟩ = some (.int .i64 fd) := KF.out.cell 0
    have kf1 : x3.cell? ⟨e1 + 1, 1, none⟩ = some (.int .i64 fs) := KF.out.cell 1
    have kf2 : x3.cell? ⟨e1 + 1, 2, none⟩ = some (.bool ft) := KF.out.cell 2
    have kf3 : x3.cell? ⟨e1 + 1, 3, none⟩ = some (.int .i64 fv) := KF.out.cell 3
    have kf4 : x3.cell? ⟨e1 + 1, 4, none⟩ = some (.int .i64 fp) := KF.out.cell 4
    have kf5 : x3.cell? ⟨e1 + 1, 5, none⟩ = some (.int .i64 fy) := KF.out.cell 5
    have kf6 : x3.cell? ⟨e1 + 1, 6, none⟩ = some (.string fb) := KF.out.cell 6
    have kfl : e1 + 1 < x3.heap.size := KF.out.lt
    go_wp2_with fail
    go_ret
    exact ⟨rfl, HB.out⟩
  have hy := HYES.out (by simp)
  have hm := fun w (h : PortIn w C D (.agg #[.int .i64 p.pvid, .slice pa p.ins.length pca, .slice pb p.plain.length pcb, .int .i64 p.acc]) p) => member_impl h z
  rw [decide_eq_true hy.1] at hm
  have HM := Lib.hid hm
  clear hm
  have kp0 : x3.cell? ⟨e1, 0, none⟩ = some (.int .i64 p.pvid) := KP.out.cell 0
  have kp1 : x3.cell? ⟨e1, 1, none⟩ = some (.slice pa p.ins.length pca) := KP.out.cell 1
  have kp2 : x3.cell? ⟨e1, 2, none⟩ = some (.slice pb p.plain.length pcb) := KP.out.cell 2
  have kp3 : x3.cell? ⟨e1, 3, none⟩ = some (.int .i64 p.acc) := KP.out.cell 3
  have kpl : e1 < x3.heap.size := KP.out.lt
  have kf0 : x3.cell? ⟨e1 + 1, 0, none⟩ = some (.int .i64 fd) := KF.out.cell 0
  have kf1 : x3.cell? ⟨e1 + 1, 1, none⟩ = some (.int .i64 fs) := KF.out.cell 1
  have kf2 : x3.cell? ⟨e1 + 1, 2, none⟩ = some (.bool ft) := KF.out.cell 2
  have kf3 : x3.cell? ⟨e1 + 1, 3, none⟩ = some (.int .i64 fv) := KF.out.cell 3
  have kf4 : x3.cell? ⟨e1 + 1, 4, none⟩ = some (.int .i64 fp) := KF.out.cell 4
  have kf5 : x3.cell? ⟨e1 + 1, 5, none⟩ = some (.int .i64 fy) := KF.out.cell 5
  have kf6 : x3.cell? ⟨e1 + 1, 6, none⟩ = some (.string fb) := KF.out.cell 6
  have kfl : e1 + 1 < x3.heap.size := KF.out.lt
  go_wp2_with fail
  refine (HM.out _ HP.out).mono ?_
  rintro e x4 ⟨rfl, hbq⟩
  clear kp0 kp1 kp2 kp3 kpl kf0 kf1 kf2 kf3 kf4 kf5 kf6 kfl
  have HP := Lib.hid (HP.out.after hbq)
  have KP := Lib.hid (KP.out.after hbq)
  have KF := Lib.hid (KF.out.after hbq)
  have HB := Lib.hid (HB.out.trans (hbq.mono HB.out.size))
  clear hbq
  cases ft
  · have q3 : (p.pvid == z) = true := by rw [hy.2.2 rfl]; simp
    clear hy
    have kp0 : x4.cell? ⟨e1, 0, none⟩ = some (.int .i64 p.pvid) := KP.out.cell 0
    have kp1 : x4.cell? ⟨e1, 1, none⟩ = some (.slice pa p.ins.length pca) := KP.out.cell 1
    have kp2 : x4.cell? ⟨e1, 2, none⟩ = some (.slice pb p.plain.length pcb) := KP.out.cell 2
    have kp3 : x4.cell? ⟨e1, 3, none⟩ = some (.int .i64 p.acc) := KP.out.cell 3
    have kpl : e1 < x4.heap.size := KP.out.lt
    have kf0 : x4.cell? ⟨e1 + 1, 0, none⟩ = some (.int .i64 fd) := KF.out.cell 0
    have kf1 : x4.cell? ⟨e1 + 1, 1, none⟩ = some (.int .i64 fs) := KF.out.cell 1
    have kf2 : x4.cell? ⟨e1 + 1, 2, none⟩ = some (.bool false) := KF.out.cell 2
    have kf3 : x4.cell? ⟨e1 + 1, 3, none⟩ = some (.int .i64 fv) := KF.out.cell 3
    have kf4 : x4.cell? ⟨e1 + 1, 4, none⟩ = some (.int .i64 fp) := KF.out.cell 4
    have kf5 : x4.cell? ⟨e1 + 1, 5, none⟩ = some (.int .i64 fy) := KF.out.cell 5
    have kf6 : x4.cell? ⟨e1 + 1, 6, none⟩ = some (.string fb) := KF.out.cell 6
    have kfl : e1 + 1 < x4.heap.size := KF.out.lt
    go_wp2_with fail
    go_ret
    exact ⟨rfl, HB.out⟩
  · have q3 : (fv == z) = true := by rw [hy.2.1 rfl]; simp
    clear hy
    have kp0 : x4.cell? ⟨e1, 0, none⟩ = some (.int .i64 p.pvid) := KP.out.cell 0
    have kp1 : x4.cell? ⟨e1, 1, none⟩ = some (.slice pa p.ins.length pca) := KP.out.cell 1
    have kp2 : x4.cell? ⟨e1, 2, none⟩ = some (.slice pb p.plain.length pcb) := KP.out.cell 2
    have kp3 : x4.cell? ⟨e1, 3, none⟩ = some (.int .i64 p.acc) := KP.out.cell 3
    have kpl : e1 < x4.heap.size := KP.out.lt
    have kf0 : x4.cell? ⟨e1 + 1, 0, none⟩ = some (.int .i64 fd) := KF.out.cell 0
    have kf1 : x4.cell? ⟨e1 + 1, 1, none⟩ = some (.int .i64 fs) := KF.out.cell 1
    have kf2 : x4.cell? ⟨e1 + 1, 2, none⟩ = some (.bool true) := KF.out.cell 2
    have kf3 : x4.cell? ⟨e1 + 1, 3, none⟩ = some (.int .i64 fv) := KF.out.cell 3
    have kf4 : x4.cell? ⟨e1 + 1, 4, none⟩ = some (.int .i64 fp) := KF.out.cell 4
    have kf5 : x4.cell? ⟨e1 + 1, 5, none⟩ = some (.int .i64 fy) := KF.out.cell 5
    have kf6 : x4.cell? ⟨e1 + 1, 6, none⟩ = some (.string fb) := KF.out.cell 6
    have kfl : e1 + 1 < x4.heap.size := KF.out.lt
    go_wp2_with fail
    go_ret
    exact ⟨rfl, HB.out⟩
end Go.Proofs.Ytfkpecildcejkaa
