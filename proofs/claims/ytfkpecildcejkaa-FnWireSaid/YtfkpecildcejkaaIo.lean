/- Member, Ingress and Egress of the model. -/
import Derived.Test.YtfkpecildcejkaaCp
import Derived.Test.YtfkpecildcejkaaFr
namespace Go.Proofs.Ytfkpecildcejkaa
open Go.RowKit

theorem member_spec {w : World} {B C : List Nat} {v : Value} {p : Pt} (h : PortIn w B C v p) (x : Int) : Calls Try.prog 30 #[v, .int .i64 x] w fun e w' => e = .returned (.bool (decide (x ∈ p.ins))) ∧ Below w.heap.size w w' := by
  obtain ⟨a, ca, b, cb, rfl, hi, hp, _, _, hli, hlp, _⟩ := h
  obtain ⟨pv, ins, plain, ac⟩ := p
  simp only at hi hli ⊢
  have hH := fun w' (hb : Below w.heap.size w w') => has_spec ins a ins.length ca x w' rfl (hi.after hb) hli
  generalize decide (x ∈ ins) = r at hH ⊢
  unfold ptVal
  have HH := Lib.hid hH
  clear hH hi hp
  go_enter Try.func30, Try.ntmps30
  go_wp2_with fail
  have hb1 : Below w.heap.size w (w.alloc (.cells #[.int .i64 pv, .slice a ins.length ca, .slice b plain.length cb, .int .i64 ac] 26)) := (Below.refl _ _).alloc (Nat.le_refl _) _
  refine (HH.out _ hb1).mono ?_
  rintro e w1 ⟨rfl, hb2⟩
  have hbf := hb1.trans (hb2.mono hb1.size)
  clear hb1 hb2
  go_wp2_with fail
  go_ret
  exact ⟨rfl, hbf⟩

set_option linter.unusedSimpArgs false in
set_option maxHeartbeats 1000000 in
theorem ingress_spec {w : World} {B C : List Nat} {v : Value} {p : Pt} (h : PortIn w B C v p) (f : Fr) (hbs : f.body.size ≤ 1048576) :
    Calls Try.prog 20 #[v, f.val] w fun e w' => e = .returned (.tuple #[.int .i64 (if mayIn p f then netOf p f else 0), .bool (decide (mayIn p f))]) ∧ Below w.heap.size w w' := by
  have hP := fun w' (hb : Below w.heap.size w w') => portOk_spec (h.after hb)
  have hM := fun x w' (hb : Below w.heap.size w w') => member_spec (h.after hb) x
  have hF := frameOk_spec f hbs
  obtain ⟨a, ca, b, cb, rfl, _⟩ := h
  obtain ⟨pv, ins, plain, ac⟩ := p
  obtain ⟨dst, src, tagged, vid, pri, type, body⟩ := f
  unfold ptVal Fr.val at *
  simp only at hP hM hF ⊢
  obtain ⟨r, hr⟩ : ∃ r, decide (mayIn ⟨pv, ins, plain, ac⟩ ⟨dst, src, tagged, vid, pri, type, body⟩) = r := ⟨_, rfl⟩
  obtain ⟨z, hz⟩ : ∃ z, (if mayIn ⟨pv, ins, plain, ac⟩ ⟨dst, src, tagged, vid, pri, type, body⟩ then netOf ⟨pv, ins, plain, ac⟩ ⟨dst, src, tagged, vid, pri, type, body⟩ else 0) = z := ⟨_, rfl⟩
  rw [hr, hz]
  have HR := Lib.hid hr; have HZ := Lib.hid hz
  clear hr hz hbs
  cases tagged
  · have hb : Below w.heap.size w ((w.alloc (.cells #[.int .i64 pv, .slice a ins.length ca, .slice b plain.length cb, .int .i64 ac] 26)).alloc (.cells #[.int .i64 dst, .int .i64 src, .bool false, .int .i64 vid, .int .i64 pri, .int .i64 type, .string body] 28)) := ((Below.refl _ _).alloc (Nat.le_refl _) _).alloc (by simp) _
    have gP : Blk ((w.alloc (.cells #[.int .i64 pv, .slice a ins.length ca, .slice b plain.length cb, .int .i64 ac] 26)).alloc (.cells #[.int .i64 dst, .int .i64 src, .bool false, .int .i64 vid, .int .i64 pri, .int .i64 type, .string body] 28)) w.heap.size #[.int .i64 pv, .slice a ins.length ca, .slice b plain.length cb, .int .i64 ac] 26 := (blk_new _ _ rfl).alloc _
    have gF : Blk ((w.alloc (.cells #[.int .i64 pv, .slice a ins.length ca, .slice b plain.length cb, .int .i64 ac] 26)).alloc (.cells #[.int .i64 dst, .int .i64 src, .bool false, .int .i64 vid, .int .i64 pri, .int .i64 type, .string body] 28)) (w.heap.size + 1) #[.int .i64 dst, .int .i64 src, .bool false, .int .i64 vid, .int .i64 pri, .int .i64 type, .string body] 28 := blk_new _ _ (by simp)
    have hPw := hP _ hb
    have hMw : ∀ w', Below ((w.alloc (.cells #[.int .i64 pv, .slice a ins.length ca, .slice b plain.length cb, .int .i64 ac] 26)).alloc (.cells #[.int .i64 dst, .int .i64 src, .bool false, .int .i64 vid, .int .i64 pri, .int .i64 type, .string body] 28)).heap.size ((w.alloc (.cells #[.int .i64 pv, .slice a ins.length ca, .slice b plain.length cb, .int .i64 ac] 26)).alloc (.cells #[.int .i64 dst, .int .i64 src, .bool false, .int .i64 vid, .int .i64 pri, .int .i64 type, .string body] 28)) w' → _ := fun w' hb' => hM pv w' (hb.trans (hb'.mono hb.size))
    obtain ⟨r1, hr1⟩ : ∃ r, decide (portOk ⟨pv, ins, plain, ac⟩) = r := ⟨_, rfl⟩
    obtain ⟨r2, hr2⟩ : ∃ r, decide (frOk ⟨dst, src, false, vid, pri, type, body⟩) = r := ⟨_, rfl⟩
    obtain ⟨r3, hr3⟩ : ∃ r, decide (pv ∈ ins) = r := ⟨_, rfl⟩
    rw [hr1] at hPw
    rw [hr2] at hF
    simp only [hr3] at hMw
    have HB := Lib.hid hb; have GP := Lib.hid gP; have GF := Lib.hid gF; have HP := Lib.hid hPw; have HF := Lib.hid hF; have HM := Lib.hid hMw; have HR1 := Lib.hid hr1; have HR2 := Lib.hid hr2; have HR3 := Lib.hid hr3
    clear hb gP gF hPw hF hMw hr1 hr2 hr3 hP hM
    go_enter Try.func20, Try.ntmps20
    go_wp2_with fail
    refine HP.out.mono ?_
    rintro e w2 ⟨rfl, hb2⟩
    have HB2 := Lib.hid hb2
    clear hb2
    cases r1
    · have HBF := Lib.hid (HB.out.trans (HB2.out.mono HB.out.size))
      obtain rfl : r = false := by rw [← HR.out]; exact decide_eq_false (fun h => of_decide_eq_false HR1.out h.1)
      obtain rfl : z = 0 := by rw [← HZ.out, if_neg (of_decide_eq_false HR.out)]
      go_wp2_with fail
      exact bodyPost_ret (v := .tuple #[.int .i64 0, .bool false]) (by simp [results, Try.results20, go_sem]) rfl ⟨rfl, HBF.out⟩
    have f0 := (GF.out.after HB2.out).cell 0
    have f1 := (GF.out.after HB2.out).cell 1
    have f2 := (GF.out.after HB2.out).cell 2
    have f3 := (GF.out.after HB2.out).cell 3
    have f4 := (GF.out.after HB2.out).cell 4
    have f5 := (GF.out.after HB2.out).cell 5
    have f6 := (GF.out.after HB2.out).cell 6
    go_wp2_with fail
    refine (HF.out _).mono ?_
    rintro e w3 ⟨rfl, hb3⟩
    have HB3 := Lib.hid (HB2.out.trans (hb3.mono HB2.out.size))
    clear hb3 f0 f1 f2 f3 f4 f5 f6
    cases r2
    · have HBF := Lib.hid (HB.out.trans (HB3.out.mono HB.out.size))
      obtain rfl : r = false := by rw [← HR.out]; exact decide_eq_false (fun h => of_decide_eq_false HR2.out h.2.1)
      obtain rfl : z = 0 := by rw [← HZ.out, if_neg (of_decide_eq_false HR.out)]
      go_wp2_with fail
      exact bodyPost_ret (v := .tuple #[.int .i64 0, .bool false]) (by simp [results, Try.results20, go_sem]) rfl ⟨rfl, HBF.out⟩
    have p0 := (GP.out.after HB3.out).cell 0
    have p1 := (GP.out.after HB3.out).cell 1
    have p2 := (GP.out.after HB3.out).cell 2
    have p3 := (GP.out.after HB3.out).cell 3
    have f2 := (GF.out.after HB3.out).cell 2
    by_cases ha : ac = 1
    · obtain rfl : r = false := by rw [← HR.out]; exact decide_eq_false (fun h => h.2.2.2.1 ⟨rfl, ha⟩)
      obtain rfl : z = 0 := by rw [← HZ.out, if_neg (of_decide_eq_false HR.out)]
      have HBF := Lib.hid (HB.out.trans (HB3.out.mono HB.out.size))
      subst ha
      go_wp2_with fail
      exact bodyPost_ret (v := .tuple #[.int .i64 0, .bool false]) (by simp [results, Try.results20, go_sem]) rfl ⟨rfl, HBF.out⟩
    have hae : (ac == 1) = false := by simp [ha]
    have HA := Lib.hid ha
    clear ha
    go_wp2_with fail
    refine (HM.out _ HB3.out).mono ?_
    rintro e w4 ⟨rfl, hb4⟩
    have HB4 := Lib.hid (HB3.out.trans (hb4.mono HB3.out.size))
    clear hb4 p0 p1 p2 p3 f2
    cases r3
    · have HBF := Lib.hid (HB.out.trans (HB4.out.mono HB.out.size))
      obtain rfl : r = false := by rw [← HR.out]; exact decide_eq_false (fun h => of_decide_eq_false HR3.out h.2.2.2.2)
      obtain rfl : z = 0 := by rw [← HZ.out, if_neg (of_decide_eq_false HR.out)]
      go_wp2_with fail
      exact bodyPost_ret (v := .tuple #[.int .i64 0, .bool false]) (by simp [results, Try.results20, go_sem]) rfl ⟨rfl, HBF.out⟩
    have hy : mayIn ⟨pv, ins, plain, ac⟩ ⟨dst, src, false, vid, pri, type, body⟩ := ⟨of_decide_eq_true HR1.out, of_decide_eq_true HR2.out, (fun h => by cases h.1), (fun h => HA.out h.2), of_decide_eq_true HR3.out⟩
    obtain rfl : r = true := by rw [← HR.out]; exact decide_eq_true hy
    obtain rfl : z = pv := by rw [← HZ.out, if_pos hy]; rfl
    clear hy
    have HBF := Lib.hid (HB.out.trans (HB4.out.mono HB.out.size))
    go_wp2_with fail
    exact bodyPost_ret (v := .tuple #[.int .i64 z, .bool true]) (by simp [results, Try.results20, go_sem]) rfl ⟨rfl, HBF.out⟩
  · have hb : Below w.heap.size w ((w.alloc (.cells #[.int .i64 pv, .slice a ins.length ca, .slice b plain.length cb, .int .i64 ac] 26)).alloc (.cells #[.int .i64 dst, .int .i64 src, .bool true, .int .i64 vid, .int .i64 pri, .int .i64 type, .string body] 28)) := ((Below.refl _ _).alloc (Nat.le_refl _) _).alloc (by simp) _
    have gP : Blk ((w.alloc (.cells #[.int .i64 pv, .slice a ins.length ca, .slice b plain.length cb, .int .i64 ac] 26)).alloc (.cells #[.int .i64 dst, .int .i64 src, .bool true, .int .i64 vid, .int .i64 pri, .int .i64 type, .string body] 28)) w.heap.size #[.int .i64 pv, .slice a ins.length ca, .slice b plain.length cb, .int .i64 ac] 26 := (blk_new _ _ rfl).alloc _
    have gF : Blk ((w.alloc (.cells #[.int .i64 pv, .slice a ins.length ca, .slice b plain.length cb, .int .i64 ac] 26)).alloc (.cells #[.int .i64 dst, .int .i64 src, .bool true, .int .i64 vid, .int .i64 pri, .int .i64 type, .string body] 28)) (w.heap.size + 1) #[.int .i64 dst, .int .i64 src, .bool true, .int .i64 vid, .int .i64 pri, .int .i64 type, .string body] 28 := blk_new _ _ (by simp)
    have hPw := hP _ hb
    have hMw : ∀ w', Below ((w.alloc (.cells #[.int .i64 pv, .slice a ins.length ca, .slice b plain.length cb, .int .i64 ac] 26)).alloc (.cells #[.int .i64 dst, .int .i64 src, .bool true, .int .i64 vid, .int .i64 pri, .int .i64 type, .string body] 28)).heap.size ((w.alloc (.cells #[.int .i64 pv, .slice a ins.length ca, .slice b plain.length cb, .int .i64 ac] 26)).alloc (.cells #[.int .i64 dst, .int .i64 src, .bool true, .int .i64 vid, .int .i64 pri, .int .i64 type, .string body] 28)) w' → _ := fun w' hb' => hM vid w' (hb.trans (hb'.mono hb.size))
    obtain ⟨r1, hr1⟩ : ∃ r, decide (portOk ⟨pv, ins, plain, ac⟩) = r := ⟨_, rfl⟩
    obtain ⟨r2, hr2⟩ : ∃ r, decide (frOk ⟨dst, src, true, vid, pri, type, body⟩) = r := ⟨_, rfl⟩
    obtain ⟨r3, hr3⟩ : ∃ r, decide (vid ∈ ins) = r := ⟨_, rfl⟩
    rw [hr1] at hPw
    rw [hr2] at hF
    simp only [hr3] at hMw
    have HB := Lib.hid hb; have GP := Lib.hid gP; have GF := Lib.hid gF; have HP := Lib.hid hPw; have HF := Lib.hid hF; have HM := Lib.hid hMw; have HR1 := Lib.hid hr1; have HR2 := Lib.hid hr2; have HR3 := Lib.hid hr3
    clear hb gP gF hPw hF hMw hr1 hr2 hr3 hP hM
    go_enter Try.func20, Try.ntmps20
    go_wp2_with fail
    refine HP.out.mono ?_
    rintro e w2 ⟨rfl, hb2⟩
    have HB2 := Lib.hid hb2
    clear hb2
    cases r1
    · have HBF := Lib.hid (HB.out.trans (HB2.out.mono HB.out.size))
      obtain rfl : r = false := by rw [← HR.out]; exact decide_eq_false (fun h => of_decide_eq_false HR1.out h.1)
      obtain rfl : z = 0 := by rw [← HZ.out, if_neg (of_decide_eq_false HR.out)]
      go_wp2_with fail
      exact bodyPost_ret (v := .tuple #[.int .i64 0, .bool false]) (by simp [results, Try.results20, go_sem]) rfl ⟨rfl, HBF.out⟩
    have f0 := (GF.out.after HB2.out).cell 0
    have f1 := (GF.out.after HB2.out).cell 1
    have f2 := (GF.out.after HB2.out).cell 2
    have f3 := (GF.out.after HB2.out).cell 3
    have f4 := (GF.out.after HB2.out).cell 4
    have f5 := (GF.out.after HB2.out).cell 5
    have f6 := (GF.out.after HB2.out).cell 6
    go_wp2_with fail
    refine (HF.out _).mono ?_
    rintro e w3 ⟨rfl, hb3⟩
    have HB3 := Lib.hid (HB2.out.trans (hb3.mono HB2.out.size))
    clear hb3 f0 f1 f2 f3 f4 f5 f6
    cases r2
    · have HBF := Lib.hid (HB.out.trans (HB3.out.mono HB.out.size))
      obtain rfl : r = false := by rw [← HR.out]; exact decide_eq_false (fun h => of_decide_eq_false HR2.out h.2.1)
      obtain rfl : z = 0 := by rw [← HZ.out, if_neg (of_decide_eq_false HR.out)]
      go_wp2_with fail
      exact bodyPost_ret (v := .tuple #[.int .i64 0, .bool false]) (by simp [results, Try.results20, go_sem]) rfl ⟨rfl, HBF.out⟩
    have p0 := (GP.out.after HB3.out).cell 0
    have p1 := (GP.out.after HB3.out).cell 1
    have p2 := (GP.out.after HB3.out).cell 2
    have p3 := (GP.out.after HB3.out).cell 3
    have f2 := (GF.out.after HB3.out).cell 2
    by_cases ha : ac = 2
    · obtain rfl : r = false := by rw [← HR.out]; exact decide_eq_false (fun h => h.2.2.1 ⟨rfl, ha⟩)
      obtain rfl : z = 0 := by rw [← HZ.out, if_neg (of_decide_eq_false HR.out)]
      have HBF := Lib.hid (HB.out.trans (HB3.out.mono HB.out.size))
      subst ha
      go_wp2_with fail
      exact bodyPost_ret (v := .tuple #[.int .i64 0, .bool false]) (by simp [results, Try.results20, go_sem]) rfl ⟨rfl, HBF.out⟩
    have hae : (ac == 2) = false := by simp [ha]
    have HA := Lib.hid ha
    clear ha
    go_wp2_with fail
    refine (HM.out _ HB3.out).mono ?_
    rintro e w4 ⟨rfl, hb4⟩
    have HB4 := Lib.hid (HB3.out.trans (hb4.mono HB3.out.size))
    clear hb4 p0 p1 p2 p3 f2
    cases r3
    · have HBF := Lib.hid (HB.out.trans (HB4.out.mono HB.out.size))
      obtain rfl : r = false := by rw [← HR.out]; exact decide_eq_false (fun h => of_decide_eq_false HR3.out h.2.2.2.2)
      obtain rfl : z = 0 := by rw [← HZ.out, if_neg (of_decide_eq_false HR.out)]
      go_wp2_with fail
      exact bodyPost_ret (v := .tuple #[.int .i64 0, .bool false]) (by simp [results, Try.results20, go_sem]) rfl ⟨rfl, HBF.out⟩
    have hy : mayIn ⟨pv, ins, plain, ac⟩ ⟨dst, src, true, vid, pri, type, body⟩ := ⟨of_decide_eq_true HR1.out, of_decide_eq_true HR2.out, (fun h => HA.out h.2), (fun h => by cases h.1), of_decide_eq_true HR3.out⟩
    obtain rfl : r = true := by rw [← HR.out]; exact decide_eq_true hy
    obtain rfl : z = vid := by rw [← HZ.out, if_pos hy]; rfl
    clear hy
    have HBF := Lib.hid (HB.out.trans (HB4.out.mono HB.out.size))
    go_wp2_with fail
    exact bodyPost_ret (v := .tuple #[.int .i64 z, .bool true]) (by simp [results, Try.results20, go_sem]) rfl ⟨rfl, HBF.out⟩
end Go.Proofs.Ytfkpecildcejkaa
