/- Ingress of the program. -/
import Derived.Test.YtfkpecildcejkaaIi
namespace Go.Proofs.Ytfkpecildcejkaa
open Go.RowKit

def accTo (ac : Int) (tg : Bool) : Bool := if tg = true then !(ac == 2) else !(ac == 1)
set_option maxRecDepth 20000 in
theorem accepts_impl (pv : Int) (a b : Option Addr) (n ca m cb : Nat) (ac : Int) (f : Fr) (w : World) :
    Calls Try.prog 46 #[ptVal pv a n ca b m cb ac, f.val] w fun e w' => e = .returned (.bool (accTo ac f.tagged)) ∧ Below w.heap.size w w' := by
  have hb : ∀ o1 o2, Below w.heap.size w ((w.alloc o1).alloc o2) := fun o1 o2 => ((Below.refl _ _).alloc (Nat.le_refl _) _).alloc (by simp) _
  obtain ⟨dst, src, tagged, fv, fp, type, body⟩ := f
  unfold ptVal Fr.val accTo
  cases tagged
  · go_enter Try.func46, Try.ntmps46
    go_wp2_with fail
    go_ret
    exact ⟨rfl, hb _ _⟩
  · go_enter Try.func46, Try.ntmps46
    go_wp2_with fail
    go_ret
    exact ⟨rfl, hb _ _⟩

theorem mayIn_iff (p : Pt) (f : Fr) : mayIn p f ↔ portOk p ∧ frOk f ∧ accTo p.acc f.tagged = true ∧ netOf p f ∈ p.ins := by
  have hacc : accTo p.acc f.tagged = true ↔ ¬ (f.tagged = true ∧ p.acc = 2) ∧ ¬ (f.tagged = false ∧ p.acc = 1) := by
    unfold accTo
    cases f.tagged <;> simp
  rw [hacc]
  unfold mayIn
  constructor
  · rintro ⟨h1, h2, h3, h4, h5⟩; exact ⟨h1, h2, ⟨h3, h4⟩, h5⟩
  · rintro ⟨h1, h2, ⟨h3, h4⟩, h5⟩; exact ⟨h1, h2, h3, h4, h5⟩

set_option linter.unusedSimpArgs false in
set_option maxHeartbeats 1000000 in
set_option maxRecDepth 20000 in
theorem ingress_impl {w : World} {B C : List Nat} {v : Value} {p : Pt} (h : PortIn w B C v p) (f : Fr) (hbs : f.body.size ≤ 1048576) :
    Calls Try.prog 16 #[v, f.val] w fun e w' => e = .returned (.tuple #[.int .i64 (if mayIn p f then netOf p f else 0), .bool (decide (mayIn p f))]) ∧ Below w.heap.size w w' := by
  have hP := fun w' (hb : Below w.heap.size w w') => portOk_impl (h.after hb)
  have hM := fun w' (hb : Below w.heap.size w w') => member_impl (h.after hb) (netOf p f)
  have hF := frameOk_impl f hbs
  obtain ⟨r, hr⟩ : ∃ r, decide (mayIn p f) = r := ⟨_, rfl⟩
  obtain ⟨z, hz⟩ : ∃ z, (if mayIn p f then netOf p f else 0) = z := ⟨_, rfl⟩
  rw [hr, hz]
  obtain ⟨a, ca, b, cb, rfl, _⟩ := h
  have hA := accepts_impl p.pvid a b p.ins.length ca p.plain.length cb p.acc f
  obtain ⟨r1, hr1⟩ : ∃ r, decide (portOk p) = r := ⟨_, rfl⟩
  obtain ⟨r2, hr2⟩ : ∃ r, decide (frOk f) = r := ⟨_, rfl⟩
  obtain ⟨r3, hr3⟩ : ∃ r, accTo p.acc f.tagged = r := ⟨_, rfl⟩
  obtain ⟨r4, hr4⟩ : ∃ r, decide (netOf p f ∈ p.ins) = r := ⟨_, rfl⟩
  obtain ⟨nv, hnv⟩ : ∃ r, netOf p f = r := ⟨_, rfl⟩
  have hmi := mayIn_iff p f
  rw [hnv] at hmi hr4
  simp only [hr1] at hP
  simp only [hr2] at hF
  simp only [hr3] at hA
  simp only [hnv, hr4] at hM
  rw [hnv] at hz
  rw [hr3] at hmi
  have hno : ∀ (k : ¬ (r1 = true ∧ r2 = true ∧ r3 = true ∧ r4 = true)), r = false ∧ z = 0 := by
    intro k
    have k' : ¬ mayIn p f := fun h => by
      obtain ⟨h1, h2, h3, h4⟩ := hmi.1 h
      exact k ⟨by rw [← hr1]; exact decide_eq_true h1, by rw [← hr2]; exact decide_eq_true h2, h3, by rw [← hr4]; exact decide_eq_true h4⟩
    exact ⟨by rw [← hr]; exact decide_eq_false k', by rw [← hz, if_neg k']⟩
  have hyes : r1 = true → r2 = true → r3 = true → r4 = true → r = true ∧ z = nv := by
    intro k1 k2 k3 k4
    have k' : mayIn p f := hmi.2 ⟨of_decide_eq_true (hr1.trans k1), of_decide_eq_true (hr2.trans k2), k3, of_decide_eq_true (hr4.trans k4)⟩
    exact ⟨by rw [← hr]; exact decide_eq_true k', by rw [← hz, if_pos k']⟩
  clear hr hz hr1 hr2 hr3 hr4 hmi
  obtain ⟨pv, ins, plain, ac⟩ := p
  obtain ⟨dst, src, tagged, fv, fp, type, body⟩ := f
  have hnet : nv = if tagged = true then fv else pv := hnv.symm
  clear hnv
  unfold ptVal Fr.val at *
  simp only at hP hM hA hF ⊢
  have hb : Below w.heap.size w ((w.alloc (.cells #[.int .i64 pv, .slice a ins.length ca, .slice b plain.length cb, .int .i64 ac] 26)).alloc (.cells #[.int .i64 dst, .int .i64 src, .bool tagged, .int .i64 fv, .int .i64 fp, .int .i64 type, .string body] 28)) := ((Below.refl _ _).alloc (Nat.le_refl _) _).alloc (by simp) _
  have gP : Blk ((w.alloc (.cells #[.int .i64 pv, .slice a ins.length ca, .slice b plain.length cb, .int .i64 ac] 26)).alloc (.cells #[.int .i64 dst, .int .i64 src, .bool tagged, .int .i64 fv, .int .i64 fp, .int .i64 type, .string body] 28)) w.heap.size #[.int .i64 pv, .slice a ins.length ca, .slice b plain.length cb, .int .i64 ac] 26 := (blk_new _ _ rfl).alloc _
  have gF : Blk ((w.alloc (.cells #[.int .i64 pv, .slice a ins.length ca, .slice b plain.length cb, .int .i64 ac] 26)).alloc (.cells #[.int .i64 dst, .int .i64 src, .bool tagged, .int .i64 fv, .int .i64 fp, .int .i64 type, .string body] 28)) (w.heap.size + 1) #[.int .i64 dst, .int .i64 src, .bool tagged, .int .i64 fv, .int .i64 fp, .int .i64 type, .string body] 28 := blk_new _ _ (by simp)
  have HB := Lib.hid hb; have GP := Lib.hid gP; have GF := Lib.hid gF; have HP := Lib.hid hP; have HF := Lib.hid hF; have HM := Lib.hid hM; have HA := Lib.hid hA; have HNO := Lib.hid hno; have HYES := Lib.hid hyes; have HNET := Lib.hid hnet
  clear hb gP gF hP hF hM hA hno hyes hnet
  go_enter Try.func16, Try.ntmps16
  go_wp2_with fail
  refine (HP.out _ HB.out).mono ?_
  rintro e w2 ⟨rfl, hb2⟩
  have H2 := Lib.hid (HB.out.trans (hb2.mono HB.out.size)); have GP2 := Lib.hid (GP.out.after hb2); have GF2 := Lib.hid (GF.out.after hb2)
  clear hb2 GP GF
  cases r1
  · obtain ⟨rfl, rfl⟩ := HNO.out (by simp)
    go_wp2_with fail
    exact bodyPost_ret (v := .tuple #[.int .i64 0, .bool false]) (by simp [results, Try.results16, go_sem]) rfl ⟨rfl, H2.out⟩
  have f0 := GF2.out.cell 0
  have f1 := GF2.out.cell 1
  have f2 := GF2.out.cell 2
  have f3 := GF2.out.cell 3
  have f4 := GF2.out.cell 4
  have f5 := GF2.out.cell 5
  have f6 := GF2.out.cell 6
  go_wp2_with fail
  refine (HF.out _).mono ?_
  rintro e w3 ⟨rfl, hb3⟩
  have H3 := Lib.hid (H2.out.trans (hb3.mono H2.out.size)); have GP3 := Lib.hid (GP2.out.after hb3); have GF3 := Lib.hid (GF2.out.after hb3)
  clear hb3 GP2 GF2 f0 f1 f2 f3 f4 f5 f6
  cases r2
  · obtain ⟨rfl, rfl⟩ := HNO.out (by simp)
    go_wp2_with fail
    exact bodyPost_ret (v := .tuple #[.int .i64 0, .bool false]) (by simp [results, Try.results16, go_sem]) rfl ⟨rfl, H3.out⟩
  have f0 := GF3.out.cell 0
  have f1 := GF3.out.cell 1
  have f2 := GF3.out.cell 2
  have f3 := GF3.out.cell 3
  have f4 := GF3.out.cell 4
  have f5 := GF3.out.cell 5
  have f6 := GF3.out.cell 6
  have p0 := GP3.out.cell 0
  have p1 := GP3.out.cell 1
  have p2 := GP3.out.cell 2
  have p3 := GP3.out.cell 3
  go_wp2_with fail
  refine (HA.out _).mono ?_
  rintro e w4 ⟨rfl, hb4⟩
  have H4 := Lib.hid (H3.out.trans (hb4.mono H3.out.size)); have GP4 := Lib.hid (GP3.out.after hb4); have GF4 := Lib.hid (GF3.out.after hb4)
  clear hb4 GP3 GF3 f0 f1 f2 f3 f4 f5 f6 p0 p1 p2 p3
  cases r3
  · obtain ⟨rfl, rfl⟩ := HNO.out (by simp)
    go_wp2_with fail
    exact bodyPost_ret (v := .tuple #[.int .i64 0, .bool false]) (by simp [results, Try.results16, go_sem]) rfl ⟨rfl, H4.out⟩
  have f0 := GF4.out.cell 0
  have f1 := GF4.out.cell 1
  have f2 := GF4.out.cell 2
  have f3 := GF4.out.cell 3
  have f4 := GF4.out.cell 4
  have f5 := GF4.out.cell 5
  have f6 := GF4.out.cell 6
  have p0 := GP4.out.cell 0
  have p1 := GP4.out.cell 1
  have p2 := GP4.out.cell 2
  have p3 := GP4.out.cell 3
  cases tagged
  · obtain rfl : nv = pv := HNET.out
    go_wp2_with fail
    refine (HM.out _ H4.out).mono ?_
    rintro e w5 ⟨rfl, hb5⟩
    have H5 := Lib.hid (H4.out.trans (hb5.mono H4.out.size))
    clear hb5 f0 f1 f2 f3 f4 f5 f6 p0 p1 p2 p3
    cases r4
    · obtain ⟨rfl, rfl⟩ := HNO.out (by simp)
      go_wp2_with fail
      exact bodyPost_ret (v := .tuple #[.int .i64 0, .bool false]) (by simp [results, Try.results16, go_sem]) rfl ⟨rfl, H5.out⟩
    · obtain ⟨rfl, rfl⟩ := HYES.out (by simp) (by simp) (by simp) (by simp)
      go_wp2_with fail
      exact bodyPost_ret (v := .tuple #[.int .i64 z, .bool true]) (by simp [results, Try.results16, go_sem]) rfl ⟨rfl, H5.out⟩
  · obtain rfl : nv = fv := HNET.out
    go_wp2_with fail
    refine (HM.out _ H4.out).mono ?_
    rintro e w5 ⟨rfl, hb5⟩
    have H5 := Lib.hid (H4.out.trans (hb5.mono H4.out.size))
    clear hb5 f0 f1 f2 f3 f4 f5 f6 p0 p1 p2 p3
    cases r4
    · obtain ⟨rfl, rfl⟩ := HNO.out (by simp)
      go_wp2_with fail
      exact bodyPost_ret (v := .tuple #[.int .i64 0, .bool false]) (by simp [results, Try.results16, go_sem]) rfl ⟨rfl, H5.out⟩
    · obtain ⟨rfl, rfl⟩ := HYES.out (by simp) (by simp) (by simp) (by simp)
      go_wp2_with fail
      exact bodyPost_ret (v := .tuple #[.int .i64 z, .bool true]) (by simp [results, Try.results16, go_sem]) rfl ⟨rfl, H5.out⟩
end Go.Proofs.Ytfkpecildcejkaa
