/- PortOk, Member and Ingress of the program. -/
import Derived.Test.YtfkpecildcejkaaHq6
namespace Go.Proofs.Ytfkpecildcejkaa
open Go.RowKit

theorem vlans_impl (pv : Int) (a b : Option Addr) (n ca m cb : Nat) (ac : Int) (w : World) :
    Calls Try.prog 42 #[ptVal pv a n ca b m cb ac] w fun e w' => e = .returned (.agg #[.slice a n ca, .slice b m cb]) ∧ Below w.heap.size w w' := by
  have hb : ∀ o1 o2, Below w.heap.size w ((w.alloc o1).alloc o2) := fun o1 o2 => ((Below.refl _ _).alloc (Nat.le_refl _) _).alloc (by simp) _
  unfold ptVal
  go_enter Try.func42, Try.ntmps42
  go_wp2_with fail
  exact bodyPost_ret (v := .agg #[.slice a n ca, .slice b m cb]) (by simp [results, Try.results42, go_sem]) rfl ⟨rfl, hb _ _⟩

theorem ok_impl (xs ys : List Int) (a b : Option Addr) (n m ca cb : Nat) (w : World) (hn : xs.length = n) (hm : ys.length = m) (hx : SlIn kdI w a xs) (hy : SlIn kdI w b ys) (hsz : n ≤ 2097152) (hsm : m ≤ 2097152) :
    Calls Try.prog 56 #[.agg #[.slice a n ca, .slice b m cb]] w fun e w' => e = .returned (.bool (decide (nets xs) && decide (nets ys) && decide (∀ x ∈ ys, x ∈ xs))) ∧ Below w.heap.size w w' := by
  have hA := fun w' (hb : Below w.heap.size w w') => list_impl xs a n ca w' hn (hx.after hb) hsz
  have hB := fun w' (hb : Below w.heap.size w w') => list_impl ys b m cb w' hm (hy.after hb) hsm
  have hC := fun w' (hb : Below w.heap.size w w') => holds_impl xs ys a b n m ca cb w' hn hm (hx.after hb) (hy.after hb) hsz hsm
  generalize decide (nets xs) = q1 at hA ⊢
  generalize decide (nets ys) = q2 at hB ⊢
  generalize decide (∀ x ∈ ys, x ∈ xs) = q3 at hC ⊢
  have hb : Below w.heap.size w (w.alloc (.cells #[.slice a n ca, .slice b m cb] 66)) := (Below.refl _ _).alloc (Nat.le_refl _) _
  have g0 : Blk (w.alloc (.cells #[.slice a n ca, .slice b m cb] 66)) w.heap.size #[.slice a n ca, .slice b m cb] 66 := blk_new _ _ rfl
  have HA := Lib.hid hA; have HB := Lib.hid hB; have HC := Lib.hid hC; have HW := Lib.hid hb; have G0 := Lib.hid g0
  clear hA hB hC hb g0 hx hy hn hm
  go_enter Try.func56, Try.ntmps56
  go_wp2_with fail
  refine (HA.out _ HW.out).mono ?_
  rintro e w1 ⟨rfl, h1⟩
  have g0 := G0.out.after h1
  have c0 := g0.cell 0
  have c1 := g0.cell 1
  have H1 := Lib.hid (HW.out.trans (h1.mono HW.out.size)); have G1 := Lib.hid g0
  clear h1 g0
  cases q1
  · go_wp2_with fail
    go_ret
    exact ⟨rfl, H1.out⟩
  go_wp2_with fail
  refine (HB.out _ H1.out).mono ?_
  rintro e w2 ⟨rfl, h2⟩
  have g0 := G1.out.after h2
  have H2 := Lib.hid (H1.out.trans (h2.mono H1.out.size))
  clear h2 c0 c1
  have c0 := g0.cell 0
  have c1 := g0.cell 1
  clear g0
  cases q2
  · go_wp2_with fail
    go_ret
    exact ⟨rfl, H2.out⟩
  go_wp2_with fail
  refine (HC.out _ H2.out).mono ?_
  rintro e w3 ⟨rfl, rfl⟩
  go_wp2_with fail
  go_ret
  exact ⟨by cases q3 <;> rfl, H2.out⟩

theorem portOk_impl {w : World} {B C : List Nat} {v : Value} {p : Pt} (h : PortIn w B C v p) : Calls Try.prog 23 #[v] w fun e w' => e = .returned (.bool (decide (portOk p))) ∧ Below w.heap.size w w' := by
  obtain ⟨a, ca, b, cb, rfl, hi, hp, _, _, hli, hlp, _⟩ := h
  obtain ⟨pv, ins, plain, ac⟩ := p
  simp only at hi hp hli hlp ⊢
  have hV := vid_impl pv
  have hW := vlans_impl pv a b ins.length ca plain.length cb ac
  have hO := fun w' (hb : Below w.heap.size w w') => ok_impl ins plain a b ins.length plain.length ca cb w' rfl rfl (hi.after hb) (hp.after hb) hli hlp
  have hA := acc_impl ac
  have hd : decide (portOk ⟨pv, ins, plain, ac⟩) = (decide (1 ≤ pv ∧ pv ≤ 4094) && ((decide (nets ins) && decide (nets plain) && decide (∀ x ∈ plain, x ∈ ins)) && decide (0 ≤ ac ∧ ac ≤ 2))) := by
    rw [Bool.eq_iff_iff, decide_eq_true_iff]
    unfold portOk
    simp only [decide_eq_true_iff, Bool.and_eq_true]
    constructor
    · rintro ⟨h1, h2, h3, h4, h5⟩; exact ⟨h1, ⟨⟨h2, h3⟩, h5⟩, h4⟩
    · rintro ⟨h1, ⟨⟨h2, h3⟩, h5⟩, h4⟩; exact ⟨h1, h2, h3, h4, h5⟩
  rw [hd]
  clear hd
  generalize decide (1 ≤ pv ∧ pv ≤ 4094) = q1 at hV ⊢
  generalize (decide (nets ins) && decide (nets plain) && decide (∀ x ∈ plain, x ∈ ins)) = q2 at hO ⊢
  generalize decide (0 ≤ ac ∧ ac ≤ 2) = q3 at hA ⊢
  have hb : Below w.heap.size w (w.alloc (.cells #[.int .i64 pv, .slice a ins.length ca, .slice b plain.length cb, .int .i64 ac] 26)) := (Below.refl _ _).alloc (Nat.le_refl _) _
  have g0 : Blk (w.alloc (.cells #[.int .i64 pv, .slice a ins.length ca, .slice b plain.length cb, .int .i64 ac] 26)) w.heap.size #[.int .i64 pv, .slice a ins.length ca, .slice b plain.length cb, .int .i64 ac] 26 := blk_new _ _ rfl
  unfold ptVal at *
  have HV := Lib.hid hV; have HW := Lib.hid hW; have HO := Lib.hid hO; have HA := Lib.hid hA; have HB := Lib.hid hb; have G0 := Lib.hid g0
  clear hV hW hO hA hb g0 hi hp hli hlp
  go_enter Try.func23, Try.ntmps23
  go_wp2_with fail
  refine (HV.out _).mono ?_
  rintro e w1 ⟨rfl, rfl⟩
  cases q1
  · go_wp2_with fail
    go_ret
    exact ⟨rfl, HB.out⟩
  go_wp2_with fail
  refine (HW.out _).mono ?_
  rintro e w1 ⟨rfl, h1⟩
  have H1 := Lib.hid (HB.out.trans (h1.mono HB.out.size))
  have g0 := G0.out.after h1
  have G1 := Lib.hid g0
  clear h1 g0
  go_wp2_with fail
  refine (HO.out _ H1.out).mono ?_
  rintro e w2 ⟨rfl, h2⟩
  have g0 := G1.out.after h2
  have H2 := Lib.hid (H1.out.trans (h2.mono H1.out.size))
  have c0 := g0.cell 0
  have c1 := g0.cell 1
  have c2 := g0.cell 2
  have c3 := g0.cell 3
  clear h2 g0
  cases q2
  · go_wp2_with fail
    go_ret
    exact ⟨rfl, H2.out⟩
  go_wp2_with fail
  refine (HA.out _).mono ?_
  rintro e w3 ⟨rfl, rfl⟩
  go_wp2_with fail
  go_ret
  exact ⟨by cases q3 <;> rfl, H2.out⟩

theorem fld_one (x y : Value) (w : World) : (Instr.field 66 (.agg #[x, y]) 0).run Try.prog w = .ok x w := by kernel_rfl
theorem fld_two (x y : Value) (w : World) : (Instr.field 66 (.agg #[x, y]) 1).run Try.prog w = .ok y w := by kernel_rfl
set_option maxRecDepth 20000 in
theorem member_impl {w : World} {B C : List Nat} {v : Value} {p : Pt} (h : PortIn w B C v p) (x : Int) : Calls Try.prog 18 #[v, .int .i64 x] w fun e w' => e = .returned (.bool (decide (x ∈ p.ins))) ∧ Below w.heap.size w w' := by
  obtain ⟨a, ca, b, cb, rfl, hi, hp, _, _, hli, hlp, _⟩ := h
  obtain ⟨pv, ins, plain, ac⟩ := p
  simp only at hi hli ⊢
  have hW := vlans_impl pv a b ins.length ca plain.length cb ac
  have hH := fun w' (hb : Below w.heap.size w w') => has_impl ins a ins.length ca x w' rfl (hi.after hb) hli
  generalize decide (x ∈ ins) = r at hH ⊢
  have hb : Below w.heap.size w (w.alloc (.cells #[.int .i64 pv, .slice a ins.length ca, .slice b plain.length cb, .int .i64 ac] 26)) := (Below.refl _ _).alloc (Nat.le_refl _) _
  unfold ptVal at *
  have HH := Lib.hid hH; have HW := Lib.hid hW; have HB := Lib.hid hb
  clear hH hi hp hW hb
  go_enter Try.func18, Try.ntmps18
  go_wp2_with fail
  refine (HW.out _).mono ?_
  rintro e w1 ⟨rfl, h1⟩
  have H1 := Lib.hid (HB.out.trans (h1.mono HB.out.size))
  clear h1
  have hfd := fun w => fld_one (.slice a ins.length ca) (.slice b plain.length cb) w
  go_wp2_with fail
  refine (HH.out _ H1.out).mono ?_
  rintro e w2 ⟨rfl, rfl⟩
  go_wp2_with fail
  go_ret
  exact ⟨rfl, H1.out⟩
end Go.Proofs.Ytfkpecildcejkaa
