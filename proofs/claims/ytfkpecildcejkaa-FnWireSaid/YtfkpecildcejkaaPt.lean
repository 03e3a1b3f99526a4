/- Ports in memory; PortOk and Member of the model. -/
import Derived.Test.YtfkpecildcejkaaNs
import Derived.Deep.RegionWith
import Derived.IntWalk
import Derived.Deep.RegionHeld3
namespace Go.Proofs.Ytfkpecildcejkaa
open Go.RowKit

def ptVal (pv : Int) (a : Option Addr) (n ca : Nat) (b : Option Addr) (m cb : Nat) (ac : Int) : Value := .agg #[.int .i64 pv, .slice a n ca, .slice b m cb, .int .i64 ac]
def wf64 (x : Int) : Prop := (Lit.int .i64 x).wf = true
def Pt.fits (p : Pt) : Prop := wf64 p.pvid ∧ (∀ x ∈ p.ins, wf64 x) ∧ (∀ x ∈ p.plain, wf64 x) ∧ wf64 p.acc

/-- the value v is the port p; its two lists lie in the blocks B and C -/
def PortIn (w : World) (B C : List Nat) (v : Value) (p : Pt) : Prop :=
  ∃ a ca b cb, v = ptVal p.pvid a p.ins.length ca b p.plain.length cb p.acc ∧ SlIn kdI w a p.ins ∧ SlIn kdI w b p.plain ∧ (B = blkN a p.ins.length ∧ p.ins.length ≤ ca) ∧ (C = blkN b p.plain.length ∧ p.plain.length ≤ cb) ∧ p.ins.length ≤ 2097152 ∧ p.plain.length ≤ 2097152 ∧ p.fits
theorem PortIn.lt {w : World} {B C : List Nat} {v : Value} {p : Pt} (h : PortIn w B C v p) : (∀ b ∈ B, b < w.heap.size) ∧ ∀ b ∈ C, b < w.heap.size := by
  obtain ⟨a, ca, b, cb, rfl, h1, h2, ⟨rfl, _⟩, ⟨rfl, _⟩, _⟩ := h
  exact ⟨h1.lt_blk, h2.lt_blk⟩
theorem PortIn.keep {w w' : World} {B C : List Nat} {v : Value} {p : Pt} (h : PortIn w B C v p) (h1 : ∀ b ∈ B, w'.heap[b]? = w.heap[b]?) (h2 : ∀ b ∈ C, w'.heap[b]? = w.heap[b]?) : PortIn w' B C v p := by
  obtain ⟨a, ca, b, cb, rfl, k1, k2, ⟨rfl, c1⟩, ⟨rfl, c2⟩, hl⟩ := h
  exact ⟨a, ca, b, cb, rfl, k1.keep_blk h1, k2.keep_blk h2, ⟨rfl, c1⟩, ⟨rfl, c2⟩, hl⟩
theorem PortIn.after {w w' : World} {B C : List Nat} {v : Value} {p : Pt} (h : PortIn w B C v p) (hb : Below w.heap.size w w') : PortIn w' B C v p :=
  h.keep (fun b hm => hb.block b (h.lt.1 b hm)) (fun b hm => hb.block b (h.lt.2 b hm))
theorem PortIn.turned {w w' : World} {B C D : List Nat} {v : Value} {p : Pt} (h : PortIn w B C v p) (hT : Turned D w w') (h1 : ∀ b ∈ B, b ∉ D) (h2 : ∀ b ∈ C, b ∉ D) : PortIn w' B C v p :=
  h.keep (fun b hm => hT.block b (h.lt.1 b hm) (h1 b hm)) (fun b hm => hT.block b (h.lt.2 b hm) (h2 b hm))

/-- the one owns another block than the other -/
def Sep (u v : Value) : Prop := ∀ g h, u.ownBlock = some g → v.ownBlock = some h → g ≠ h
/-- a port comes back, its lists in new blocks of their own -/
def GotPort (w : World) (p : Pt) (e : Ending) (w' : World) : Prop :=
  ∃ B C a n ca b m cb pv ac, e = .returned (ptVal pv a n ca b m cb ac) ∧ PortIn w' B C (ptVal pv a n ca b m cb ac) p ∧ (∀ b ∈ B, w.heap.size ≤ b) ∧ (∀ b ∈ C, w.heap.size ≤ b) ∧ (∀ b ∈ B, b ∉ C) ∧ Below w.heap.size w w' ∧
    w'.ownsRow w.heap.size 3 1 (.slice a n ca) p.ins.length (p.ins.map (Value.int .i64)) ∧ w'.ownsRow w.heap.size 3 1 (.slice b m cb) p.plain.length (p.plain.map (Value.int .i64)) ∧ Sep (.slice a n ca) (.slice b m cb)

theorem in_any6 (x a b : Int) (w : World) : Calls Try.prog 60 #[.int .i64 x, .int .i64 a, .int .i64 b] w fun e w' => e = .returned (.bool (decide (a ≤ x ∧ x ≤ b))) ∧ w = w' := by
  by_cases h : a ≤ x ∧ x ≤ b
  · rw [decide_eq_true h]; exact in_yes _ _ _ _ h.1 h.2
  · rw [decide_eq_false h]; exact in_no _ _ _ _ h

set_option linter.unusedSimpArgs false in
set_option maxHeartbeats 1000000 in
theorem portOk_spec {w : World} {B C : List Nat} {v : Value} {p : Pt} (h : PortIn w B C v p) : Calls Try.prog 24 #[v] w fun e w' => e = .returned (.bool (decide (portOk p))) ∧ Below w.heap.size w w' := by
  obtain ⟨a, ca, b, cb, rfl, hi, hp, _, _, hli, hlp, _⟩ := h
  obtain ⟨pv, ins, plain, ac⟩ := p
  simp only at hi hp hli hlp ⊢
  obtain ⟨r, hr⟩ : ∃ r, decide (portOk ⟨pv, ins, plain, ac⟩) = r := ⟨_, rfl⟩
  rw [hr]
  have hb1 : Below w.heap.size w (w.alloc (.cells #[.int .i64 pv, .slice a ins.length ca, .slice b plain.length cb, .int .i64 ac] 26)) := (Below.refl _ _).alloc (Nat.le_refl _) _
  have kA : Blk (w.alloc (.cells #[.int .i64 pv, .slice a ins.length ca, .slice b plain.length cb, .int .i64 ac] 26)) w.heap.size #[.int .i64 pv, .slice a ins.length ca, .slice b plain.length cb, .int .i64 ac] 26 := blk_new _ _ rfl
  replace hi := hi.after hb1
  replace hp := hp.after hb1
  have HR := Lib.hid hr; have HB1 := Lib.hid hb1; have HKA := Lib.hid kA
  have hV := vid6_spec pv
  have hL1 := list_spec ins a ins.length ca _ rfl hi hli
  obtain ⟨r1, hr1⟩ : ∃ r, decide (nets ins) = r := ⟨_, rfl⟩
  rw [hr1] at hL1
  have hL2 := fun w' (hb : Below (w.alloc (.cells #[.int .i64 pv, .slice a ins.length ca, .slice b plain.length cb, .int .i64 ac] 26)).heap.size (w.alloc (.cells #[.int .i64 pv, .slice a ins.length ca, .slice b plain.length cb, .int .i64 ac] 26)) w') => list_spec plain b plain.length cb w' rfl (hp.after hb) hlp
  obtain ⟨r2, hr2⟩ : ∃ r, decide (nets plain) = r := ⟨_, rfl⟩
  rw [hr2] at hL2
  have hN := in_any6 ac 0 2
  obtain ⟨r3, hr3⟩ : ∃ r, decide (0 ≤ ac ∧ ac ≤ 2) = r := ⟨_, rfl⟩
  rw [hr3] at hN
  have HI := Lib.hid hi; have HP := Lib.hid hp
  have HR1 := Lib.hid hr1; have HR2 := Lib.hid hr2; have HR3 := Lib.hid hr3
  have HL1 := Lib.hid hL1; have HL2 := Lib.hid hL2; have HN := Lib.hid hN
  have hlen : ins.length ≤ 9223372036854775807 := by omega
  clear hr hb1 kA hi hp hr1 hr2 hr3 hL1 hL2 hN
  unfold ptVal
  by_cases hv : 1 ≤ pv ∧ pv ≤ 4094
  case neg =>
    rw [decide_eq_false hv] at hV
    obtain rfl : r = false := by rw [← HR.out]; exact decide_eq_false (fun h => hv h.1)
    have HV := Lib.hid hV; clear hV hv
    go_enter Try.func24, Try.ntmps24
    go_wp2_with fail
    refine (HV.out _).mono ?_
    rintro e w1 ⟨rfl, rfl⟩
    go_wp2_with fail
    go_ret
    exact ⟨rfl, HB1.out⟩
  rw [decide_eq_true hv] at hV
  have HV := Lib.hid hV; have HVV := Lib.hid hv; clear hV hv
  go_enter Try.func24, Try.ntmps24
  go_wp2_with fail
  refine (HV.out _).mono ?_
  rintro e w1 ⟨rfl, rfl⟩
  go_wp2_with fail
  refine HL1.out.mono ?_
  rintro e w2 ⟨rfl, hb2⟩
  cases r1
  · obtain rfl : r = false := by rw [← HR.out]; exact decide_eq_false (fun h => of_decide_eq_false HR1.out h.2.1)
    have hbf := HB1.out.trans (hb2.mono HB1.out.size)
    have HBF := Lib.hid hbf; clear hb2 hbf
    go_wp2_with fail
    go_ret
    exact ⟨rfl, HBF.out⟩
  have k2 := HKA.out.after hb2
  have c2 := k2.cell 2
  have HB2 := Lib.hid hb2; have HK2 := Lib.hid k2; clear hb2 k2
  go_wp2_with fail
  refine (HL2.out _ HB2.out).mono ?_
  rintro e w3 ⟨rfl, hb3⟩
  have hb23 := HB2.out.trans (hb3.mono HB2.out.size)
  have HB3 := Lib.hid hb23; clear hb3 hb23 c2
  cases r2
  · obtain rfl : r = false := by rw [← HR.out]; exact decide_eq_false (fun h => of_decide_eq_false HR2.out h.2.2.1)
    have hbf := HB1.out.trans (HB3.out.mono HB1.out.size)
    have HBF := Lib.hid hbf; clear hbf
    go_wp2_with fail
    go_ret
    exact ⟨rfl, HBF.out⟩
  have k3 := HKA.out.after HB3.out
  have c3 := k3.cell 3
  have HK3 := Lib.hid k3; clear k3
  go_wp2_with fail
  refine (HN.out _).mono ?_
  rintro e w4 ⟨rfl, rfl⟩
  clear c3
  cases r3
  · obtain rfl : r = false := by rw [← HR.out]; exact decide_eq_false (fun h => of_decide_eq_false HR3.out h.2.2.2.1)
    have hbf := HB1.out.trans (HB3.out.mono HB1.out.size)
    have HBF := Lib.hid hbf; clear hbf
    go_wp2_with fail
    go_ret
    exact ⟨rfl, HBF.out⟩
  go_wp2_with fail
  go_loopw [3] (fun i wr => ∃ k : Nat, i = .int .i64 (k : Nat) ∧ k ≤ plain.length ∧ Hid (Below (w.alloc (.cells #[.int .i64 pv, .slice a ins.length ca, .slice b plain.length cb, .int .i64 ac] 26)).heap.size (w.alloc (.cells #[.int .i64 pv, .slice a ins.length ca, .slice b plain.length cb, .int .i64 ac] 26)) wr) ∧ Hid (∀ x ∈ plain.take k, x ∈ ins))
    (fun i _ => plain.length - (intOf i).toNat)
  case atStart => exact ⟨0, rfl, Nat.zero_le _, HB3, Lib.hid (by simp)⟩
  case round =>
    obtain ⟨k, rfl, hk, HWR, HT⟩ := hrel
    have hF := fun w' (hb : Below wr.heap.size wr w') => HKA.out.after (HWR.out.trans (hb.mono HWR.out.size))
    have c2 := (hF wr (Below.refl _ _)).cell 2
    by_cases hlt : k < plain.length
    · obtain ⟨g, o, rfl, _, hA⟩ := intAt HP.out k hlt
      have hC := fun w' (hb : Below wr.heap.size wr w') => (hA w' (HWR.out.trans (hb.mono HWR.out.size))).1
      clear hA
      have hH := fun w' (hb : Below wr.heap.size wr w') => has_spec ins a ins.length ca (plain[k]) w' rfl (HI.out.after (HWR.out.trans (hb.mono HWR.out.size))) hli
      obtain ⟨rh, hrh⟩ : ∃ r, decide (plain[k] ∈ ins) = r := ⟨_, rfl⟩
      rw [hrh] at hH
      have hmem : plain[k] ∈ plain := List.getElem_mem hlt
      have hsucc : ∀ x, x ∈ plain.take (k + 1) → x ∈ plain.take k ∨ x = plain[k] := fun x hx => (mem_take_succ hlt).1 hx
      have HH := Lib.hid hH; have HRH := Lib.hid hrh; have HMem := Lib.hid hmem; have HSucc := Lib.hid hsucc
      clear hH hrh hmem hsucc
      obtain ⟨y, hy⟩ : ∃ y, plain[k] = y := ⟨_, rfl⟩
      rw [hy] at hC HH HRH HMem HSucc
      clear hy
      go_wp2_with fail
      clear c2
      refine wp_region_held_drew (S := fun w' => Below wr.heap.size wr w') (by kernel_rfl) (Below.drew (Below.refl _ _)) (fun hHeld => ?_)
      refine wpAnyH_take (i := 0) (v := ?v1) rfl (by kernel_rfl) (by kernel_rfl) (by kernel_rfl) (fun _ _ _ h => h) (Or.inl ⟨by rfl, ?h1⟩) hHeld ?r1
      case h1 => intro wq hS; go_simp; with_reducible rfl
      try simp only [Act.put, List.getElem_toArray, List.getElem_cons_zero, List.getElem_cons_succ, List.setIfInBounds_toArray, List.set_cons_zero, List.set_cons_succ]
      refine wpAnyH_take (i := 1) (v := ?v2) rfl (by kernel_rfl) (by kernel_rfl) (by kernel_rfl) (fun _ _ _ h => h) (Or.inl ⟨by rfl, ?h2⟩) hHeld ?r2
      case h2 => intro wq hS; have c1 := (hF wq hS).cell 1; go_simp; with_reducible rfl
      try simp only [Act.put, List.getElem_toArray, List.getElem_cons_zero, List.getElem_cons_succ, List.setIfInBounds_toArray, List.set_cons_zero, List.set_cons_succ]
      refine wpAnyH_take (i := 2) (v := ?v3) rfl (by kernel_rfl) (by kernel_rfl) (by kernel_rfl) (fun _ _ _ h => h) (Or.inl ⟨by rfl, ?h3⟩) hHeld ?r3
      case h3 => intro wq hS; go_simp; with_reducible rfl
      try simp only [Act.put, List.getElem_toArray, List.getElem_cons_zero, List.getElem_cons_succ, List.setIfInBounds_toArray, List.set_cons_zero, List.set_cons_succ]
      refine wpAnyH_take (i := 3) (v := ?v4) rfl (by kernel_rfl) (by kernel_rfl) (by kernel_rfl) (fun _ _ _ h => h) (Or.inl ⟨by rfl, ?h4⟩) hHeld ?r4
      case h4 => intro wq hS; have c2 := (hF wq hS).cell 2; go_simp; with_reducible rfl
      try simp only [Act.put, List.getElem_toArray, List.getElem_cons_zero, List.getElem_cons_succ, List.setIfInBounds_toArray, List.set_cons_zero, List.set_cons_succ]
      refine wpAnyH_take (i := 4) (v := ?v5) rfl (by kernel_rfl) (by kernel_rfl) (by kernel_rfl) (fun _ _ _ h => h) (Or.inl ⟨by rfl, ?h5⟩) hHeld ?r5
      case h5 => intro wq hS; go_simp; with_reducible rfl
      try simp only [Act.put, List.getElem_toArray, List.getElem_cons_zero, List.getElem_cons_succ, List.setIfInBounds_toArray, List.set_cons_zero, List.set_cons_succ]
      refine wpAnyH_take (i := 5) (v := ?v6) rfl (by kernel_rfl) (by kernel_rfl) (by kernel_rfl) (fun _ _ _ h => h) (Or.inl ⟨by rfl, ?h6⟩) hHeld ?r6
      case h6 => intro wq hS; go_simp; with_reducible rfl
      try simp only [Act.put, List.getElem_toArray, List.getElem_cons_zero, List.getElem_cons_succ, List.setIfInBounds_toArray, List.set_cons_zero, List.set_cons_succ]
      refine wpAnyH_take (i := 6) (v := ?v7) rfl (by kernel_rfl) (by kernel_rfl) (by kernel_rfl) (fun _ _ _ h => h) (Or.inl ⟨by rfl, ?h7⟩) hHeld ?r7
      case h7 => intro wq hS; have c := hC wq hS; go_simp; with_reducible rfl
      try simp only [Act.put, List.getElem_toArray, List.getElem_cons_zero, List.getElem_cons_succ, List.setIfInBounds_toArray, List.set_cons_zero, List.set_cons_succ]
      refine wpAnyH_ready (rs := [7]) (by kernel_rfl) (by simp) ?_
      refine AllReadyH.cons rfl (fun K hK => ?_) AllReadyH.nil
      go_simp
      refine (HH.out _ hHeld).mono ?_
      rintro e w5 ⟨rfl, hb5⟩
      refine hK.out _ _ (hHeld.trans (hb5.mono hHeld.size)) (fun hHeld => ?_)
      clear hK K
      try simp only [Act.put, List.getElem_toArray, List.getElem_cons_zero, List.getElem_cons_succ, List.setIfInBounds_toArray, List.set_cons_zero, List.set_cons_succ]
      cases rh
      · refine wpAnyH_take (i := 8) (v := ?v8) rfl (by kernel_rfl) (by kernel_rfl) (by kernel_rfl) (fun _ _ _ h => h) (Or.inl ⟨by rfl, ?h8⟩) hHeld ?r8
        case h8 => intro wq hS; go_simp; with_reducible rfl
        try simp only [Act.put, List.getElem_toArray, List.getElem_cons_zero, List.getElem_cons_succ, List.setIfInBounds_toArray, List.set_cons_zero, List.set_cons_succ]
        refine wpAnyH_done (by kernel_rfl) ?_ _
        obtain rfl : r = false := by rw [← HR.out]; exact decide_eq_false (fun h => of_decide_eq_false HRH.out (h.2.2.2.2 _ HMem.out))
        have hbf := HWR.out.trans (hHeld.mono HWR.out.size)
        have HBF := Lib.hid (HB1.out.trans (hbf.mono HB1.out.size))
        clear hHeld hbf hC hF hb5
        go_wp2_with fail
        go_ret
        exact ⟨rfl, HBF.out⟩
      · refine wpAnyH_take (i := 8) (v := ?v9) rfl (by kernel_rfl) (by kernel_rfl) (by kernel_rfl) (fun _ _ _ h => h) (Or.inl ⟨by rfl, ?h9⟩) hHeld ?r9
        case h9 => intro wq hS; go_simp; with_reducible rfl
        try simp only [Act.put, List.getElem_toArray, List.getElem_cons_zero, List.getElem_cons_succ, List.setIfInBounds_toArray, List.set_cons_zero, List.set_cons_succ]
        refine wpAnyH_done (by kernel_rfl) ?_ _
        have hbf := HWR.out.trans (hHeld.mono HWR.out.size)
        have HBF := Lib.hid hbf
        clear hHeld hbf hC hF hb5
        go_wp2_with fail
        go_roundw
        case rel => exact ⟨k + 1, by go_num, by omega, HBF, Lib.hid (fun x hx => (HSucc.out x hx).elim (HT.out x) (fun e => e ▸ of_decide_eq_true HRH.out))⟩
        case measure => simp [intOf]; omega
    · have hke : k = plain.length := by omega
      have hlt' : ¬ ((k : Int) < (plain.length : Int)) := by omega
      obtain rfl : r = true := by
        rw [← HR.out]
        refine decide_eq_true ⟨HVV.out, of_decide_eq_true HR1.out, of_decide_eq_true HR2.out, of_decide_eq_true HR3.out, fun x hx => HT.out x ?_⟩
        rw [hke, List.take_length]
        exact hx
      clear hke hF
      go_wp2_with fail
      go_ret
      exact ⟨rfl, HB1.out.trans (HWR.out.mono HB1.out.size)⟩
end Go.Proofs.Ytfkpecildcejkaa
