/- Ports in the laws: measured, copied in, compared, marked, held; a port as an argument. -/
import Derived.Test.YtfkpecildcejkaaPm
import Derived.Test.YtfkpecildcejkaaCp
import Derived.Test.YtfkpecildcejkaaTbO
namespace Go.Proofs.Ytfkpecildcejkaa
open Go.RowKit Go.ChangeShapes Go.WideShapes

theorem Turned.wide {B C : List Nat} {w w' : World} (h : Turned B w w') (hs : ∀ x ∈ B, x ∈ C) : Turned C w w' := ⟨h.os, h.tape, h.output, h.size, fun k hk hn => h.block k hk (fun hm => hn (hs k hm))⟩
/-- the value v is the port p; what its lists hold lies in the blocks D, apart from each other -/
def PIn (w : World) (D : List Nat) (v : Value) (p : Pt) : Prop := ∃ B C, D = B ++ C ∧ PortIn w B C v p ∧ ∀ b ∈ B, b ∉ C
theorem PIn.port {w : World} {D : List Nat} {v : Value} {p : Pt} (h : PIn w D v p) : ∃ B C, PortIn w B C v p := by
  obtain ⟨B, C, _, h, _⟩ := h
  exact ⟨B, C, h⟩
theorem PIn.lt {w : World} {D : List Nat} {v : Value} {p : Pt} (h : PIn w D v p) : ∀ b ∈ D, b < w.heap.size := by
  obtain ⟨B, C, rfl, h, _⟩ := h
  intro b hb
  rcases List.mem_append.1 hb with hb | hb
  · exact h.lt.1 b hb
  · exact h.lt.2 b hb
theorem PIn.keep {w w' : World} {D : List Nat} {v : Value} {p : Pt} (h : PIn w D v p) (hk : ∀ b ∈ D, w'.heap[b]? = w.heap[b]?) : PIn w' D v p := by
  obtain ⟨B, C, rfl, h, hd⟩ := h
  exact ⟨B, C, rfl, h.keep (fun b hb => hk b (List.mem_append.2 (Or.inl hb))) (fun b hb => hk b (List.mem_append.2 (Or.inr hb))), hd⟩
theorem PIn.after {w w' : World} {D : List Nat} {v : Value} {p : Pt} (h : PIn w D v p) (hb : Below w.heap.size w w') : PIn w' D v p := h.keep fun b hm => hb.block b (h.lt b hm)
theorem PIn.alloc {w : World} {D : List Nat} {v : Value} {p : Pt} (h : PIn w D v p) (o : Obj) : PIn (w.alloc o) D v p := h.after ((Below.refl _ _).alloc (Nat.le_refl _) o)
theorem PIn.turned {w w' : World} {D C : List Nat} {v : Value} {p : Pt} (h : PIn w D v p) (hT : Turned C w w') (hd : ∀ b ∈ D, b ∉ C) : PIn w' D v p := h.keep fun b hm => hT.block b (h.lt b hm) (hd b hm)

def GotP (w : World) (p : Pt) (e : Ending) (w' : World) : Prop :=
  ∃ D v a n c b m d k, e = .returned (.agg #[.int .i64 v, .slice a n c, .slice b m d, .int .i64 k]) ∧ PIn w' D (.agg #[.int .i64 v, .slice a n c, .slice b m d, .int .i64 k]) p ∧ (∀ x ∈ D, w.heap.size ≤ x) ∧ Below w.heap.size w w'
theorem GotPort.toP {w w' : World} {p : Pt} {e : Ending} (h : GotPort w p e w') : GotP w p e w' := by
  obtain ⟨B, C, a, n, ca, b, m, cb, pv, ac, rfl, h1, h2, h3, h4, h5, _⟩ := h
  refine ⟨B ++ C, pv, a, n, ca, b, m, cb, ac, rfl, ⟨B, C, rfl, h1, h4⟩, fun x hx => ?_, h5⟩
  rcases List.mem_append.1 hx with hx | hx
  · exact h2 x hx
  · exact h3 x hx

/-- a port that came in -/
def PortArg (w : World) (v : Value) (p : Pt) : Prop := ∃ a ca b cb, v = ptVal p.pvid a p.ins.length ca b p.plain.length cb p.acc ∧ SlArg 1 intCs w a p.ins ∧ SlArg 1 intCs w b p.plain ∧ p.fits
theorem PortArg.after {w w' : World} {v : Value} {p : Pt} (h : PortArg w v p) (hb : Below w.heap.size w w') : PortArg w' v p := by
  obtain ⟨a, ca, b, cb, e, h1, h2, h3⟩ := h
  exact ⟨a, ca, b, cb, e, h1.after hb, h2.after hb, h3⟩

set_option maxRecDepth 20000 in
theorem szPort_any (pv : Int) (a b : Option Addr) (n ca m cb : Nat) (ac left : Int) (w : World) (hn : n ≤ 9223372036854775807) (hm : m ≤ 9223372036854775807) (hl : 0 ≤ left) (hl' : left ≤ 1048576) :
    Calls Try.prog 27 #[ptVal pv a n ca b m cb ac, .int .i64 left] w fun e w' => e = .returned (.int .i64 (if (n : Int) + m ≤ left then left - n - m else -1)) ∧ Below w.heap.size w w' := by
  have hb0 : Below w.heap.size w (w.alloc (.cells #[.int .i64 pv, .slice a n ca, .slice b m cb, .int .i64 ac] 44)) := (Below.refl _ _).alloc (Nat.le_refl _) _
  have hS := fun w => szIntS_any a n ca left w hn hl hl'
  unfold ptVal
  by_cases h : (n : Int) ≤ left
  · rw [if_pos h] at hS
    have hS2 := fun w => szIntS_any b m cb (left - n) w hm (by omega) (by omega)
    have h1 : ¬ (left - (n : Int) < 0) := by omega
    by_cases h2 : (n : Int) + m ≤ left
    · rw [if_pos h2]
      rw [if_pos (by omega)] at hS2
      have h3 : ¬ (left - (n : Int) - m < 0) := by omega
      have HS := Lib.hid hS; have HS2 := Lib.hid hS2; have HB := Lib.hid hb0
      clear hS hS2 hb0
      go_enter Try.func27, Try.ntmps27
      go_wp2_with fail
      refine (HS.out _).mono ?_
      rintro e w1 ⟨rfl, rfl⟩
      go_wp2_with fail
      refine (HS2.out _).mono ?_
      rintro e w1 ⟨rfl, rfl⟩
      go_wp2_with fail
      go_ret
      exact ⟨rfl, HB.out⟩
    · rw [if_neg h2]
      rw [if_neg (by omega)] at hS2
      have HS := Lib.hid hS; have HS2 := Lib.hid hS2; have HB := Lib.hid hb0
      clear hS hS2 hb0
      go_enter Try.func27, Try.ntmps27
      go_wp2_with fail
      refine (HS.out _).mono ?_
      rintro e w1 ⟨rfl, rfl⟩
      go_wp2_with fail
      refine (HS2.out _).mono ?_
      rintro e w1 ⟨rfl, rfl⟩
      go_wp2_with fail
      go_ret
      exact ⟨rfl, HB.out⟩
  · rw [if_neg h] at hS
    rw [if_neg (by omega)]
    have HS := Lib.hid hS; have HB := Lib.hid hb0
    clear hS hb0
    go_enter Try.func27, Try.ntmps27
    go_wp2_with fail
    refine (HS.out _).mono ?_
    rintro e w1 ⟨rfl, rfl⟩
    go_wp2_with fail
    go_ret
    exact ⟨rfl, HB.out⟩

set_option maxRecDepth 20000 in
theorem eqPort_same {w : World} {B C : List Nat} {u v : Value} {p : Pt} (h : PIn w B u p) (k : PIn w C v p) :
    Calls Try.prog 29 #[u, v] w fun e w' => e = .returned (.bool true) ∧ Below w.heap.size w w' := by
  obtain ⟨_, _, _, ⟨a, ca, b, cb, rfl, hi, hp, _, _, hli, hlp, _⟩, _⟩ := h
  obtain ⟨_, _, _, ⟨a', ca', b', cb', rfl, hi', hp', _, _, _, _, _⟩, _⟩ := k
  obtain ⟨pv, ins, plain, ac⟩ := p
  simp only at hi hp hli hlp hi' hp' ⊢
  have hE1 := fun w' (h : Below w.heap.size w w') => eqIntS_any ins ins a a' _ _ ca ca' w' rfl rfl (hi.after h) (hi'.after h) hli
  have hE2 := fun w' (h : Below w.heap.size w w') => eqIntS_any plain plain b b' _ _ cb cb' w' rfl rfl (hp.after h) (hp'.after h) hlp
  rw [decide_eq_true rfl] at hE1 hE2
  unfold ptVal
  have hb0 : Below w.heap.size w ((w.alloc (.cells #[.int .i64 pv, .slice a ins.length ca, .slice b plain.length cb, .int .i64 ac] 26)).alloc (.cells #[.int .i64 pv, .slice a' ins.length ca', .slice b' plain.length cb', .int .i64 ac] 26)) := ((Below.refl _ _).alloc (Nat.le_refl _) _).alloc (by simp) _
  have g0 : Blk ((w.alloc (.cells #[.int .i64 pv, .slice a ins.length ca, .slice b plain.length cb, .int .i64 ac] 26)).alloc (.cells #[.int .i64 pv, .slice a' ins.length ca', .slice b' plain.length cb', .int .i64 ac] 26)) w.heap.size #[.int .i64 pv, .slice a ins.length ca, .slice b plain.length cb, .int .i64 ac] 26 := (blk_new _ _ rfl).alloc _
  have g1 : Blk ((w.alloc (.cells #[.int .i64 pv, .slice a ins.length ca, .slice b plain.length cb, .int .i64 ac] 26)).alloc (.cells #[.int .i64 pv, .slice a' ins.length ca', .slice b' plain.length cb', .int .i64 ac] 26)) (w.heap.size + 1) #[.int .i64 pv, .slice a' ins.length ca', .slice b' plain.length cb', .int .i64 ac] 26 := blk_new _ _ (by simp)
  have q1 : (pv != pv) = false := by simp
  have q2 : (ac != ac) = false := by simp
  have HE1 := Lib.hid hE1; have HE2 := Lib.hid hE2; have HB := Lib.hid hb0; have G0 := Lib.hid g0; have G1 := Lib.hid g1
  clear hE1 hE2 hb0 g0 g1 hi hp hi' hp'
  go_enter Try.func29, Try.ntmps29
  go_wp2_with fail
  refine (HE1.out _ HB.out).mono ?_
  rintro e w1 ⟨rfl, h1⟩
  have H1 := Lib.hid (HB.out.trans (h1.mono HB.out.size)); have G0' := Lib.hid (G0.out.after h1); have G1' := Lib.hid (G1.out.after h1)
  clear h1
  have c0 := G0'.out.cell 2
  have c1 := G1'.out.cell 2
  go_wp2_with fail
  refine (HE2.out _ H1.out).mono ?_
  rintro e w2 ⟨rfl, h2⟩
  have H2 := Lib.hid (H1.out.trans (h2.mono H1.out.size)); have c2 := (G0'.out.after h2).cell 3; have c3 := (G1'.out.after h2).cell 3
  clear h2 c0 c1
  go_wp2_with fail
  go_ret
  exact ⟨rfl, H2.out⟩

def markPt (k : Int) (p : Pt) : Pt := ⟨p.pvid, markIs k p.ins.length, markIs (k + p.ins.length) p.plain.length, p.acc⟩
theorem markIs_fits (k : Int) (n : Nat) (h0 : 0 ≤ k) (h1 : k + (n : Int) ≤ 1152921504606846976) : ∀ x ∈ markIs k n, wf64 x := by
  intro x hx
  obtain ⟨j, hj, rfl⟩ := List.getElem_of_mem hx
  rw [markIs_get]
  rw [markIs_len] at hj
  exact WalkArith.wf_i64 ⟨by omega, by omega⟩
set_option maxRecDepth 20000 in
theorem markPort_in {w : World} {D : List Nat} {v : Value} {p : Pt} (h : PIn w D v p) (k : Int) (h0 : 0 ≤ k) (h1 : k ≤ 1000000) :
    Calls Try.prog 34 #[v, .int .i64 k] w fun e w' => e = .returned (.int .i64 (k + p.ins.length + p.plain.length)) ∧ Turned D w w' ∧ PIn w' D v (markPt k p) := by
  obtain ⟨B, C, rfl, ⟨a, ca, b, cb, rfl, hi, hp, ⟨rfl, hca⟩, ⟨rfl, hcb⟩, hli, hlp, hf⟩, hd⟩ := h
  obtain ⟨pv, ins, plain, ac⟩ := p
  simp only at hi hp hli hlp hca hcb hd ⊢
  obtain ⟨n, hn⟩ : ∃ n, ins.length = n := ⟨_, rfl⟩
  obtain ⟨m, hm⟩ : ∃ m, plain.length = m := ⟨_, rfl⟩
  rw [hn, hm] at hd ⊢
  rw [hn] at hli hca
  rw [hm] at hlp hcb
  have hlb := hi.lt_blk
  have hlc := hp.lt_blk
  rw [hn] at hlb
  rw [hm] at hlc
  unfold ptVal
  have hb0 : Below w.heap.size w (w.alloc (.cells #[.int .i64 pv, .slice a n ca, .slice b m cb, .int .i64 ac] 26)) := (Below.refl _ _).alloc (Nat.le_refl _) _
  have g0 : Blk (w.alloc (.cells #[.int .i64 pv, .slice a n ca, .slice b m cb, .int .i64 ac] 26)) w.heap.size #[.int .i64 pv, .slice a n ca, .slice b m cb, .int .i64 ac] 26 := blk_new _ _ rfl
  have hM1 := markIntS_any ins a n ca k _ hn (hi.after hb0) hli h0 (by omega)
  have hM2 := fun w' (hs : SlIn kdI w' b plain) => markIntS_any plain b m cb (k + n) w' hm hs hlp (by omega) (by omega)
  have HM1 := Lib.hid hM1; have HM2 := Lib.hid hM2; have HB := Lib.hid hb0; have G0 := Lib.hid g0; have HP := Lib.hid (hp.after hb0); have HD := Lib.hid hd; have HLB := Lib.hid hlb; have HLC := Lib.hid hlc; have HF := Lib.hid hf; have HN := Lib.hid hn; have HM := Lib.hid hm
  clear hM1 hM2 hb0 g0 hi hp hd hlb hlc hf hn hm
  go_enter Try.func34, Try.ntmps34
  go_wp2_with fail
  refine HM1.out.mono ?_
  rintro e w1 ⟨rfl, hT1, hs1⟩
  have hP1 : SlIn kdI w1 b plain := HP.out.keep_blk fun x hx => by
    rw [HM.out] at hx
    exact hT1.block x (Nat.lt_of_lt_of_le (HLC.out x hx) HB.out.size) (fun hx2 => HD.out x hx2 hx)
  have hG1 : Blk w1 w.heap.size #[.int .i64 pv, .slice a n ca, .slice b m cb, .int .i64 ac] 26 := G0.out.turned hT1 (fun hx => by have := HLB.out _ hx; omega)
  have HT1 := Lib.hid hT1; have HS1 := Lib.hid hs1; have HP1 := Lib.hid hP1
  have c2 := hG1.cell 2
  clear hT1 hs1 hP1 hG1
  go_wp2_with fail
  refine (HM2.out _ HP1.out).mono ?_
  rintro e w2 ⟨rfl, hT2, hs2⟩
  have hz1 := HT1.out.size
  have hsb := HB.out.size
  have hs1' : SlIn kdI w2 a (markIs k n) := HS1.out.keep_blk fun x hx => by
    rw [markIs_len] at hx
    exact hT2.block x (Nat.lt_of_lt_of_le (HLB.out x hx) (by omega)) (fun hx2 => HD.out x hx hx2)
  have hTT : Turned (blkN a n ++ blkN b m) w w2 := by
    have e1 : Turned (blkN a n ++ blkN b m) w w1 := (Turned.of_below HB.out).trans1 (HT1.out.wide (fun x hx => List.mem_append.2 (Or.inl hx)))
    exact e1.trans1 (hT2.wide (fun x hx => List.mem_append.2 (Or.inr hx)))
  have HTT := Lib.hid hTT; have HS2 := Lib.hid hs2; have HS1' := Lib.hid hs1'
  clear hTT hs2 hs1' hT2 c2 hz1 hsb
  go_wp2_with fail
  go_ret
  refine ⟨rfl, HTT.out, _, _, rfl, ⟨a, ca, b, cb, ?_, ?_, ?_, ?_, ?_, ?_, ?_, ?_⟩, HD.out⟩
  · simp only [markPt, markIs_len, ptVal, HN.out, HM.out]
  · simp only [markPt, HN.out]; exact HS1'.out
  · simp only [markPt, HN.out, HM.out]; exact HS2.out
  · simp only [markPt, markIs_len, HN.out]; exact ⟨trivial, hca⟩
  · simp only [markPt, markIs_len, HN.out, HM.out]; exact ⟨trivial, hcb⟩
  · simp only [markPt, markIs_len, HN.out]; exact hli
  · simp only [markPt, markIs_len, HN.out, HM.out]; exact hlp
  · refine ⟨HF.out.1, ?_, ?_, HF.out.2.2.2⟩
    · simp only [markPt, HN.out]; exact markIs_fits k n h0 (by omega)
    · simp only [markPt, HN.out, HM.out]; exact markIs_fits (k + n) m (by omega) (by omega)

set_option maxRecDepth 20000 in
theorem heldPort_in {w : World} {D : List Nat} {v : Value} {p : Pt} (k : Int) (h : PIn w D v (markPt k p)) (h0 : 0 ≤ k) (h1 : k ≤ 1000000) :
    Calls Try.prog 35 #[v, .int .i64 k] w fun e w' => e = .returned (.int .i64 (k + p.ins.length + p.plain.length)) ∧ Below w.heap.size w w' := by
  obtain ⟨B, C, rfl, ⟨a, ca, b, cb, rfl, hi, hp, _, _, hli, hlp, _⟩, _⟩ := h
  obtain ⟨pv, ins, plain, ac⟩ := p
  simp only [markPt, markIs_len] at hi hp hli hlp ⊢
  obtain ⟨n, hn⟩ : ∃ n, ins.length = n := ⟨_, rfl⟩
  obtain ⟨m, hm⟩ : ∃ m, plain.length = m := ⟨_, rfl⟩
  rw [hn] at hi hp hli
  rw [hm] at hp hlp
  rw [hn, hm]
  unfold ptVal
  have hb0 : Below w.heap.size w (w.alloc (.cells #[.int .i64 pv, .slice a n ca, .slice b m cb, .int .i64 ac] 26)) := (Below.refl _ _).alloc (Nat.le_refl _) _
  have hH1 := fun w' (h : Below w.heap.size w w') => heldIntS_any a n ca k w' (hi.after h) hli h0 (by omega)
  have hH2 := fun w' (h : Below w.heap.size w w') => heldIntS_any b m cb (k + n) w' (hp.after h) hlp (by omega) (by omega)
  have hq1 : ¬ (k + (n : Int) < 0) := by omega
  have hq2 : ¬ (k + (n : Int) + m < 0) := by omega
  have HH1 := Lib.hid hH1; have HH2 := Lib.hid hH2; have HB := Lib.hid hb0
  clear hH1 hH2 hb0 hi hp hn hm
  go_enter Try.func35, Try.ntmps35
  go_wp2_with fail
  refine (HH1.out _ HB.out).mono ?_
  rintro e w1 ⟨rfl, rfl⟩
  go_wp2_with fail
  refine (HH2.out _ HB.out).mono ?_
  rintro e w1 ⟨rfl, rfl⟩
  go_wp2_with fail
  go_ret
  exact ⟨rfl, HB.out⟩

set_option linter.unusedSimpArgs false in
set_option maxRecDepth 20000 in
set_option maxHeartbeats 1000000 in
theorem toPort_in {v : Value} {p : Pt} {w : World} (h : PortArg w v p) (hsz : p.ins.length + p.plain.length ≤ 1048576) : Calls Try.prog 28 #[v] w (GotP w p) := by
  obtain ⟨a, ca, b, cb, rfl, hi, hp, hf⟩ := h
  obtain ⟨pv, ins, plain, ac⟩ := p
  simp only at hi hp hsz ⊢
  obtain ⟨n, hn⟩ : ∃ n, ins.length = n := ⟨_, rfl⟩
  obtain ⟨m, hm⟩ : ∃ m, plain.length = m := ⟨_, rfl⟩
  rw [hn, hm] at hsz ⊢
  have hT1 := fun w' (h : Below w.heap.size w w') => toIntS_any ins a n ca w' hn (hi.after h) (by omega)
  have hT2 := fun w' (h : Below w.heap.size w w') => toIntS_any plain b m cb w' hm (hp.after h) (by omega)
  unfold ptVal
  have hb0 : Below w.heap.size w (((w.alloc (.cells #[.int .i64 pv, .slice a n ca, .slice b m cb, .int .i64 ac] 44)).alloc (.cells #[.int .i64 0, .slice none 0 0, .slice none 0 0, .int .i64 0] 26)).alloc (.cells #[.int .i64 pv, .slice none 0 0, .slice none 0 0, .int .i64 0] 26)) := (((Below.refl _ _).alloc (Nat.le_refl _) _).alloc (by simp) _).alloc (by simp; omega) _
  have gA : Blk (((w.alloc (.cells #[.int .i64 pv, .slice a n ca, .slice b m cb, .int .i64 ac] 44)).alloc (.cells #[.int .i64 0, .slice none 0 0, .slice none 0 0, .int .i64 0] 26)).alloc (.cells #[.int .i64 pv, .slice none 0 0, .slice none 0 0, .int .i64 0] 26)) w.heap.size #[.int .i64 pv, .slice a n ca, .slice b m cb, .int .i64 ac] 44 := ((blk_new _ _ rfl).alloc _).alloc _
  have gR : Blk (((w.alloc (.cells #[.int .i64 pv, .slice a n ca, .slice b m cb, .int .i64 ac] 44)).alloc (.cells #[.int .i64 0, .slice none 0 0, .slice none 0 0, .int .i64 0] 26)).alloc (.cells #[.int .i64 pv, .slice none 0 0, .slice none 0 0, .int .i64 0] 26)) (w.heap.size + 1) #[.int .i64 0, .slice none 0 0, .slice none 0 0, .int .i64 0] 26 := (blk_new _ _ (by simp)).alloc _
  have gO : Blk (((w.alloc (.cells #[.int .i64 pv, .slice a n ca, .slice b m cb, .int .i64 ac] 44)).alloc (.cells #[.int .i64 0, .slice none 0 0, .slice none 0 0, .int .i64 0] 26)).alloc (.cells #[.int .i64 pv, .slice none 0 0, .slice none 0 0, .int .i64 0] 26)) (w.heap.size + 1 + 1) #[.int .i64 pv, .slice none 0 0, .slice none 0 0, .int .i64 0] 26 := blk_new _ _ (by simp)
  have HT1 := Lib.hid hT1; have HT2 := Lib.hid hT2; have HF := Lib.hid hf; have HN := Lib.hid hn; have HM := Lib.hid hm
  clear hT1 hT2 hi hp hf hn hm
  go_enter Try.func28, Try.ntmps28
  go_wp2_with fail
  generalize ((w.alloc (.cells #[.int .i64 pv, .slice a n ca, .slice b m cb, .int .i64 ac] 44)).alloc (.cells #[.int .i64 0, .slice none 0 0, .slice none 0 0, .int .i64 0] 26)).alloc (.cells #[.int .i64 pv, .slice none 0 0, .slice none 0 0, .int .i64 0] 26) = w3 at hb0 gA gR gO ⊢
  refine (HT1.out _ hb0).mono ?_
  rintro e w4 ⟨rfl, hs1, h4, hl4⟩
  have hl0 := gO.lt
  have gA4 := gA.after h4
  have gR4 := gR.after h4
  have gO4 := gO.after h4
  have hb4 := hb0.trans (h4.mono hb0.size)
  have hz4 := h4.size
  have hb0' := hb0.size
  clear gA gR gO h4 hb0
  obtain ⟨s1, hs⟩ : ∃ s, w3.heap.size = s := ⟨_, rfl⟩
  rw [hs] at hs1 hl4 hl0 hz4 hb0' ⊢
  clear hs
  have hs1' : SlIn kdI (w4.setCell ⟨w.heap.size + 1 + 1, 1, none⟩ (.slice (some ⟨s1, 0, none⟩) n n)) (some ⟨s1, 0, none⟩) ins := hs1.turned (B := [w.heap.size + 1 + 1]) ((Turned.refl _ w4).setCell (by simp) _) (fun x hx _ hm => by cases hx; simp at hm; omega)
  have HA5 := Lib.hid (gA4.other (j := 1) (g := w.heap.size + 1 + 1) (by omega) (.slice (some ⟨s1, 0, none⟩) n n)); have HR5 := Lib.hid (gR4.other (j := 1) (g := w.heap.size + 1 + 1) (by omega) (.slice (some ⟨s1, 0, none⟩) n n)); have HO5 := Lib.hid (gO4.set 1 (.slice (some ⟨s1, 0, none⟩) n n)); have HB5 := Lib.hid (hb4.setCell (p := ⟨w.heap.size + 1 + 1, 1, none⟩) (by simp <;> omega) (.slice (some ⟨s1, 0, none⟩) n n)); have HS5 := Lib.hid hs1'; have HZ5 := Lib.hid (show (w4.setCell ⟨w.heap.size + 1 + 1, 1, none⟩ (.slice (some ⟨s1, 0, none⟩) n n)).heap.size = w4.heap.size by simp [World.setCell]); have HL4 := Lib.hid hl4; have HL0 := Lib.hid hl0; have HZ4 := Lib.hid hz4; have HB0 := Lib.hid hb0'
  have c0 : w4.cell? ⟨w.heap.size + 1 + 1, 0, none⟩ = some (.int .i64 pv) := gO4.cell 0
  have c1 : w4.cell? ⟨w.heap.size + 1 + 1, 1, none⟩ = some (.slice none 0 0) := gO4.cell 1
  have c2 : w4.cell? ⟨w.heap.size + 1 + 1, 2, none⟩ = some (.slice none 0 0) := gO4.cell 2
  have c3 : w4.cell? ⟨w.heap.size + 1 + 1, 3, none⟩ = some (.int .i64 0) := gO4.cell 3
  have d0 : w4.cell? ⟨w.heap.size, 0, none⟩ = some (.int .i64 pv) := gA4.cell 0
  have d1 : w4.cell? ⟨w.heap.size, 1, none⟩ = some (.slice a n ca) := gA4.cell 1
  have d2 : w4.cell? ⟨w.heap.size, 2, none⟩ = some (.slice b m cb) := gA4.cell 2
  have d3 : w4.cell? ⟨w.heap.size, 3, none⟩ = some (.int .i64 ac) := gA4.cell 3
  have zo := gO4.frozen
  have yo := gO4.shape
  have lo := gO4.lt
  have la := gA4.lt
  clear gA4 gR4 gO4 hb4 hs1 hs1' hl4 hl0 hz4 hb0'
  go_wp2_with fail
  clear c0 c1 c2 c3 d0 d1 d2 d3 zo yo lo la
  generalize w4.setCell ⟨w.heap.size + 1 + 1, 1, none⟩ (.slice (some ⟨s1, 0, none⟩) n n) = w5 at HA5 HR5 HO5 HB5 HS5 HZ5 ⊢
  refine (HT2.out _ HB5.out).mono ?_
  rintro e w6 ⟨rfl, hs2, h6, hl6⟩
  have gA6 := HA5.out.after h6
  have gR6 := HR5.out.after h6
  have gO6 := HO5.out.after h6
  have hb6 := HB5.out.trans (h6.mono HB5.out.size)
  have hs1 := HS5.out.after h6
  have hz6 := h6.size
  have hz5 := HZ5.out
  have hl0 := HL0.out
  have hz4 := HZ4.out
  have hb0 := HB0.out
  obtain ⟨s2, hs⟩ : ∃ s, w5.heap.size = s := ⟨_, rfl⟩
  rw [hs] at hs2 hl6 hz6 hz5 ⊢
  clear hs h6
  have HX := Lib.hid ((((((gR6.other (j := 2) (g := w.heap.size + 1 + 1) (by omega) (.slice (some ⟨s2, 0, none⟩) m m)).other (j := 3) (g := w.heap.size + 1 + 1) (by omega) (.int .i64 ac)).set 0 (.int .i64 pv)).set 1 (.slice (some ⟨s1, 0, none⟩) n n)).set 2 (.slice (some ⟨s2, 0, none⟩) m m)).set 3 (.int .i64 ac))
  have HT := Lib.hid (((((((Turned.refl [w.heap.size + 1 + 1, w.heap.size + 1] w6).setCell (p := ⟨w.heap.size + 1 + 1, 2, none⟩) (by simp) (.slice (some ⟨s2, 0, none⟩) m m)).setCell (p := ⟨w.heap.size + 1 + 1, 3, none⟩) (by simp) (.int .i64 ac)).setCell (p := ⟨w.heap.size + 1, 0, none⟩) (by simp) (.int .i64 pv)).setCell (p := ⟨w.heap.size + 1, 1, none⟩) (by simp) (.slice (some ⟨s1, 0, none⟩) n n)).setCell (p := ⟨w.heap.size + 1, 2, none⟩) (by simp) (.slice (some ⟨s2, 0, none⟩) m m)).setCell (p := ⟨w.heap.size + 1, 3, none⟩) (by simp) (.int .i64 ac))
  have HBX := Lib.hid ((((((hb6.setCell (p := ⟨w.heap.size + 1 + 1, 2, none⟩) (by simp <;> omega) (.slice (some ⟨s2, 0, none⟩) m m)).setCell (p := ⟨w.heap.size + 1 + 1, 3, none⟩) (by simp <;> omega) (.int .i64 ac)).setCell (p := ⟨w.heap.size + 1, 0, none⟩) (by simp <;> omega) (.int .i64 pv)).setCell (p := ⟨w.heap.size + 1, 1, none⟩) (by simp <;> omega) (.slice (some ⟨s1, 0, none⟩) n n)).setCell (p := ⟨w.heap.size + 1, 2, none⟩) (by simp <;> omega) (.slice (some ⟨s2, 0, none⟩) m m)).setCell (p := ⟨w.heap.size + 1, 3, none⟩) (by simp <;> omega) (.int .i64 ac))
  have c0 : w6.cell? ⟨w.heap.size + 1 + 1, 0, none⟩ = some (.int .i64 pv) := gO6.cell 0
  have c1 : w6.cell? ⟨w.heap.size + 1 + 1, 1, none⟩ = some (.slice (some ⟨s1, 0, none⟩) n n) := gO6.cell 1
  have c2 : w6.cell? ⟨w.heap.size + 1 + 1, 2, none⟩ = some (.slice none 0 0) := gO6.cell 2
  have c3 : w6.cell? ⟨w.heap.size + 1 + 1, 3, none⟩ = some (.int .i64 0) := gO6.cell 3
  have d0 : w6.cell? ⟨w.heap.size, 0, none⟩ = some (.int .i64 pv) := gA6.cell 0
  have d1 : w6.cell? ⟨w.heap.size, 1, none⟩ = some (.slice a n ca) := gA6.cell 1
  have d2 : w6.cell? ⟨w.heap.size, 2, none⟩ = some (.slice b m cb) := gA6.cell 2
  have d3 : w6.cell? ⟨w.heap.size, 3, none⟩ = some (.int .i64 ac) := gA6.cell 3
  have t0 : w6.cell? ⟨w.heap.size + 1, 0, none⟩ = some (.int .i64 0) := gR6.cell 0
  have t1 : w6.cell? ⟨w.heap.size + 1, 1, none⟩ = some (.slice none 0 0) := gR6.cell 1
  have t2 : w6.cell? ⟨w.heap.size + 1, 2, none⟩ = some (.slice none 0 0) := gR6.cell 2
  have t3 : w6.cell? ⟨w.heap.size + 1, 3, none⟩ = some (.int .i64 0) := gR6.cell 3
  have zo := gO6.frozen
  have yo := gO6.shape
  have lo := gO6.lt
  have zrr := gR6.frozen
  have yrr := gR6.shape
  have lrr := gR6.lt
  have la := gA6.lt
  have HS1 := Lib.hid hs1; have HS2 := Lib.hid hs2; have HF1 := Lib.hid (And.intro hl0 (And.intro hz4 (And.intro hz5 (And.intro hz6 hb0)))); have HL6 := Lib.hid hl6
  clear gA6 gR6 gO6 hb6 hs1 hs2 hl0 hz4 hz5 hz6 hb0 hl6
  go_wp2_with fail
  have r0 := HX.out.cell 0
  have r1 := HX.out.cell 1
  have r2 := HX.out.cell 2
  have r3 := HX.out.cell 3
  have hT := HT.out
  have hbx := HBX.out
  generalize (((((w6.setCell ⟨w.heap.size + 1 + 1, 2, none⟩ (.slice (some ⟨s2, 0, none⟩) m m)).setCell ⟨w.heap.size + 1 + 1, 3, none⟩ (.int .i64 ac)).setCell ⟨w.heap.size + 1, 0, none⟩ (.int .i64 pv)).setCell ⟨w.heap.size + 1, 1, none⟩ (.slice (some ⟨s1, 0, none⟩) n n)).setCell ⟨w.heap.size + 1, 2, none⟩ (.slice (some ⟨s2, 0, none⟩) m m)).setCell ⟨w.heap.size + 1, 3, none⟩ (.int .i64 ac) = X at r0 r1 r2 r3 hT hbx ⊢
  replace r0 : X.cell? ⟨w.heap.size + 1, 0, none⟩ = some (.int .i64 pv) := r0
  replace r1 : X.cell? ⟨w.heap.size + 1, 1, none⟩ = some (.slice (some ⟨s1, 0, none⟩) n n) := r1
  replace r2 : X.cell? ⟨w.heap.size + 1, 2, none⟩ = some (.slice (some ⟨s2, 0, none⟩) m m) := r2
  replace r3 : X.cell? ⟨w.heap.size + 1, 3, none⟩ = some (.int .i64 ac) := r3
  refine bodyPost_ret (v := .agg #[.int .i64 pv, .slice (some ⟨s1, 0, none⟩) n n, .slice (some ⟨s2, 0, none⟩) m m, .int .i64 ac]) (by simp [results, Try.results28, go_sem, r0, r1, r2, r3]) rfl ?_
  obtain ⟨q0, q1, q2, q3, q4⟩ := HF1.out
  have hk1 : SlIn kdI X (some ⟨s1, 0, none⟩) ins := HS1.out.turned hT (fun x hx _ hm => by cases hx; simp at hm; omega)
  have hk2 : SlIn kdI X (some ⟨s2, 0, none⟩) plain := HS2.out.turned hT (fun x hx _ hm => by cases hx; simp at hm; omega)
  have hbn : ∀ (s k x : Nat), x ∈ blkN (some ⟨s, 0, none⟩) k → x = s ∧ k ≠ 0 := by
    intro s k x hx
    unfold blkN at hx
    split at hx
    · cases hx
    · rename_i h0
      simp [blkOf] at hx
      exact ⟨hx, h0⟩
  refine ⟨blkN (some ⟨s1, 0, none⟩) n ++ blkN (some ⟨s2, 0, none⟩) m, pv, _, n, n, _, m, m, ac, rfl, ⟨_, _, rfl, ⟨_, n, _, m, ?_, hk1, hk2, ⟨?_, ?_⟩, ⟨?_, ?_⟩, ?_, ?_, HF.out⟩, fun x hx hy => ?_⟩, fun x hx => ?_, hbx⟩
  · simp only [ptVal, HN.out, HM.out]
  · rw [HN.out]
  · rw [HN.out]; exact Nat.le_refl _
  · rw [HM.out]
  · rw [HM.out]; exact Nat.le_refl _
  · rw [HN.out]; omega
  · rw [HM.out]; omega
  · obtain ⟨rfl, h0⟩ := hbn _ _ _ hx
    obtain ⟨h1, _⟩ := hbn _ _ _ hy
    have := HL4.out h0
    omega
  · rcases List.mem_append.1 hx with hx | hx
    · obtain ⟨rfl, _⟩ := hbn _ _ _ hx; omega
    · obtain ⟨rfl, _⟩ := hbn _ _ _ hx; omega
end Go.Proofs.Ytfkpecildcejkaa
