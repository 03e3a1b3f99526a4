/- The draw of a port, not right sometimes. -/
import Derived.Test.YtfkpecildcejkaaDrMk
namespace Go.Proofs.Ytfkpecildcejkaa
open Go.RowKit

/-- a port lies in block bp, the list of its nets is the call's own; the result's block is w.heap.size -/
def QSt (B c len : Nat) (w : World) (bp : Nat) (wi : World) (p : Pt) (a : Option Addr) (ca : Nat) (e : Option Addr) (cb : Nat) : Prop :=
  Blk wi bp #[.int .i64 p.pvid, .slice a p.ins.length ca, .slice e p.plain.length cb, .int .i64 p.acc] 26 ∧ OwnI wi (w.heap.size + 1) (.slice a p.ins.length ca) p.ins ∧
  (SlIn kdI wi e p.plain ∧ (∀ b ∈ blkN e p.plain.length, w.heap.size < b ∧ b ≠ bp) ∧ p.plain.length ≤ cb) ∧
  (p.ins.length ≤ 1001 ∧ p.plain.length ≤ 1001 ∧ p.fits) ∧ Blk wi w.heap.size #[.int .i64 0, .slice none 0 0, .slice none 0 0, .int .i64 0] 26 ∧ Cur B c len wi ∧ w.grownBy wi (some c) ∧ w.heap.size < bp ∧ c < w.heap.size ∧ Apart bp (.slice a p.ins.length ca)
/-- a port is drawn, right or not -/
def DrawnQ (B c len : Nat) (w : World) (e : Ending) (w' : World) : Prop := ∃ (C D : List Nat) (p : Pt) (a : Option Addr) (ca : Nat) (b : Option Addr) (cb : Nat), e = .returned (ptVal p.pvid a p.ins.length ca b p.plain.length cb p.acc) ∧
  PortIn w' C D (ptVal p.pvid a p.ins.length ca b p.plain.length cb p.acc) p ∧ (∀ x ∈ C, w.heap.size ≤ x) ∧ (∀ x ∈ D, w.heap.size ≤ x) ∧ Cur B c len w' ∧ w.grownBy w' (some c)
theorem blkN_own {W : World} {k : Nat} {a : Option Addr} {ca : Nat} {xs : List Int} (h : OwnI W k (.slice a xs.length ca) xs) : ∀ b ∈ blkN a xs.length, (Value.slice a xs.length ca).ownBlock = some b := by
  intro b hb
  obtain ⟨y, rfl, rfl⟩ := mem_blkN hb
  rcases h.2 with ⟨h0, _⟩ | ⟨g, cap, cur, h0, _⟩
  · cases h0
  · cases h0; rfl
section
variable {B c len : Nat} {w : World} {bp : Nat} {wi : World} {p : Pt} {a e : Option Addr} {ca cb : Nat}
theorem PSt.q (h : PSt B c len w bp wi p a ca e cb) : QSt B c len w bp wi p a ca e cb ∧ ∀ b ∈ blkN e p.plain.length, Apart b (.slice a p.ins.length ca) := by
  obtain ⟨h1, h2, h3, h4, h5, h6, h7, h8, h9, n1, n2, n3⟩ := h
  obtain ⟨a2, c2, e2, s2, g2, l2, m2⟩ := ownI_slin h3
  cases e2
  have hbo := blkN_own h3
  exact ⟨⟨h1, h2, ⟨s2, fun b hb => ⟨(World.ownsRow.lt h3 b (hbo b hb)).1, n2 b (hbo b hb)⟩, m2⟩, ⟨by omega, by omega, h4.2.2⟩, h5, h6, h7, h8, h9, n1⟩, fun b hb g hg => n3 g b hg (hbo b hb)⟩
theorem QSt.cur (h : QSt B c len w bp wi p a ca e cb) : Cur B c len wi := h.2.2.2.2.2.1
theorem QSt.call {w1 : World} (h : QSt B c len w bp wi p a ca e cb) (hc : Cur B c len w1) (hg : wi.grownBy w1 (some c)) : QSt B c len w bp w1 p a ca e cb := by
  obtain ⟨h1, h2, ⟨h3, hb, hm⟩, h4, h5, h6, h7, h8, h9, n1⟩ := h
  have hne : ∀ x, c < x → some x ≠ some c := fun x hx e => by have e1 : x = c := Option.some.inj e; omega
  exact ⟨(hg.block _ h1.lt (hne _ (by omega))).trans h1, own_call h2 hg (by omega), ⟨h3.keep_blk fun b hb' => hg.block b (h3.lt_blk b hb') (hne _ (by have := (hb b hb').1; omega)), hb, hm⟩, h4, (hg.block _ h5.lt (hne _ h9)).trans h5, hc, grown_trans h7 hg, h8, h9, n1⟩
theorem QSt.alloc (h : QSt B c len w bp wi p a ca e cb) (cs : Array Value) (t : TypeId) : QSt B c len w bp (wi.alloc (.cells cs t)) p a ca e cb := h.call (cur_alloc h.cur _ _) (World.grownBy_alloc _ _ _)
theorem QSt.drew (h : QSt B c len w bp wi p a ca e cb) : QSt B c len w bp wi.drew p a ca e cb :=
  ⟨h.1, h.2.1, h.2.2.1, h.2.2.2.1, h.2.2.2.2.1, h.2.2.2.2.2.1, ⟨h.2.2.2.2.2.2.1.os, h.2.2.2.2.2.2.1.tape, h.2.2.2.2.2.2.1.output, h.2.2.2.2.2.2.1.size, h.2.2.2.2.2.2.1.block⟩, h.2.2.2.2.2.2.2⟩
/-- a cell of the port is stored: a number -/
theorem QSt.pvid (h : QSt B c len w bp wi p a ca e cb) (z : Int) (hz : wf64 z) : QSt B c len w bp (wi.setCell ⟨bp, 0, none⟩ (.int .i64 z)) ⟨z, p.ins, p.plain, p.acc⟩ a ca e cb := by
  obtain ⟨h1, h2, ⟨h3, hb, hm⟩, h4, h5, h6, h7, h8, h9, n1⟩ := h
  have hT : Turned [bp] wi (wi.setCell ⟨bp, 0, none⟩ (.int .i64 z)) := (Turned.refl _ _).setCell (p := ⟨bp, 0, none⟩) (by simp) _
  exact ⟨h1.set 0 _, own_apart h2 hT n1, ⟨h3.keep_blk fun b hb' => hT.block b (h3.lt_blk b hb') (by simp only [List.mem_singleton]; exact (hb b hb').2), hb, hm⟩, ⟨h4.1, h4.2.1, hz, h4.2.2.2⟩, h5.other (by omega) _, cur_store h6 (by omega) _, grown_store h7 (by omega) _, h8, h9, n1⟩
theorem QSt.acc (h : QSt B c len w bp wi p a ca e cb) (z : Int) (hz : wf64 z) : QSt B c len w bp (wi.setCell ⟨bp, 3, none⟩ (.int .i64 z)) ⟨p.pvid, p.ins, p.plain, z⟩ a ca e cb := by
  obtain ⟨h1, h2, ⟨h3, hb, hm⟩, h4, h5, h6, h7, h8, h9, n1⟩ := h
  have hT : Turned [bp] wi (wi.setCell ⟨bp, 3, none⟩ (.int .i64 z)) := (Turned.refl _ _).setCell (p := ⟨bp, 3, none⟩) (by simp) _
  exact ⟨h1.set 3 _, own_apart h2 hT n1, ⟨h3.keep_blk fun b hb' => hT.block b (h3.lt_blk b hb') (by simp only [List.mem_singleton]; exact (hb b hb').2), hb, hm⟩, ⟨h4.1, h4.2.1, h4.2.2.1, h4.2.2.2.1, h4.2.2.2.2.1, hz⟩, h5.other (by omega) _, cur_store h6 (by omega) _, grown_store h7 (by omega) _, h8, h9, n1⟩
/-- .. the nets -/
theorem QSt.ins {q : List Int} {b' : Option Addr} {cq : Nat} (h : QSt B c len w bp wi p a ca e cb) (ho : OwnI wi (w.heap.size + 1) (.slice b' q.length cq) q) (ha : Apart bp (.slice b' q.length cq)) (hq : q.length ≤ 1001) (hf : ∀ x ∈ q, wf64 x) :
    QSt B c len w bp (wi.setCell ⟨bp, 1, none⟩ (.slice b' q.length cq)) ⟨p.pvid, q, p.plain, p.acc⟩ b' cq e cb := by
  obtain ⟨h1, h2, ⟨h3, hb, hm⟩, h4, h5, h6, h7, h8, h9, n1⟩ := h
  have hT : Turned [bp] wi (wi.setCell ⟨bp, 1, none⟩ (.slice b' q.length cq)) := (Turned.refl _ _).setCell (p := ⟨bp, 1, none⟩) (by simp) _
  exact ⟨h1.set 1 _, own_apart ho hT ha, ⟨h3.keep_blk fun b hb' => hT.block b (h3.lt_blk b hb') (by simp only [List.mem_singleton]; exact (hb b hb').2), hb, hm⟩, ⟨hq, h4.2.1, h4.2.2.1, hf, h4.2.2.2.2⟩, h5.other (by omega) _, cur_store h6 (by omega) _, grown_store h7 (by omega) _, h8, h9, ha⟩
/-- .. those that leave plain -/
theorem QSt.plain {q : List Int} {b' : Option Addr} {cq : Nat} (h : QSt B c len w bp wi p a ca e cb) (ho : SlIn kdI wi b' q) (ha : ∀ b ∈ blkN b' q.length, w.heap.size < b ∧ b ≠ bp) (hcq : q.length ≤ cq) (hq : q.length ≤ 1001) (hf : ∀ x ∈ q, wf64 x) :
    QSt B c len w bp (wi.setCell ⟨bp, 2, none⟩ (.slice b' q.length cq)) ⟨p.pvid, p.ins, q, p.acc⟩ a ca b' cq := by
  obtain ⟨h1, h2, ⟨h3, hb, hm⟩, h4, h5, h6, h7, h8, h9, n1⟩ := h
  have hT : Turned [bp] wi (wi.setCell ⟨bp, 2, none⟩ (.slice b' q.length cq)) := (Turned.refl _ _).setCell (p := ⟨bp, 2, none⟩) (by simp) _
  exact ⟨h1.set 2 _, own_apart h2 hT n1, ⟨ho.keep_blk fun b hb' => hT.block b (ho.lt_blk b hb') (by simp only [List.mem_singleton]; exact (ha b hb').2), ha, hcq⟩, ⟨h4.1, hq, h4.2.2.1, h4.2.2.2.1, hf, h4.2.2.2.2.2⟩, h5.other (by omega) _, cur_store h6 (by omega) _, grown_store h7 (by omega) _, h8, h9, n1⟩
/-- a number was appended to the nets -/
theorem QSt.appended {w9 : World} {va : Option Addr} {vc : Nat} {z : Int} (h : QSt B c len w bp wi p a ca e cb) (hz : wf64 z) (hs : ∀ b ∈ blkN e p.plain.length, Apart b (.slice a p.ins.length ca)) (hq : p.ins.length ≤ 1000)
    (ho : w9.ownsRow (w.heap.size + 1) 3 1 (.slice va (p.ins.length + 1) vc) (p.ins.length + 1) (p.ins.map (Value.int .i64) ++ [.int .i64 z])) (hg : wi.grownBy w9 (Value.slice a p.ins.length ca).ownBlock) :
    QSt B c len w bp (w9.setCell ⟨bp, 1, none⟩ (.slice va (p.ins.length + 1) vc)) ⟨p.pvid, p.ins ++ [z], p.plain, p.acc⟩ va vc e cb ∧ Blk w9 bp #[.int .i64 p.pvid, .slice a p.ins.length ca, .slice e p.plain.length cb, .int .i64 p.acc] 26 := by
  obtain ⟨h1, h2, ⟨h3, hb, hm⟩, h4, h5, h6, h7, h8, h9, n1⟩ := h
  have hown : OwnI w9 (w.heap.size + 1) (.slice va (p.ins ++ [z]).length vc) (p.ins ++ [z]) := by
    unfold OwnI
    rw [List.length_append, List.map_append]
    exact ho
  have hB9 : Blk w9 bp #[.int .i64 p.pvid, .slice a p.ins.length ca, .slice e p.plain.length cb, .int .i64 p.acc] 26 := (hg.block _ h1.lt (fun e => n1 bp e.symm rfl)).trans h1
  have hap : Apart bp (.slice va (p.ins ++ [z]).length vc) := by
    intro g hgb hgbp
    subst hgbp
    rcases hown.2 with ⟨h0, _⟩ | ⟨g2, cap, cur, h0, _, hcur, _⟩
    · rw [h0] at hgb
      cases hgb
    · simp only [Value.slice.injEq, true_and] at h0
      obtain ⟨rfl, rfl⟩ := h0
      cases hgb
      have k := hB9.symm.trans hcur
      simp only [Option.some.injEq, Obj.cells.injEq] at k
      exact absurd k.2.1 (by decide)
  have hT : Turned [bp] w9 (w9.setCell ⟨bp, 1, none⟩ (.slice va (p.ins ++ [z]).length vc)) := (Turned.refl _ _).setCell (p := ⟨bp, 1, none⟩) (by simp) _
  have hlow := World.ownsRow.lt h2
  have hcb : ∀ x, x < w.heap.size + 1 → some x ≠ (Value.slice a p.ins.length ca).ownBlock := fun x hx e => by have := (hlow x e.symm).1; omega
  have hs9 : SlIn kdI w9 e p.plain := h3.keep_blk fun b hb' => hg.block b (h3.lt_blk b hb') (fun k => hs b hb' b k.symm rfl)
  have hR9 : Blk w9 w.heap.size #[.int .i64 0, .slice none 0 0, .slice none 0 0, .int .i64 0] 26 := (hg.block _ h5.lt (hcb _ (by omega))).trans h5
  have hcur9 : Cur B c len w9 := by
    obtain ⟨zs, s, hF⟩ := curF_of h6
    exact (curF_grow hF hg (fun g e => by have := (hlow g e).1; omega)).cur
  have hgr9 : w.grownBy w9 (some c) := ⟨hg.os.trans h7.os, hg.tape.trans h7.tape, hg.output.trans h7.output, Nat.le_trans h7.size hg.size, fun k hk hn => (hg.block k (Nat.lt_of_lt_of_le hk h7.size) (hcb k (by omega))).trans (h7.block k hk hn)⟩
  have he : (p.ins ++ [z]).length = p.ins.length + 1 := by simp
  rw [he] at hT
  refine ⟨⟨by simp only [he]; exact hB9.set 1 _, own_apart hown hT hap, ⟨hs9.keep_blk fun b hb' => hT.block b (hs9.lt_blk b hb') (by simp only [List.mem_singleton]; exact (hb b hb').2), hb, hm⟩, ⟨by simp only [he]; omega, h4.2.1, h4.2.2.1, ?_, h4.2.2.2.2⟩, hR9.other (by omega) _, cur_store hcur9 (by omega) _, grown_store hgr9 (by omega) _, h8, h9, hap⟩, hB9⟩
  intro x hx
  rcases List.mem_append.1 hx with hx | hx
  · exact h4.2.2.2.1 x hx
  · rw [List.mem_singleton.1 hx]; exact hz
/-- the port is stored into the result's block -/
theorem QSt.out {cs : Array Value} (h : QSt B c len w bp wi p a ca e cb) (hcs : cs = #[.int .i64 p.pvid, .slice a p.ins.length ca, .slice e p.plain.length cb, .int .i64 p.acc]) :
    DrawnQ B c len w (.returned (.agg cs)) (wi.setRow w.heap.size cs) := by
  subst hcs
  obtain ⟨h1, h2, ⟨h3, hb, hm⟩, h4, h5, h6, h7, h8, h9, n1⟩ := h
  have hT : Turned [w.heap.size] wi (wi.setRow w.heap.size #[.int .i64 p.pvid, .slice a p.ins.length ca, .slice e p.plain.length cb, .int .i64 p.acc]) := (Turned.refl _ _).row (by simp) _
  obtain ⟨a2, c2, e2, s2, g2, l2, m2⟩ := ownI_slin (own_turned h2 hT (by simp))
  cases e2
  have hs3 := h3.keep_blk fun b hb' => hT.block b (h3.lt_blk b hb') (by simp only [List.mem_singleton]; have := (hb b hb').1; omega)
  exact ⟨_, _, p, a, ca, e, cb, rfl, ⟨a, ca, e, cb, rfl, s2, hs3, ⟨rfl, m2⟩, ⟨rfl, hm⟩, by omega, by omega, h4.2.2⟩, fun x hx => by obtain ⟨y, rfl, rfl⟩ := mem_blkN hx; have := g2 y rfl; omega, fun x hx => by have := (hb x hx).1; omega, cur_row h6 h9 _, grown_row h7 (Nat.le_refl _) _⟩
end

set_option linter.unusedSimpArgs false in
set_option maxRecDepth 20000 in
set_option maxHeartbeats 4000000 in
theorem any6_any (B c len : Nat) (w : World) (hl : len ≤ 1048576) (hc : Cur B c len w) :
    Calls Try.prog 38 #[.pointer (some ⟨c, 0, none⟩)] w (DrawnQ B c len w) := by
  have hlt := cur_lt hc
  have hlt0 := hlt
  have g1 : Blk (w.alloc (.cells #[.int .i64 0, .slice none 0 0, .slice none 0 0, .int .i64 0] 26)) w.heap.size #[.int .i64 0, .slice none 0 0, .slice none 0 0, .int .i64 0] 26 := blk_new _ _ rfl
  have G1 := Lib.hid g1
  clear g1
  go_enter Try.func38, Try.ntmps38
  go_wp2_with fail
  refine (make6_any B c len _ hl (cur_alloc hc _ _)).mono ?_
  rintro e' w1 ⟨p, a, ca, e, cb, rfl, ho1, ho2, hsp, hf, hc1, hg1⟩
  have hl1 := cur_lt hc1
  have hw1 : w.heap.size < w1.heap.size := by have := hg1.size; simp at this; omega
  have hR1 : Blk w1 w.heap.size #[.int .i64 0, .slice none 0 0, .slice none 0 0, .int .i64 0] 26 := (hg1.block _ G1.out.lt (fun e => by have e1 : w.heap.size = c := Option.some.inj e; omega)).trans G1.out
  have hsz : (w.alloc (.cells #[.int .i64 0, .slice none 0 0, .slice none 0 0, .int .i64 0] 26)).heap.size = w.heap.size + 1 := by simp
  rw [hsz] at ho1 ho2
  have hP1 : PSt B c len w w1.heap.size (w1.alloc (.cells #[.int .i64 p.pvid, .slice a p.ins.length ca, .slice e p.plain.length cb, .int .i64 p.acc] 26)) p a ca e cb :=
    ⟨blk_new _ _ rfl, World.ownsRow.alloc ho1 _, World.ownsRow.alloc ho2 _, hf, hR1.alloc _, cur_alloc hc1 _ _, grown_trans (World.grownBy_alloc _ _ _) (grown_trans hg1 (World.grownBy_alloc _ _ _)), hw1, hlt,
      fun g e => by have := (World.ownsRow.lt ho1 g e).2; omega, fun g e => by have := (World.ownsRow.lt ho2 g e).2; omega, hsp⟩
  have hlen := hf.1
  have HLEN := Lib.hid hlen
  have HP1 := Lib.hid hP1.q.1; have HSEP := Lib.hid hP1.q.2
  clear ho1 ho2 hsp hlen hf hc1 hg1 hR1 hsz hP1 G1
  go_wp2_with fail
  generalize w1.heap.size = bp at HP1 hl1 hw1 ⊢
  refine (below_any B c len 14 (by decide) (by decide) _ hl HP1.out.cur).mono ?_
  rintro e' w2 ⟨d, rfl, hd0, hd14, hc2, hg2⟩
  have HP := Lib.hid (HP1.out.call hc2 hg2)
  have HD := Lib.hid hd0
  clear hc2 hg2 hd0 HP1
  by_cases h0 : d = 0
  · subst h0
    go_wp2_with fail
    refine (pickWf (m := 3) (zs := [0, 4095, -1]) (by decide) (by decide) hl (cur_alloc HP.out.cur _ _) (by have := cur_lt HP.out.cur; omega) rfl (by decide) ?_).mono ?_
    · intro i hi
      rw [World.cell?_alloc_at (hn := by simp)]
      match i, hi with
      | 0, _ | 1, _ | 2, _ => rfl
    rintro e' w3 ⟨z, rfl, hz, hc3, hg3⟩
    have HP3 := Lib.hid (HP.out.call hc3 (grown_trans (World.grownBy_alloc _ _ _) hg3)); have HNz := Lib.hid hz
    clear hc3 hg3 hz
    have zb := HP3.out.1.frozen
    have yb := HP3.out.1.shape
    have lb := HP3.out.1.lt
    have p0 := HP3.out.1.cell 0
    have p1 := HP3.out.1.cell 1
    have p2 := HP3.out.1.cell 2
    have p3 := HP3.out.1.cell 3
    have HPF := Lib.hid (HP3.out.pvid z HNz.out)
    go_wp2_with (with_reducible refine store_here (ty := 26) rfl ?_)
    clear zb yb lb p0 p1 p2 p3
    generalize w3.setCell ⟨bp, 0, none⟩ (.int .i64 z) = w4 at HPF ⊢
    refine halt_go ?_
    refine wpList_store_row rfl 26 _ _ rfl w.heap.size #[.int .i64 z, .slice a p.ins.length ca, .slice e p.plain.length cb, .int .i64 p.acc] rfl rfl 26 #[.int .i64 0, .slice none 0 0, .slice none 0 0, .int .i64 0] HPF.out.2.2.2.2.1 sizePt rfl (by simp [Value.oneCell']) ?_
    have HG := Lib.hid (Blk.row (cs := #[.int .i64 z, .slice a p.ins.length ca, .slice e p.plain.length cb, .int .i64 p.acc]) HPF.out.2.2.2.2.1); have HQ := Lib.hid (HPF.out.out (cs := #[.int .i64 z, .slice a p.ins.length ca, .slice e p.plain.length cb, .int .i64 p.acc]) rfl)
    generalize w4.setRow w.heap.size #[.int .i64 z, .slice a p.ins.length ca, .slice e p.plain.length cb, .int .i64 p.acc] = X at HG HQ ⊢
    have r0 := HG.out.cell 0
    have r1 := HG.out.cell 1
    have r2 := HG.out.cell 2
    have r3 := HG.out.cell 3
    go_wp2_with fail
    exact bodyPost_ret (v := .agg #[.int .i64 z, .slice a p.ins.length ca, .slice e p.plain.length cb, .int .i64 p.acc]) (by simp [results, Try.results38, go_sem, r0, r1, r2, r3]) rfl HQ.out
  by_cases h3 : d = 3
  · subst h3
    go_wp2_with fail
    refine (pickWf (m := 2) (zs := [-1, 3]) (by decide) (by decide) hl (cur_alloc HP.out.cur _ _) (by have := cur_lt HP.out.cur; omega) rfl (by decide) ?_).mono ?_
    · intro i hi
      rw [World.cell?_alloc_at (hn := by simp)]
      match i, hi with
      | 0, _ | 1, _ => rfl
    rintro e' w3 ⟨z, rfl, hz, hc3, hg3⟩
    have HP3 := Lib.hid (HP.out.call hc3 (grown_trans (World.grownBy_alloc _ _ _) hg3)); have HNz := Lib.hid hz
    clear hc3 hg3 hz
    have zb := HP3.out.1.frozen
    have yb := HP3.out.1.shape
    have lb := HP3.out.1.lt
    have p0 := HP3.out.1.cell 0
    have p1 := HP3.out.1.cell 1
    have p2 := HP3.out.1.cell 2
    have p3 := HP3.out.1.cell 3
    have HPF := Lib.hid (HP3.out.acc z HNz.out)
    go_wp2_with (with_reducible refine store_here (ty := 26) rfl ?_)
    clear zb yb lb p0 p1 p2 p3
    generalize w3.setCell ⟨bp, 3, none⟩ (.int .i64 z) = w4 at HPF ⊢
    refine halt_go ?_
    refine wpList_store_row rfl 26 _ _ rfl w.heap.size #[.int .i64 p.pvid, .slice a p.ins.length ca, .slice e p.plain.length cb, .int .i64 z] rfl rfl 26 #[.int .i64 0, .slice none 0 0, .slice none 0 0, .int .i64 0] HPF.out.2.2.2.2.1 sizePt rfl (by simp [Value.oneCell']) ?_
    have HG := Lib.hid (Blk.row (cs := #[.int .i64 p.pvid, .slice a p.ins.length ca, .slice e p.plain.length cb, .int .i64 z]) HPF.out.2.2.2.2.1); have HQ := Lib.hid (HPF.out.out (cs := #[.int .i64 p.pvid, .slice a p.ins.length ca, .slice e p.plain.length cb, .int .i64 z]) rfl)
    generalize w4.setRow w.heap.size #[.int .i64 p.pvid, .slice a p.ins.length ca, .slice e p.plain.length cb, .int .i64 z] = X at HG HQ ⊢
    have r0 := HG.out.cell 0
    have r1 := HG.out.cell 1
    have r2 := HG.out.cell 2
    have r3 := HG.out.cell 3
    go_wp2_with fail
    exact bodyPost_ret (v := .agg #[.int .i64 p.pvid, .slice a p.ins.length ca, .slice e p.plain.length cb, .int .i64 z]) (by simp [results, Try.results38, go_sem, r0, r1, r2, r3]) rfl HQ.out
  by_cases h2 : d = 2
  · subst h2
    go_wp2_with fail
    refine (pickWf (m := 3) (zs := [5, 1, 4095]) (by decide) (by decide) hl (cur_alloc HP.out.cur _ _) (by have := cur_lt HP.out.cur; omega) rfl (by decide) ?_).mono ?_
    · intro i hi
      rw [World.cell?_alloc_at (hn := by simp)]
      match i, hi with
      | 0, _ | 1, _ | 2, _ => rfl
    rintro e' w3 ⟨z, rfl, hz, hc3, hg3⟩
    have HP3 := Lib.hid (HP.out.call hc3 (grown_trans (World.grownBy_alloc _ _ _) hg3)); have HNz := Lib.hid hz
    clear hc3 hg3 hz
    have zb := HP3.out.1.frozen
    have yb := HP3.out.1.shape
    have lb := HP3.out.1.lt
    have p0 := HP3.out.1.cell 0
    have p1 := HP3.out.1.cell 1
    have p2 := HP3.out.1.cell 2
    have p3 := HP3.out.1.cell 3
    have hA := HP3.out.alloc #[.int .i64 z] 3
    have hs1 : OwnI (w3.alloc (.cells #[.int .i64 z] 3)) w3.heap.size (.slice (some ⟨w3.heap.size, 0, none⟩) [z].length 1) [z] := ⟨rfl, .inr ⟨w3.heap.size, 1, #[.int .i64 z], rfl, Nat.le_refl _, by show (w3.heap.push _)[w3.heap.size]? = _; simp, Nat.le_refl _, by decide, rfl, rfl⟩⟩
    obtain ⟨_, _, e9, s9, g9, _, _⟩ := ownI_slin hs1
    cases e9
    have hlw := HP3.out.1.lt
    have hlr := HP3.out.2.2.2.2.1.lt
    have hpl := (hA.plain (q := [z]) (cq := 1) s9 (fun b hb => by obtain ⟨y, hy, rfl⟩ := mem_blkN hb; have := g9 y hy; omega) (Nat.le_refl _) (by simp) (by intro x hx; rw [List.mem_singleton.1 hx]; exact HNz.out))
    rw [World.setCell_alloc_past (hn := hlw)] at hpl
    have HPF := Lib.hid hpl
    clear hs1 s9 g9 hA hpl
    go_wp2_with (with_reducible refine store_here (ty := 26) rfl ?_)
    clear zb yb lb p0 p1 p2 p3
    generalize (w3.setCell ⟨bp, 2, none⟩ (.slice (some ⟨w3.heap.size, 0, none⟩) 1 1)).alloc (.cells #[.int .i64 z] 3) = w4 at HPF ⊢
    refine halt_go ?_
    refine wpList_store_row rfl 26 _ _ rfl w.heap.size #[.int .i64 p.pvid, .slice a p.ins.length ca, .slice (some ⟨w3.heap.size, 0, none⟩) 1 1, .int .i64 p.acc] rfl rfl 26 #[.int .i64 0, .slice none 0 0, .slice none 0 0, .int .i64 0] HPF.out.2.2.2.2.1 sizePt rfl (by simp [Value.oneCell']) ?_
    have HG := Lib.hid (Blk.row (cs := #[.int .i64 p.pvid, .slice a p.ins.length ca, .slice (some ⟨w3.heap.size, 0, none⟩) 1 1, .int .i64 p.acc]) HPF.out.2.2.2.2.1); have HQ := Lib.hid (HPF.out.out (cs := #[.int .i64 p.pvid, .slice a p.ins.length ca, .slice (some ⟨w3.heap.size, 0, none⟩) 1 1, .int .i64 p.acc]) rfl)
    generalize w4.setRow w.heap.size #[.int .i64 p.pvid, .slice a p.ins.length ca, .slice (some ⟨w3.heap.size, 0, none⟩) 1 1, .int .i64 p.acc] = X at HG HQ ⊢
    have r0 := HG.out.cell 0
    have r1 := HG.out.cell 1
    have r2 := HG.out.cell 2
    have r3 := HG.out.cell 3
    go_wp2_with fail
    exact bodyPost_ret (v := .agg #[.int .i64 p.pvid, .slice a p.ins.length ca, .slice (some ⟨w3.heap.size, 0, none⟩) 1 1, .int .i64 p.acc]) (by simp [results, Try.results38, go_sem, r0, r1, r2, r3]) rfl HQ.out
  by_cases h1 : d = 1
  · subst h1
    obtain ⟨i0, hI0, hI1, hI2, hI3⟩ := info_parts infoI
    go_upto_region 6 with fail
    refine wp_region_held_drew (S := fun _ => True) (by kernel_rfl) (trivial) (fun hHeld => ?_)
    refine wpAnyH_take (i := 0) (v := ?v1) rfl (by kernel_rfl) (by kernel_rfl) (by kernel_rfl) (fun _ _ _ h => h) (Or.inl ⟨by rfl, ?h1⟩) hHeld ?r1
    case h1 => intro wq hS; go_simp; with_reducible rfl
    try simp only [Act.put, List.getElem_toArray, List.getElem_cons_zero, List.getElem_cons_succ, List.setIfInBounds_toArray, List.set_cons_zero, List.set_cons_succ]
    refine wpAnyH_take (i := 2) (v := ?v2) rfl (by kernel_rfl) (by kernel_rfl) (by kernel_rfl) (fun _ _ _ h => h) (Or.inl ⟨by rfl, ?h2⟩) hHeld ?r2
    case h2 => intro wq hS; go_simp; with_reducible rfl
    try simp only [Act.put, List.getElem_toArray, List.getElem_cons_zero, List.getElem_cons_succ, List.setIfInBounds_toArray, List.set_cons_zero, List.set_cons_succ]
    have p0 := HP.out.1.cell 0
    have p1 := HP.out.1.cell 1
    have p2 := HP.out.1.cell 2
    have p3 := HP.out.1.cell 3
    refine wpAnyH_ready (rs := [1, 3]) (by kernel_rfl) (by simp) ?_
    refine AllReadyH.cons rfl (fun K hK => ?_) ?_
    · go_simp
      clear p0 p1 p2 p3
      refine hK.out _ _ (trivial) (fun hHeld => ?_)
      clear hK K
      try simp only [Act.put, List.getElem_toArray, List.getElem_cons_zero, List.getElem_cons_succ, List.setIfInBounds_toArray, List.set_cons_zero, List.set_cons_succ]
      refine wpAnyH_ready (rs := [3]) (by kernel_rfl) (by simp) ?_
      refine AllReadyH.cons rfl (fun K hK => ?_) AllReadyH.nil
      go_simp
      refine hK.out _ _ (trivial) (fun hHeld => ?_)
      clear hK K
      try simp only [Act.put, List.getElem_toArray, List.getElem_cons_zero, List.getElem_cons_succ, List.setIfInBounds_toArray, List.set_cons_zero, List.set_cons_succ]
      have HPA := Lib.hid (show QSt B c len w bp (w2.alloc (.cells #[.int .i64 0, .int .i64 1, .int .i64 4094, .int .i64 4095] 3)).drew p a ca e cb from (HP.out.alloc #[.int .i64 0, .int .i64 1, .int .i64 4094, .int .i64 4095] 3).drew); have HLIT := Lib.hid (show Blk (w2.alloc (.cells #[.int .i64 0, .int .i64 1, .int .i64 4094, .int .i64 4095] 3)).drew w2.heap.size #[.int .i64 0, .int .i64 1, .int .i64 4094, .int .i64 4095] 3 from (blk_new _ _ rfl).drew)
      generalize (w2.alloc (.cells #[.int .i64 0, .int .i64 1, .int .i64 4094, .int .i64 4095] 3)).drew = wa at HPA HLIT ⊢
      refine wpAnyH_ready (rs := [4]) (by kernel_rfl) (by simp) ?_
      refine AllReadyH.cons rfl (fun K hK => ?_) AllReadyH.nil
      go_simp
      refine (pickWf (m := 4) (g := w2.heap.size) (zs := [0, 1, 4094, 4095]) (by decide) (by decide) hl HPA.out.cur (by have := cur_lt HP.out.cur; omega) rfl (by decide) (fun i hi => by rw [HLIT.out.cell]; match i, hi with | 0, _ | 1, _ | 2, _ | 3, _ => rfl)).mono ?_
      rintro e' w3 ⟨z, rfl, hz, hc3, hg3⟩
      have HP3 := Lib.hid (HPA.out.call hc3 hg3); have HNz := Lib.hid hz
      clear hz hc3 hg3
      refine hK.out _ _ (trivial) (fun hHeld => ?_)
      clear hK K
      try simp only [Act.put, List.getElem_toArray, List.getElem_cons_zero, List.getElem_cons_succ, List.setIfInBounds_toArray, List.set_cons_zero, List.set_cons_succ]
      refine wpAnyH_ready (rs := [5]) (by kernel_rfl) (by simp) ?_
      refine AllReadyH.cons rfl (fun K hK => ?_) AllReadyH.nil
      go_simp
      refine hK.out _ _ (trivial) (fun hHeld => ?_)
      clear hK K
      try simp only [Act.put, List.getElem_toArray, List.getElem_cons_zero, List.getElem_cons_succ, List.setIfInBounds_toArray, List.set_cons_zero, List.set_cons_succ]
      have hs1 : OwnI (w3.alloc (.cells #[.int .i64 z] 3)) w3.heap.size (.slice (some ⟨w3.heap.size, 0, none⟩) [z].length 1) [z] := ⟨rfl, .inr ⟨w3.heap.size, 1, #[.int .i64 z], rfl, Nat.le_refl _, by show (w3.heap.push _)[w3.heap.size]? = _; simp, Nat.le_refl _, by decide, rfl, rfl⟩⟩
      obtain ⟨_, _, e9, s9, _, _, _⟩ := ownI_slin hs1
      cases e9
      have HSRC := Lib.hid (show Src Try.prog 1 24 (.slice (some ⟨w3.heap.size, 0, none⟩) 1 1) 1 [.int .i64 z] (w3.alloc (.cells #[.int .i64 z] 3)) from src_of_ints s9 rfl); have HP5 := Lib.hid (HP3.out.alloc #[.int .i64 z] 3)
      clear hs1 s9
      generalize w3.alloc (.cells #[.int .i64 z] 3) = w5 at HSRC HP5 ⊢
      refine wpAnyH_ready (rs := [6]) (by kernel_rfl) (by simp) ?_
      refine AllReadyH.cons rfl (fun K hK => ?_) AllReadyH.nil
      refine step_append_src _ rfl (.tmp 17) (.tmp 21) 24 24 rfl (w.heap.size + 1) 3 i0 (.int .i64 0) 1 8 Try.underlying24 hI0 hI1 hI2 hI3 rfl (.slice a p.ins.length ca) p.ins.length (p.ins.map (Value.int .i64)) rfl HP5.out.2.1 (.slice (some ⟨w3.heap.size, 0, none⟩) 1 1) 1 [.int .i64 z] rfl HSRC.out (by have := HLEN.out; unfold maxLen; omega) (by have := HLEN.out; omega) (by have := HP5.out.2.2.2.2.1.lt; omega) ?_
      intro va vc w9 hown9 hgrow9
      have hap := QSt.appended HP5.out HNz.out HSEP.out HLEN.out hown9 hgrow9
      have HAP := Lib.hid hap.1; have HB9 := Lib.hid hap.2
      clear hap hown9 hgrow9
      refine hK.out _ _ (trivial) (fun hHeld => ?_)
      clear hK K
      try simp only [Act.put, List.getElem_toArray, List.getElem_cons_zero, List.getElem_cons_succ, List.setIfInBounds_toArray, List.set_cons_zero, List.set_cons_succ]
      have zb := HB9.out.frozen
      have yb := HB9.out.shape
      have lb := HB9.out.lt
      have p0 := HB9.out.cell 0
      have p1 := HB9.out.cell 1
      have p2 := HB9.out.cell 2
      have p3 := HB9.out.cell 3
      refine wpAnyH_take (i := 7) (v := ?v3) rfl (by kernel_rfl) (by kernel_rfl) (by kernel_rfl) (fun _ _ _ h => h) (Or.inl ⟨by rfl, ?h3⟩) hHeld ?r3
      case h3 => intro wq hS; go_simp; with_reducible rfl
      try simp only [Act.put, List.getElem_toArray, List.getElem_cons_zero, List.getElem_cons_succ, List.setIfInBounds_toArray, List.set_cons_zero, List.set_cons_succ]
      refine wpAnyH_ready (rs := [8]) (by kernel_rfl) (by simp) ?_
      refine AllReadyH.cons rfl (fun K hK => ?_) AllReadyH.nil
      go_simp
      refine hK.out _ _ (trivial) (fun hHeld => ?_)
      clear hK K
      try simp only [Act.put, List.getElem_toArray, List.getElem_cons_zero, List.getElem_cons_succ, List.setIfInBounds_toArray, List.set_cons_zero, List.set_cons_succ]
      clear zb yb lb p0 p1 p2 p3
      have hml : (p.ins ++ [z]).length = p.ins.length + 1 := by simp
      have hap := HAP.out
      have HAP9 := Lib.hid hap
      clear HAP hap
      generalize w9.setCell ⟨bp, 1, none⟩ (.slice va (p.ins.length + 1) vc) = w10 at HAP9 ⊢
      refine wpAnyH_done (by kernel_rfl) ?_ _
      have c0 : w10.cell? ⟨bp, 0, none⟩ = some (.int .i64 p.pvid) := HAP9.out.1.cell 0
      have c1 : w10.cell? ⟨bp, 1, none⟩ = some (.slice va (p.ins.length + 1) vc) := by have k := HAP9.out.1.cell 1; simp only [hml] at k; exact k
      have c2 : w10.cell? ⟨bp, 2, none⟩ = some (.slice e p.plain.length cb) := HAP9.out.1.cell 2
      have c3 : w10.cell? ⟨bp, 3, none⟩ = some (.int .i64 p.acc) := HAP9.out.1.cell 3
      go_wp2_with (with_reducible refine store_here (ty := 26) rfl ?_)
      clear c0 c1 c2 c3
      refine halt_go ?_
      refine wpList_store_row rfl 26 _ _ rfl w.heap.size #[.int .i64 p.pvid, .slice va (p.ins.length + 1) vc, .slice e p.plain.length cb, .int .i64 p.acc] rfl rfl 26 #[.int .i64 0, .slice none 0 0, .slice none 0 0, .int .i64 0] HAP9.out.2.2.2.2.1 sizePt rfl (by simp [Value.oneCell']) ?_
      have HG := Lib.hid (Blk.row (cs := #[.int .i64 p.pvid, .slice va (p.ins.length + 1) vc, .slice e p.plain.length cb, .int .i64 p.acc]) HAP9.out.2.2.2.2.1); have HQ := Lib.hid (HAP9.out.out (cs := #[.int .i64 p.pvid, .slice va (p.ins.length + 1) vc, .slice e p.plain.length cb, .int .i64 p.acc]) (by simp only [hml]))
      generalize w10.setRow w.heap.size #[.int .i64 p.pvid, .slice va (p.ins.length + 1) vc, .slice e p.plain.length cb, .int .i64 p.acc] = X at HG HQ ⊢
      have r0 := HG.out.cell 0
      have r1 := HG.out.cell 1
      have r2 := HG.out.cell 2
      have r3 := HG.out.cell 3
      go_wp2_with fail
      exact bodyPost_ret (v := .agg #[.int .i64 p.pvid, .slice va (p.ins.length + 1) vc, .slice e p.plain.length cb, .int .i64 p.acc]) (by simp [results, Try.results38, go_sem, r0, r1, r2, r3]) rfl HQ.out
    refine AllReadyH.cons rfl (fun K hK => ?_) AllReadyH.nil
    · go_simp
      clear p0 p1 p2 p3
      refine hK.out _ _ (trivial) (fun hHeld => ?_)
      clear hK K
      try simp only [Act.put, List.getElem_toArray, List.getElem_cons_zero, List.getElem_cons_succ, List.setIfInBounds_toArray, List.set_cons_zero, List.set_cons_succ]
      have HPA := Lib.hid (show QSt B c len w bp (w2.alloc (.cells #[.int .i64 0, .int .i64 1, .int .i64 4094, .int .i64 4095] 3)).drew p a ca e cb from (HP.out.alloc #[.int .i64 0, .int .i64 1, .int .i64 4094, .int .i64 4095] 3).drew); have HLIT := Lib.hid (show Blk (w2.alloc (.cells #[.int .i64 0, .int .i64 1, .int .i64 4094, .int .i64 4095] 3)).drew w2.heap.size #[.int .i64 0, .int .i64 1, .int .i64 4094, .int .i64 4095] 3 from (blk_new _ _ rfl).drew)
      generalize (w2.alloc (.cells #[.int .i64 0, .int .i64 1, .int .i64 4094, .int .i64 4095] 3)).drew = wa at HPA HLIT ⊢
      have p0 := HPA.out.1.cell 0
      have p1 := HPA.out.1.cell 1
      have p2 := HPA.out.1.cell 2
      have p3 := HPA.out.1.cell 3
      refine wpAnyH_ready (rs := [1, 4]) (by kernel_rfl) (by simp) ?_
      refine AllReadyH.cons rfl (fun K hK => ?_) ?_
      · go_simp
        clear p0 p1 p2 p3
        refine hK.out _ _ (trivial) (fun hHeld => ?_)
        clear hK K
        try simp only [Act.put, List.getElem_toArray, List.getElem_cons_zero, List.getElem_cons_succ, List.setIfInBounds_toArray, List.set_cons_zero, List.set_cons_succ]
        refine wpAnyH_ready (rs := [4]) (by kernel_rfl) (by simp) ?_
        refine AllReadyH.cons rfl (fun K hK => ?_) AllReadyH.nil
        go_simp
        refine (pickWf (m := 4) (g := w2.heap.size) (zs := [0, 1, 4094, 4095]) (by decide) (by decide) hl HPA.out.cur (by have := cur_lt HP.out.cur; omega) rfl (by decide) (fun i hi => by rw [HLIT.out.cell]; match i, hi with | 0, _ | 1, _ | 2, _ | 3, _ => rfl)).mono ?_
        rintro e' w3 ⟨z, rfl, hz, hc3, hg3⟩
        have HP3 := Lib.hid (HPA.out.call hc3 hg3); have HNz := Lib.hid hz
        clear hz hc3 hg3
        refine hK.out _ _ (trivial) (fun hHeld => ?_)
        clear hK K
        try simp only [Act.put, List.getElem_toArray, List.getElem_cons_zero, List.getElem_cons_succ, List.setIfInBounds_toArray, List.set_cons_zero, List.set_cons_succ]
        refine wpAnyH_ready (rs := [5]) (by kernel_rfl) (by simp) ?_
        refine AllReadyH.cons rfl (fun K hK => ?_) AllReadyH.nil
        go_simp
        refine hK.out _ _ (trivial) (fun hHeld => ?_)
        clear hK K
        try simp only [Act.put, List.getElem_toArray, List.getElem_cons_zero, List.getElem_cons_succ, List.setIfInBounds_toArray, List.set_cons_zero, List.set_cons_succ]
        have hs1 : OwnI (w3.alloc (.cells #[.int .i64 z] 3)) w3.heap.size (.slice (some ⟨w3.heap.size, 0, none⟩) [z].length 1) [z] := ⟨rfl, .inr ⟨w3.heap.size, 1, #[.int .i64 z], rfl, Nat.le_refl _, by show (w3.heap.push _)[w3.heap.size]? = _; simp, Nat.le_refl _, by decide, rfl, rfl⟩⟩
        obtain ⟨_, _, e9, s9, _, _, _⟩ := ownI_slin hs1
        cases e9
        have HSRC := Lib.hid (show Src Try.prog 1 24 (.slice (some ⟨w3.heap.size, 0, none⟩) 1 1) 1 [.int .i64 z] (w3.alloc (.cells #[.int .i64 z] 3)) from src_of_ints s9 rfl); have HP5 := Lib.hid (HP3.out.alloc #[.int .i64 z] 3)
        clear hs1 s9
        generalize w3.alloc (.cells #[.int .i64 z] 3) = w5 at HSRC HP5 ⊢
        refine wpAnyH_ready (rs := [6]) (by kernel_rfl) (by simp) ?_
        refine AllReadyH.cons rfl (fun K hK => ?_) AllReadyH.nil
        refine step_append_src _ rfl (.tmp 17) (.tmp 21) 24 24 rfl (w.heap.size + 1) 3 i0 (.int .i64 0) 1 8 Try.underlying24 hI0 hI1 hI2 hI3 rfl (.slice a p.ins.length ca) p.ins.length (p.ins.map (Value.int .i64)) rfl HP5.out.2.1 (.slice (some ⟨w3.heap.size, 0, none⟩) 1 1) 1 [.int .i64 z] rfl HSRC.out (by have := HLEN.out; unfold maxLen; omega) (by have := HLEN.out; omega) (by have := HP5.out.2.2.2.2.1.lt; omega) ?_
        intro va vc w9 hown9 hgrow9
        have hap := QSt.appended HP5.out HNz.out HSEP.out HLEN.out hown9 hgrow9
        have HAP := Lib.hid hap.1; have HB9 := Lib.hid hap.2
        clear hap hown9 hgrow9
        refine hK.out _ _ (trivial) (fun hHeld => ?_)
        clear hK K
        try simp only [Act.put, List.getElem_toArray, List.getElem_cons_zero, List.getElem_cons_succ, List.setIfInBounds_toArray, List.set_cons_zero, List.set_cons_succ]
        have zb := HB9.out.frozen
        have yb := HB9.out.shape
        have lb := HB9.out.lt
        have p0 := HB9.out.cell 0
        have p1 := HB9.out.cell 1
        have p2 := HB9.out.cell 2
        have p3 := HB9.out.cell 3
        refine wpAnyH_take (i := 7) (v := ?v4) rfl (by kernel_rfl) (by kernel_rfl) (by kernel_rfl) (fun _ _ _ h => h) (Or.inl ⟨by rfl, ?h4⟩) hHeld ?r4
        case h4 => intro wq hS; go_simp; with_reducible rfl
        try simp only [Act.put, List.getElem_toArray, List.getElem_cons_zero, List.getElem_cons_succ, List.setIfInBounds_toArray, List.set_cons_zero, List.set_cons_succ]
        refine wpAnyH_ready (rs := [8]) (by kernel_rfl) (by simp) ?_
        refine AllReadyH.cons rfl (fun K hK => ?_) AllReadyH.nil
        go_simp
        refine hK.out _ _ (trivial) (fun hHeld => ?_)
        clear hK K
        try simp only [Act.put, List.getElem_toArray, List.getElem_cons_zero, List.getElem_cons_succ, List.setIfInBounds_toArray, List.set_cons_zero, List.set_cons_succ]
        clear zb yb lb p0 p1 p2 p3
        have hml : (p.ins ++ [z]).length = p.ins.length + 1 := by simp
        have hap := HAP.out
        have HAP9 := Lib.hid hap
        clear HAP hap
        generalize w9.setCell ⟨bp, 1, none⟩ (.slice va (p.ins.length + 1) vc) = w10 at HAP9 ⊢
        refine wpAnyH_done (by kernel_rfl) ?_ _
        have c0 : w10.cell? ⟨bp, 0, none⟩ = some (.int .i64 p.pvid) := HAP9.out.1.cell 0
        have c1 : w10.cell? ⟨bp, 1, none⟩ = some (.slice va (p.ins.length + 1) vc) := by have k := HAP9.out.1.cell 1; simp only [hml] at k; exact k
        have c2 : w10.cell? ⟨bp, 2, none⟩ = some (.slice e p.plain.length cb) := HAP9.out.1.cell 2
        have c3 : w10.cell? ⟨bp, 3, none⟩ = some (.int .i64 p.acc) := HAP9.out.1.cell 3
        go_wp2_with (with_reducible refine store_here (ty := 26) rfl ?_)
        clear c0 c1 c2 c3
        refine halt_go ?_
        refine wpList_store_row rfl 26 _ _ rfl w.heap.size #[.int .i64 p.pvid, .slice va (p.ins.length + 1) vc, .slice e p.plain.length cb, .int .i64 p.acc] rfl rfl 26 #[.int .i64 0, .slice none 0 0, .slice none 0 0, .int .i64 0] HAP9.out.2.2.2.2.1 sizePt rfl (by simp [Value.oneCell']) ?_
        have HG := Lib.hid (Blk.row (cs := #[.int .i64 p.pvid, .slice va (p.ins.length + 1) vc, .slice e p.plain.length cb, .int .i64 p.acc]) HAP9.out.2.2.2.2.1); have HQ := Lib.hid (HAP9.out.out (cs := #[.int .i64 p.pvid, .slice va (p.ins.length + 1) vc, .slice e p.plain.length cb, .int .i64 p.acc]) (by simp only [hml]))
        generalize w10.setRow w.heap.size #[.int .i64 p.pvid, .slice va (p.ins.length + 1) vc, .slice e p.plain.length cb, .int .i64 p.acc] = X at HG HQ ⊢
        have r0 := HG.out.cell 0
        have r1 := HG.out.cell 1
        have r2 := HG.out.cell 2
        have r3 := HG.out.cell 3
        go_wp2_with fail
        exact bodyPost_ret (v := .agg #[.int .i64 p.pvid, .slice va (p.ins.length + 1) vc, .slice e p.plain.length cb, .int .i64 p.acc]) (by simp [results, Try.results38, go_sem, r0, r1, r2, r3]) rfl HQ.out
      refine AllReadyH.cons rfl (fun K hK => ?_) AllReadyH.nil
      · go_simp
        refine (pickWf (m := 4) (g := w2.heap.size) (zs := [0, 1, 4094, 4095]) (by decide) (by decide) hl HPA.out.cur (by have := cur_lt HP.out.cur; omega) rfl (by decide) (fun i hi => by rw [HLIT.out.cell]; match i, hi with | 0, _ | 1, _ | 2, _ | 3, _ => rfl)).mono ?_
        rintro e' w3 ⟨z, rfl, hz, hc3, hg3⟩
        have HP3 := Lib.hid (HPA.out.call hc3 hg3); have HNz := Lib.hid hz
        clear hz hc3 hg3
        clear p0 p1 p2 p3
        refine hK.out _ _ (trivial) (fun hHeld => ?_)
        clear hK K
        try simp only [Act.put, List.getElem_toArray, List.getElem_cons_zero, List.getElem_cons_succ, List.setIfInBounds_toArray, List.set_cons_zero, List.set_cons_succ]
        have p0 := HP3.out.1.cell 0
        have p1 := HP3.out.1.cell 1
        have p2 := HP3.out.1.cell 2
        have p3 := HP3.out.1.cell 3
        refine wpAnyH_ready (rs := [1, 5]) (by kernel_rfl) (by simp) ?_
        refine AllReadyH.cons rfl (fun K hK => ?_) ?_
        · go_simp
          clear p0 p1 p2 p3
          refine hK.out _ _ (trivial) (fun hHeld => ?_)
          clear hK K
          try simp only [Act.put, List.getElem_toArray, List.getElem_cons_zero, List.getElem_cons_succ, List.setIfInBounds_toArray, List.set_cons_zero, List.set_cons_succ]
          refine wpAnyH_ready (rs := [5]) (by kernel_rfl) (by simp) ?_
          refine AllReadyH.cons rfl (fun K hK => ?_) AllReadyH.nil
          go_simp
          refine hK.out _ _ (trivial) (fun hHeld => ?_)
          clear hK K
          try simp only [Act.put, List.getElem_toArray, List.getElem_cons_zero, List.getElem_cons_succ, List.setIfInBounds_toArray, List.set_cons_zero, List.set_cons_succ]
          have hs1 : OwnI (w3.alloc (.cells #[.int .i64 z] 3)) w3.heap.size (.slice (some ⟨w3.heap.size, 0, none⟩) [z].length 1) [z] := ⟨rfl, .inr ⟨w3.heap.size, 1, #[.int .i64 z], rfl, Nat.le_refl _, by show (w3.heap.push _)[w3.heap.size]? = _; simp, Nat.le_refl _, by decide, rfl, rfl⟩⟩
          obtain ⟨_, _, e9, s9, _, _, _⟩ := ownI_slin hs1
          cases e9
          have HSRC := Lib.hid (show Src Try.prog 1 24 (.slice (some ⟨w3.heap.size, 0, none⟩) 1 1) 1 [.int .i64 z] (w3.alloc (.cells #[.int .i64 z] 3)) from src_of_ints s9 rfl); have HP5 := Lib.hid (HP3.out.alloc #[.int .i64 z] 3)
          clear hs1 s9
          generalize w3.alloc (.cells #[.int .i64 z] 3) = w5 at HSRC HP5 ⊢
          refine wpAnyH_ready (rs := [6]) (by kernel_rfl) (by simp) ?_
          refine AllReadyH.cons rfl (fun K hK => ?_) AllReadyH.nil
          refine step_append_src _ rfl (.tmp 17) (.tmp 21) 24 24 rfl (w.heap.size + 1) 3 i0 (.int .i64 0) 1 8 Try.underlying24 hI0 hI1 hI2 hI3 rfl (.slice a p.ins.length ca) p.ins.length (p.ins.map (Value.int .i64)) rfl HP5.out.2.1 (.slice (some ⟨w3.heap.size, 0, none⟩) 1 1) 1 [.int .i64 z] rfl HSRC.out (by have := HLEN.out; unfold maxLen; omega) (by have := HLEN.out; omega) (by have := HP5.out.2.2.2.2.1.lt; omega) ?_
          intro va vc w9 hown9 hgrow9
          have hap := QSt.appended HP5.out HNz.out HSEP.out HLEN.out hown9 hgrow9
          have HAP := Lib.hid hap.1; have HB9 := Lib.hid hap.2
          clear hap hown9 hgrow9
          refine hK.out _ _ (trivial) (fun hHeld => ?_)
          clear hK K
          try simp only [Act.put, List.getElem_toArray, List.getElem_cons_zero, List.getElem_cons_succ, List.setIfInBounds_toArray, List.set_cons_zero, List.set_cons_succ]
          have zb := HB9.out.frozen
          have yb := HB9.out.shape
          have lb := HB9.out.lt
          have p0 := HB9.out.cell 0
          have p1 := HB9.out.cell 1
          have p2 := HB9.out.cell 2
          have p3 := HB9.out.cell 3
          refine wpAnyH_take (i := 7) (v := ?v5) rfl (by kernel_rfl) (by kernel_rfl) (by kernel_rfl) (fun _ _ _ h => h) (Or.inl ⟨by rfl, ?h5⟩) hHeld ?r5
          case h5 => intro wq hS; go_simp; with_reducible rfl
          try simp only [Act.put, List.getElem_toArray, List.getElem_cons_zero, List.getElem_cons_succ, List.setIfInBounds_toArray, List.set_cons_zero, List.set_cons_succ]
          refine wpAnyH_ready (rs := [8]) (by kernel_rfl) (by simp) ?_
          refine AllReadyH.cons rfl (fun K hK => ?_) AllReadyH.nil
          go_simp
          refine hK.out _ _ (trivial) (fun hHeld => ?_)
          clear hK K
          try simp only [Act.put, List.getElem_toArray, List.getElem_cons_zero, List.getElem_cons_succ, List.setIfInBounds_toArray, List.set_cons_zero, List.set_cons_succ]
          clear zb yb lb p0 p1 p2 p3
          have hml : (p.ins ++ [z]).length = p.ins.length + 1 := by simp
          have hap := HAP.out
          have HAP9 := Lib.hid hap
          clear HAP hap
          generalize w9.setCell ⟨bp, 1, none⟩ (.slice va (p.ins.length + 1) vc) = w10 at HAP9 ⊢
          refine wpAnyH_done (by kernel_rfl) ?_ _
          have c0 : w10.cell? ⟨bp, 0, none⟩ = some (.int .i64 p.pvid) := HAP9.out.1.cell 0
          have c1 : w10.cell? ⟨bp, 1, none⟩ = some (.slice va (p.ins.length + 1) vc) := by have k := HAP9.out.1.cell 1; simp only [hml] at k; exact k
          have c2 : w10.cell? ⟨bp, 2, none⟩ = some (.slice e p.plain.length cb) := HAP9.out.1.cell 2
          have c3 : w10.cell? ⟨bp, 3, none⟩ = some (.int .i64 p.acc) := HAP9.out.1.cell 3
          go_wp2_with (with_reducible refine store_here (ty := 26) rfl ?_)
          clear c0 c1 c2 c3
          refine halt_go ?_
          refine wpList_store_row rfl 26 _ _ rfl w.heap.size #[.int .i64 p.pvid, .slice va (p.ins.length + 1) vc, .slice e p.plain.length cb, .int .i64 p.acc] rfl rfl 26 #[.int .i64 0, .slice none 0 0, .slice none 0 0, .int .i64 0] HAP9.out.2.2.2.2.1 sizePt rfl (by simp [Value.oneCell']) ?_
          have HG := Lib.hid (Blk.row (cs := #[.int .i64 p.pvid, .slice va (p.ins.length + 1) vc, .slice e p.plain.length cb, .int .i64 p.acc]) HAP9.out.2.2.2.2.1); have HQ := Lib.hid (HAP9.out.out (cs := #[.int .i64 p.pvid, .slice va (p.ins.length + 1) vc, .slice e p.plain.length cb, .int .i64 p.acc]) (by simp only [hml]))
          generalize w10.setRow w.heap.size #[.int .i64 p.pvid, .slice va (p.ins.length + 1) vc, .slice e p.plain.length cb, .int .i64 p.acc] = X at HG HQ ⊢
          have r0 := HG.out.cell 0
          have r1 := HG.out.cell 1
          have r2 := HG.out.cell 2
          have r3 := HG.out.cell 3
          go_wp2_with fail
          exact bodyPost_ret (v := .agg #[.int .i64 p.pvid, .slice va (p.ins.length + 1) vc, .slice e p.plain.length cb, .int .i64 p.acc]) (by simp [results, Try.results38, go_sem, r0, r1, r2, r3]) rfl HQ.out
        refine AllReadyH.cons rfl (fun K hK => ?_) AllReadyH.nil
        · go_simp
          clear p0 p1 p2 p3
          refine hK.out _ _ (trivial) (fun hHeld => ?_)
          clear hK K
          try simp only [Act.put, List.getElem_toArray, List.getElem_cons_zero, List.getElem_cons_succ, List.setIfInBounds_toArray, List.set_cons_zero, List.set_cons_succ]
          have hs1 : OwnI (w3.alloc (.cells #[.int .i64 z] 3)) w3.heap.size (.slice (some ⟨w3.heap.size, 0, none⟩) [z].length 1) [z] := ⟨rfl, .inr ⟨w3.heap.size, 1, #[.int .i64 z], rfl, Nat.le_refl _, by show (w3.heap.push _)[w3.heap.size]? = _; simp, Nat.le_refl _, by decide, rfl, rfl⟩⟩
          obtain ⟨_, _, e9, s9, _, _, _⟩ := ownI_slin hs1
          cases e9
          have HSRC := Lib.hid (show Src Try.prog 1 24 (.slice (some ⟨w3.heap.size, 0, none⟩) 1 1) 1 [.int .i64 z] (w3.alloc (.cells #[.int .i64 z] 3)) from src_of_ints s9 rfl); have HP5 := Lib.hid (HP3.out.alloc #[.int .i64 z] 3)
          clear hs1 s9
          generalize w3.alloc (.cells #[.int .i64 z] 3) = w5 at HSRC HP5 ⊢
          have p0 := HP5.out.1.cell 0
          have p1 := HP5.out.1.cell 1
          have p2 := HP5.out.1.cell 2
          have p3 := HP5.out.1.cell 3
          refine wpAnyH_ready (rs := [1]) (by kernel_rfl) (by simp) ?_
          refine AllReadyH.cons rfl (fun K hK => ?_) AllReadyH.nil
          go_simp
          refine hK.out _ _ (trivial) (fun hHeld => ?_)
          clear hK K
          try simp only [Act.put, List.getElem_toArray, List.getElem_cons_zero, List.getElem_cons_succ, List.setIfInBounds_toArray, List.set_cons_zero, List.set_cons_succ]
          clear p0 p1 p2 p3
          refine wpAnyH_ready (rs := [6]) (by kernel_rfl) (by simp) ?_
          refine AllReadyH.cons rfl (fun K hK => ?_) AllReadyH.nil
          refine step_append_src _ rfl (.tmp 17) (.tmp 21) 24 24 rfl (w.heap.size + 1) 3 i0 (.int .i64 0) 1 8 Try.underlying24 hI0 hI1 hI2 hI3 rfl (.slice a p.ins.length ca) p.ins.length (p.ins.map (Value.int .i64)) rfl HP5.out.2.1 (.slice (some ⟨w3.heap.size, 0, none⟩) 1 1) 1 [.int .i64 z] rfl HSRC.out (by have := HLEN.out; unfold maxLen; omega) (by have := HLEN.out; omega) (by have := HP5.out.2.2.2.2.1.lt; omega) ?_
          intro va vc w9 hown9 hgrow9
          have hap := QSt.appended HP5.out HNz.out HSEP.out HLEN.out hown9 hgrow9
          have HAP := Lib.hid hap.1; have HB9 := Lib.hid hap.2
          clear hap hown9 hgrow9
          refine hK.out _ _ (trivial) (fun hHeld => ?_)
          clear hK K
          try simp only [Act.put, List.getElem_toArray, List.getElem_cons_zero, List.getElem_cons_succ, List.setIfInBounds_toArray, List.set_cons_zero, List.set_cons_succ]
          have zb := HB9.out.frozen
          have yb := HB9.out.shape
          have lb := HB9.out.lt
          have p0 := HB9.out.cell 0
          have p1 := HB9.out.cell 1
          have p2 := HB9.out.cell 2
          have p3 := HB9.out.cell 3
          refine wpAnyH_take (i := 7) (v := ?v6) rfl (by kernel_rfl) (by kernel_rfl) (by kernel_rfl) (fun _ _ _ h => h) (Or.inl ⟨by rfl, ?h6⟩) hHeld ?r6
          case h6 => intro wq hS; go_simp; with_reducible rfl
          try simp only [Act.put, List.getElem_toArray, List.getElem_cons_zero, List.getElem_cons_succ, List.setIfInBounds_toArray, List.set_cons_zero, List.set_cons_succ]
          refine wpAnyH_ready (rs := [8]) (by kernel_rfl) (by simp) ?_
          refine AllReadyH.cons rfl (fun K hK => ?_) AllReadyH.nil
          go_simp
          refine hK.out _ _ (trivial) (fun hHeld => ?_)
          clear hK K
          try simp only [Act.put, List.getElem_toArray, List.getElem_cons_zero, List.getElem_cons_succ, List.setIfInBounds_toArray, List.set_cons_zero, List.set_cons_succ]
          clear zb yb lb p0 p1 p2 p3
          have hml : (p.ins ++ [z]).length = p.ins.length + 1 := by simp
          have hap := HAP.out
          have HAP9 := Lib.hid hap
          clear HAP hap
          generalize w9.setCell ⟨bp, 1, none⟩ (.slice va (p.ins.length + 1) vc) = w10 at HAP9 ⊢
          refine wpAnyH_done (by kernel_rfl) ?_ _
          have c0 : w10.cell? ⟨bp, 0, none⟩ = some (.int .i64 p.pvid) := HAP9.out.1.cell 0
          have c1 : w10.cell? ⟨bp, 1, none⟩ = some (.slice va (p.ins.length + 1) vc) := by have k := HAP9.out.1.cell 1; simp only [hml] at k; exact k
          have c2 : w10.cell? ⟨bp, 2, none⟩ = some (.slice e p.plain.length cb) := HAP9.out.1.cell 2
          have c3 : w10.cell? ⟨bp, 3, none⟩ = some (.int .i64 p.acc) := HAP9.out.1.cell 3
          go_wp2_with (with_reducible refine store_here (ty := 26) rfl ?_)
          clear c0 c1 c2 c3
          refine halt_go ?_
          refine wpList_store_row rfl 26 _ _ rfl w.heap.size #[.int .i64 p.pvid, .slice va (p.ins.length + 1) vc, .slice e p.plain.length cb, .int .i64 p.acc] rfl rfl 26 #[.int .i64 0, .slice none 0 0, .slice none 0 0, .int .i64 0] HAP9.out.2.2.2.2.1 sizePt rfl (by simp [Value.oneCell']) ?_
          have HG := Lib.hid (Blk.row (cs := #[.int .i64 p.pvid, .slice va (p.ins.length + 1) vc, .slice e p.plain.length cb, .int .i64 p.acc]) HAP9.out.2.2.2.2.1); have HQ := Lib.hid (HAP9.out.out (cs := #[.int .i64 p.pvid, .slice va (p.ins.length + 1) vc, .slice e p.plain.length cb, .int .i64 p.acc]) (by simp only [hml]))
          generalize w10.setRow w.heap.size #[.int .i64 p.pvid, .slice va (p.ins.length + 1) vc, .slice e p.plain.length cb, .int .i64 p.acc] = X at HG HQ ⊢
          have r0 := HG.out.cell 0
          have r1 := HG.out.cell 1
          have r2 := HG.out.cell 2
          have r3 := HG.out.cell 3
          go_wp2_with fail
          exact bodyPost_ret (v := .agg #[.int .i64 p.pvid, .slice va (p.ins.length + 1) vc, .slice e p.plain.length cb, .int .i64 p.acc]) (by simp [results, Try.results38, go_sem, r0, r1, r2, r3]) rfl HQ.out
  by_cases h4 : d = 4
  · subst h4
    have zb := HP.out.1.frozen
    have yb := HP.out.1.shape
    have lb := HP.out.1.lt
    have p0 := HP.out.1.cell 0
    have p1 := HP.out.1.cell 1
    have p2 := HP.out.1.cell 2
    have p3 := HP.out.1.cell 3
    have hA := (HP.out.alloc #[] 3).alloc #[] 3
    have ho : OwnI ((w2.alloc (.cells #[] 3)).alloc (.cells #[] 3)) (w.heap.size + 1) (.slice (some ⟨w2.heap.size, 0, none⟩) ([] : List Int).length 0) [] := OwnI.lower (World.ownsRow.alloc (own_emptyI w2) _) (by have := HP.out.2.2.2.2.1.lt; omega)
    have hp1 := (hA.ins (q := []) ho (fun g hg => by cases hg; show w2.heap.size ≠ bp; omega) (by simp) (by simp)).plain (q := []) (b' := some ⟨w2.heap.size + 1, 0, none⟩) (cq := 0) (SlIn.nil _ _) (fun b hb => by simp [blkN] at hb) (by simp) (by simp) (by simp)
    have hE : ((((w2.alloc (.cells #[] 3)).alloc (.cells #[] 3)).setCell ⟨bp, 1, none⟩ (.slice (some ⟨w2.heap.size, 0, none⟩) 0 0)).setCell ⟨bp, 2, none⟩ (.slice (some ⟨w2.heap.size + 1, 0, none⟩) 0 0)) = ((((w2.setCell ⟨bp, 1, none⟩ (.slice (some ⟨w2.heap.size, 0, none⟩) 0 0)).setCell ⟨bp, 2, none⟩ (.slice (some ⟨w2.heap.size + 1, 0, none⟩) 0 0)).alloc (.cells #[] 3)).alloc (.cells #[] 3)) := by simp [World.setCell_alloc_past, lb, show bp < w2.heap.size + 1 by omega]
    have hp2 : QSt B c len w bp ((((w2.setCell ⟨bp, 1, none⟩ (.slice (some ⟨w2.heap.size, 0, none⟩) 0 0)).setCell ⟨bp, 2, none⟩ (.slice (some ⟨w2.heap.size + 1, 0, none⟩) 0 0)).alloc (.cells #[] 3)).alloc (.cells #[] 3)) ⟨p.pvid, [], [], p.acc⟩ (some ⟨w2.heap.size, 0, none⟩) 0 (some ⟨w2.heap.size + 1, 0, none⟩) 0 := by rw [← hE]; exact hp1
    have HQ0 := Lib.hid hp2
    clear hp1 hp2 hA ho hE
    obtain ⟨i0, hI0, hI1, hI2, hI3⟩ := info_parts infoI
    go_wp2_with fail
    clear zb yb lb p0 p1 p2 p3
    generalize (((w2.setCell ⟨bp, 1, none⟩ (.slice (some ⟨w2.heap.size, 0, none⟩) 0 0)).setCell ⟨bp, 2, none⟩ (.slice (some ⟨w2.heap.size + 1, 0, none⟩) 0 0)).alloc (.cells #[] 3)).alloc (.cells #[] 3) = wl at HQ0 ⊢
    go_loopw [] (fun wr => ∃ q va vc ve vf, Hid (QSt B c len w bp wr ⟨p.pvid, q, [], p.acc⟩ va vc ve vf) ∧ q.length ≤ 21)
      (fun wr => match wr.cell? ⟨bp, 1, none⟩ with | some (.slice _ n _) => 30 - n | _ => 0)
    case atStart => exact ⟨[], _, _, _, _, HQ0, by simp⟩
    case round =>
      obtain ⟨q, va, vc, ve, vf, HQ, hq21⟩ := hrel
      go_upto_region 14 with fail
      refine wp_region_held_drew (S := fun w' => QSt B c len w bp w' ⟨p.pvid, q, [], p.acc⟩ va vc ve vf) (by kernel_rfl) (QSt.drew HQ.out) (fun hHeld => ?_)
      refine wpAnyH_take (i := 0) (v := ?v7) rfl (by kernel_rfl) (by kernel_rfl) (by kernel_rfl) (fun _ _ _ h => h) (Or.inl ⟨by rfl, ?h7⟩) hHeld ?r7
      case h7 => intro wq hS; go_simp; with_reducible rfl
      try simp only [Act.put, List.getElem_toArray, List.getElem_cons_zero, List.getElem_cons_succ, List.setIfInBounds_toArray, List.set_cons_zero, List.set_cons_succ]
      refine wpAnyH_take (i := 1) (v := ?v8) rfl (by kernel_rfl) (by kernel_rfl) (by kernel_rfl) (fun _ _ _ h => h) (Or.inl ⟨by rfl, ?h8⟩) hHeld ?r8
      case h8 => intro wq hS; have c1 := hS.1.cell 1; go_simp; with_reducible rfl
      try simp only [Act.put, List.getElem_toArray, List.getElem_cons_zero, List.getElem_cons_succ, List.setIfInBounds_toArray, List.set_cons_zero, List.set_cons_succ]
      refine wpAnyH_take (i := 2) (v := ?v9) rfl (by kernel_rfl) (by kernel_rfl) (by kernel_rfl) (fun _ _ _ h => h) (Or.inl ⟨by rfl, ?h9⟩) hHeld ?r9
      case h9 => intro wq hS; go_simp; with_reducible rfl
      try simp only [Act.put, List.getElem_toArray, List.getElem_cons_zero, List.getElem_cons_succ, List.setIfInBounds_toArray, List.set_cons_zero, List.set_cons_succ]
      refine wpAnyH_take (i := 3) (v := ?v10) rfl (by kernel_rfl) (by kernel_rfl) (by kernel_rfl) (fun _ _ _ h => h) (Or.inl ⟨by rfl, ?h10⟩) hHeld ?r10
      case h10 => intro wq hS; go_simp; with_reducible rfl
      try simp only [Act.put, List.getElem_toArray, List.getElem_cons_zero, List.getElem_cons_succ, List.setIfInBounds_toArray, List.set_cons_zero, List.set_cons_succ]
      refine wpAnyH_ready (rs := [4]) (by kernel_rfl) (by simp) ?_
      refine AllReadyH.cons rfl (fun K hK => ?_) AllReadyH.nil
      go_simp
      refine (below_any B c len 3 (by decide) (by decide) _ hl hHeld.cur).mono ?_
      rintro e' w4 ⟨z, rfl, hz0, hz3, hc4, hg4⟩
      refine hK.out _ _ (hHeld.call hc4 hg4) (fun hHeld => ?_)
      clear hK K
      try simp only [Act.put, List.getElem_toArray, List.getElem_cons_zero, List.getElem_cons_succ, List.setIfInBounds_toArray, List.set_cons_zero, List.set_cons_succ]
      have hwz : IntKind.i64.wrap (19 + z) = 19 + z := IntWalk.i64_in _ (by omega)
      refine wpAnyH_take (i := 5) (v := ?v11) rfl (by kernel_rfl) (by kernel_rfl) (by kernel_rfl) (fun _ _ _ h => h) (Or.inl ⟨by rfl, ?h11⟩) hHeld ?r11
      case h11 => intro wq hS; go_simp; with_reducible rfl
      try simp only [Act.put, List.getElem_toArray, List.getElem_cons_zero, List.getElem_cons_succ, List.setIfInBounds_toArray, List.set_cons_zero, List.set_cons_succ]
      refine wpAnyH_take (i := 6) (v := ?v12) rfl (by kernel_rfl) (by kernel_rfl) (by kernel_rfl) (fun _ _ _ h => h) (Or.inl ⟨by rfl, ?h12⟩) hHeld ?r12
      case h12 => intro wq hS; go_simp; with_reducible rfl
      try simp only [Act.put, List.getElem_toArray, List.getElem_cons_zero, List.getElem_cons_succ, List.setIfInBounds_toArray, List.set_cons_zero, List.set_cons_succ]
      refine wpAnyH_done (by kernel_rfl) ?_ _
      have HQ4 := Lib.hid hHeld
      clear hHeld hc4 hg4
      have hq0 := HQ4.out.1.cell 0
      have hq1 := HQ4.out.1.cell 1
      have hq2 := HQ4.out.1.cell 2
      have hq3 := HQ4.out.1.cell 3
      by_cases hlt9 : (q.length : Int) < 19 + z
      · have zb := HQ4.out.1.frozen
        have yb := HQ4.out.1.shape
        have lb := HQ4.out.1.lt
        have hq21 : q.length ≤ 20 := by omega
        have hwq : IntKind.i64.wrap ((q.length : Int) + 1) = (q.length : Int) + 1 := IntWalk.i64_in _ (by omega)
        go_wp2_with (at_builtin; apply halt_here)
        refine halt_go ?_
        have hqo : OwnI w4 (w.heap.size + 1) (.slice va q.length vc) q := HQ4.out.2.1
        have hcs : c < w4.heap.size := cur_lt HQ4.out.cur
        have hws : w.heap.size < w4.heap.size := HQ4.out.2.2.2.2.1.lt
        refine wpList_append_own_at _ rfl _ _ 24 rfl (w.heap.size + 1) 3 i0 (.int .i64 0) 1 8 Try.underlying24 hI0 hI1 hI2 hI3 rfl (by decide) _ _ _ rfl (World.ownsRow.alloc hqo _) ⟨w4.heap.size, 0, none⟩ 1 1 [.int .i64 ((q.length : Int) + 1)] rfl rfl (cell_one_new _ _ _) (by simp [Value.oneCell']) (by unfold maxLen; omega) (by omega) (by simp; omega) ?_
        intro v' w5 hown5 hgrow5 _ _
        obtain ⟨vg, vh, rfl⟩ := own_form hown5
        have hap := QSt.appended (z := (q.length : Int) + 1) (HQ4.out.alloc #[.int .i64 ((q.length : Int) + 1)] 3) (WalkArith.wf_i64 ⟨by omega, by omega⟩) (fun b hb => by simp [blkN] at hb) (by simp only; omega) hown5 hgrow5
        have HAP := Lib.hid hap.1; have HB9 := Lib.hid hap.2
        clear hap hown5 hgrow5 hqo zb yb lb hq0 hq1 hq2 hq3
        have zb := HB9.out.frozen
        have yb := HB9.out.shape
        have lb := HB9.out.lt
        have p0 := HB9.out.cell 0
        have p1 := HB9.out.cell 1
        have p2 := HB9.out.cell 2
        have p3 := HB9.out.cell 3
        go_wp2_with fail
        have hml : (q ++ [(q.length : Int) + 1]).length = q.length + 1 := by simp
        go_roundw
        case rel => exact ⟨_, _, _, _, _, HAP, by rw [hml]; omega⟩
        case measure =>
          have m1 : (w5.setCell ⟨bp, 1, none⟩ (.slice vg (q.length + 1) vh)).cell? ⟨bp, 1, none⟩ = some (.slice vg (q.length + 1) vh) := by have k := HAP.out.1.cell 1; simp only [hml] at k; exact k
          have m2 : wr.cell? ⟨bp, 1, none⟩ = some (.slice va q.length vc) := HQ.out.1.cell 1
          simp only [m1, m2]
          omega
      · go_wp2_with (with_reducible refine store_here (ty := 26) rfl ?_)
        clear hq0 hq1 hq2 hq3
        refine halt_go ?_
        refine wpList_store_row rfl 26 _ _ rfl w.heap.size #[.int .i64 p.pvid, .slice va q.length vc, .slice ve 0 vf, .int .i64 p.acc] rfl rfl 26 #[.int .i64 0, .slice none 0 0, .slice none 0 0, .int .i64 0] HQ4.out.2.2.2.2.1 sizePt rfl (by simp [Value.oneCell']) ?_
        have HG := Lib.hid (Blk.row (cs := #[.int .i64 p.pvid, .slice va q.length vc, .slice ve 0 vf, .int .i64 p.acc]) HQ4.out.2.2.2.2.1); have HQ := Lib.hid (HQ4.out.out (cs := #[.int .i64 p.pvid, .slice va q.length vc, .slice ve 0 vf, .int .i64 p.acc]) rfl)
        generalize w4.setRow w.heap.size #[.int .i64 p.pvid, .slice va q.length vc, .slice ve 0 vf, .int .i64 p.acc] = X at HG HQ ⊢
        have r0 := HG.out.cell 0
        have r1 := HG.out.cell 1
        have r2 := HG.out.cell 2
        have r3 := HG.out.cell 3
        go_wp2_with fail
        exact bodyPost_ret (v := .agg #[.int .i64 p.pvid, .slice va q.length vc, .slice ve 0 vf, .int .i64 p.acc]) (by simp [results, Try.results38, go_sem, r0, r1, r2, r3]) rfl HQ.out
  have q0 : (d == 0) = false := by simp [h0]
  have q1 : (d == 1) = false := by simp [h1]
  have q2 : (d == 2) = false := by simp [h2]
  have q3 : (d == 3) = false := by simp [h3]
  have q4 : (d == 4) = false := by simp [h4]
  have p0 := HP.out.1.cell 0
  have p1 := HP.out.1.cell 1
  have p2 := HP.out.1.cell 2
  have p3 := HP.out.1.cell 3
  go_wp2_with (with_reducible refine store_here (ty := 26) rfl ?_)
  clear p0 p1 p2 p3
  refine halt_go ?_
  refine wpList_store_row rfl 26 _ _ rfl w.heap.size #[.int .i64 p.pvid, .slice a p.ins.length ca, .slice e p.plain.length cb, .int .i64 p.acc] rfl rfl 26 #[.int .i64 0, .slice none 0 0, .slice none 0 0, .int .i64 0] HP.out.2.2.2.2.1 sizePt rfl (by simp [Value.oneCell']) ?_
  have HG := Lib.hid (Blk.row (cs := #[.int .i64 p.pvid, .slice a p.ins.length ca, .slice e p.plain.length cb, .int .i64 p.acc]) HP.out.2.2.2.2.1); have HQ := Lib.hid (HP.out.out (cs := #[.int .i64 p.pvid, .slice a p.ins.length ca, .slice e p.plain.length cb, .int .i64 p.acc]) rfl)
  generalize w2.setRow w.heap.size #[.int .i64 p.pvid, .slice a p.ins.length ca, .slice e p.plain.length cb, .int .i64 p.acc] = X at HG HQ ⊢
  have r0 := HG.out.cell 0
  have r1 := HG.out.cell 1
  have r2 := HG.out.cell 2
  have r3 := HG.out.cell 3
  go_wp2_with fail
  exact bodyPost_ret (v := .agg #[.int .i64 p.pvid, .slice a p.ins.length ca, .slice e p.plain.length cb, .int .i64 p.acc]) (by simp [results, Try.results38, go_sem, r0, r1, r2, r3]) rfl HQ.out
end Go.Proofs.Ytfkpecildcejkaa
