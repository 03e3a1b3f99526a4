/- The draw of a right port. -/
import Derived.Test.YtfkpecildcejkaaDrK
import Derived.Test.YtfkpecildcejkaaSmS
import Derived.Test.YtfkpecildcejkaaRow
namespace Go.Proofs.Ytfkpecildcejkaa
open Go.RowKit

theorem sizePt : (Try.prog.info? 26).map (·.size) = some 4 := by kernel_rfl
/-- the value owns a block other than b -/
def Apart (b : Nat) (v : Value) : Prop := ∀ g, v.ownBlock = some g → g ≠ b
theorem apart_nil (b : Nat) : Apart b (.slice none 0 0) := fun g e => by cases e
theorem apart_own {w : World} {k b : Nat} {v : Value} {xs : List Int} (h : OwnI w k v xs) (hb : b < k) : Apart b v := fun g e => by have := (World.ownsRow.lt h g e).1; omega
theorem own_apart {w W : World} {k b : Nat} {v : Value} {xs : List Int} (h : OwnI w k v xs) (hT : Turned [b] w W) (ha : Apart b v) : OwnI W k v xs := by
  refine ⟨h.1, ?_⟩
  rcases h.2 with h' | ⟨g, cap, cur, h1, h2, h3, h4⟩
  · exact .inl h'
  · subst h1
    exact .inr ⟨g, cap, cur, rfl, h2, (hT.block g (Array.getElem?_eq_some_iff.1 h3).1 (by simp only [List.mem_singleton]; exact ha g rfl)).trans h3, h4⟩
/-- a port lies in block bp, its lists in blocks behind; the result's block is w.heap.size -/
def PSt (B c len : Nat) (w : World) (bp : Nat) (wi : World) (p : Pt) (a : Option Addr) (ca : Nat) (e : Option Addr) (cb : Nat) : Prop :=
  Blk wi bp #[.int .i64 p.pvid, .slice a p.ins.length ca, .slice e p.plain.length cb, .int .i64 p.acc] 26 ∧ OwnI wi (w.heap.size + 1) (.slice a p.ins.length ca) p.ins ∧ OwnI wi (w.heap.size + 1) (.slice e p.plain.length cb) p.plain ∧
  (p.ins.length ≤ 1000 ∧ p.plain.length ≤ 1000 ∧ p.fits) ∧ Blk wi w.heap.size #[.int .i64 0, .slice none 0 0, .slice none 0 0, .int .i64 0] 26 ∧ Cur B c len wi ∧ w.grownBy wi (some c) ∧ w.heap.size < bp ∧ c < w.heap.size ∧ Apart bp (.slice a p.ins.length ca) ∧ Apart bp (.slice e p.plain.length cb) ∧ Sep (.slice a p.ins.length ca) (.slice e p.plain.length cb)
/-- a port is drawn -/
def DrawnP (B c len : Nat) (w : World) (e : Ending) (w' : World) : Prop := ∃ (p : Pt) (a : Option Addr) (ca : Nat) (b : Option Addr) (cb : Nat), e = .returned (.agg #[.int .i64 p.pvid, .slice a p.ins.length ca, .slice b p.plain.length cb, .int .i64 p.acc]) ∧
  OwnI w' w.heap.size (.slice a p.ins.length ca) p.ins ∧ OwnI w' w.heap.size (.slice b p.plain.length cb) p.plain ∧ Sep (.slice a p.ins.length ca) (.slice b p.plain.length cb) ∧ (p.ins.length ≤ 1000 ∧ p.plain.length ≤ 1000 ∧ p.fits) ∧ Cur B c len w' ∧ w.grownBy w' (some c)

theorem cur_row {B c len : Nat} {w : World} (hc : Cur B c len w) {b : Nat} (hb : c < b) (cs : Array Value) : Cur B c len (w.setRow b cs) := by
  obtain ⟨a, cap, zs, i, h, h1, h2, h3, h4, h5, h6⟩ := hc
  exact ⟨a, cap, zs, i, h, h1, (setRow_other w b c cs (by omega)).trans h2, h3.below h4 (Below.row (Below.refl B w) (by omega) _), h4, h5, h6⟩
theorem grown_row {w wi : World} {r : Option Nat} (h : w.grownBy wi r) {b : Nat} (hb : w.heap.size ≤ b) (cs : Array Value) : w.grownBy (wi.setRow b cs) r :=
  ⟨h.os, h.tape, h.output, Nat.le_trans h.size (by simp), fun k hk hr => (setRow_other wi b k cs (by omega)).trans (h.block k hk hr)⟩
theorem setM_len {p : Pt} (h : p.ins.length ≤ 1000 ∧ p.plain.length ≤ 1000) (vid : Int) (u : Bool) : (setM p vid u).ins.length ≤ 1000 ∧ (setM p vid u).plain.length ≤ 1000 := by
  unfold setM
  split
  · rename_i k
    have h1 := k.2.2.1.1
    have h2 := k.2.2.2.1.1
    omega
  · exact h
theorem own_call {wi w1 : World} {k c : Nat} {v : Value} {xs : List Int} (h : OwnI wi k v xs) (hg : wi.grownBy w1 (some c)) (hk : c < k) : OwnI w1 k v xs :=
  World.ownsRow.kept (row := some c) h hg (by
    cases hv : v.ownBlock with
    | none => exact .inl rfl
    | some g => exact .inr (fun e => by cases e; have := (World.ownsRow.lt h _ hv).1; omega))
section
variable {B c len : Nat} {w : World} {bp : Nat} {wi : World} {p : Pt} {a e : Option Addr} {ca cb : Nat}
theorem PSt.call {w1 : World} (h : PSt B c len w bp wi p a ca e cb) (hc : Cur B c len w1) (hg : wi.grownBy w1 (some c)) : PSt B c len w bp w1 p a ca e cb := by
  obtain ⟨h1, h2, h3, h4, h5, h6, h7, h8, h9, n1, n2⟩ := h
  have hne : ∀ x, c < x → some x ≠ some c := fun x hx e => by have e1 : x = c := Option.some.inj e; omega
  exact ⟨(hg.block _ h1.lt (hne _ (by omega))).trans h1, own_call h2 hg (by omega), own_call h3 hg (by omega), h4, (hg.block _ h5.lt (hne _ h9)).trans h5, hc, grown_trans h7 hg, h8, h9, n1, n2⟩
theorem PSt.cur (h : PSt B c len w bp wi p a ca e cb) : Cur B c len wi := h.2.2.2.2.2.1
theorem PSt.drew (h : PSt B c len w bp wi p a ca e cb) : PSt B c len w bp wi.drew p a ca e cb :=
  ⟨h.1, h.2.1, h.2.2.1, h.2.2.2.1, h.2.2.2.2.1, h.2.2.2.2.2.1, ⟨h.2.2.2.2.2.2.1.os, h.2.2.2.2.2.2.1.tape, h.2.2.2.2.2.2.1.output, h.2.2.2.2.2.2.1.size, h.2.2.2.2.2.2.1.block⟩, h.2.2.2.2.2.2.2⟩
theorem PSt.alloc (h : PSt B c len w bp wi p a ca e cb) (cs : Array Value) (t : TypeId) : PSt B c len w bp (wi.alloc (.cells cs t)) p a ca e cb := h.call (cur_alloc h.cur _ _) (World.grownBy_alloc _ _ _)
theorem PSt.port (h : PSt B c len w bp wi p a ca e cb) : ∃ C D, PortIn wi C D (ptVal p.pvid a p.ins.length ca e p.plain.length cb p.acc) p := by
  obtain ⟨h1, h2, h3, h4, _⟩ := h
  exact ⟨_, _, pin_of_owns h2 h3 (by omega) (by omega) h4.2.2⟩
/-- a port that was made is stored over it -/
theorem PSt.put {w5 : World} {q : Pt} {v : Value} {vs : Array Value} (h : PSt B c len w bp wi p a ca e cb) (hG : GotPort wi q (.returned v) w5) (hv : v = .agg vs) (hq : q.ins.length ≤ 1000 ∧ q.plain.length ≤ 1000) :
    ∃ a' ca' e' cb', vs = #[.int .i64 q.pvid, .slice a' q.ins.length ca', .slice e' q.plain.length cb', .int .i64 q.acc] ∧ PSt B c len w bp (w5.setRow bp vs) q a' ca' e' cb' := by
  obtain ⟨h1, h2, h3, h4, h5, h6, h7, h8, h9, n1, n2⟩ := h
  obtain ⟨_, _, a1, n, c1, b1, m, d1, pv, ac, ev, ⟨xa, xc, xb, xd, hp, _, _, _, _, _, _, hf⟩, _, _, _, hb, o1, o2, o3⟩ := hG
  cases ev
  unfold ptVal at hp hv
  cases hp
  cases hv
  have hlt := h1.lt
  have hg5 : wi.grownBy w5 (some c) := ⟨hb.os, hb.tape, hb.output, hb.size, fun k hk _ => hb.block k hk⟩
  have hg5n : wi.grownBy w5 none := ⟨hb.os, hb.tape, hb.output, hb.size, fun k hk _ => hb.block k hk⟩
  have hT : Turned [bp] w5 (w5.setRow bp #[.int .i64 q.pvid, .slice a1 q.ins.length c1, .slice b1 q.plain.length d1, .int .i64 q.acc]) := (Turned.refl _ _).row (by simp) _
  refine ⟨a1, c1, b1, d1, rfl, (h1.after hb).row, own_lower (own_turned o1 hT (by simp; omega)) (by omega), own_lower (own_turned o2 hT (by simp; omega)) (by omega), ⟨hq.1, hq.2, hf⟩, (h5.after hb).turned hT (by simp; omega), ?_, ?_, h8, h9, apart_own o1 hlt, apart_own o2 hlt, o3⟩
  · exact cur_row (cur_grow h6 hg5n) (by omega) _
  · exact grown_row (grown_trans h7 hg5) (by omega) _
end
end Go.Proofs.Ytfkpecildcejkaa
