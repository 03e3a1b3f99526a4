/- Tables in memory, as one word: what the laws' own functions make of them. -/
import Derived.Test.YtleebmbnjdoinaaRwT
namespace Go.Proofs.Ytleebmbnjdoinaa
open Go.RowKit

structure Tb where
  rows : List Rw
  most : Int
deriving DecidableEq

/-- its numbers are an int's -/
def Rw.fits (r : Rw) : Prop := (Lit.int .i64 r.vid).wf = true ∧ (Lit.int .i64 r.mac).wf = true ∧ (Lit.int .i64 r.port).wf = true ∧ (Lit.int .i64 r.at_).wf = true
def Tb.fits (t : Tb) : Prop := (∀ r ∈ t.rows, r.fits) ∧ (Lit.int .i64 t.most).wf = true

/-- the value v is the table t; its rows lie in the blocks B -/
def TabIn (w : World) (B : List Nat) (v : Value) (t : Tb) : Prop :=
  ∃ a cap, v = tabVal a t.rows.length cap t.most ∧ SlIn kdRw w a t.rows ∧ (B = blkN a t.rows.length ∧ t.rows.length ≤ cap) ∧ t.rows.length ≤ 2097152 ∧ t.fits
theorem TabIn.lt {w : World} {B : List Nat} {v : Value} {t : Tb} (h : TabIn w B v t) : ∀ b ∈ B, b < w.heap.size := by
  obtain ⟨a, cap, rfl, hs, ⟨rfl, _⟩, _⟩ := h
  exact hs.lt_blk
theorem TabIn.keep {w w' : World} {B : List Nat} {v : Value} {t : Tb} (h : TabIn w B v t) (hk : ∀ b ∈ B, w'.heap[b]? = w.heap[b]?) : TabIn w' B v t := by
  obtain ⟨a, cap, rfl, hs, ⟨rfl, hc⟩, hl⟩ := h
  exact ⟨a, cap, rfl, hs.keep_blk hk, ⟨rfl, hc⟩, hl⟩
theorem TabIn.after {w w' : World} {B : List Nat} {v : Value} {t : Tb} (h : TabIn w B v t) (hb : Below w.heap.size w w') : TabIn w' B v t := h.keep fun b hm => hb.block b (h.lt b hm)
theorem TabIn.alloc {w : World} {B : List Nat} {v : Value} {t : Tb} (h : TabIn w B v t) (o : Obj) : TabIn (w.alloc o) B v t := h.after ((Below.refl _ _).alloc (Nat.le_refl _) o)
theorem TabIn.turned {w w' : World} {B C : List Nat} {v : Value} {t : Tb} (h : TabIn w B v t) (hT : Turned C w w') (hd : ∀ b ∈ B, b ∉ C) : TabIn w' B v t := h.keep fun b hm => hT.block b (h.lt b hm) (hd b hm)

/-- a table comes back, in new blocks -/
def GotTab (w : World) (t : Tb) (e : Ending) (w' : World) : Prop :=
  ∃ B a n cap q, e = .returned (.agg #[.slice a n cap, .int .i64 q]) ∧ TabIn w' B (.agg #[.slice a n cap, .int .i64 q]) t ∧ (∀ b ∈ B, w.heap.size ≤ b) ∧ Below w.heap.size w w'

/-- a table that came in -/
def TabArg (w : World) (v : Value) (t : Tb) : Prop := ∃ a cap, v = tabVal a t.rows.length cap t.most ∧ SlArg 5 Rw.cs w a t.rows ∧ t.fits
theorem TabArg.after {w w' : World} {v : Value} {t : Tb} (h : TabArg w v t) (hb : Below w.heap.size w w') : TabArg w' v t := by
  obtain ⟨a, cap, e, hs⟩ := h
  exact ⟨a, cap, e, hs.1.after hb, hs.2⟩
theorem TabArg.below {n : Nat} {w w' : World} {v : Value} {t : Tb} (h : TabArg w v t) (hb : Below n w w') (hn : w.heap.size ≤ n) : TabArg w' v t := h.after (hb.mono hn)

theorem toTable_in {v : Value} {t : Tb} {w : World} (h : TabArg w v t) (hsz : t.rows.length ≤ 1048576) : Calls Try.prog 30 #[v] w (GotTab w t) := by
  obtain ⟨a, cap, rfl, hs, hf⟩ := h
  refine (toTable_any t.rows a _ cap t.most w rfl hs hsz).mono ?_
  rintro e w' ⟨b, rfl, h1, h2, h3⟩
  refine ⟨_, _, _, _, _, rfl, ⟨some b, t.rows.length, rfl, h1, ⟨rfl, Nat.le_refl _⟩, by omega, hf⟩, fun x hx => ?_, h3⟩
  unfold blkN at hx
  by_cases h0 : t.rows.length = 0
  · rw [if_pos h0] at hx; cases hx
  · rw [if_neg h0] at hx
    simp [blkOf] at hx
    omega

theorem szTable_in {v : Value} {t : Tb} {w : World} (h : TabArg w v t) (hn : t.rows.length ≤ 9223372036854775807) (left : Int) (hl : 0 ≤ left) (hl' : left ≤ 1048576) :
    Calls Try.prog 29 #[v, .int .i64 left] w fun e w' => e = .returned (.int .i64 (if (t.rows.length : Int) ≤ left then left - t.rows.length else -1)) ∧ Below w.heap.size w w' := by
  obtain ⟨a, cap, rfl, _⟩ := h
  exact szTable_any a _ cap t.most left w hn hl hl'

theorem eqTable_in {w : World} {B C : List Nat} {u v : Value} {s t : Tb} (h : TabIn w B u s) (k : TabIn w C v t) :
    Calls Try.prog 31 #[u, v] w fun e w' => e = .returned (.bool (decide (s = t))) ∧ Below w.heap.size w w' := by
  obtain ⟨a, cap, rfl, hs, _, hl, _⟩ := h
  obtain ⟨b, cap', rfl, ht, _, _, _⟩ := k
  refine (eqTable_any s.rows t.rows a b _ _ cap cap' s.most t.most w rfl rfl hs ht hl).mono ?_
  rintro e w' ⟨rfl, hb⟩
  refine ⟨?_, hb⟩
  have e : (s.rows = t.rows ∧ s.most = t.most) ↔ s = t := by cases s; cases t; simp
  simp only [e]

theorem wf_small {x : Int} (h0 : -9223372036854775808 ≤ x) (h1 : x ≤ 9223372036854775807) : (Lit.int .i64 x).wf = true := WalkArith.wf_i64 ⟨h0, h1⟩
theorem markRs_fits (k : Int) : ∀ (n : Nat), 0 ≤ k → k + 5 * (n : Int) ≤ 1152921504606846976 → ∀ r ∈ markRs k n, r.fits
  | 0, _, _ => fun r hr => by cases hr
  | n + 1, h0, h1 => fun r hr => by
    simp only [markRs, List.mem_append, List.mem_singleton] at hr
    rcases hr with hr | rfl
    · exact markRs_fits k n h0 (by omega) r hr
    · refine ⟨?_, ?_, ?_, ?_⟩ <;> (simp only [markR]; exact wf_small (by omega) (by omega))

def markTb (k : Int) (t : Tb) : Tb := ⟨markRs k t.rows.length, t.most⟩
theorem markTable_in {w : World} {B : List Nat} {v : Value} {t : Tb} (h : TabIn w B v t) (k : Int) (h0 : 0 ≤ k) (h1 : k ≤ 1099511627776) :
    Calls Try.prog 33 #[v, .int .i64 k] w fun e w' => e = .returned (.int .i64 (k + 5 * t.rows.length)) ∧ Turned B w w' ∧ TabIn w' B v (markTb k t) := by
  obtain ⟨a, cap, rfl, hs, ⟨rfl, hc⟩, hl, hf⟩ := h
  refine (markTable_any t.rows a _ cap t.most k w rfl hs hl h0 h1).mono ?_
  rintro e w' ⟨rfl, hT, hm⟩
  exact ⟨rfl, hT, a, cap, by simp only [markTb, markRs_len], hm, ⟨by simp only [markTb, markRs_len], by simp only [markTb, markRs_len]; exact hc⟩, by simp only [markTb, markRs_len]; exact hl, fun r hr => markRs_fits k _ (by omega) (by omega) r hr, hf.2⟩
theorem heldTable_in {w : World} {B : List Nat} {v : Value} {t : Tb} (k : Int) (h : TabIn w B v (markTb k t)) (h0 : 0 ≤ k) (h1 : k ≤ 1099511627776) :
    Calls Try.prog 34 #[v, .int .i64 k] w fun e w' => e = .returned (.int .i64 (k + 5 * t.rows.length)) ∧ Below w.heap.size w w' := by
  obtain ⟨a, cap, rfl, hs, _, hl, _⟩ := h
  simp only [markTb, markRs_len] at hs hl ⊢
  exact heldTable_any a _ cap t.most k w hs hl h0 h1
end Go.Proofs.Ytleebmbnjdoinaa
