/- Tables in memory, as one word: what the laws' own functions make of them. -/
import Derived.Test.YtfkpecildcejkaaRwT
namespace Go.Proofs.Ytfkpecildcejkaa
open Go.RowKit

structure Tb where
  rows : List Rw
  most : Int
deriving DecidableEq

/-- its numbers are an int's -/
def Rw.fits (r : Rw) : Prop := (Lit.int .i64 r.vid).wf = true ∧ (Lit.int .i64 r.mac).wf = true ∧ (Lit.int .i64 r.port).wf = true ∧ (Lit.int .i64 r.at_).wf = true
def Tb.fits (t : Tb) : Prop := (∀ r ∈ t.rows, r.fits) ∧ (Lit.int .i64 t.most).wf = true

/-- a table that came in -/
def TabArg (w : World) (v : Value) (t : Tb) : Prop := ∃ a cap, v = tabVal a t.rows.length cap t.most ∧ SlArg 5 Rw.cs w a t.rows ∧ t.fits
theorem TabArg.after {w w' : World} {v : Value} {t : Tb} (h : TabArg w v t) (hb : Below w.heap.size w w') : TabArg w' v t := by
  obtain ⟨a, cap, e, hs⟩ := h
  exact ⟨a, cap, e, hs.1.after hb, hs.2⟩
theorem TabArg.below {n : Nat} {w w' : World} {v : Value} {t : Tb} (h : TabArg w v t) (hb : Below n w w') (hn : w.heap.size ≤ n) : TabArg w' v t := h.after (hb.mono hn)

theorem wf_small {x : Int} (h0 : -9223372036854775808 ≤ x) (h1 : x ≤ 9223372036854775807) : (Lit.int .i64 x).wf = true := WalkArith.wf_i64 ⟨h0, h1⟩
theorem markRs_fits (k : Int) : ∀ (n : Nat), 0 ≤ k → k + 5 * (n : Int) ≤ 1152921504606846976 → ∀ r ∈ markRs k n, r.fits
  | 0, _, _ => fun r hr => by cases hr
  | n + 1, h0, h1 => fun r hr => by
    simp only [markRs, List.mem_append, List.mem_singleton] at hr
    rcases hr with hr | rfl
    · exact markRs_fits k n h0 (by omega) r hr
    · refine ⟨?_, ?_, ?_, ?_⟩ <;> (simp only [markR]; exact wf_small (by omega) (by omega))

def markTb (k : Int) (t : Tb) : Tb := ⟨markRs k t.rows.length, t.most⟩
end Go.Proofs.Ytfkpecildcejkaa
