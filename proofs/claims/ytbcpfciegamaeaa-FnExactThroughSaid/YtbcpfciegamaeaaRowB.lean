/- A struct stored over a whole block of the call's own; where a walk stops. -/
import Derived.Test.YtbcpfciegamaeaaSl
import Derived.Laws.Tables
namespace Go.Proofs.Ytbcpfciegamaeaa
open Go.RowKit

/-- where a walk is to stop -/
def Halt (p : Prop) : Prop := p
theorem halt_here {p : Prop} (h : Halt p) : p := h
theorem halt_go {p : Prop} (h : p) : Halt p := h
theorem Blk.row {w : World} {b : Nat} {old cs : Array Value} {t : TypeId} (h : Blk w b old t) : Blk (w.setRow b cs) b cs t := setRow_heap w b old cs t (0, 0) h
theorem Blk.rowOther {w : World} {b g : Nat} {cs : Array Value} {t : TypeId} (h : Blk w b cs t) (hg : b ≠ g) (vs : Array Value) : Blk (w.setRow g vs) b cs t := (setRow_other w g b vs hg).trans h
theorem Turned.row {B : List Nat} {w w' : World} (h : Turned B w w') {g : Nat} (hg : g ∈ B) (cs : Array Value) : Turned B w (w'.setRow g cs) :=
  ⟨h.os, h.tape, h.output, Nat.le_trans h.size (by simp), fun k hk hn => (setRow_other w' g k cs (fun e => hn (e ▸ hg))).trans (h.block k hk hn)⟩
theorem Below.row {n : Nat} {w w' : World} (h : Below n w w') {g : Nat} (hg : n ≤ g) (cs : Array Value) : Below n w (w'.setRow g cs) :=
  ⟨h.os, h.tape, h.output, Nat.le_trans h.size (by simp), fun k hk => (setRow_other w' g k cs (by omega)).trans (h.block k hk)⟩
theorem store_here {P : Program} {ops : Array Oper} {rest : List Oper} {o : Oper} {a : Act} {w : World} {Q : Exit → Act → World → Prop} {ty : TypeId} {x y : Operand} (_ : o.op = .store ty x y) (h : Halt (wpList P ops Q (o :: rest) a w)) : wpList P ops Q (o :: rest) a w := h
/-- .. at a step of a region that draws -/
theorem step_store_row {P : Program} {w : World} {ops : Array Oper} {o : Oper} {a : Act} {K : Act → World → Prop} {Q : Exit → Act → World → Prop} {E : Prop} (hgd : o.guard = none) (ty : TypeId) (x y : Operand) (ho : o.op = .store ty x y)
    (g : Nat) (cells : Array Value) (hx : a.eval x = .pointer (some ⟨g, 0, none⟩)) (hy : a.eval y = .agg cells) (t : TypeId) (old : Array Value) (hg : w.heap[g]? = some (.cells old t (0, 0))) (hi : (P.info? ty).map (·.size) = some cells.size)
    (hold : old.size = cells.size) (h1 : cells.all (·.oneCell') = true) (h : K (a.put o.dst undef) (w.setRow g cells)) : if Region.wanted o (yielded ops a.tmps) = true then Oper.wp P o a w K Q else E := by
  have hw : Region.wanted o (yielded ops a.tmps) = true := by simp [Region.wanted, hgd]
  rw [if_pos hw]
  exact wp_store_row ty x y ho g cells hx hy t old hg hi hold h1 h
end Go.Proofs.Ytbcpfciegamaeaa
