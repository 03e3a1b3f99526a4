/- Draws of structs: the cursor stays while blocks of the call's own are made and stored over. -/
import Derived.Test.YtbcpfciegamaeaaDrN
import Derived.Test.YtbcpfciegamaeaaRowB
namespace Go.Proofs.Ytbcpfciegamaeaa
open Go.RowKit

theorem grown_new {w wi : World} {r : Option Nat} (h : w.grownBy wi r) (o : Obj) : w.grownBy (wi.alloc o) r :=
  ⟨h.os, h.tape, h.output, Nat.le_trans h.size (by simp), fun k hk hr => (Below.heap_alloc wi o k (Nat.lt_of_lt_of_le hk h.size)).trans (h.block k hk hr)⟩
theorem grown_store {w wi : World} {r : Option Nat} (h : w.grownBy wi r) {b j : Nat} (hb : w.heap.size ≤ b) (v : Value) : w.grownBy (wi.setCell ⟨b, j, none⟩ v) r :=
  ⟨h.os, h.tape, h.output, Nat.le_trans h.size (by simp [World.setCell]), fun k hk hr => (Below.heap_setCell wi _ _ _ (by simp only; omega)).trans (h.block k hk hr)⟩
theorem cur_store {B c len : Nat} {w : World} (hc : Cur B c len w) {b j : Nat} (hb : c < b) (v : Value) : Cur B c len (w.setCell ⟨b, j, none⟩ v) := by
  obtain ⟨a, cap, zs, i, h, h1, h2, h3, h4, h5, h6⟩ := hc
  exact ⟨a, cap, zs, i, h, h1, (Below.heap_setCell w _ _ _ (by simp only; omega)).trans h2, h3.below h4 ((Below.refl _ w).setCell (p := ⟨b, j, none⟩) (by simp only; omega) _), h4, h5, h6⟩
theorem cur_grow {B c len : Nat} {w w' : World} (hc : Cur B c len w) (hg : w.grownBy w' none) : Cur B c len w' := by
  obtain ⟨a, cap, zs, i, h, h1, h2, h3, h4, h5, h6⟩ := hc
  have hcB : c < w.heap.size := (Array.getElem?_eq_some_iff.1 h2).1
  exact ⟨a, cap, zs, i, h, h1, (hg.block c hcB (by simp)).trans h2, h3.below h4 ((Below.refl _ w).grown hg (by omega) (fun k e => by cases e)), h4, h5, h6⟩
theorem cur_row {B c len : Nat} {w : World} (hc : Cur B c len w) {b : Nat} (hb : c < b) (cs : Array Value) : Cur B c len (w.setRow b cs) := by
  obtain ⟨a, cap, zs, i, h, h1, h2, h3, h4, h5, h6⟩ := hc
  exact ⟨a, cap, zs, i, h, h1, (setRow_other w b c cs (by omega)).trans h2, h3.below h4 (Below.row (Below.refl B w) (by omega) _), h4, h5, h6⟩
theorem grown_row {w wi : World} {r : Option Nat} (h : w.grownBy wi r) {b : Nat} (hb : w.heap.size ≤ b) (cs : Array Value) : w.grownBy (wi.setRow b cs) r :=
  ⟨h.os, h.tape, h.output, Nat.le_trans h.size (by simp), fun k hk hr => (setRow_other wi b k cs (by omega)).trans (h.block k hk hr)⟩
theorem bel_grown {w w' : World} (hb : Below w.heap.size w w') (r : Option Nat) : w.grownBy w' r := ⟨hb.os, hb.tape, hb.output, hb.size, fun k hk _ => hb.block k hk⟩
theorem cur_bel {B c len : Nat} {w w' : World} (hc : Cur B c len w) (hb : Below w.heap.size w w') : Cur B c len w' := cur_grow hc (bel_grown hb none)
theorem cur_drew {B c len : Nat} {w : World} (hc : Cur B c len w) : Cur B c len w.drew := hc
theorem blk_grown {w w' : World} {b c : Nat} {cs : Array Value} {t : TypeId} (h : Blk w b cs t) (hg : w.grownBy w' (some c)) (hne : b ≠ c) : Blk w' b cs t := (hg.block b h.lt (fun e => hne (Option.some.inj e))).trans h
theorem grown_draw {w w' : World} {r : Option Nat} (h : w.grownBy w' r) : w.grownBy w'.drew r := ⟨h.os, h.tape, h.output, h.size, h.block⟩
end Go.Proofs.Ytbcpfciegamaeaa
