/- A slice as an argument, opened. -/
import Derived.Test.YtbcpfciegamaeaaSl
import Derived.Test.YtbcpfciegamaeaaOpenF
import Derived.Deep.Slices
namespace Go.Proofs.Ytbcpfciegamaeaa
open Go.RowKit Go.ChangeShapes Go.WideShapes

theorem add_block (x : Addr) (n : Nat) : (x.add n).block = x.block := by unfold Addr.add; split <;> rfl
/-- a slice that came in -/
def SlArg (sz : Nat) {α : Type} (cs : α → List Value) (w : World) (a : Option Addr) (xs : List α) : Prop :=
  ∀ k (h : k < xs.length), ∃ x, a = some x ∧ x.block < w.heap.size ∧ ∀ j, j < sz → w.cell? (x.add (k * sz + j)) = (cs (xs[k]'h))[j]?
theorem SlArg.after {sz : Nat} {α : Type} {cs : α → List Value} {w w' : World} {a : Option Addr} {xs : List α} (h : SlArg sz cs w a xs) (hb : Below w.heap.size w w') : SlArg sz cs w' a xs := by
  intro k hk
  obtain ⟨x, e, hl, hc⟩ := h k hk
  exact ⟨x, e, Nat.lt_of_lt_of_le hl hb.size, fun j hj => (hb.cell (by rw [add_block]; exact hl)).trans (hc j hj)⟩

/-- a struct of one-cell fields in cells -/
theorem struct_cells {H : Type} {enc : TypeId × Value → H} {P : Program} {w : World} {base : Nat} {spare : Nat → Bool} {held : Bool} {t : TypeId} {fs : Array Field} {fuel : Nat} {cs : List Value} {y : DataW H × List MemPlace}
    (hs : P.underlying t = some (.struct fs)) (hone : Go.Deep.oneCellFields P fs = true) (hC : P.cellsOf t = fs.size) (h : DataW.trod enc P w base spare held fuel t cs = some y) :
    cs.length = fs.size ∧ ∀ (j : Nat) (f : Field), fs[j]? = some f → ∃ (c : Value) (y : DataW H × List MemPlace) (n : Nat), cs[j]? = some c ∧ DataW.trod enc P w base spare held n f.type [c] = some y := by
  obtain ⟨xs, n, _, _, hl, hlen, hg⟩ := DataW.trod_struct hs h
  refine ⟨hl.trans hC, fun j f hj => ?_⟩
  obtain ⟨ho, hk⟩ := Go.Deep.hone_of hone j f hj
  have hjl : j < fs.size := (Array.getElem?_eq_some_iff.1 hj).1
  have hjc : j < cs.length := by omega
  have h1 := hg j f hj
  rw [ho, hk] at h1
  have h2 : (cs.drop j).take 1 = [cs[j]] := by
    rw [List.drop_eq_getElem_cons hjc]
    rfl
  rw [h2, List.getElem?_eq_getElem (by omega)] at h1
  exact ⟨cs[j], _, n, List.getElem?_eq_getElem hjc, h1⟩

/-- a slice of elements that each read as something of α -/
theorem open_sl {α : Type} [Inhabited α] {H : Type} {enc : TypeId × Value → H} {P : Program} {w : World} {base : Nat} {spare : Nat → Bool} {held : Bool} {fuel : Nat} {t e : TypeId} {c : Value} {y : DataW H × List MemPlace} {sz : Nat} {cells : α → List Value} {ok : α → Prop}
    (ht : P.underlying t = some (.slice e)) (hc : P.cellsOf e = sz) (h0 : 0 < sz) (hel : ∀ {n cs z}, DataW.trod enc P w base spare held n e cs = some z → ∃ x, cs = cells x ∧ ok x)
    (h : DataW.trod enc P w base spare held fuel t [c] = some y) : ∃ a cap, ∃ xs : List α, c = .slice a xs.length cap ∧ SlArg sz cells w a xs ∧ (∀ x ∈ xs, ok x) ∧ xs.length ≤ maxLen := by
  rcases Go.Deep.open_slice ht h with ⟨hs, _⟩ | ⟨a, len, cap, m, n, D, Pl, hs, hb, hl, hm, hmm, _, hall⟩
  · simp only [List.cons.injEq, and_true] at hs
    subst hs
    exact ⟨none, 0, [], rfl, fun k hk => absurd hk (by simp), ⟨fun x hx => absurd hx (by simp), Nat.zero_le _⟩⟩
  · simp only [List.cons.injEq, and_true] at hs
    subst hs
    have hlm : len ≤ m := by rw [hmm]; split <;> omega
    have key : ∀ i, i < len → ∃ x : α, (∀ j, j < sz → w.cell? (a.add (i * sz + j)) = (cells x)[j]?) ∧ ok x ∧ (cells x).length = sz := by
      intro i hi
      obtain ⟨cs', h1, h2⟩ := hall i (by omega)
      rw [hc] at h1
      obtain ⟨x, rfl, hx⟩ := hel h2
      obtain ⟨_, hlen, hcell⟩ := World.cells?_some h1
      refine ⟨x, fun j hj => ?_, hx, hlen⟩
      rw [← Go.Deep.add_add]
      exact hcell j hj
    obtain ⟨q, hq⟩ := Go.Deep.choose_lt key
    have hql : ((List.range len).map q).length = len := by simp
    refine ⟨some a, cap, (List.range len).map q, by rw [hql], fun k hk => ?_, fun x hx => ?_, by rw [hql]; omega⟩
    · have hk' : k < len := by rw [hql] at hk; exact hk
      have e : ((List.range len).map q)[k]'hk = q k := by simp
      rw [e]
      refine ⟨a, rfl, ?_, (hq k hk').1⟩
      have h1 := (hq k hk').1 0 h0
      rw [List.getElem?_eq_getElem (by rw [(hq k hk').2.2]; exact h0)] at h1
      have h2 := World.block_lt_of_cell? w _ h1
      rwa [add_block] at h2
    · obtain ⟨i, hi, rfl⟩ := List.mem_map.1 hx
      exact (hq i (List.mem_range.1 hi)).2.1

end Go.Proofs.Ytbcpfciegamaeaa
