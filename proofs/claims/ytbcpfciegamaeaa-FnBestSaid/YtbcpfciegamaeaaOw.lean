/- Slices that a call owns, whatever their elements: append of one element; what keeps them. -/
import Derived.Test.YtbcpfciegamaeaaSlA
import Derived.Test.YtbcpfciegamaeaaDrB
namespace Go.Proofs.Ytbcpfciegamaeaa
open Go.RowKit

section
variable {α : Type} {K : Kd α}
/-- the call owns the slice v, which holds xs -/
def OwnS (K : Kd α) (w : World) (base : Nat) (v : Value) (xs : List α) : Prop := w.ownsRow base K.e K.sz v xs.length (xs.flatMap K.cs)
theorem OwnS.kept {w w' : World} {base c : Nat} {v : Value} {xs : List α} (h : OwnS K w base v xs) (hg : w.grownBy w' (some c)) (hc : c < base) : OwnS K w' base v xs :=
  World.ownsRow.kept (row := some c) h hg (by
    cases hv : v.ownBlock with
    | none => exact .inl rfl
    | some g => exact .inr (fun e => by cases e; have := (World.ownsRow.lt h _ hv).1; omega))
theorem OwnS.after {w w' : World} {base : Nat} {v : Value} {xs : List α} (h : OwnS K w base v xs) (hb : Below w.heap.size w w') : OwnS K w' base v xs :=
  World.ownsRow.kept (row := none) h (bel_grown hb none) (by cases v.ownBlock <;> simp)
theorem OwnS.alloc {w : World} {base : Nat} {v : Value} {xs : List α} (h : OwnS K w base v xs) (o : Obj) : OwnS K (w.alloc o) base v xs := h.after ((Below.refl _ _).alloc (Nat.le_refl _) o)
theorem OwnS.sl {w : World} {base : Nat} {v : Value} {xs : List α} (h : OwnS K w base v xs) :
    ∃ a cap, v = .slice a xs.length cap ∧ SlIn K w a xs ∧ (∀ x, a = some x → base ≤ x.block) ∧ (∀ x, a = some x → x.block < w.heap.size) ∧ xs.length ≤ cap := SlIn.of_owns h rfl
theorem own_none (K : Kd α) (w : World) (t : TypeId) (ht : t = K.e) : OwnS K (w.alloc (.cells #[] t)) w.heap.size (.slice (some ⟨w.heap.size, 0, none⟩) 0 0) [] := by
  subst ht
  exact ⟨by simp, .inr ⟨w.heap.size, 0, #[], rfl, Nat.le_refl _, by show (w.heap.push _)[w.heap.size]? = _; simp, Nat.le_refl _, by decide, by simp, by simp⟩⟩
/-- one element in a block is a source -/
theorem blk_src {P : Program} {w : World} {b : Nat} {cs : Array Value} {t tx e' : TypeId} (hk : P.underlying tx = some (.slice e')) (h : Blk w b cs t) {n : Nat} (hn : cs.size = n) (h1 : ∀ u ∈ cs.toList, u.oneCell' = true) :
    Src P n tx (.slice (some ⟨b, 0, none⟩) 1 1) 1 cs.toList w := by
  refine Src.ofSlice w hk ⟨b, 0, none⟩ 1 1 cs.toList (by simp [hn]) ?_ h1
  intro j u hu
  rw [Addr.add_lit, Nat.zero_add, h.cell j]
  simpa using hu
theorem OwnS.append {w : World} {base : Nat} {xs : List α} {x : α} {a : Option Addr} {c : Nat} (h : w.ownsRow base K.e K.sz (.slice a (xs.length + 1) c) (xs.length + 1) (xs.flatMap K.cs ++ K.cs x)) : OwnS K w base (.slice a (xs ++ [x]).length c) (xs ++ [x]) := by
  unfold OwnS
  rw [flat_snoc, List.length_append]
  exact h
end
theorem cur_own {B c len : Nat} {w w' : World} {r : Option Nat} (hc : Cur B c len w) (hg : w.grownBy w' r) (hr : ∀ b, r = some b → c < b) : Cur B c len w' := by
  obtain ⟨a, cap, zs, i, h, h1, h2, h3, h4, h5, h6⟩ := hc
  have hcB : c < w.heap.size := (Array.getElem?_eq_some_iff.1 h2).1
  refine ⟨a, cap, zs, i, h, h1, (hg.block c hcB (fun e => ?_)).trans h2, h3.below h4 ((Below.refl _ w).grown hg (by omega) (fun k e => by have := hr k e; omega)), h4, h5, h6⟩
  have := hr c e.symm
  omega
end Go.Proofs.Ytbcpfciegamaeaa
