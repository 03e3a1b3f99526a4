/- What a round over the parts keeps; the maker of the iterator. -/
import Derived.Test.YtjljdkamidppbabParts
import Derived.Test.YtjljdkamidppbabStrs
import Derived.Maps.AppendAt
import Derived.Lib.Hide
namespace Go.Proofs.Ytjljdkamidppbab
open Go.RowKit Go.Shelf
attribute [local go_sem] Oper.semAt_some

theorem keepsBoxes_t {Bs : Nat} {A B C : World} (h : KeepsBoxes Bs A B) (k : KeepsBoxes Bs B C) : KeepsBoxes Bs A C := ⟨h.1.trans k.1, k.2.1.trans h.2.1, k.2.2.trans h.2.2⟩
theorem keepsBoxes_b {Bs : Nat} {w : World} (hB : Bs + 1 < w.heap.size) (W : World) (l : Nat) (o o' : Obj) (hl : w.heap.size ≤ l) (h : W.heap[l]? = some o) (hc : o.isCells = false) (hw : o.isWalk = false) : KeepsBoxes Bs W (W.putObj l o') :=
  ⟨walksK_b W l o o' hl h hc hw, World.putObj_heap_other (by omega), World.putObj_heap_other (by omega)⟩
theorem keepsBoxes_of {Bs n₀ : Nat} {A B : World} (hB : Bs + 1 < n₀) (hk : KeepsOthers A B) (hb : Below n₀ A B) : KeepsBoxes Bs A B :=
  ⟨⟨hk.size, fun k o h hw => hk.same k o h (Obj.not_cells_of_walk hw)⟩, hb.block Bs (by omega), hb.block (Bs + 1) (by omega)⟩

/-- parts: the arguments are boxed; the function value captures the boxes. -/
theorem parts_in (F : Fence) (n : Nat) (hf : F.fn 25) (hro : F.round = none) (s : ByteArray) (g : Nat) (w : World) :
    CallsIn F n Try.prog 25 #[.string s, .func (.func g) #[] #[]] w fun e w' => e = .returned (.func (.func 38) #[] #[.pointer (some ⟨w.heap.size, 0, none⟩), .pointer (some ⟨w.heap.size + 1, 0, none⟩)]) ∧
      w' = (w.alloc (.cells #[.string s] 9)).alloc (.cells #[.func (.func g) #[] #[]] 35) := by
  refine callsIn_of_wp Try.func25 rfl hf ?_ hro
  simp only [Try.ntmps25, List.size_toArray, List.length_cons, List.length_nil, Nat.reduceAdd, Nat.reduceSub, Array.replicate_succ, Array.replicate_zero, List.push_toArray, List.append_toArray, List.nil_append, List.cons_append]
  gi_wp2
  go_ret
  exact ⟨rfl, rfl⟩

end Go.Proofs.Ytjljdkamidppbab
