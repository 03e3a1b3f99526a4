/- Words of the program. -/
import Derived.Test.YtjljdkamidppbabPartsK
import Derived.Test.YtjljdkamidppbabPartsB
import Derived.Test.YtjljdkamidppbabStrs
import Derived.Maps.AppendAt
import Derived.Lib.Hide
namespace Go.Proofs.Ytjljdkamidppbab
open Go.RowKit Go.Shelf
attribute [local go_sem] Oper.semAt_some

theorem parts_stops_bl (F : Fence) (n : Nat) (h51 : F.fn 38) (hfs : F.fn 26) (hro : F.round = none) (hn : 1 ≤ n) (Bs : Nat) (s : ByteArray) (hsz : s.size ≤ 1048576) (w : World) (hB : Bs + 1 < w.heap.size)
    (hB0 : w.cell? ⟨Bs, 0, none⟩ = some (.string s)) (hB1 : w.cell? ⟨Bs + 1, 0, none⟩ = some (.func (.func 26) #[] #[])) :
    SeqStopsK F n Try.prog 38 #[.pointer (some ⟨Bs, 0, none⟩), .pointer (some ⟨Bs + 1, 0, none⟩)] (fun x : ByteArray => #[Value.string x]) (KeepsBoxes Bs) (fun ys => ys.map (·.data.toList) = partsL isBL s.data.toList []) (fun _ => True) (s.size + 1) w :=
  fun l J Jx W hW hJ _ hY h0 => parts1_bl F n h51 hfs hro hn l Bs s hsz J Jx W hJ hY (Nat.lt_of_lt_of_le hB hW.size) ((hW.cell (p := ⟨Bs, 0, none⟩) (by show Bs < _; omega)).trans hB0) ((hW.cell (p := ⟨Bs + 1, 0, none⟩) hB).trans hB1) h0

/-- the parts that are not empty -/
def solid (ys : List ByteArray) : List ByteArray := ys.filter fun y => !y.toList.isEmpty
theorem solid_hit (ys : List ByteArray) {y : ByteArray} (h : y.toList.isEmpty = false) : solid (ys ++ [y]) = solid ys ++ [y] := by simp [solid, h]
theorem solid_miss (ys : List ByteArray) {y : ByteArray} (h : y.toList.isEmpty = true) : solid (ys ++ [y]) = solid ys := by simp [solid, h]
theorem solid_words (ys : List ByteArray) (l : List UInt8) (h : ys.map (·.data.toList) = partsL isBL l []) : (solid ys).map (·.data.toList) = wordsL l := by
  unfold wordsL
  rw [← h, List.filter_map]
  unfold solid
  congr 1
  refine List.filter_congr fun y _ => ?_
  simp [ByteArray.toList_eq]

theorem ownsRow_raise {w : World} {base base' : Nat} {e : TypeId} {size g n cap : Nat} {xs : List Value} (h : w.ownsRow base e size (.slice (some ⟨g, 0, none⟩) n cap) n xs) (hb : base' ≤ g) : w.ownsRow base' e size (.slice (some ⟨g, 0, none⟩) n cap) n xs := by
  refine ⟨h.1, ?_⟩
  rcases h.2 with ⟨h', _⟩ | ⟨g', cap', cur, h1, h2, h3⟩
  · cases h'
  · have e := h1
    simp only [Value.slice.injEq, Option.some.injEq, Addr.mk.injEq, and_true, true_and] at e
    obtain ⟨rfl, rfl⟩ := e
    exact .inr ⟨g, cap, cur, rfl, hb, h3⟩

/-- what an append to the box's slice keeps -/
theorem keeps_append {W w1 : World} {tmp : Obj} {v v' : Value} {B b base : Nat} (hg : (W.alloc tmp).grownBy w1 v.ownBlock) (hv : ∀ g, v.ownBlock = some g → base ≤ g) (hb : b < base) (hW : b < W.heap.size) (hne : b ≠ B) : (w1.setCell ⟨B, 0, none⟩ v').heap[b]? = W.heap[b]? := by
  rw [heap_setCell_other w1 ⟨B, 0, none⟩ b v' (fun e => hne (by simpa using e))]
  rw [hg.block b (by simp; omega) (fun e => by have := hv b e.symm; omega)]
  exact Below.heap_alloc W tmp b hW

set_option maxRecDepth 100000 in
set_option maxHeartbeats 2000000 in
theorem words_impl (s : ByteArray) (hsz : s.size ≤ 1048576) (w : World) :
    Calls Try.prog 10 #[.string s] w (GotStrs w (wordsL s.data.toList)) := by
  refine (callsIn_wide (n := 8)).1 ?_
  have f38 : Fence.wide.fn 25 := trivial
  have f51 : Fence.wide.fn 38 := trivial
  have f39 : Fence.wide.fn 26 := trivial
  obtain ⟨i0, hi, hz0, hz1, hz2⟩ := info_parts infoS
  refine callsIn_of_wp_marks Try.func10 rfl trivial ?_ rfl
  simp only [Try.ntmps10, List.size_toArray, List.length_cons, List.length_nil, Nat.reduceAdd, Nat.reduceSub, Array.replicate_succ, Array.replicate_zero, List.push_toArray, List.append_toArray, List.nil_append, List.cons_append]
  gi_wp2_with (gi_at_call 25; refine (parts_in Fence.wide 7 f38 rfl s 26 _).mono ?_; rintro e w' ⟨rfl, rfl⟩)
  obtain ⟨w0, hw0⟩ : ∃ w0, ((w.alloc (.cells #[.slice none 0 0] 22)).alloc (.cells #[.string s] 9)).alloc (.cells #[.func (.func 26) #[] #[]] 35) = w0 := ⟨_, rfl⟩
  have hsz0 : w0.heap.size = w.heap.size + 3 := by rw [← hw0]; simp
  have hb0 : Below w.heap.size w w0 := by rw [← hw0]; exact (((Below.refl _ w).alloc (Nat.le_refl _) _).alloc (by simp) _).alloc (by simp; omega) _
  have bO : Boxed w0 w.heap.size 22 (.slice none 0 0) := by rw [← hw0]; exact ((Boxed.new w 22 (.slice none 0 0)).alloc _).alloc _
  have hn1 : w0.heap[w.heap.size + 1]? = some (.cells #[.string s] 9) := by
    have h := World.alloc_heap_new (w.alloc (.cells #[.slice none 0 0] 22)) (.cells #[.string s] 9)
    rw [World.size_alloc] at h
    rw [← hw0]
    exact (Below.heap_alloc _ _ _ (by simp)).trans h
  have hn2 : w0.heap[w.heap.size + 1 + 1]? = some (.cells #[.func (.func 26) #[] #[]] 35) := by
    have h := World.alloc_heap_new ((w.alloc (.cells #[.slice none 0 0] 22)).alloc (.cells #[.string s] 9)) (.cells #[.func (.func 26) #[] #[]] 35)
    rw [World.size_alloc, World.size_alloc] at h
    rw [← hw0]
    exact h
  rw [hw0]
  clear hw0
  refine wpIn_rangeFunc_ownG rfl (by decide) (gf := 38) (lb := #[.pointer (some ⟨w.heap.size + 1, 0, none⟩), .pointer (some ⟨w.heap.size + 1 + 1, 0, none⟩)]) rfl f51 (enters_of Try.func38 (by kernel_rfl) rfl)
    (parts_stops_bl Fence.wide 7 f51 f39 rfl (by omega) (w.heap.size + 1) s hsz w0 (by omega) (cell_box hn1) (cell_box hn2)) keepsBoxes_t (keepsBoxes_b (by omega)) (Below.refl _ _) (fun _ => rfl)
    (fun pre W => (∃ v, Boxed W w.heap.size 22 v ∧ W.ownsRow (w.heap.size + 3) 9 1 v (solid pre).length (strVals (solid pre)) ∧ True) ∧ Below w.heap.size w W ∧ w.heap.size + 3 ≤ W.heap.size)
    (fun _ _ _ => False)
    (OwnFrom.and (Own.from (holdsRow_own (w.heap.size + 3) w.heap.size 22 9 1 (fun pre : List ByteArray => (solid pre).length) (fun pre => strVals (solid pre)) (fun _ _ => True)) _) (OwnFrom.and (ownFrom_below (Nat.le_refl _) (by omega)) (fun _ _ _ _ hs hg _ => Nat.le_trans hs hg.size)))
    (fun _ _ _ _ _ hs _ _ => hs)
    ⟨⟨_, bO, World.ownsRow_nil _ _ _ _, trivial⟩, hb0, by omega⟩
    (fun x => { tmps := #[.string s, undef, .slice none 0 0, .pointer (some ⟨w.heap.size, 0, none⟩), .string x, .string s, .func (.func 38) #[] #[.pointer (some ⟨w.heap.size + 1, 0, none⟩), .pointer (some ⟨w.heap.size + 1 + 1, 0, none⟩)], .string x, undef, undef, undef, undef, undef, undef, undef], defers := [] }) ?assign ?body ?done ?stop
  case assign =>
    intro l x W K hK
    gi_wp2
    exact hK
  case body =>
    rintro l pre x W ⟨⟨v, hv, hrow, -⟩, hB', hS'⟩ hlt
    have hc := hv.cell
    have hpl : (solid pre).length ≤ pre.length := List.length_filter_le _ _
    cases hx : x.toList.isEmpty with
    | false =>
      gi_wp2_with (gi_at_builtin; refine wpListIn_append_own _ rfl _ _ 22 rfl (w.heap.size + 3) 9 i0 (.string .empty) 1 16 Try.underlying22 hi hz0 hz1 hz2 rfl (by decide) _ _ _ rfl (hrow.alloc _) ⟨W.heap.size, 0, none⟩ 1 1 [.string x] rfl rfl (cell_one_new _ _ _) (by simp [Value.oneCell']) (by unfold maxLen; omega) (by omega) (by simp; omega) ?_; intro v' w1 hown' hgrow _; obtain ⟨g', cap', rfl⟩ := ownsRow_succ hown'; obtain ⟨hv1, hv2, hr2, hk2, hb2⟩ := hv.appended (by decide) (ownsRow_lower hrow (by omega)) (by have := hB'.size; omega) (Nat.le_refl _) (ownsRow_lower hown' (by omega)) hgrow; have hc1 := hv1.cell; have hf1 := hv1.frozen)
      have hkb : KeepsBoxes (w.heap.size + 1) W (w1.setCell ⟨w.heap.size, 0, none⟩ _) := ⟨⟨hk2.size, fun k o h hw => hk2.same k o h (Obj.not_cells_of_walk hw)⟩, keeps_append hgrow (fun g e => (hrow.lt g e).1) (by omega) (by omega) (by omega), keeps_append hgrow (fun g e => (hrow.lt g e).1) (by omega) (by omega) (by omega)⟩
      refine ⟨hk2.from _, hkb, ⟨_, hv2, ?_, trivial⟩, hB'.trans hb2, Nat.le_trans hS' hk2.size⟩
      rw [solid_hit pre hx]
      have h3 := ownsRow_raise hr2 (ownsRow_cap hown').2.2
      simpa [strVals] using h3
    | true =>
      gi_wp2
      exact ⟨KeepsFrom.refl _ _, ⟨KeepsWalks.refl _, rfl, rfl⟩, ⟨v, hv, by rw [solid_miss pre hx]; exact hrow, trivial⟩, hB', hS'⟩
  case done =>
    rintro D ys W hD hys ⟨⟨v, hv, hrow, -⟩, hB', hS'⟩ hK
    have hc := hv.cell
    gi_wp2
    refine ⟨by simp, .inl ⟨_, _, rfl, run_takeDeferred hK, ?_⟩⟩
    exact ⟨_, results_tmp rfl _ _ _, v, solid ys, rfl, solid_words ys _ hys, ownsRow_lower (ownsRow_putObj hrow _ hK rfl) (by omega), hB'.trans (belowK_b (w := w) (Nat.le_refl _) W D _ _ (by omega) hK rfl rfl)⟩
  case stop =>
    rintro D c pre W _ _ h _
    exact h.elim
end Go.Proofs.Ytjljdkamidppbab
