/- Lines of the program. -/
import Derived.Test.YtjljdkamidppbaaPartsK
import Derived.Test.YtjljdkamidppbaaStrs
import Derived.Maps.AppendAt
import Derived.Lib.Hide
namespace Go.Proofs.Ytjljdkamidppbaa
open Go.RowKit Go.Shelf
attribute [local go_sem] Oper.semAt_some

theorem parts_stops_nl (F : Fence) (n : Nat) (h51 : F.fn 67) (hfs : F.fn 51) (hro : F.round = none) (hn : 1 ≤ n) (Bs : Nat) (s : ByteArray) (hsz : s.size ≤ 1048576) (w : World) (hB : Bs + 1 < w.heap.size)
    (hB0 : w.cell? ⟨Bs, 0, none⟩ = some (.string s)) (hB1 : w.cell? ⟨Bs + 1, 0, none⟩ = some (.func (.func 51) #[] #[])) :
    SeqStopsK F n Try.prog 67 #[.pointer (some ⟨Bs, 0, none⟩), .pointer (some ⟨Bs + 1, 0, none⟩)] (fun x : ByteArray => #[Value.string x]) (KeepsBoxes Bs) (fun ys => ys.map (·.data.toList) = partsL isNL s.data.toList []) (fun _ => True) (s.size + 1) w :=
  fun l J Jx W hW hJ _ hY h0 => parts1_nl F n h51 hfs hro hn l Bs s hsz J Jx W hJ hY (Nat.lt_of_lt_of_le hB hW.size) ((hW.cell (p := ⟨Bs, 0, none⟩) (by show Bs < _; omega)).trans hB0) ((hW.cell (p := ⟨Bs + 1, 0, none⟩) hB).trans hB1) h0

set_option maxRecDepth 100000 in
set_option maxHeartbeats 2000000 in
theorem appendSeq_nl (F : Fence) (n : Nat) (h52 : F.fn 68) (h51 : F.fn 67) (hfs : F.fn 51) (hro : F.round = none) (hn : 3 ≤ n) (Bs : Nat) (s : ByteArray) (hsz : s.size ≤ 1048576) (w : World) (hB : Bs + 1 < w.heap.size)
    (hB0 : w.cell? ⟨Bs, 0, none⟩ = some (.string s)) (hB1 : w.cell? ⟨Bs + 1, 0, none⟩ = some (.func (.func 51) #[] #[])) :
    CallsIn F n Try.prog 68 #[.slice none 0 0, .func (.func 67) #[] #[.pointer (some ⟨Bs, 0, none⟩), .pointer (some ⟨Bs + 1, 0, none⟩)]] w fun e W' => ∃ (v : Value) (ys : List ByteArray), e = .returned v ∧
      ys.map (·.data.toList) = partsL isNL s.data.toList [] ∧ W'.ownsRow w.heap.size 9 1 v ys.length (strVals ys) ∧ Below w.heap.size w W' := by
  have h1 : 1 ≤ n := by omega
  obtain ⟨i0, hi, hz0, hz1, hz2⟩ := info_parts infoS
  refine callsIn_of_wp_marks Try.func68 rfl h52 ?_ hro
  simp only [Try.ntmps68, List.size_toArray, List.length_cons, List.length_nil, Nat.reduceAdd, Nat.reduceSub, Array.replicate_succ, Array.replicate_zero, List.push_toArray, List.append_toArray, List.nil_append, List.cons_append]
  gi_wp2
  have bO := Boxed.new w 29 (.slice none 0 0)
  have hb0 : Below w.heap.size w (w.alloc (.cells #[.slice none 0 0] 29)) := (Below.refl _ w).alloc (Nat.le_refl _) _
  refine wpIn_rangeFunc_ownG hro h1 (gf := 67) (lb := #[.pointer (some ⟨Bs, 0, none⟩), .pointer (some ⟨Bs + 1, 0, none⟩)]) rfl h51 (enters_of Try.func67 (by kernel_rfl) rfl)
    (parts_stops_nl F (n - 1) h51 hfs hro (by omega) Bs s hsz w hB hB0 hB1) keepsBoxes_t (keepsBoxes_b (by simp; omega)) hb0 (fun _ => rfl)
    (fun pre W => (∃ v, Boxed W w.heap.size 29 v ∧ W.ownsRow w.heap.size 9 1 v pre.length (strVals pre) ∧ True) ∧ Below w.heap.size w W)
    (fun _ _ _ => False)
    (OwnFrom.and (Own.from (holdsRow_own w.heap.size w.heap.size 29 9 1 (fun pre : List ByteArray => pre.length) (fun pre => strVals pre) (fun _ _ => True)) _) (ownFrom_below (Nat.le_refl _) (by simp)))
    (fun _ _ _ _ _ hs _ _ => hs)
    ⟨⟨_, bO, World.ownsRow_nil _ _ _ _, trivial⟩, hb0⟩
    (fun x => { tmps := #[.slice none 0 0, .func (.func 67) #[] #[.pointer (some ⟨Bs, 0, none⟩), .pointer (some ⟨Bs + 1, 0, none⟩)], .pointer (some ⟨w.heap.size, 0, none⟩), undef, .slice none 0 0, .string x, .func (.func 67) #[] #[.pointer (some ⟨Bs, 0, none⟩), .pointer (some ⟨Bs + 1, 0, none⟩)], .string x, undef, undef, undef, undef, undef], defers := [] }) ?assign ?body ?done ?stop
  case assign =>
    intro l x W K hK
    gi_wp2
    exact hK
  case body =>
    rintro l pre x W ⟨⟨v, hv, hrow, -⟩, hB'⟩ hlt
    have hc := hv.cell
    gi_wp2_with (gi_at_builtin; refine wpListIn_append_own _ rfl _ _ 29 rfl w.heap.size 9 i0 (.string .empty) 1 16 Try.underlying29 hi hz0 hz1 hz2 rfl (by decide) _ _ _ rfl (hrow.alloc _) ⟨W.heap.size, 0, none⟩ 1 1 [.string x] rfl rfl (cell_one_new _ _ _) (by simp [Value.oneCell']) (by unfold maxLen; omega) (by omega) (by have := hB'.size; simp; omega) ?_; intro v' w1 hown' hgrow _; obtain ⟨g', cap', rfl⟩ := ownsRow_succ hown'; obtain ⟨hv1, hv2, hr2, hk2, hb2⟩ := hv.appended (by decide) hrow hB'.size (Nat.le_refl _) hown' hgrow; have hc1 := hv1.cell; have hf1 := hv1.frozen)
    exact ⟨hk2.from _, keepsBoxes_of hB hk2 hb2, ⟨_, hv2, by simpa [strVals] using hr2, trivial⟩, hB'.trans hb2⟩
  case done =>
    rintro D ys W hD hys ⟨⟨v, hv, hrow, -⟩, hB'⟩ hK
    have hc := hv.cell
    gi_wp2
    refine ⟨by simp, .inl ⟨_, _, rfl, run_takeDeferred hK, ?_⟩⟩
    exact ⟨_, results_tmp rfl _ _ _, v, ys, rfl, hys, ownsRow_putObj hrow _ hK rfl, hB'.trans (belowK_b (w := w) (Nat.le_refl _) W D _ _ (by simp at hD; omega) hK rfl rfl)⟩
  case stop =>
    rintro D c pre W _ _ h _
    exact h.elim

theorem collect_nl (F : Fence) (n : Nat) (h41 : F.fn 50) (h52 : F.fn 68) (h51 : F.fn 67) (hfs : F.fn 51) (hro : F.round = none) (hn : 4 ≤ n) (Bs : Nat) (s : ByteArray) (hsz : s.size ≤ 1048576) (w : World) (hB : Bs + 1 < w.heap.size)
    (hB0 : w.cell? ⟨Bs, 0, none⟩ = some (.string s)) (hB1 : w.cell? ⟨Bs + 1, 0, none⟩ = some (.func (.func 51) #[] #[])) :
    CallsIn F n Try.prog 50 #[.func (.func 67) #[] #[.pointer (some ⟨Bs, 0, none⟩), .pointer (some ⟨Bs + 1, 0, none⟩)]] w fun e W' => ∃ (v : Value) (ys : List ByteArray), e = .returned v ∧
      ys.map (·.data.toList) = partsL isNL s.data.toList [] ∧ W'.ownsRow w.heap.size 9 1 v ys.length (strVals ys) ∧ Below w.heap.size w W' := by
  have h1 : 1 ≤ n := by omega
  refine callsIn_of_wp Try.func50 rfl h41 ?_ hro
  simp only [Try.ntmps50, List.size_toArray, List.length_cons, List.length_nil, Nat.reduceAdd, Nat.reduceSub, Array.replicate_succ, Array.replicate_zero, List.push_toArray, List.append_toArray, List.nil_append, List.cons_append]
  gi_wp2_with (gi_at_call 68; refine (appendSeq_nl F (n - 1) h52 h51 hfs hro (by omega) Bs s hsz _ hB hB0 hB1).mono ?_; rintro e w' ⟨v, ys, rfl, hys, hrow, hb⟩)
  go_ret
  exact ⟨v, ys, rfl, hys, hrow, hb⟩

set_option maxRecDepth 100000 in
theorem lines_impl (s : ByteArray) (hsz : s.size ≤ 1048576) (w : World) :
    Calls Try.prog 20 #[.string s] w (GotStrs w (linesL s.data.toList)) := by
  refine (callsIn_wide (n := 8)).1 ?_
  have f38 : Fence.wide.fn 47 := trivial
  have f41 : Fence.wide.fn 50 := trivial
  have f52 : Fence.wide.fn 68 := trivial
  have f51 : Fence.wide.fn 67 := trivial
  have f42 : Fence.wide.fn 51 := trivial
  refine callsIn_of_wp Try.func20 rfl trivial ?_ rfl
  simp only [Try.ntmps20, List.size_toArray, List.length_cons, List.length_nil, Nat.reduceAdd, Nat.reduceSub, Array.replicate_succ, Array.replicate_zero, List.push_toArray, List.append_toArray, List.nil_append, List.cons_append]
  gi_wp2_with (gi_at_call 47; refine (parts_in Fence.wide 7 f38 rfl s 51 _).mono ?_; rintro e w' ⟨rfl, rfl⟩)
  have hb0 : Below w.heap.size w ((w.alloc (.cells #[.string s] 9)).alloc (.cells #[.func (.func 51) #[] #[]] 50)) := ((Below.refl _ w).alloc (Nat.le_refl _) _).alloc (by simp) _
  have hn1 := World.alloc_heap_new w (.cells #[.string s] 9)
  have hn2 := World.alloc_heap_new (w.alloc (.cells #[.string s] 9)) (.cells #[.func (.func 51) #[] #[]] 50)
  rw [World.size_alloc] at hn2
  have hn1' := (Below.heap_alloc (w.alloc (.cells #[.string s] 9)) (.cells #[.func (.func 51) #[] #[]] 50) w.heap.size (by simp)).trans hn1
  refine (collect_nl Fence.wide 7 f41 f52 f51 f42 rfl (by decide) w.heap.size s hsz _ (by simp) (cell_box hn1') (cell_box hn2)).mono ?_
  clear hn1 hn1' hn2
  rintro e w1 ⟨v, ys, rfl, hys, hrow, hb1⟩
  have hb2 : Below w.heap.size w w1 := hb0.trans (hb1.mono (by simp; omega))
  have hlen := partsL_len isNL s.data.toList []
  rw [← hys] at hlen
  rw [List.length_map, Array.length_toList] at hlen
  have hlen' : ys.length ≤ s.size + 1 := hlen
  have hne : ys ≠ [] := by rintro rfl; exact partsL_ne isNL _ _ hys.symm
  obtain ⟨zs, y, rfl⟩ : ∃ zs y, ys = zs ++ [y] := ⟨ys.dropLast, ys.getLast hne, (List.dropLast_concat_getLast hne).symm⟩
  have hl : (zs ++ [y]).length = zs.length + 1 := by simp
  rw [hl] at hrow hlen'
  have hrow' : w1.ownsRow w.heap.size 9 1 v (zs.length + 1) (strVals (zs ++ [y])) := ownsRow_lower hrow (by simp; omega)
  obtain ⟨g, cap, rfl⟩ := ownsRow_succ hrow'
  obtain ⟨hcap, -, -⟩ := ownsRow_cap hrow'
  have hcl : w1.cell? ⟨g, zs.length, none⟩ = some (.string y) := by
    rw [hrow'.cellAt zs.length (by omega)]
    simp [strVals]
  generalize hk : zs.length = k at *
  clear hb0 hb1 hne hlen hl hrow
  have HK := Lib.hid hk; clear hk
  have HY := Lib.hid hys; clear hys
  have hyl : y.data.toList = [] ↔ y.size = 0 := by
    rw [← List.length_eq_zero_iff, Array.length_toList]; rfl
  by_cases hy : y.size = 0
  · have hye := is_empty y hy
    have hres : zs.map (·.data.toList) = linesL s.data.toList := by
      unfold linesL
      rw [← HY.out]
      simp [hyl.2 hy]
    have HR := Lib.hid hres; have HYL := Lib.hid hyl; have HYS := Lib.hid hy
    clear hres hyl hy
    have hpre := ownsRow_prefix hrow' (Nat.le_succ k)
    have HPR := Lib.hid hpre; clear hpre
    gi_wp2
    go_ret
    refine ⟨_, zs, rfl, HR.out, ?_, hb2⟩
    have e : (strVals (zs ++ [y])).take k = strVals zs := by
      rw [← HK.out]; simp [strVals]
    have h := HPR.out
    rw [e] at h
    rw [HK.out]
    exact h
  · have hye := not_empty y (by omega)
    have hres : (zs ++ [y]).map (·.data.toList) = linesL s.data.toList := by
      unfold linesL
      rw [← HY.out]
      have hyn : ¬ y.data.toList = [] := fun h => hy (hyl.1 h)
      simp at hyn
      simp [hyn]
    have HR := Lib.hid hres
    clear hres hyl hy
    gi_wp2
    go_ret
    refine ⟨_, zs ++ [y], rfl, HR.out, ?_, hb2⟩
    have hl : (zs ++ [y]).length = k + 1 := by rw [← HK.out]; simp
    rw [hl]
    exact hrow'
end Go.Proofs.Ytjljdkamidppbaa
