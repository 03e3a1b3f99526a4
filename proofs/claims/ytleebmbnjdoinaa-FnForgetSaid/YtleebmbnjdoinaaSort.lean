/- slices.SortFunc over rows, by their keys; the rows of a map as a table. -/
import Derived.Test.YtleebmbnjdoinaaColl
import Derived.Test.YtleebmbnjdoinaaTbPl
import Derived.Shelf.SlSortCmp.WholeK
import Derived.Shelf.SlSortCmp.NoneTotal
import Derived.Sort.OwnSorted
namespace Go.Proofs.Ytleebmbnjdoinaa
open Go.RowKit Go.Shelf Go.Sort

def laysSort_ren : Go.Shelf.Ren := ⟨fun | 6 => 90 | 15 => 97 | 14 => 96 | 28 => 108 | 29 => 109 | 20 => 100 | 21 => 101 | 22 => 102 | 23 => 103 | 24 => 104 | 25 => 105 | 26 => 106 | 27 => 107 | 46 => 110 | 47 => 111 | 48 => 112 | 49 => 113 | 50 => 114 | 57 => 115 | n => n, fun | 22 => 24 | 24 => 34 | 25 => 93 | 3 => 3 | 39 => 108 | 0 => 0 | 53 => 128 | 55 => 130 | 4 => 4 | 46 => 121 | 45 => 120 | 50 => 125 | 5 => 5 | 9 => 9 | 66 => 132 | 70 => 136 | 76 => 138 | 77 => 139 | n => n, fun | n => n⟩
theorem laysSort : Go.Proofs.SlLaysF0.n6 Try.prog laysSort_ren := {
  mixed := by kernel_rfl
  f6 := ⟨Try.f90.name, by decide, Try.func90.trans (congrArg some (by kernel_rfl))⟩
  f14 := ⟨Try.f96.name, by decide, Try.func96.trans (congrArg some (by kernel_rfl))⟩
  f15 := Try.func97.trans (congrArg some (by kernel_rfl))
  f20 := ⟨Try.f100.name, by decide, Try.func100.trans (congrArg some (by kernel_rfl))⟩
  f21 := ⟨Try.f101.name, by decide, Try.func101.trans (congrArg some (by kernel_rfl))⟩
  f22 := ⟨Try.f102.name, by decide, Try.func102.trans (congrArg some (by kernel_rfl))⟩
  f23 := ⟨Try.f103.name, by decide, Try.func103.trans (congrArg some (by kernel_rfl))⟩
  f24 := ⟨Try.f104.name, by decide, Try.func104.trans (congrArg some (by kernel_rfl))⟩
  f25 := ⟨Try.f105.name, by decide, Try.func105.trans (congrArg some (by kernel_rfl))⟩
  f26 := ⟨Try.f106.name, by decide, Try.func106.trans (congrArg some (by kernel_rfl))⟩
  f27 := ⟨Try.f107.name, by decide, Try.func107.trans (congrArg some (by kernel_rfl))⟩
  f28 := Try.func108.trans (congrArg some (by kernel_rfl))
  f29 := Try.func109.trans (congrArg some (by kernel_rfl))
  f46 := ⟨Try.f110.name, by decide, Try.func110.trans (congrArg some (by kernel_rfl))⟩
  f47 := Try.func111.trans (congrArg some (by kernel_rfl))
  f48 := Try.func112.trans (congrArg some (by kernel_rfl))
  f49 := ⟨Try.f113.name, by decide, Try.func113.trans (congrArg some (by kernel_rfl))⟩
  f50 := ⟨Try.f114.name, by decide, Try.func114.trans (congrArg some (by kernel_rfl))⟩
  f57 := ⟨Try.f115.name, by decide, Try.func115.trans (congrArg some (by kernel_rfl))⟩
  t0 := Try.underlying0
  a0 := Try.isAgg0
  z0 := Try.sizeOf0
  v0 := Try.zeroValue0
  t3 := Try.underlying3
  a3 := Try.isAgg3
  z3 := Try.sizeOf3
  v3 := Try.zeroValue3
  t4 := Try.underlying4
  a4 := Try.isAgg4
  z4 := Try.sizeOf4
  v4 := Try.zeroValue4
  t5 := Try.underlying5
  a5 := Try.isAgg5
  z5 := Try.sizeOf5
  v5 := Try.zeroValue5
  t9 := Try.underlying9
  a9 := Try.isAgg9
  z9 := Try.sizeOf9
  v9 := Try.zeroValue9
  t22 := Try.underlying24
  a22 := Try.isAgg24
  z22 := Try.sizeOf24
  v22 := Try.zeroValue24
  t25 := Try.underlying93
  a25 := Try.isAgg93
  z25 := Try.sizeOf93
  v25 := Try.zeroValue93
  t39 := Try.underlying108
  a39 := Try.isAgg108
  z39 := Try.sizeOf108
  v39 := Try.zeroValue108
  t45 := Try.underlying120
  a45 := Try.isAgg120
  z45 := Try.sizeOf120
  v45 := Try.zeroValue120
  t46 := Try.underlying121
  a46 := Try.isAgg121
  z46 := Try.sizeOf121
  v46 := Try.zeroValue121
  t50 := Try.underlying125
  a50 := Try.isAgg125
  z50 := Try.sizeOf125
  v50 := Try.zeroValue125
  t53 := Try.underlying128
  a53 := Try.isAgg128
  z53 := Try.sizeOf128
  v53 := Try.zeroValue128
  t55 := Try.underlying130
  a55 := Try.isAgg130
  z55 := Try.sizeOf130
  v55 := Try.zeroValue130
  t66 := Try.underlying132
  a66 := Try.isAgg132
  z66 := Try.sizeOf132
  v66 := Try.zeroValue132
  t70 := Try.underlying136
  a70 := Try.isAgg136
  z70 := Try.sizeOf136
  v70 := Try.zeroValue136
  t76 := Try.underlying138
  a76 := Try.isAgg138
  z76 := Try.sizeOf138
  v76 := Try.zeroValue138
  t77 := Try.underlying139
  a77 := Try.isAgg139
  z77 := Try.sizeOf139
  v77 := Try.zeroValue139 }

/-! the closure that compares two rows -/
set_option linter.unusedSimpArgs false in
theorem closure_any (a b : Rw) (w : World) : Calls Try.prog 72 #[a.val, b.val] w fun e w' => e = .returned (.int .i64 (keyCmp a b)) ∧ Grew w w' := by
  have hKA := fun w' => key_any a w'
  have hKB := fun w' => key_any b w'
  have hKC := fun w' => kcompare_any a.vid a.mac b.vid b.mac w'
  rw [show orI (cmpI a.vid b.vid) (cmpI a.mac b.mac) = keyCmp a b from rfl] at hKC
  generalize keyCmp a b = kc at hKC ⊢
  obtain ⟨a0, a1, a2, a3, a4⟩ := a
  obtain ⟨b0, b1, b2, b3, b4⟩ := b
  unfold Rw.val at *
  simp only at hKA hKB hKC ⊢
  have hg : Grew w ((w.alloc (.cells #[.int .i64 a0, .int .i64 a1, .int .i64 a2, .int .i64 a3, .bool a4] 34)).alloc (.cells #[.int .i64 b0, .int .i64 b1, .int .i64 b2, .int .i64 b3, .bool b4] 34)) := ((Grew.refl w).alloc _).alloc _
  have kA : Blk ((w.alloc (.cells #[.int .i64 a0, .int .i64 a1, .int .i64 a2, .int .i64 a3, .bool a4] 34)).alloc (.cells #[.int .i64 b0, .int .i64 b1, .int .i64 b2, .int .i64 b3, .bool b4] 34)) w.heap.size #[.int .i64 a0, .int .i64 a1, .int .i64 a2, .int .i64 a3, .bool a4] 34 := (blk_new _ _ rfl).alloc _
  have kB : Blk ((w.alloc (.cells #[.int .i64 a0, .int .i64 a1, .int .i64 a2, .int .i64 a3, .bool a4] 34)).alloc (.cells #[.int .i64 b0, .int .i64 b1, .int .i64 b2, .int .i64 b3, .bool b4] 34)) (w.heap.size + 1) #[.int .i64 b0, .int .i64 b1, .int .i64 b2, .int .i64 b3, .bool b4] 34 := blk_new _ _ (by simp)
  have HKA := Lib.hid hKA; have HKB := Lib.hid hKB; have HKC := Lib.hid hKC; have HG := Lib.hid hg; have KA := Lib.hid kA; have KB := Lib.hid kB
  clear hKA hKB hKC hg kA kB
  go_enter Try.func72, Try.ntmps72
  go_upto_region 1 with fail
  generalize (w.alloc (.cells #[.int .i64 a0, .int .i64 a1, .int .i64 a2, .int .i64 a3, .bool a4] 34)).alloc (.cells #[.int .i64 b0, .int .i64 b1, .int .i64 b2, .int .i64 b3, .bool b4] 34) = w1 at HG KA KB ⊢
  have hA : ∀ w', Grew w1 w' → RowAt w' w.heap.size 0 ⟨a0, a1, a2, a3, a4⟩ := fun w' hg => ⟨(KA.out.after hg.below).cell 0, (KA.out.after hg.below).cell 1, (KA.out.after hg.below).cell 2, (KA.out.after hg.below).cell 3, (KA.out.after hg.below).cell 4⟩
  have hB : ∀ w', Grew w1 w' → RowAt w' (w.heap.size + 1) 0 ⟨b0, b1, b2, b3, b4⟩ := fun w' hg => ⟨(KB.out.after hg.below).cell 0, (KB.out.after hg.below).cell 1, (KB.out.after hg.below).cell 2, (KB.out.after hg.below).cell 3, (KB.out.after hg.below).cell 4⟩
  unfold RowAt at hA hB
  simp only [Nat.zero_add] at hA hB
  refine wp_region_held_drew (S := fun w' => Grew w1 w') (by kernel_rfl) ((Grew.refl _).drew) (fun hHeld => ?_)
  refine wpAnyH_take (i := 0) (v := ?v1) rfl (by kernel_rfl) (by kernel_rfl) (by kernel_rfl) (fun _ _ _ h => h) (Or.inl ⟨by rfl, ?h1⟩) hHeld ?r1
  case h1 => intro wq hS; obtain ⟨c0, c1, c2, c3, c4⟩ := hA wq hS; go_simp; with_reducible rfl
  try simp only [Act.put, List.getElem_toArray, List.getElem_cons_zero, List.getElem_cons_succ, List.setIfInBounds_toArray, List.set_cons_zero, List.set_cons_succ]
  refine wpAnyH_take (i := 2) (v := ?v2) rfl (by kernel_rfl) (by kernel_rfl) (by kernel_rfl) (fun _ _ _ h => h) (Or.inl ⟨by rfl, ?h2⟩) hHeld ?r2
  case h2 => intro wq hS; obtain ⟨c0, c1, c2, c3, c4⟩ := hB wq hS; go_simp; with_reducible rfl
  try simp only [Act.put, List.getElem_toArray, List.getElem_cons_zero, List.getElem_cons_succ, List.setIfInBounds_toArray, List.set_cons_zero, List.set_cons_succ]
  refine wpAnyH_ready (rs := [1]) (by kernel_rfl) (by simp) ?_
  refine AllReadyH.cons rfl (fun K hK => ?_) AllReadyH.nil
  go_simp
  refine (HKA.out _).mono ?_
  rintro e w2 ⟨rfl, hg2⟩
  refine hK.out _ _ (hHeld.trans hg2) (fun hHeld => ?_)
  clear hK K
  try simp only [Act.put, List.getElem_toArray, List.getElem_cons_zero, List.getElem_cons_succ, List.setIfInBounds_toArray, List.set_cons_zero, List.set_cons_succ]
  refine wpAnyH_ready (rs := [3]) (by kernel_rfl) (by simp) ?_
  refine AllReadyH.cons rfl (fun K hK => ?_) AllReadyH.nil
  go_simp
  refine (HKB.out _).mono ?_
  rintro e w3 ⟨rfl, hg3⟩
  refine hK.out _ _ (hHeld.trans hg3) (fun hHeld => ?_)
  clear hK K
  try simp only [Act.put, List.getElem_toArray, List.getElem_cons_zero, List.getElem_cons_succ, List.setIfInBounds_toArray, List.set_cons_zero, List.set_cons_succ]
  refine wpAnyH_ready (rs := [4]) (by kernel_rfl) (by simp) ?_
  refine AllReadyH.cons rfl (fun K hK => ?_) AllReadyH.nil
  go_simp
  refine (HKC.out _).mono ?_
  rintro e w4 ⟨rfl, hg4⟩
  refine hK.out _ _ (hHeld.trans hg4) (fun hHeld => ?_)
  clear hK K
  try simp only [Act.put, List.getElem_toArray, List.getElem_cons_zero, List.getElem_cons_succ, List.setIfInBounds_toArray, List.set_cons_zero, List.set_cons_succ]
  refine wpAnyH_take (i := 5) (v := ?v3) rfl (by kernel_rfl) (by kernel_rfl) (by kernel_rfl) (fun _ _ _ h => h) (Or.inl ⟨by rfl, ?h3⟩) hHeld ?r3
  case h3 => intro wq hS; go_simp; with_reducible rfl
  try simp only [Act.put, List.getElem_toArray, List.getElem_cons_zero, List.getElem_cons_succ, List.setIfInBounds_toArray, List.set_cons_zero, List.set_cons_succ]
  refine wpAnyH_done (by kernel_rfl) ?_ _
  have hfin := HG.out.trans hHeld
  clear hHeld hg2 hg3 hg4 hA hB
  go_wp2_with fail
  go_ret
  exact ⟨rfl, hfin⟩

theorem ltOf_key (a b : Rw) : ltOf keyCmp a b = decide (ahead a b) := by
  unfold ltOf
  rw [Bool.eq_iff_iff, decide_eq_true_iff, decide_eq_true_iff]
  exact keyCmp_lt a b
theorem swo_key : SWO (ltOf keyCmp) where
  irrefl x := by rw [ltOf_key]; exact decide_eq_false (fun h => ahead_irr h h)
  trans x y z h1 h2 := by rw [ltOf_key] at *; exact decide_eq_true (ahead_trans (of_decide_eq_true h1) (of_decide_eq_true h2))
  ntrans x y z h1 h2 := by
    rw [ltOf_key] at *
    have h1 := of_decide_eq_false h1
    have h2 := of_decide_eq_false h2
    exact decide_eq_false (by unfold ahead at *; omega)

theorem flatK_list (d : List Rw) : (flatK Rw.cs 5 d.toArray).toList = d.flatMap Rw.cs := by
  apply List.ext_getElem?
  intro i
  by_cases hi : i < d.length * 5
  · have hk : i / 5 < d.length := by omega
    have hj : i % 5 < 5 := by omega
    have e := flat_get kdRw d (i / 5) hk (i % 5) hj
    have e2 : i / 5 * kdRw.sz + i % 5 = i := by show i / 5 * 5 + i % 5 = i; omega
    rw [e2] at e
    show _ = (d.flatMap kdRw.cs)[i]?
    rw [e]
    have hlen : i % 5 < (Rw.cs d[i / 5]).length := hj
    rw [Array.getElem?_toList]
    simp only [flatK, Array.getElem?_map, List.size_toArray]
    rw [Array.getElem?_eq_getElem (by simp; exact hi)]
    simp only [Array.getElem_range, Option.map_some]
    rw [show kdRw.cs d[i / 5] = Rw.cs d[i / 5] from rfl, List.getElem?_eq_getElem hlen]
    simp [hk, hlen]
  · rw [List.getElem?_eq_none (by simp [flatK]; omega), List.getElem?_eq_none (by
      have := flat_len kdRw d
      show (d.flatMap kdRw.cs).length ≤ i
      rw [this]
      show d.length * 5 ≤ i
      omega)]

theorem heap_sortK {w : World} {g n : Nat} {os : Array Obj} {cur : Array Value} {e : TypeId} {fr : Nat × Nat} (F : Array Value) (hb : w.heap[g]? = some (.cells cur e fr)) :
    (grow (putRow id (Sort.ahead w n) g 0 F) os).heap[g]? = some (.cells (putCells id 0 F cur) e fr) := by
  have hg : g < w.heap.size := (Array.getElem?_eq_some_iff.1 hb).1
  rw [heap_grow_old _ _ (by simpa using hg)]
  simp [putRow, mapBlock, Sort.ahead, Array.getElem?_modify, hb, onCells]
theorem grownBy_sortK {w : World} {g n : Nat} {os : Array Obj} (F : Array Value) : w.grownBy (grow (putRow id (Sort.ahead w n) g 0 F) os) (some g) := by
  refine ⟨rfl, rfl, rfl, by simp, fun k hk hne => ?_⟩
  rw [heap_grow_old _ _ (by simpa using hk)]
  have : g ≠ k := fun e => hne (by rw [e])
  simp [putRow, mapBlock, Sort.ahead, Array.getElem?_modify, this]
theorem take_putK (cur F : Array Value) (h : F.size ≤ cur.size) : (putCells id 0 F cur).toList.take F.size = F.toList := by
  apply List.ext_getElem?
  intro j
  by_cases hj : j < F.size
  · rw [List.getElem?_take_of_lt hj, Array.getElem?_toList, Array.getElem?_toList]
    simp [putCells, hj, show j < cur.size by omega]
  · rw [List.getElem?_take_eq_none (by omega), List.getElem?_eq_none (by simp; omega)]

/-- sorted, and of the same rows: one list -/
theorem sorted_one {l m : List Rw} (hl : l.Pairwise ahead) (hm : m.Pairwise ahead) (hp : l.Perm m) : l = m :=
  List.Perm.eq_of_pairwise (le := ahead) (fun _ _ _ _ h k => (ahead_irr h k).elim) hl hm hp

theorem cs_one (x : Rw) : ∀ v ∈ x.cs, v.oneCell' = true := by
  intro v hv
  simp only [Rw.cs, List.mem_cons, List.not_mem_nil, or_false] at hv
  rcases hv with rfl | rfl | rfl | rfl | rfl <;> rfl
theorem cmpLays (blk off size : Nat) (w : World) : CmpLays Try.prog 72 #[] Rw.cs 5 keyCmp blk off size w :=
  fun _ _ _ _ x y => closure_any x y _
theorem isAggRow (w : World) : (isAgg (laysSort_ren.t 24)).run Try.prog w = .ok true w := by kernel_rfl
theorem sizeRow (w : World) : (Go.sizeOf (laysSort_ren.t 24)).run Try.prog w = .ok 5 w := by kernel_rfl

theorem sort_impl {W : World} {base : Nat} {v : Value} {ss : List Rw} (hR : Rows ss) (h : OwnRw W base v ss) (hn : ss.length ≤ 1000000) :
    Calls Try.prog 90 #[v, .func (.func 72) #[] #[]] W fun e w' =>
      e = .returned (.tuple #[]) ∧ ∃ ts, ts.Perm ss ∧ ts.Pairwise ahead ∧ OwnRw w' base v ts ∧ Below base W w' := by
  obtain ⟨hl, h' | ⟨g, cap, cur, rfl, hb, hg, hnc, hcm, hcs, htake⟩⟩ := h
  · obtain ⟨rfl, h0⟩ := h'
    obtain rfl := List.eq_nil_of_length_eq_zero h0
    refine (AnyF.slices_SortFunc_none (P := Try.prog) (ρ := laysSort_ren) { laysSort with } none 0 (.func (.func 72) #[] #[]) W).mono ?_
    rintro e w' ⟨rfl, rfl⟩
    exact ⟨rfl, [], List.Perm.refl _, List.Pairwise.nil, ⟨hl, .inl ⟨rfl, rfl⟩⟩, Below.refl _ _⟩
  · have hF := flatK_list ss
    have hFs : (flatK Rw.cs 5 ss.toArray).size = ss.length * 5 := by simp
    have hH : HoldsK Rw.cs 5 W g 0 ss.toArray := by
      intro j hj
      rw [hFs] at hj
      have e1 : (cur.toList.take (ss.length * 5))[j]? = (ss.flatMap Rw.cs)[j]? := by rw [htake]
      rw [List.getElem?_take_of_lt hj, ← hF, Array.getElem?_toList, Array.getElem?_toList] at e1
      refine ⟨?_, by simp [World.frozen?, hg]⟩
      simp only [World.cell?, hg, Nat.zero_add]
      simp only [Option.isSome_none, Bool.false_eq_true, if_false]
      rw [e1, getElem!_pos _ _ (by rw [hFs]; exact hj)]
      simp [hj]
    have hblk := (Array.getElem?_eq_some_iff.1 hg).1
    have eg : ∀ args w, (callFunc 72 args).run Try.prog w = .ok (.enter 72 args) w := enters_of Try.func72 (by kernel_rfl) rfl
    have hc := AnyQ.slices_SortFunc (P := Try.prog) (ρ := laysSort_ren) laysSort 5 isAggRow sizeRow Rw.cs (fun _ => rfl) cs_one keyCmp swo_key 72 #[] g 0 cap ss.toArray W eg (cmpLays g 0 ss.toArray.size W) hH hblk (by simp; omega)
    have e0 : ss.toArray.size = ss.length := by simp
    rw [e0] at hc
    refine hc.mono ?_
    clear hc eg
    rintro e w' ⟨rfl, d', n, os, hp, hs, rfl⟩
    obtain ⟨ts, rfl⟩ : ∃ ts : List Rw, d' = ts.toArray := ⟨d'.toList, by simp⟩
    obtain ⟨hp1, _, hp3⟩ := hp
    simp only [List.size_toArray] at hp1
    have hperm : ts.Perm ss := by
      rw [show (List.toArray ts).extract 0 ss.length = ts.toArray by rw [← hp1]; simp, show (List.toArray ss).extract 0 ss.length = ss.toArray by simp] at hp3
      simpa using hp3
    have hRt : Rows ts := hR.perm hperm.symm
    have hpw : ts.Pairwise ahead := by
      rw [List.pairwise_iff_getElem]
      intro i j hi hj hij
      have e := hs i j (Nat.zero_le _) hij (by omega)
      rw [ltOf_key] at e
      have e := of_decide_eq_false e
      rw [show (List.toArray ts)[j]! = ts[j] by simp [hj], show (List.toArray ts)[i]! = ts[i] by simp [hi]] at e
      exact ahead_tot e (fun hk => List.pairwise_iff_getElem.1 hRt.1 i j hi hj hij ⟨hk.1.symm, hk.2.symm⟩)
    have hFt := flatK_list ts
    have hFts : (flatK Rw.cs 5 ts.toArray).size = ss.length * 5 := by simp [hp1]
    have hgr : W.grownBy (sortWorldK Rw.cs 5 W g 0 n ts.toArray os) (some g) := grownBy_sortK _
    refine ⟨rfl, ts, hperm, hpw, ⟨?_, .inr ⟨g, cap, _, by rw [hp1], hb, heap_sortK _ hg, by omega, hcm, by simp [putCells, hcs], ?_⟩⟩, (Below.refl base W).grown hgr (by omega) (fun k e => by cases e; exact hb)⟩
    · have := flat_len kdRw ts
      exact this
    · rw [hp1, ← hFts, take_putK _ _ (by rw [hFts, hcs]; exact Nat.mul_le_mul_right 5 hnc), hFt]

theorem sortedFunc_impl (Bm b nn : Nat) (L : List Rw) (hN : L.length ≤ 1000000) (w : World) (hm : w.cell? ⟨Bm, 0, none⟩ = some (.map (some b))) (hBm : Bm < w.heap.size) (hRM : RM w b nn L) {S : List Rw} (hS : S.Perm L) (hP : S.Pairwise ahead) :
    Calls Try.prog 70 #[.func (.func 91) #[] #[.pointer (some ⟨Bm, 0, none⟩)], .func (.func 72) #[] #[]] w fun e w' =>
      ∃ v, e = .returned v ∧ OwnRw w' w.heap.size v S ∧ Below w.heap.size w w' := by
  have hc := collect_impl Bm b nn L hN w hm hBm hRM
  have HC := Lib.hid hc
  clear hc hm
  go_enter Try.func70, Try.ntmps70
  go_wp2_with fail
  refine HC.out.mono ?_
  rintro e w1 ⟨v, ss, rfl, hss, hown, hb1⟩
  have hs := sort_impl (hRM.2.perm hss.symm) hown (by rw [hss.length_eq]; exact hN)
  obtain ⟨a, cap, rfl⟩ := own_form hown
  have HS := Lib.hid hs; have HB := Lib.hid hb1; have HSS := Lib.hid hss
  clear hs hb1 hown hss
  go_wp2_with fail
  refine HS.out.mono ?_
  rintro e w2 ⟨rfl, ts, hts, hpw, hown2, hb2⟩
  obtain rfl := sorted_one hpw hP ((hts.trans HSS.out).trans hS.symm)
  have HO := Lib.hid hown2; have HB2 := Lib.hid (HB.out.trans hb2)
  clear hown2 hb2
  go_wp2_with fail
  go_ret
  exact ⟨_, rfl, HO.out, HB2.out⟩

/-- a table stored in the cell of the result -/
theorem tab_stored {w w2 : World} {rb base n cap : Nat} {a : Option Addr} {x y : Value} {S : List Rw} {most : Int} (hO : OwnRw w2 base (.slice a n cap) S) (hn : S.length = n) (hl : S.length ≤ 2097152) (hf : Tb.fits ⟨S, most⟩) (hK : Blk w2 rb #[x, y] 26) (hrb : w.heap.size ≤ rb) (hbase : w.heap.size ≤ base) (hB : Below w.heap.size w w2) :
    ((w2.setCell ⟨rb, 0, none⟩ (.slice a n cap)).setCell ⟨rb, 1, none⟩ (.int .i64 most)).cell? ⟨rb, 0, none⟩ = some (.slice a n cap) ∧ ((w2.setCell ⟨rb, 0, none⟩ (.slice a n cap)).setCell ⟨rb, 1, none⟩ (.int .i64 most)).cell? ⟨rb, 1, none⟩ = some (.int .i64 most) ∧
    GotTab w ⟨S, most⟩ (.returned (.agg #[.slice a n cap, .int .i64 most])) ((w2.setCell ⟨rb, 0, none⟩ (.slice a n cap)).setCell ⟨rb, 1, none⟩ (.int .i64 most)) := by
  subst hn
  have k1 := hK.set 0 (.slice a S.length cap)
  have k2 := k1.set 1 (.int .i64 most)
  have o1 := own_setOther hO hK (by decide) (j := 0) (.slice a S.length cap)
  have o2 := own_setOther o1 k1 (by decide) (j := 1) (.int .i64 most)
  refine ⟨k2.cell 0, k2.cell 1, ?_⟩
  exact got_own (t := ⟨S, most⟩) o2 hbase hl hf ((((Turned.of_below (B := [rb]) hB).setCell (p := ⟨rb, 0, none⟩) (by simp) _).setCell (p := ⟨rb, 1, none⟩) (by simp) _).below (Nat.le_refl _) (fun b hb => by simp at hb; omega))
/-- a table that came back, stored in the cell of the result -/
theorem got_stored {w w1 w2 : World} {rb n cap : Nat} {a : Option Addr} {q : Int} {x y : Value} {t : Tb} (h : GotTab w1 t (.returned (.agg #[.slice a n cap, .int .i64 q])) w2) (hK : Blk w1 rb #[x, y] 26) (hrb : w.heap.size ≤ rb) (hB : Below w.heap.size w w1) :
    ((w2.setCell ⟨rb, 0, none⟩ (.slice a n cap)).setCell ⟨rb, 1, none⟩ (.int .i64 q)).cell? ⟨rb, 0, none⟩ = some (.slice a n cap) ∧ ((w2.setCell ⟨rb, 0, none⟩ (.slice a n cap)).setCell ⟨rb, 1, none⟩ (.int .i64 q)).cell? ⟨rb, 1, none⟩ = some (.int .i64 q) ∧
    GotTab w t (.returned (.agg #[.slice a n cap, .int .i64 q])) ((w2.setCell ⟨rb, 0, none⟩ (.slice a n cap)).setCell ⟨rb, 1, none⟩ (.int .i64 q)) := by
  obtain ⟨B, a', n', cap', q', e, hT, hBl, hb⟩ := h
  simp only [Ending.returned.injEq, Value.agg.injEq, Array.mk.injEq, List.cons.injEq, Value.slice.injEq, Value.int.injEq, true_and, and_true] at e
  obtain ⟨⟨rfl, rfl, rfl⟩, rfl⟩ := e
  have hK2 := hK.after hb
  have k1 := hK2.set 0 (.slice a n cap)
  have k2 := k1.set 1 (.int .i64 q)
  have hTu : Turned [rb] w2 ((w2.setCell ⟨rb, 0, none⟩ (.slice a n cap)).setCell ⟨rb, 1, none⟩ (.int .i64 q)) := ((Turned.refl [rb] w2).setCell (p := ⟨rb, 0, none⟩) (by simp) _).setCell (p := ⟨rb, 1, none⟩) (by simp) _
  have hlt := hK.lt
  refine ⟨k2.cell 0, k2.cell 1, B, a, n, cap, q, rfl, hT.turned hTu (fun b hb' => by have := hBl b hb'; simp; omega), fun b hb' => Nat.le_trans hB.size (hBl b hb'), ?_⟩
  exact ((Turned.of_below (B := [rb]) (hB.trans (hb.mono hB.size))).trans1 hTu).below (Nat.le_refl _) (fun b hb' => by simp at hb'; omega)

theorem table_impl {w : World} {b nn : Nat} {L : List Rw} (h : RM w b nn L) (hN : L.length ≤ 1000000) {S : List Rw} (hS : S.Perm L) (hP : S.Pairwise ahead) {most : Int} (hm : (Lit.int .i64 most).wf = true) :
    Calls Try.prog 42 #[.map (some b), .int .i64 most] w (GotTab w ⟨S, most⟩) := by
  have hlen : S.length = L.length := hS.length_eq
  have hfit : Tb.fits ⟨S, most⟩ := ⟨fun r hr => h.2.2 r (hS.mem_iff.1 hr), hm⟩
  have hz : ∀ w : World, (zeroValue 26).run Try.prog w = .ok (.agg #[.slice none 0 0, .int .i64 0]) w := fun w => by kernel_rfl
  have hb1 : Below w.heap.size w ((w.alloc (.cells #[.slice none 0 0, .int .i64 0] 26)).alloc (.cells #[.map (some b)] 62)) := ((Below.refl _ _).alloc (Nat.le_refl _) _).alloc (by simp) _
  have kO : Blk ((w.alloc (.cells #[.slice none 0 0, .int .i64 0] 26)).alloc (.cells #[.map (some b)] 62)) w.heap.size #[.slice none 0 0, .int .i64 0] 26 := (blk_new _ _ rfl).alloc _
  have kM : Blk ((w.alloc (.cells #[.slice none 0 0, .int .i64 0] 26)).alloc (.cells #[.map (some b)] 62)) (w.heap.size + 1) #[.map (some b)] 62 := blk_new _ _ (by simp)
  have hv := values_impl (some b) (w.alloc (.cells #[.slice none 0 0, .int .i64 0] 26))
  have hc := fun (hq : RM ((w.alloc (.cells #[.slice none 0 0, .int .i64 0] 26)).alloc (.cells #[.map (some b)] 62)) b nn L) => sortedFunc_impl (w.heap.size + 1) b nn L hN _ (kM.cell 0) kM.lt hq hS hP
  have hc := hc (h.after hb1)
  have HV := Lib.hid hv; have HC := Lib.hid hc; have HB := Lib.hid hb1; have HKO := Lib.hid kO; have HF := Lib.hid hfit; have HL := Lib.hid hlen; have HN := Lib.hid hN
  clear hv hc hb1 kO kM hfit hlen hm h hN
  go_enter Try.func42, Try.ntmps42
  go_wp2_with fail
  refine HV.out.mono ?_
  rintro e w' ⟨rfl, rfl⟩
  have e1 : (w.alloc (.cells #[.slice none 0 0, .int .i64 0] 26)).heap.size = w.heap.size + 1 := by simp
  rw [e1]
  clear e1
  go_wp2_with fail
  refine HC.out.mono ?_
  rintro e w2 ⟨v, rfl, hown, hb2⟩
  obtain ⟨a, cap, rfl⟩ := own_form hown
  have kO2 := HKO.out.after hb2
  have HB2 := Lib.hid (HB.out.trans (hb2.mono HB.out.size)); have HO2 := Lib.hid (show OwnRw w2 (w.alloc (.cells #[.slice none 0 0, .int .i64 0] 26)).heap.size (.slice a S.length cap) S from ownsRow_base_a hown (by simp)); have HK2 := Lib.hid kO2
  have HBS := Lib.hid HB.out.size
  have c0 := kO2.cell 0
  have c1 := kO2.cell 1
  have z0 := kO2.frozen
  have y0 := kO2.shape
  simp at c0 c1 y0
  clear hown hb2 kO2
  go_wp2_with fail
  obtain ⟨r0, r1, hG⟩ := tab_stored (w := w) (base := (w.alloc (.cells #[.slice none 0 0, .int .i64 0] 26)).heap.size) HO2.out rfl (by have := HN.out; have := HL.out; omega) HF.out HK2.out (Nat.le_refl _) (by simp) HB2.out
  clear c0 c1 z0 y0
  generalize (w2.setCell ⟨w.heap.size, 0, none⟩ (.slice a S.length cap)).setCell ⟨w.heap.size, 1, none⟩ (.int .i64 most) = W at r0 r1 hG ⊢
  exact bodyPost_ret (v := .agg #[.slice a S.length cap, .int .i64 most]) (by simp [results, Try.results42, go_sem, r0, r1]) rfl hG
end Go.Proofs.Ytleebmbnjdoinaa

