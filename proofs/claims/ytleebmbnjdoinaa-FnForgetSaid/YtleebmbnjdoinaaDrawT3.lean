/- The drawn inputs of the laws of tables. -/
import Derived.Test.YtleebmbnjdoinaaDrawT2
namespace Go.Proofs.Ytleebmbnjdoinaa
open Go.RowKit

/-- the state of a draw of a table: the table lies in block bt, the first result's block is w.heap.size -/
def DrP (w : World) (c len : Nat) (bt : Nat) (wi : World) (C : List Nat) (t : Tb) (a : Option Addr) (n cap : Nat) (q : Int) : Prop :=
  Blk wi bt #[.slice a n cap, .int .i64 q] 26 ∧ TabIn wi C (.agg #[.slice a n cap, .int .i64 q]) t ∧ (∀ b ∈ C, w.heap.size < b ∧ b ≠ bt ∧ b ≠ c) ∧ Blk wi w.heap.size #[.slice none 0 0, .int .i64 0] 26 ∧ Cur c c len wi ∧ Below w.heap.size w wi ∧ w.heap.size < c ∧ c < bt

section
variable {c len : Nat} {w : World} {bt : Nat} {wi : World} {C : List Nat} {t : Tb} {a : Option Addr} {n cap : Nat} {q : Int}
theorem DrP.drew (h : DrP w c len bt wi C t a n cap q) : DrP w c len bt wi.drew C t a n cap q :=
  ⟨h.1, h.2.1, h.2.2.1, h.2.2.2.1, h.2.2.2.2.1, h.2.2.2.2.2.1.drew, h.2.2.2.2.2.2⟩
theorem DrP.call {w1 : World} (h : DrP w c len bt wi C t a n cap q) (hc : Cur c c len w1) (hg : wi.grownBy w1 (some c)) : DrP w c len bt w1 C t a n cap q := by
  obtain ⟨h1, h2, h3, h4, h5, h6, h7, h8⟩ := h
  have hne : ∀ x, x ≠ c → some x ≠ some c := fun x hx e => hx (Option.some.inj e)
  exact ⟨(hg.block _ h1.lt (hne _ (by omega))).trans h1, h2.keep (fun b hb => hg.block b (h2.lt b hb) (hne _ (h3 b hb).2.2)), h3, (hg.block _ h4.lt (hne _ (by omega))).trans h4, hc, h6.grown hg h6.size (fun k e => by cases e; omega), h7, h8⟩
theorem DrP.facts (h : DrP w c len bt wi C t a n cap q) : wi.cell? ⟨bt, 0, none⟩ = some (.slice a n cap) ∧ wi.cell? ⟨bt, 1, none⟩ = some (.int .i64 q) ∧ (∀ j, wi.frozen? ⟨w.heap.size, j, none⟩ = false) ∧ wi.shape? w.heap.size = some (26, 2) ∧ wi.cell? ⟨w.heap.size, 0, none⟩ = some (.slice none 0 0) ∧ wi.cell? ⟨w.heap.size, 1, none⟩ = some (.int .i64 0) :=
  ⟨h.1.cell 0, h.1.cell 1, h.2.2.2.1.frozen, h.2.2.2.1.shape, h.2.2.2.1.cell 0, h.2.2.2.1.cell 1⟩
/-- the result is stored -/
theorem DrP.put (h : DrP w c len bt wi C t a n cap q) :
    Blk ((wi.setCell ⟨w.heap.size, 0, none⟩ (.slice a n cap)).setCell ⟨w.heap.size, 1, none⟩ (.int .i64 q)) bt #[.slice a n cap, .int .i64 q] 26 ∧
    Blk ((wi.setCell ⟨w.heap.size, 0, none⟩ (.slice a n cap)).setCell ⟨w.heap.size, 1, none⟩ (.int .i64 q)) w.heap.size #[.slice a n cap, .int .i64 q] 26 ∧
    TabIn ((wi.setCell ⟨w.heap.size, 0, none⟩ (.slice a n cap)).setCell ⟨w.heap.size, 1, none⟩ (.int .i64 q)) C (.agg #[.slice a n cap, .int .i64 q]) t ∧ (∀ b ∈ C, w.heap.size ≤ b) ∧
    Below w.heap.size w ((wi.setCell ⟨w.heap.size, 0, none⟩ (.slice a n cap)).setCell ⟨w.heap.size, 1, none⟩ (.int .i64 q)) := by
  obtain ⟨h1, h2, h3, h4, h5, h6, h7, h8⟩ := h
  refine ⟨(h1.other (by omega) _).other (by omega) _, (h4.set 0 _).set 1 _, ?_, fun b hb => by have := (h3 b hb).1; omega, (h6.setCell (p := ⟨w.heap.size, 0, none⟩) (Nat.le_refl _) _).setCell (p := ⟨w.heap.size, 1, none⟩) (Nat.le_refl _) _⟩
  exact h2.turned (C := [w.heap.size]) (((Turned.refl _ wi).setCell (p := ⟨w.heap.size, 0, none⟩) (by simp) _).setCell (p := ⟨w.heap.size, 1, none⟩) (by simp) _) (fun b hb' hm => by have := (h3 b hb').1; simp at hm; omega)
end

/-- a table and a number are drawn -/
def DrewTab1 (w : World) (e : Ending) (w' : World) : Prop := ∃ (C : List Nat) (t : Tb) (a : Option Addr) (n cap : Nat) (q m : Int), e = .returned (.tuple #[.agg #[.slice a n cap, .int .i64 q], .int .i64 m]) ∧ TabIn w' C (.agg #[.slice a n cap, .int .i64 q]) t ∧ (∀ b ∈ C, w.heap.size ≤ b) ∧ (Lit.int .i64 m).wf = true ∧ Below w.heap.size w w'

set_option linter.unusedSimpArgs false in
set_option maxRecDepth 20000 in
set_option maxHeartbeats 2000000 in
theorem drawFlush_any (w : World) (a : Option Addr) (len cap : Nat) (zs : List Int) (hl : len ≤ 1048576) (hrow : IsRow .u8 w a len cap zs) (hlow : ∀ x, a = some x → 0 < cap → x.block < w.heap.size) :
    Calls Try.prog 26 #[.slice a len cap] w (DrewTab1 w) := by
  have g1 : Blk (w.alloc (.cells #[.slice none 0 0, .int .i64 0] 26)) w.heap.size #[.slice none 0 0, .int .i64 0] 26 := blk_new _ _ rfl
  have hbz : Below w.heap.size w (w.alloc (.cells #[.slice none 0 0, .int .i64 0] 26)) := (Below.refl _ _).alloc (Nat.le_refl _) _
  go_enter Try.func26, Try.ntmps26
  go_wp2_with fail
  generalize w.alloc (.cells #[.slice none 0 0, .int .i64 0] 26) = w0 at g1 hbz ⊢
  refine (new_any w0 a len cap zs hl (hrow.below hlow hbz) (fun x hx hc => Nat.lt_of_lt_of_le (hlow x hx hc) hbz.size)).mono ?_
  rintro e w1 ⟨rfl, hc1, hb1, hs1⟩
  have hR1 := g1.after hb1
  have hw0 := g1.lt
  have hB1 := hbz.trans (hb1.mono hbz.size)
  have HR1 := Lib.hid hR1; have HB1 := Lib.hid hB1
  clear g1 hbz hb1 hR1 hB1
  go_wp2_with fail
  refine (any5_any _ _ _ _ hl hc1).mono ?_
  rintro e w2 ⟨C, t, ta, n, tc, q, rfl, hT2, hC2, hc2, hg2⟩
  generalize w0.heap.size = c at hc1 hs1 hw0 hc2 hg2 ⊢
  have hR2 : Blk w2 w.heap.size #[.slice none 0 0, .int .i64 0] 26 := (hg2.block _ HR1.out.lt (fun e => by have e' := Option.some.inj e; omega)).trans HR1.out
  have hl2 := cur_lt hc2
  have hT3 := hT2.after ((Below.refl _ w2).alloc (Nat.le_refl _) (.cells #[.slice ta n tc, .int .i64 q] 26))
  have hB3 : Below w.heap.size w (w2.alloc (.cells #[.slice ta n tc, .int .i64 q] 26)) := (HB1.out.grown hg2 HB1.out.size (fun k e => by cases e; omega)).alloc ((HB1.out.grown hg2 HB1.out.size (fun k e => by cases e; omega)).size) _
  have hP3 : DrP w c len w2.heap.size (w2.alloc (.cells #[.slice ta n tc, .int .i64 q] 26)) C t ta n tc q :=
    ⟨blk_new _ _ rfl, hT3, fun b hb => ⟨by have h1 := hC2 b hb; have h2 := HB1.out.size; have h3 := HR1.out.lt; omega, by have := hT2.lt b hb; omega, by have h1 := hC2 b hb; omega⟩, hR2.alloc _, cur_alloc hc2 _ _, hB3, hw0, hl2⟩
  have HP3 := Lib.hid hP3
  clear hT2 hC2 hc1 hc2 hg2 hR2 hT3 hB3 hP3 HR1 HB1
  go_wp2_with fail
  have hw3 : (w2.alloc (.cells #[.slice ta n tc, .int .i64 q] 26)).heap.size = w2.heap.size + 1 := by simp
  generalize w2.alloc (.cells #[.slice ta n tc, .int .i64 q] 26) = w3 at HP3 hw3 ⊢
  generalize w2.heap.size = bt at HP3 hl2 hw3 ⊢
  go_upto_region 3 with fail
  refine wp_region_held_drew (S := fun w' => Blk w' bt #[.slice ta n tc, .int .i64 q] 26) (by kernel_rfl) (HP3.out.drew.1) (fun hHeld => ?_)
  refine wpAnyH_take (i := 0) (v := ?v1) rfl (by kernel_rfl) (by kernel_rfl) (by kernel_rfl) (fun _ _ _ h => h) (Or.inl ⟨by rfl, ?h1⟩) hHeld ?r1
  case h1 => intro wq hS; have c0 : wq.cell? ⟨bt, 0, none⟩ = some (.slice ta n tc) := hS.cell 0; have c1 : wq.cell? ⟨bt, 1, none⟩ = some (.int .i64 q) := hS.cell 1; go_simp; with_reducible rfl
  try simp only [Act.put, List.getElem_toArray, List.getElem_cons_zero, List.getElem_cons_succ, List.setIfInBounds_toArray, List.set_cons_zero, List.set_cons_succ]
  refine wpAnyH_take (i := 1) (v := ?v2) rfl (by kernel_rfl) (by kernel_rfl) (by kernel_rfl) (fun _ _ _ h => h) (Or.inl ⟨by rfl, ?h2⟩) hHeld ?r2
  case h2 => intro wq hS; go_simp; with_reducible rfl
  try simp only [Act.put, List.getElem_toArray, List.getElem_cons_zero, List.getElem_cons_succ, List.setIfInBounds_toArray, List.set_cons_zero, List.set_cons_succ]
  refine wpAnyH_ready (rs := [2]) (by kernel_rfl) (by simp) ?_
  refine AllReadyH.cons rfl (fun K hK => ?_) AllReadyH.nil
  go_simp
  refine (below_any _ _ _ 6 (by decide) (by decide) _ hl HP3.out.drew.2.2.2.2.1).mono ?_
  rintro e w4 ⟨m, rfl, hm0, hm6, hc4, hg4⟩
  have HP4 := Lib.hid (HP3.out.drew.call hc4 hg4)
  clear hc4 hg4
  refine hK.out _ _ (HP4.out.1) (fun hHeld => ?_)
  clear hK K
  try simp only [Act.put, List.getElem_toArray, List.getElem_cons_zero, List.getElem_cons_succ, List.setIfInBounds_toArray, List.set_cons_zero, List.set_cons_succ]
  refine wpAnyH_take (i := 3) (v := ?v3) rfl (by kernel_rfl) (by kernel_rfl) (by kernel_rfl) (fun _ _ _ h => h) (Or.inl ⟨by rfl, ?h3⟩) hHeld ?r3
  case h3 => intro wq hS; go_simp; with_reducible rfl
  try simp only [Act.put, List.getElem_toArray, List.getElem_cons_zero, List.getElem_cons_succ, List.setIfInBounds_toArray, List.set_cons_zero, List.set_cons_succ]
  refine wpAnyH_ready (rs := [4]) (by kernel_rfl) (by simp) ?_
  refine AllReadyH.cons rfl (fun K hK => ?_) AllReadyH.nil
  obtain ⟨c0, c1, z1, y1, e0, e1⟩ := HP4.out.facts
  go_simp
  refine hK.out _ _ (HP4.out.put.1) (fun hHeld => ?_)
  clear hK K
  try simp only [Act.put, List.getElem_toArray, List.getElem_cons_zero, List.getElem_cons_succ, List.setIfInBounds_toArray, List.set_cons_zero, List.set_cons_succ]
  refine wpAnyH_take (i := 5) (v := ?v4) rfl (by kernel_rfl) (by kernel_rfl) (by kernel_rfl) (fun _ _ _ h => h) (Or.inl ⟨by rfl, ?h4⟩) hHeld ?r4
  case h4 => intro wq hS; go_simp; with_reducible rfl
  try simp only [Act.put, List.getElem_toArray, List.getElem_cons_zero, List.getElem_cons_succ, List.setIfInBounds_toArray, List.set_cons_zero, List.set_cons_succ]
  refine wpAnyH_done (by kernel_rfl) ?_ _
  have hwm : IntKind.i64.wrap (m - 1) = m - 1 := IntWalk.i64_in _ (by omega)
  rw [hwm]
  obtain ⟨_, h2, h3, h4, h5⟩ := HP4.out.put
  have r0 := h2.cell 0
  have r1 := h2.cell 1
  have R0 := Lib.hid r0; have R1 := Lib.hid r1; have H3 := Lib.hid h3; have H4 := Lib.hid h4; have H5 := Lib.hid h5
  clear r0 r1 h2 h3 h4 h5
  generalize (w4.setCell ⟨w.heap.size, 0, none⟩ (.slice ta n tc)).setCell ⟨w.heap.size, 1, none⟩ (.int .i64 q) = W at R0 R1 H3 H5 ⊢
  clear c0 c1 z1 y1 e0 e1 hHeld
  go_wp2_with fail
  have r0 : W.cell? ⟨w.heap.size, 0, none⟩ = some (.slice ta n tc) := R0.out
  have r1 : W.cell? ⟨w.heap.size, 1, none⟩ = some (.int .i64 q) := R1.out
  refine bodyPost_ret (v := .tuple #[.agg #[.slice ta n tc, .int .i64 q], .int .i64 (m - 1)]) (by simp [results, Try.results26, go_sem, r0, r1]) rfl ?_
  exact ⟨C, t, ta, n, tc, q, (m - 1), rfl, H3.out, H4.out, wf_in (by omega) (by omega), H5.out⟩
def DrewTab2 (w : World) (e : Ending) (w' : World) : Prop := ∃ (C : List Nat) (t : Tb) (a : Option Addr) (n cap : Nat) (q m0 m1 : Int), e = .returned (.tuple #[.agg #[.slice a n cap, .int .i64 q], .int .i64 m0, .int .i64 m1]) ∧ TabIn w' C (.agg #[.slice a n cap, .int .i64 q]) t ∧ (∀ b ∈ C, w.heap.size ≤ b) ∧ (Lit.int .i64 m0).wf = true ∧ (Lit.int .i64 m1).wf = true ∧ Below w.heap.size w w'
def DrewTab3 (w : World) (e : Ending) (w' : World) : Prop := ∃ (C : List Nat) (t : Tb) (a : Option Addr) (n cap : Nat) (q m0 m1 m2 : Int), e = .returned (.tuple #[.agg #[.slice a n cap, .int .i64 q], .int .i64 m0, .int .i64 m1, .int .i64 m2]) ∧ TabIn w' C (.agg #[.slice a n cap, .int .i64 q]) t ∧ (∀ b ∈ C, w.heap.size ≤ b) ∧ (Lit.int .i64 m0).wf = true ∧ (Lit.int .i64 m1).wf = true ∧ (Lit.int .i64 m2).wf = true ∧ Below w.heap.size w w'
def DrewTab4 (w : World) (e : Ending) (w' : World) : Prop := ∃ (C : List Nat) (t : Tb) (a : Option Addr) (n cap : Nat) (q m0 m1 m2 m3 : Int), e = .returned (.tuple #[.agg #[.slice a n cap, .int .i64 q], .int .i64 m0, .int .i64 m1, .int .i64 m2, .int .i64 m3]) ∧ TabIn w' C (.agg #[.slice a n cap, .int .i64 q]) t ∧ (∀ b ∈ C, w.heap.size ≤ b) ∧ (Lit.int .i64 m0).wf = true ∧ (Lit.int .i64 m1).wf = true ∧ (Lit.int .i64 m2).wf = true ∧ (Lit.int .i64 m3).wf = true ∧ Below w.heap.size w w'

set_option linter.unusedSimpArgs false in
set_option maxRecDepth 20000 in
set_option maxHeartbeats 2000000 in
theorem drawAgeOut_any (w : World) (a : Option Addr) (len cap : Nat) (zs : List Int) (hl : len ≤ 1048576) (hrow : IsRow .u8 w a len cap zs) (hlow : ∀ x, a = some x → 0 < cap → x.block < w.heap.size) :
    Calls Try.prog 25 #[.slice a len cap] w (DrewTab2 w) := by
  have g1 : Blk (w.alloc (.cells #[.slice none 0 0, .int .i64 0] 26)) w.heap.size #[.slice none 0 0, .int .i64 0] 26 := blk_new _ _ rfl
  have hbz : Below w.heap.size w (w.alloc (.cells #[.slice none 0 0, .int .i64 0] 26)) := (Below.refl _ _).alloc (Nat.le_refl _) _
  go_enter Try.func25, Try.ntmps25
  go_wp2_with fail
  generalize w.alloc (.cells #[.slice none 0 0, .int .i64 0] 26) = w0 at g1 hbz ⊢
  refine (new_any w0 a len cap zs hl (hrow.below hlow hbz) (fun x hx hc => Nat.lt_of_lt_of_le (hlow x hx hc) hbz.size)).mono ?_
  rintro e w1 ⟨rfl, hc1, hb1, hs1⟩
  have hR1 := g1.after hb1
  have hw0 := g1.lt
  have hB1 := hbz.trans (hb1.mono hbz.size)
  have HR1 := Lib.hid hR1; have HB1 := Lib.hid hB1
  clear g1 hbz hb1 hR1 hB1
  go_wp2_with fail
  refine (any5_any _ _ _ _ hl hc1).mono ?_
  rintro e w2 ⟨C, t, ta, n, tc, q, rfl, hT2, hC2, hc2, hg2⟩
  generalize w0.heap.size = c at hc1 hs1 hw0 hc2 hg2 ⊢
  have hR2 : Blk w2 w.heap.size #[.slice none 0 0, .int .i64 0] 26 := (hg2.block _ HR1.out.lt (fun e => by have e' := Option.some.inj e; omega)).trans HR1.out
  have hl2 := cur_lt hc2
  have hT3 := hT2.after ((Below.refl _ w2).alloc (Nat.le_refl _) (.cells #[.slice ta n tc, .int .i64 q] 26))
  have hB3 : Below w.heap.size w (w2.alloc (.cells #[.slice ta n tc, .int .i64 q] 26)) := (HB1.out.grown hg2 HB1.out.size (fun k e => by cases e; omega)).alloc ((HB1.out.grown hg2 HB1.out.size (fun k e => by cases e; omega)).size) _
  have hP3 : DrP w c len w2.heap.size (w2.alloc (.cells #[.slice ta n tc, .int .i64 q] 26)) C t ta n tc q :=
    ⟨blk_new _ _ rfl, hT3, fun b hb => ⟨by have h1 := hC2 b hb; have h2 := HB1.out.size; have h3 := HR1.out.lt; omega, by have := hT2.lt b hb; omega, by have h1 := hC2 b hb; omega⟩, hR2.alloc _, cur_alloc hc2 _ _, hB3, hw0, hl2⟩
  have HP3 := Lib.hid hP3
  clear hT2 hC2 hc1 hc2 hg2 hR2 hT3 hB3 hP3 HR1 HB1
  go_wp2_with fail
  have hw3 : (w2.alloc (.cells #[.slice ta n tc, .int .i64 q] 26)).heap.size = w2.heap.size + 1 := by simp
  generalize w2.alloc (.cells #[.slice ta n tc, .int .i64 q] 26) = w3 at HP3 hw3 ⊢
  generalize w2.heap.size = bt at HP3 hl2 hw3 ⊢
  refine (now5_any _ _ _ _ hl HP3.out.2.2.2.2.1).mono ?_
  rintro e w4 ⟨nw, rfl, hnw, hc3, hg3⟩
  have HP4 := Lib.hid (HP3.out.call hc3 hg3)
  have Hnw := Lib.hid hnw
  clear hc3 hg3 hnw
  have HP4D := Lib.hid HP4.out.drew
  go_upto_region 4 with fail
  refine wp_region_held_drew (S := fun w' => Blk w' bt #[.slice ta n tc, .int .i64 q] 26) (by kernel_rfl) (HP4D.out.1) (fun hHeld => ?_)
  refine wpAnyH_take (i := 0) (v := ?v5) rfl (by kernel_rfl) (by kernel_rfl) (by kernel_rfl) (fun _ _ _ h => h) (Or.inl ⟨by rfl, ?h5⟩) hHeld ?r5
  case h5 => intro wq hS; have c0 : wq.cell? ⟨bt, 0, none⟩ = some (.slice ta n tc) := hS.cell 0; have c1 : wq.cell? ⟨bt, 1, none⟩ = some (.int .i64 q) := hS.cell 1; go_simp; with_reducible rfl
  try simp only [Act.put, List.getElem_toArray, List.getElem_cons_zero, List.getElem_cons_succ, List.setIfInBounds_toArray, List.set_cons_zero, List.set_cons_succ]
  refine wpAnyH_take (i := 1) (v := ?v6) rfl (by kernel_rfl) (by kernel_rfl) (by kernel_rfl) (fun _ _ _ h => h) (Or.inl ⟨by rfl, ?h6⟩) hHeld ?r6
  case h6 => intro wq hS; go_simp; with_reducible rfl
  try simp only [Act.put, List.getElem_toArray, List.getElem_cons_zero, List.getElem_cons_succ, List.setIfInBounds_toArray, List.set_cons_zero, List.set_cons_succ]
  refine wpAnyH_take (i := 2) (v := ?v7) rfl (by kernel_rfl) (by kernel_rfl) (by kernel_rfl) (fun _ _ _ h => h) (Or.inl ⟨by rfl, ?h7⟩) hHeld ?r7
  case h7 => intro wq hS; go_simp; with_reducible rfl
  try simp only [Act.put, List.getElem_toArray, List.getElem_cons_zero, List.getElem_cons_succ, List.setIfInBounds_toArray, List.set_cons_zero, List.set_cons_succ]
  refine wpAnyH_ready (rs := [3]) (by kernel_rfl) (by simp) ?_
  refine AllReadyH.cons rfl (fun K hK => ?_) AllReadyH.nil
  go_simp
  refine hK.out _ _ ((HP4D.out.1.alloc _)) (fun hHeld => ?_)
  clear hK K
  try simp only [Act.put, List.getElem_toArray, List.getElem_cons_zero, List.getElem_cons_succ, List.setIfInBounds_toArray, List.set_cons_zero, List.set_cons_succ]
  refine wpAnyH_ready (rs := [4]) (by kernel_rfl) (by simp) ?_
  refine AllReadyH.cons rfl (fun K hK => ?_) AllReadyH.nil
  go_simp
  refine (pickWf (m := 6) (zs := [0, 5, 300, -1, 295, 1000000000]) (by decide) (by decide) hl (cur_alloc HP4D.out.2.2.2.2.1 _ _) (by have := cur_lt HP4.out.2.2.2.2.1; omega) rfl (by decide) ?_).mono ?_
  · intro i hi
    rw [World.cell?_alloc_at (hn := by first | rfl | omega | simp)]
    match i, hi with
    | 0, _ | 1, _ | 2, _ | 3, _ | 4, _ | 5, _ => rfl
  rintro e wz ⟨lp, rfl, hlp, hc3, hg3⟩
  have HPZ := Lib.hid (HP4D.out.call hc3 (grown_trans (World.grownBy_alloc _ _ _) hg3))
  have Hlp := Lib.hid hlp
  clear hc3 hg3 hlp
  refine hK.out _ _ (HPZ.out.1) (fun hHeld => ?_)
  clear hK K
  try simp only [Act.put, List.getElem_toArray, List.getElem_cons_zero, List.getElem_cons_succ, List.setIfInBounds_toArray, List.set_cons_zero, List.set_cons_succ]
  refine wpAnyH_ready (rs := [5]) (by kernel_rfl) (by simp) ?_
  refine AllReadyH.cons rfl (fun K hK => ?_) AllReadyH.nil
  obtain ⟨c0, c1, z1, y1, e0, e1⟩ := HPZ.out.facts
  go_simp
  refine hK.out _ _ (HPZ.out.put.1) (fun hHeld => ?_)
  clear hK K
  try simp only [Act.put, List.getElem_toArray, List.getElem_cons_zero, List.getElem_cons_succ, List.setIfInBounds_toArray, List.set_cons_zero, List.set_cons_succ]
  refine wpAnyH_take (i := 6) (v := ?v8) rfl (by kernel_rfl) (by kernel_rfl) (by kernel_rfl) (fun _ _ _ h => h) (Or.inl ⟨by rfl, ?h8⟩) hHeld ?r8
  case h8 => intro wq hS; go_simp; with_reducible rfl
  try simp only [Act.put, List.getElem_toArray, List.getElem_cons_zero, List.getElem_cons_succ, List.setIfInBounds_toArray, List.set_cons_zero, List.set_cons_succ]
  refine wpAnyH_take (i := 7) (v := ?v9) rfl (by kernel_rfl) (by kernel_rfl) (by kernel_rfl) (fun _ _ _ h => h) (Or.inl ⟨by rfl, ?h9⟩) hHeld ?r9
  case h9 => intro wq hS; go_simp; with_reducible rfl
  try simp only [Act.put, List.getElem_toArray, List.getElem_cons_zero, List.getElem_cons_succ, List.setIfInBounds_toArray, List.set_cons_zero, List.set_cons_succ]
  refine wpAnyH_done (by kernel_rfl) ?_ _
  obtain ⟨_, h2, h3, h4, h5⟩ := HPZ.out.put
  have r0 := h2.cell 0
  have r1 := h2.cell 1
  have R0 := Lib.hid r0; have R1 := Lib.hid r1; have H3 := Lib.hid h3; have H4 := Lib.hid h4; have H5 := Lib.hid h5
  clear r0 r1 h2 h3 h4 h5
  generalize (wz.setCell ⟨w.heap.size, 0, none⟩ (.slice ta n tc)).setCell ⟨w.heap.size, 1, none⟩ (.int .i64 q) = W at R0 R1 H3 H5 ⊢
  clear c0 c1 z1 y1 e0 e1 hHeld
  go_wp2_with fail
  have r0 : W.cell? ⟨w.heap.size, 0, none⟩ = some (.slice ta n tc) := R0.out
  have r1 : W.cell? ⟨w.heap.size, 1, none⟩ = some (.int .i64 q) := R1.out
  refine bodyPost_ret (v := .tuple #[.agg #[.slice ta n tc, .int .i64 q], .int .i64 nw, .int .i64 lp]) (by simp [results, Try.results25, go_sem, r0, r1]) rfl ?_
  exact ⟨C, t, ta, n, tc, q, nw, lp, rfl, H3.out, H4.out, Hnw.out, Hlp.out, H5.out⟩

set_option linter.unusedSimpArgs false in
set_option maxRecDepth 20000 in
set_option maxHeartbeats 2000000 in
theorem drawFix_any (w : World) (a : Option Addr) (len cap : Nat) (zs : List Int) (hl : len ≤ 1048576) (hrow : IsRow .u8 w a len cap zs) (hlow : ∀ x, a = some x → 0 < cap → x.block < w.heap.size) :
    Calls Try.prog 20 #[.slice a len cap] w (DrewTab3 w) := by
  have g1 : Blk (w.alloc (.cells #[.slice none 0 0, .int .i64 0] 26)) w.heap.size #[.slice none 0 0, .int .i64 0] 26 := blk_new _ _ rfl
  have hbz : Below w.heap.size w (w.alloc (.cells #[.slice none 0 0, .int .i64 0] 26)) := (Below.refl _ _).alloc (Nat.le_refl _) _
  go_enter Try.func20, Try.ntmps20
  go_wp2_with fail
  generalize w.alloc (.cells #[.slice none 0 0, .int .i64 0] 26) = w0 at g1 hbz ⊢
  refine (new_any w0 a len cap zs hl (hrow.below hlow hbz) (fun x hx hc => Nat.lt_of_lt_of_le (hlow x hx hc) hbz.size)).mono ?_
  rintro e w1 ⟨rfl, hc1, hb1, hs1⟩
  have hR1 := g1.after hb1
  have hw0 := g1.lt
  have hB1 := hbz.trans (hb1.mono hbz.size)
  have HR1 := Lib.hid hR1; have HB1 := Lib.hid hB1
  clear g1 hbz hb1 hR1 hB1
  go_wp2_with fail
  refine (any5_any _ _ _ _ hl hc1).mono ?_
  rintro e w2 ⟨C, t, ta, n, tc, q, rfl, hT2, hC2, hc2, hg2⟩
  generalize w0.heap.size = c at hc1 hs1 hw0 hc2 hg2 ⊢
  have hR2 : Blk w2 w.heap.size #[.slice none 0 0, .int .i64 0] 26 := (hg2.block _ HR1.out.lt (fun e => by have e' := Option.some.inj e; omega)).trans HR1.out
  have hl2 := cur_lt hc2
  have hT3 := hT2.after ((Below.refl _ w2).alloc (Nat.le_refl _) (.cells #[.slice ta n tc, .int .i64 q] 26))
  have hB3 : Below w.heap.size w (w2.alloc (.cells #[.slice ta n tc, .int .i64 q] 26)) := (HB1.out.grown hg2 HB1.out.size (fun k e => by cases e; omega)).alloc ((HB1.out.grown hg2 HB1.out.size (fun k e => by cases e; omega)).size) _
  have hP3 : DrP w c len w2.heap.size (w2.alloc (.cells #[.slice ta n tc, .int .i64 q] 26)) C t ta n tc q :=
    ⟨blk_new _ _ rfl, hT3, fun b hb => ⟨by have h1 := hC2 b hb; have h2 := HB1.out.size; have h3 := HR1.out.lt; omega, by have := hT2.lt b hb; omega, by have h1 := hC2 b hb; omega⟩, hR2.alloc _, cur_alloc hc2 _ _, hB3, hw0, hl2⟩
  have HP3 := Lib.hid hP3
  clear hT2 hC2 hc1 hc2 hg2 hR2 hT3 hB3 hP3 HR1 HB1
  go_wp2_with fail
  have hw3 : (w2.alloc (.cells #[.slice ta n tc, .int .i64 q] 26)).heap.size = w2.heap.size + 1 := by simp
  generalize w2.alloc (.cells #[.slice ta n tc, .int .i64 q] 26) = w3 at HP3 hw3 ⊢
  generalize w2.heap.size = bt at HP3 hl2 hw3 ⊢
  refine (pickWf (m := 6) (zs := [1, 10, 10, 20, 0, 4095]) (by decide) (by decide) hl (cur_alloc HP3.out.2.2.2.2.1 _ _) (by have := cur_lt HP3.out.2.2.2.2.1; omega) rfl (by decide) ?_).mono ?_
  · intro i hi
    rw [World.cell?_alloc_at (hn := by first | rfl | omega | simp)]
    match i, hi with
    | 0, _ | 1, _ | 2, _ | 3, _ | 4, _ | 5, _ => rfl
  rintro e w4 ⟨v, rfl, hv, hc3, hg3⟩
  have HP4 := Lib.hid (HP3.out.call hc3 (grown_trans (World.grownBy_alloc _ _ _) hg3))
  have Hv := Lib.hid hv
  clear hc3 hg3 hv
  go_wp2_with fail
  refine (any2_wf _ _ _ _ hl HP4.out.2.2.2.2.1).mono ?_
  rintro e w5 ⟨m, rfl, hm, hc3, hg3⟩
  have HP5 := Lib.hid (HP4.out.call hc3 hg3)
  have Hm := Lib.hid hm
  clear hc3 hg3 hm
  have HP5D := Lib.hid HP5.out.drew
  go_upto_region 5 with fail
  refine wp_region_held_drew (S := fun w' => Blk w' bt #[.slice ta n tc, .int .i64 q] 26) (by kernel_rfl) (HP5D.out.1) (fun hHeld => ?_)
  refine wpAnyH_take (i := 0) (v := ?v10) rfl (by kernel_rfl) (by kernel_rfl) (by kernel_rfl) (fun _ _ _ h => h) (Or.inl ⟨by rfl, ?h10⟩) hHeld ?r10
  case h10 => intro wq hS; have c0 : wq.cell? ⟨bt, 0, none⟩ = some (.slice ta n tc) := hS.cell 0; have c1 : wq.cell? ⟨bt, 1, none⟩ = some (.int .i64 q) := hS.cell 1; go_simp; with_reducible rfl
  try simp only [Act.put, List.getElem_toArray, List.getElem_cons_zero, List.getElem_cons_succ, List.setIfInBounds_toArray, List.set_cons_zero, List.set_cons_succ]
  refine wpAnyH_take (i := 1) (v := ?v11) rfl (by kernel_rfl) (by kernel_rfl) (by kernel_rfl) (fun _ _ _ h => h) (Or.inl ⟨by rfl, ?h11⟩) hHeld ?r11
  case h11 => intro wq hS; go_simp; with_reducible rfl
  try simp only [Act.put, List.getElem_toArray, List.getElem_cons_zero, List.getElem_cons_succ, List.setIfInBounds_toArray, List.set_cons_zero, List.set_cons_succ]
  refine wpAnyH_take (i := 2) (v := ?v12) rfl (by kernel_rfl) (by kernel_rfl) (by kernel_rfl) (fun _ _ _ h => h) (Or.inl ⟨by rfl, ?h12⟩) hHeld ?r12
  case h12 => intro wq hS; go_simp; with_reducible rfl
  try simp only [Act.put, List.getElem_toArray, List.getElem_cons_zero, List.getElem_cons_succ, List.setIfInBounds_toArray, List.set_cons_zero, List.set_cons_succ]
  refine wpAnyH_take (i := 3) (v := ?v13) rfl (by kernel_rfl) (by kernel_rfl) (by kernel_rfl) (fun _ _ _ h => h) (Or.inl ⟨by rfl, ?h13⟩) hHeld ?r13
  case h13 => intro wq hS; go_simp; with_reducible rfl
  try simp only [Act.put, List.getElem_toArray, List.getElem_cons_zero, List.getElem_cons_succ, List.setIfInBounds_toArray, List.set_cons_zero, List.set_cons_succ]
  refine wpAnyH_ready (rs := [4]) (by kernel_rfl) (by simp) ?_
  refine AllReadyH.cons rfl (fun K hK => ?_) AllReadyH.nil
  go_simp
  refine hK.out _ _ ((HP5D.out.1.alloc _)) (fun hHeld => ?_)
  clear hK K
  try simp only [Act.put, List.getElem_toArray, List.getElem_cons_zero, List.getElem_cons_succ, List.setIfInBounds_toArray, List.set_cons_zero, List.set_cons_succ]
  refine wpAnyH_ready (rs := [5]) (by kernel_rfl) (by simp) ?_
  refine AllReadyH.cons rfl (fun K hK => ?_) AllReadyH.nil
  go_simp
  refine (pickWf (m := 7) (zs := [0, 1, 2, 3, 15, 16, -1]) (by decide) (by decide) hl (cur_alloc HP5D.out.2.2.2.2.1 _ _) (by have := cur_lt HP5.out.2.2.2.2.1; omega) rfl (by decide) ?_).mono ?_
  · intro i hi
    rw [World.cell?_alloc_at (hn := by first | rfl | omega | simp)]
    match i, hi with
    | 0, _ | 1, _ | 2, _ | 3, _ | 4, _ | 5, _ | 6, _ => rfl
  rintro e wz ⟨lp, rfl, hlp, hc3, hg3⟩
  have HPZ := Lib.hid (HP5D.out.call hc3 (grown_trans (World.grownBy_alloc _ _ _) hg3))
  have Hlp := Lib.hid hlp
  clear hc3 hg3 hlp
  refine hK.out _ _ (HPZ.out.1) (fun hHeld => ?_)
  clear hK K
  try simp only [Act.put, List.getElem_toArray, List.getElem_cons_zero, List.getElem_cons_succ, List.setIfInBounds_toArray, List.set_cons_zero, List.set_cons_succ]
  refine wpAnyH_ready (rs := [6]) (by kernel_rfl) (by simp) ?_
  refine AllReadyH.cons rfl (fun K hK => ?_) AllReadyH.nil
  obtain ⟨c0, c1, z1, y1, e0, e1⟩ := HPZ.out.facts
  go_simp
  refine hK.out _ _ (HPZ.out.put.1) (fun hHeld => ?_)
  clear hK K
  try simp only [Act.put, List.getElem_toArray, List.getElem_cons_zero, List.getElem_cons_succ, List.setIfInBounds_toArray, List.set_cons_zero, List.set_cons_succ]
  refine wpAnyH_take (i := 7) (v := ?v14) rfl (by kernel_rfl) (by kernel_rfl) (by kernel_rfl) (fun _ _ _ h => h) (Or.inl ⟨by rfl, ?h14⟩) hHeld ?r14
  case h14 => intro wq hS; go_simp; with_reducible rfl
  try simp only [Act.put, List.getElem_toArray, List.getElem_cons_zero, List.getElem_cons_succ, List.setIfInBounds_toArray, List.set_cons_zero, List.set_cons_succ]
  refine wpAnyH_take (i := 8) (v := ?v15) rfl (by kernel_rfl) (by kernel_rfl) (by kernel_rfl) (fun _ _ _ h => h) (Or.inl ⟨by rfl, ?h15⟩) hHeld ?r15
  case h15 => intro wq hS; go_simp; with_reducible rfl
  try simp only [Act.put, List.getElem_toArray, List.getElem_cons_zero, List.getElem_cons_succ, List.setIfInBounds_toArray, List.set_cons_zero, List.set_cons_succ]
  refine wpAnyH_take (i := 9) (v := ?v16) rfl (by kernel_rfl) (by kernel_rfl) (by kernel_rfl) (fun _ _ _ h => h) (Or.inl ⟨by rfl, ?h16⟩) hHeld ?r16
  case h16 => intro wq hS; go_simp; with_reducible rfl
  try simp only [Act.put, List.getElem_toArray, List.getElem_cons_zero, List.getElem_cons_succ, List.setIfInBounds_toArray, List.set_cons_zero, List.set_cons_succ]
  refine wpAnyH_done (by kernel_rfl) ?_ _
  obtain ⟨_, h2, h3, h4, h5⟩ := HPZ.out.put
  have r0 := h2.cell 0
  have r1 := h2.cell 1
  have R0 := Lib.hid r0; have R1 := Lib.hid r1; have H3 := Lib.hid h3; have H4 := Lib.hid h4; have H5 := Lib.hid h5
  clear r0 r1 h2 h3 h4 h5
  generalize (wz.setCell ⟨w.heap.size, 0, none⟩ (.slice ta n tc)).setCell ⟨w.heap.size, 1, none⟩ (.int .i64 q) = W at R0 R1 H3 H5 ⊢
  clear c0 c1 z1 y1 e0 e1 hHeld
  go_wp2_with fail
  have r0 : W.cell? ⟨w.heap.size, 0, none⟩ = some (.slice ta n tc) := R0.out
  have r1 : W.cell? ⟨w.heap.size, 1, none⟩ = some (.int .i64 q) := R1.out
  refine bodyPost_ret (v := .tuple #[.agg #[.slice ta n tc, .int .i64 q], .int .i64 v, .int .i64 m, .int .i64 lp]) (by simp [results, Try.results20, go_sem, r0, r1]) rfl ?_
  exact ⟨C, t, ta, n, tc, q, v, m, lp, rfl, H3.out, H4.out, Hv.out, Hm.out, Hlp.out, H5.out⟩

set_option linter.unusedSimpArgs false in
set_option maxRecDepth 20000 in
set_option maxHeartbeats 2000000 in
theorem drawLearn_any (w : World) (a : Option Addr) (len cap : Nat) (zs : List Int) (hl : len ≤ 1048576) (hrow : IsRow .u8 w a len cap zs) (hlow : ∀ x, a = some x → 0 < cap → x.block < w.heap.size) :
    Calls Try.prog 13 #[.slice a len cap] w (DrewTab4 w) := by
  have g1 : Blk (w.alloc (.cells #[.slice none 0 0, .int .i64 0] 26)) w.heap.size #[.slice none 0 0, .int .i64 0] 26 := blk_new _ _ rfl
  have hbz : Below w.heap.size w (w.alloc (.cells #[.slice none 0 0, .int .i64 0] 26)) := (Below.refl _ _).alloc (Nat.le_refl _) _
  go_enter Try.func13, Try.ntmps13
  go_wp2_with fail
  generalize w.alloc (.cells #[.slice none 0 0, .int .i64 0] 26) = w0 at g1 hbz ⊢
  refine (new_any w0 a len cap zs hl (hrow.below hlow hbz) (fun x hx hc => Nat.lt_of_lt_of_le (hlow x hx hc) hbz.size)).mono ?_
  rintro e w1 ⟨rfl, hc1, hb1, hs1⟩
  have hR1 := g1.after hb1
  have hw0 := g1.lt
  have hB1 := hbz.trans (hb1.mono hbz.size)
  have HR1 := Lib.hid hR1; have HB1 := Lib.hid hB1
  clear g1 hbz hb1 hR1 hB1
  go_wp2_with fail
  refine (any5_any _ _ _ _ hl hc1).mono ?_
  rintro e w2 ⟨C, t, ta, n, tc, q, rfl, hT2, hC2, hc2, hg2⟩
  generalize w0.heap.size = c at hc1 hs1 hw0 hc2 hg2 ⊢
  have hR2 : Blk w2 w.heap.size #[.slice none 0 0, .int .i64 0] 26 := (hg2.block _ HR1.out.lt (fun e => by have e' := Option.some.inj e; omega)).trans HR1.out
  have hl2 := cur_lt hc2
  have hT3 := hT2.after ((Below.refl _ w2).alloc (Nat.le_refl _) (.cells #[.slice ta n tc, .int .i64 q] 26))
  have hB3 : Below w.heap.size w (w2.alloc (.cells #[.slice ta n tc, .int .i64 q] 26)) := (HB1.out.grown hg2 HB1.out.size (fun k e => by cases e; omega)).alloc ((HB1.out.grown hg2 HB1.out.size (fun k e => by cases e; omega)).size) _
  have hP3 : DrP w c len w2.heap.size (w2.alloc (.cells #[.slice ta n tc, .int .i64 q] 26)) C t ta n tc q :=
    ⟨blk_new _ _ rfl, hT3, fun b hb => ⟨by have h1 := hC2 b hb; have h2 := HB1.out.size; have h3 := HR1.out.lt; omega, by have := hT2.lt b hb; omega, by have h1 := hC2 b hb; omega⟩, hR2.alloc _, cur_alloc hc2 _ _, hB3, hw0, hl2⟩
  have HP3 := Lib.hid hP3
  clear hT2 hC2 hc1 hc2 hg2 hR2 hT3 hB3 hP3 HR1 HB1
  go_wp2_with fail
  have hw3 : (w2.alloc (.cells #[.slice ta n tc, .int .i64 q] 26)).heap.size = w2.heap.size + 1 := by simp
  generalize w2.alloc (.cells #[.slice ta n tc, .int .i64 q] 26) = w3 at HP3 hw3 ⊢
  generalize w2.heap.size = bt at HP3 hl2 hw3 ⊢
  refine (pickWf (m := 6) (zs := [1, 10, 10, 20, 0, 4095]) (by decide) (by decide) hl (cur_alloc HP3.out.2.2.2.2.1 _ _) (by have := cur_lt HP3.out.2.2.2.2.1; omega) rfl (by decide) ?_).mono ?_
  · intro i hi
    rw [World.cell?_alloc_at (hn := by first | rfl | omega | simp)]
    match i, hi with
    | 0, _ | 1, _ | 2, _ | 3, _ | 4, _ | 5, _ => rfl
  rintro e w4 ⟨v, rfl, hv, hc3, hg3⟩
  have HP4 := Lib.hid (HP3.out.call hc3 (grown_trans (World.grownBy_alloc _ _ _) hg3))
  have Hv := Lib.hid hv
  clear hc3 hg3 hv
  go_wp2_with fail
  refine (any2_wf _ _ _ _ hl HP4.out.2.2.2.2.1).mono ?_
  rintro e w5 ⟨m, rfl, hm, hc3, hg3⟩
  have HP5 := Lib.hid (HP4.out.call hc3 hg3)
  have Hm := Lib.hid hm
  clear hc3 hg3 hm
  go_wp2_with fail
  refine (pickWf (m := 7) (zs := [0, 1, 2, 3, 15, 16, -1]) (by decide) (by decide) hl (cur_alloc HP5.out.2.2.2.2.1 _ _) (by have := cur_lt HP5.out.2.2.2.2.1; omega) rfl (by decide) ?_).mono ?_
  · intro i hi
    rw [World.cell?_alloc_at (hn := by first | rfl | omega | simp)]
    match i, hi with
    | 0, _ | 1, _ | 2, _ | 3, _ | 4, _ | 5, _ | 6, _ => rfl
  rintro e w6 ⟨p, rfl, hp, hc3, hg3⟩
  have HP6 := Lib.hid (HP5.out.call hc3 (grown_trans (World.grownBy_alloc _ _ _) hg3))
  have Hp := Lib.hid hp
  clear hc3 hg3 hp
  have HP6D := Lib.hid HP6.out.drew
  go_upto_region 6 with fail
  refine wp_region_held_drew (S := fun w' => Blk w' bt #[.slice ta n tc, .int .i64 q] 26) (by kernel_rfl) (HP6D.out.1) (fun hHeld => ?_)
  refine wpAnyH_take (i := 0) (v := ?v17) rfl (by kernel_rfl) (by kernel_rfl) (by kernel_rfl) (fun _ _ _ h => h) (Or.inl ⟨by rfl, ?h17⟩) hHeld ?r17
  case h17 => intro wq hS; have c0 : wq.cell? ⟨bt, 0, none⟩ = some (.slice ta n tc) := hS.cell 0; have c1 : wq.cell? ⟨bt, 1, none⟩ = some (.int .i64 q) := hS.cell 1; go_simp; with_reducible rfl
  try simp only [Act.put, List.getElem_toArray, List.getElem_cons_zero, List.getElem_cons_succ, List.setIfInBounds_toArray, List.set_cons_zero, List.set_cons_succ]
  refine wpAnyH_take (i := 1) (v := ?v18) rfl (by kernel_rfl) (by kernel_rfl) (by kernel_rfl) (fun _ _ _ h => h) (Or.inl ⟨by rfl, ?h18⟩) hHeld ?r18
  case h18 => intro wq hS; go_simp; with_reducible rfl
  try simp only [Act.put, List.getElem_toArray, List.getElem_cons_zero, List.getElem_cons_succ, List.setIfInBounds_toArray, List.set_cons_zero, List.set_cons_succ]
  refine wpAnyH_take (i := 2) (v := ?v19) rfl (by kernel_rfl) (by kernel_rfl) (by kernel_rfl) (fun _ _ _ h => h) (Or.inl ⟨by rfl, ?h19⟩) hHeld ?r19
  case h19 => intro wq hS; go_simp; with_reducible rfl
  try simp only [Act.put, List.getElem_toArray, List.getElem_cons_zero, List.getElem_cons_succ, List.setIfInBounds_toArray, List.set_cons_zero, List.set_cons_succ]
  refine wpAnyH_take (i := 3) (v := ?v20) rfl (by kernel_rfl) (by kernel_rfl) (by kernel_rfl) (fun _ _ _ h => h) (Or.inl ⟨by rfl, ?h20⟩) hHeld ?r20
  case h20 => intro wq hS; go_simp; with_reducible rfl
  try simp only [Act.put, List.getElem_toArray, List.getElem_cons_zero, List.getElem_cons_succ, List.setIfInBounds_toArray, List.set_cons_zero, List.set_cons_succ]
  refine wpAnyH_take (i := 4) (v := ?v21) rfl (by kernel_rfl) (by kernel_rfl) (by kernel_rfl) (fun _ _ _ h => h) (Or.inl ⟨by rfl, ?h21⟩) hHeld ?r21
  case h21 => intro wq hS; go_simp; with_reducible rfl
  try simp only [Act.put, List.getElem_toArray, List.getElem_cons_zero, List.getElem_cons_succ, List.setIfInBounds_toArray, List.set_cons_zero, List.set_cons_succ]
  refine wpAnyH_ready (rs := [5]) (by kernel_rfl) (by simp) ?_
  refine AllReadyH.cons rfl (fun K hK => ?_) AllReadyH.nil
  go_simp
  refine hK.out _ _ ((HP6D.out.1.alloc _)) (fun hHeld => ?_)
  clear hK K
  try simp only [Act.put, List.getElem_toArray, List.getElem_cons_zero, List.getElem_cons_succ, List.setIfInBounds_toArray, List.set_cons_zero, List.set_cons_succ]
  refine wpAnyH_ready (rs := [6]) (by kernel_rfl) (by simp) ?_
  refine AllReadyH.cons rfl (fun K hK => ?_) AllReadyH.nil
  go_simp
  refine (pickWf (m := 6) (zs := [0, 5, 400, 1000000000, 1000000001, -1]) (by decide) (by decide) hl (cur_alloc HP6D.out.2.2.2.2.1 _ _) (by have := cur_lt HP6.out.2.2.2.2.1; omega) rfl (by decide) ?_).mono ?_
  · intro i hi
    rw [World.cell?_alloc_at (hn := by first | rfl | omega | simp)]
    match i, hi with
    | 0, _ | 1, _ | 2, _ | 3, _ | 4, _ | 5, _ => rfl
  rintro e wz ⟨lp, rfl, hlp, hc3, hg3⟩
  have HPZ := Lib.hid (HP6D.out.call hc3 (grown_trans (World.grownBy_alloc _ _ _) hg3))
  have Hlp := Lib.hid hlp
  clear hc3 hg3 hlp
  refine hK.out _ _ (HPZ.out.1) (fun hHeld => ?_)
  clear hK K
  try simp only [Act.put, List.getElem_toArray, List.getElem_cons_zero, List.getElem_cons_succ, List.setIfInBounds_toArray, List.set_cons_zero, List.set_cons_succ]
  refine wpAnyH_ready (rs := [7]) (by kernel_rfl) (by simp) ?_
  refine AllReadyH.cons rfl (fun K hK => ?_) AllReadyH.nil
  obtain ⟨c0, c1, z1, y1, e0, e1⟩ := HPZ.out.facts
  go_simp
  refine hK.out _ _ (HPZ.out.put.1) (fun hHeld => ?_)
  clear hK K
  try simp only [Act.put, List.getElem_toArray, List.getElem_cons_zero, List.getElem_cons_succ, List.setIfInBounds_toArray, List.set_cons_zero, List.set_cons_succ]
  refine wpAnyH_take (i := 8) (v := ?v22) rfl (by kernel_rfl) (by kernel_rfl) (by kernel_rfl) (fun _ _ _ h => h) (Or.inl ⟨by rfl, ?h22⟩) hHeld ?r22
  case h22 => intro wq hS; go_simp; with_reducible rfl
  try simp only [Act.put, List.getElem_toArray, List.getElem_cons_zero, List.getElem_cons_succ, List.setIfInBounds_toArray, List.set_cons_zero, List.set_cons_succ]
  refine wpAnyH_take (i := 9) (v := ?v23) rfl (by kernel_rfl) (by kernel_rfl) (by kernel_rfl) (fun _ _ _ h => h) (Or.inl ⟨by rfl, ?h23⟩) hHeld ?r23
  case h23 => intro wq hS; go_simp; with_reducible rfl
  try simp only [Act.put, List.getElem_toArray, List.getElem_cons_zero, List.getElem_cons_succ, List.setIfInBounds_toArray, List.set_cons_zero, List.set_cons_succ]
  refine wpAnyH_take (i := 10) (v := ?v24) rfl (by kernel_rfl) (by kernel_rfl) (by kernel_rfl) (fun _ _ _ h => h) (Or.inl ⟨by rfl, ?h24⟩) hHeld ?r24
  case h24 => intro wq hS; go_simp; with_reducible rfl
  try simp only [Act.put, List.getElem_toArray, List.getElem_cons_zero, List.getElem_cons_succ, List.setIfInBounds_toArray, List.set_cons_zero, List.set_cons_succ]
  refine wpAnyH_take (i := 11) (v := ?v25) rfl (by kernel_rfl) (by kernel_rfl) (by kernel_rfl) (fun _ _ _ h => h) (Or.inl ⟨by rfl, ?h25⟩) hHeld ?r25
  case h25 => intro wq hS; go_simp; with_reducible rfl
  try simp only [Act.put, List.getElem_toArray, List.getElem_cons_zero, List.getElem_cons_succ, List.setIfInBounds_toArray, List.set_cons_zero, List.set_cons_succ]
  refine wpAnyH_done (by kernel_rfl) ?_ _
  obtain ⟨_, h2, h3, h4, h5⟩ := HPZ.out.put
  have r0 := h2.cell 0
  have r1 := h2.cell 1
  have R0 := Lib.hid r0; have R1 := Lib.hid r1; have H3 := Lib.hid h3; have H4 := Lib.hid h4; have H5 := Lib.hid h5
  clear r0 r1 h2 h3 h4 h5
  generalize (wz.setCell ⟨w.heap.size, 0, none⟩ (.slice ta n tc)).setCell ⟨w.heap.size, 1, none⟩ (.int .i64 q) = W at R0 R1 H3 H5 ⊢
  clear c0 c1 z1 y1 e0 e1 hHeld
  go_wp2_with fail
  have r0 : W.cell? ⟨w.heap.size, 0, none⟩ = some (.slice ta n tc) := R0.out
  have r1 : W.cell? ⟨w.heap.size, 1, none⟩ = some (.int .i64 q) := R1.out
  refine bodyPost_ret (v := .tuple #[.agg #[.slice ta n tc, .int .i64 q], .int .i64 v, .int .i64 m, .int .i64 p, .int .i64 lp]) (by simp [results, Try.results13, go_sem, r0, r1]) rfl ?_
  exact ⟨C, t, ta, n, tc, q, v, m, p, lp, rfl, H3.out, H4.out, Hv.out, Hm.out, Hp.out, Hlp.out, H5.out⟩
end Go.Proofs.Ytleebmbnjdoinaa
