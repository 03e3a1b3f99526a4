/- The drawn inputs of the laws of ports. -/
import Derived.Test.YtfkpecildcejkaaDrAn
namespace Go.Proofs.Ytfkpecildcejkaa
open Go.RowKit

/-- the state of a draw: the port lies in block bt, the results' blocks are w.heap.size and, for a frame, the next -/
def DrQ (w : World) (c len bt : Nat) (wi : World) (C D : List Nat) (p : Pt) (a : Option Addr) (ca : Nat) (e : Option Addr) (cb : Nat) : Prop :=
  Blk wi bt #[.int .i64 p.pvid, .slice a p.ins.length ca, .slice e p.plain.length cb, .int .i64 p.acc] 26 ∧ PortIn wi C D (ptVal p.pvid a p.ins.length ca e p.plain.length cb p.acc) p ∧ ((∀ x ∈ C, w.heap.size + 1 < x ∧ x ≠ c) ∧ ∀ x ∈ D, w.heap.size + 1 < x ∧ x ≠ c) ∧ Blk wi w.heap.size #[.int .i64 0, .slice none 0 0, .slice none 0 0, .int .i64 0] 26 ∧ Cur c c len wi ∧ Below w.heap.size w wi ∧ w.heap.size < c ∧ c < bt
section
variable {c len bt : Nat} {w wi : World} {C D : List Nat} {p : Pt} {a e : Option Addr} {ca cb : Nat}
theorem DrQ.drew (h : DrQ w c len bt wi C D p a ca e cb) : DrQ w c len bt wi.drew C D p a ca e cb := ⟨h.1, h.2.1, h.2.2.1, h.2.2.2.1, h.2.2.2.2.1, h.2.2.2.2.2.1.drew, h.2.2.2.2.2.2⟩
theorem DrQ.cur (h : DrQ w c len bt wi C D p a ca e cb) : Cur c c len wi := h.2.2.2.2.1
theorem DrQ.call {w1 : World} (h : DrQ w c len bt wi C D p a ca e cb) (hc : Cur c c len w1) (hg : wi.grownBy w1 (some c)) : DrQ w c len bt w1 C D p a ca e cb := by
  obtain ⟨h1, h2, ⟨h3, h3'⟩, h4, h5, h6, h7, h8⟩ := h
  have hne : ∀ x, x ≠ c → some x ≠ some c := fun x hx e => hx (Option.some.inj e)
  exact ⟨(hg.block _ h1.lt (hne _ (by omega))).trans h1, h2.keep (fun b hb => hg.block b (h2.lt.1 b hb) (hne _ (h3 b hb).2)) (fun b hb => hg.block b (h2.lt.2 b hb) (hne _ (h3' b hb).2)), ⟨h3, h3'⟩, (hg.block _ h4.lt (hne _ (by omega))).trans h4, hc, h6.grown hg h6.size (fun k e => by cases e; omega), h7, h8⟩
/-- what was drawn is kept where only the results' blocks turn -/
theorem DrQ.done {X : World} (h : DrQ w c len bt wi C D p a ca e cb) (hT : Turned [w.heap.size, w.heap.size + 1] wi X) :
    PortIn X C D (ptVal p.pvid a p.ins.length ca e p.plain.length cb p.acc) p ∧ Below w.heap.size w X := by
  obtain ⟨h1, h2, ⟨h3, h3'⟩, h4, h5, h6, h7, h8⟩ := h
  exact ⟨h2.turned hT (fun b hb hm => by have := (h3 b hb).1; simp at hm; omega) (fun b hb hm => by have := (h3' b hb).1; simp at hm; omega), h6.trans (hT.below h6.size (fun b hb => by simp at hb; omega))⟩
end

/-- a port comes back -/
def GotDr (w : World) (p : Pt) (v : Value) (w' : World) : Prop := ∃ (C D : List Nat) (a : Option Addr) (ca : Nat) (b : Option Addr) (cb : Nat), v = .agg #[.int .i64 p.pvid, .slice a p.ins.length ca, .slice b p.plain.length cb, .int .i64 p.acc] ∧ PortIn w' C D v p ∧ Below w.heap.size w w'
def DrewIn (w : World) (e : Ending) (w' : World) : Prop := ∃ (p : Pt) (v : Value) (f : Fr), e = .returned (.tuple #[v, f.val]) ∧ GotDr w p v w' ∧ f.body.size ≤ 1600
def DrewOut (w : World) (e : Ending) (w' : World) : Prop := ∃ (p : Pt) (v : Value) (vid : Int) (f : Fr) (pri : Int), e = .returned (.tuple #[v, .int .i64 vid, f.val, .int .i64 pri]) ∧ GotDr w p v w' ∧ f.body.size ≤ 1600 ∧ wf64 vid ∧ wf64 pri
def DrewSet (w : World) (e : Ending) (w' : World) : Prop := ∃ (p : Pt) (v : Value) (vid : Int) (u : Bool), e = .returned (.tuple #[v, .int .i64 vid, .bool u]) ∧ GotDr w p v w' ∧ wf64 vid

set_option linter.unusedSimpArgs false in
set_option maxRecDepth 20000 in
set_option maxHeartbeats 2000000 in
theorem drawSetMember_any (w : World) (a : Option Addr) (len cap : Nat) (zs : List Int) (hl : len ≤ 1048576) (hrow : IsRow .u8 w a len cap zs) (hlow : ∀ x, a = some x → 0 < cap → x.block < w.heap.size) :
    Calls Try.prog 21 #[.slice a len cap] w (DrewSet w) := by
  have hbz : Below w.heap.size w (w.alloc (.cells #[.int .i64 0, .slice none 0 0, .slice none 0 0, .int .i64 0] 26)) := (Below.refl _ _).alloc (Nat.le_refl _) _
  have g1 : Blk (w.alloc (.cells #[.int .i64 0, .slice none 0 0, .slice none 0 0, .int .i64 0] 26)) w.heap.size #[.int .i64 0, .slice none 0 0, .slice none 0 0, .int .i64 0] 26 := blk_new _ _ rfl
  go_enter Try.func21, Try.ntmps21
  go_wp2_with fail
  have hsz := Lib.hid (show (w.alloc (.cells #[.int .i64 0, .slice none 0 0, .slice none 0 0, .int .i64 0] 26)).heap.size = w.heap.size + 1 by simp)
  generalize (w.alloc (.cells #[.int .i64 0, .slice none 0 0, .slice none 0 0, .int .i64 0] 26)) = w0 at g1 hbz hsz ⊢
  refine (new_any w0 a len cap zs hl (hrow.below hlow hbz) (fun x hx hc => Nat.lt_of_lt_of_le (hlow x hx hc) hbz.size)).mono ?_
  rintro e w1 ⟨rfl, hc1, hb1, hs1⟩
  have hR1 := g1.after hb1
  have hw0 := g1.lt
  have hB1 := hbz.trans (hb1.mono hbz.size)
  have HR1 := Lib.hid hR1; have HB1 := Lib.hid hB1; clear g1 hbz hb1 hR1 hB1
  go_wp2_with fail
  refine (any6_any _ _ _ _ hl hc1).mono ?_
  rintro e w2 ⟨C, D, p, a, ca, e, cb, rfl, hT2, hC2, hD2, hc2, hg2⟩
  unfold ptVal
  generalize w0.heap.size = c at hc1 hs1 hw0 hc2 hg2 hsz ⊢
  have hR2 : Blk w2 w.heap.size #[.int .i64 0, .slice none 0 0, .slice none 0 0, .int .i64 0] 26 := (hg2.block _ HR1.out.lt (fun e => by have e' := Option.some.inj e; omega)).trans HR1.out
  have hl2 := cur_lt hc2
  have hb3 : Below w2.heap.size w2 (w2.alloc (.cells #[.int .i64 p.pvid, .slice a p.ins.length ca, .slice e p.plain.length cb, .int .i64 p.acc] 26)) := (Below.refl _ w2).alloc (Nat.le_refl _) _
  have hB2 := HB1.out.grown hg2 HB1.out.size (fun k e => by cases e; omega)
  have hs2 := HB1.out.size
  have hsz' := hsz.out
  have hr2 := HR1.out.lt
  have hP3 : DrQ w c len w2.heap.size (w2.alloc (.cells #[.int .i64 p.pvid, .slice a p.ins.length ca, .slice e p.plain.length cb, .int .i64 p.acc] 26)) C D p a ca e cb :=
    ⟨blk_new _ _ rfl, hT2.after hb3, ⟨fun b hb => by have := hC2 b hb; omega, fun b hb => by have := hD2 b hb; omega⟩, hR2.alloc _, cur_alloc hc2 _ _, hB2.alloc hB2.size _, hw0, hl2⟩
  have HP3 := Lib.hid hP3
  clear hT2 hC2 hD2 hc1 hc2 hg2 hR2 hP3 HR1 HB1 hb3 hB2 hs2 hsz'
  go_wp2_with fail
  refine (pickWf (m := 6) (zs := [1, 10, 20, 0, 4095, 15]) (by decide) (by decide) hl (cur_alloc HP3.out.cur _ _) (by omega) rfl (by decide) ?_).mono ?_
  · intro i hi
    rw [World.cell?_alloc_at (hn := by simp)]
    match i, hi with
    | 0, _ | 1, _ | 2, _ | 3, _ | 4, _ | 5, _ => rfl
  rintro e' w4 ⟨x, rfl, hx, hc4, hg4⟩
  have HP4 := Lib.hid (HP3.out.call hc4 (grown_trans (World.grownBy_alloc _ _ _) hg4)); have HX := Lib.hid hx
  clear hc4 hg4 hx HP3
  generalize w2.heap.size = bt at HP4 hl2 ⊢
  go_upto_region 4 with fail
  refine wp_region_held_drew (S := fun w' => Blk w' bt #[.int .i64 p.pvid, .slice a p.ins.length ca, .slice e p.plain.length cb, .int .i64 p.acc] 26) (by kernel_rfl) (HP4.out.1) (fun hHeld => ?_)
  refine wpAnyH_take (i := 0) (v := ?v1) rfl (by kernel_rfl) (by kernel_rfl) (by kernel_rfl) (fun _ _ _ h => h) (Or.inl ⟨by rfl, ?h1⟩) hHeld ?r1
  case h1 => intro wq hS; have c0 := hS.cell 0; have c1 := hS.cell 1; have c2 := hS.cell 2; have c3 := hS.cell 3; go_simp; with_reducible rfl
  try simp only [Act.put, List.getElem_toArray, List.getElem_cons_zero, List.getElem_cons_succ, List.setIfInBounds_toArray, List.set_cons_zero, List.set_cons_succ]
  refine wpAnyH_take (i := 1) (v := ?v2) rfl (by kernel_rfl) (by kernel_rfl) (by kernel_rfl) (fun _ _ _ h => h) (Or.inl ⟨by rfl, ?h2⟩) hHeld ?r2
  case h2 => intro wq hS; go_simp; with_reducible rfl
  try simp only [Act.put, List.getElem_toArray, List.getElem_cons_zero, List.getElem_cons_succ, List.setIfInBounds_toArray, List.set_cons_zero, List.set_cons_succ]
  refine wpAnyH_take (i := 2) (v := ?v3) rfl (by kernel_rfl) (by kernel_rfl) (by kernel_rfl) (fun _ _ _ h => h) (Or.inl ⟨by rfl, ?h3⟩) hHeld ?r3
  case h3 => intro wq hS; go_simp; with_reducible rfl
  try simp only [Act.put, List.getElem_toArray, List.getElem_cons_zero, List.getElem_cons_succ, List.setIfInBounds_toArray, List.set_cons_zero, List.set_cons_succ]
  refine wpAnyH_ready (rs := [3]) (by kernel_rfl) (by simp) ?_
  refine AllReadyH.cons rfl (fun K hK => ?_) AllReadyH.nil
  go_simp
  refine (once_any _ _ _ 2 (by decide) (by decide) _ hl HP4.out.drew.cur).mono ?_
  rintro e' w5 ⟨u, rfl, hc5, hg5⟩
  have HP5 := Lib.hid (HP4.out.drew.call hc5 hg5)
  clear hc5 hg5
  refine hK.out _ _ (HP5.out.1) (fun hHeld => ?_)
  clear hK K
  try simp only [Act.put, List.getElem_toArray, List.getElem_cons_zero, List.getElem_cons_succ, List.setIfInBounds_toArray, List.set_cons_zero, List.set_cons_succ]
  refine wpAnyH_ready (rs := [4]) (by kernel_rfl) (by simp) ?_
  refine AllReadyH.cons rfl (fun K hK => ?_) AllReadyH.nil
  refine step_store_row rfl 26 (.tmp 2) (.tmp 15) rfl w.heap.size #[.int .i64 p.pvid, .slice a p.ins.length ca, .slice e p.plain.length cb, .int .i64 p.acc] rfl rfl 26 #[.int .i64 0, .slice none 0 0, .slice none 0 0, .int .i64 0] HP5.out.2.2.2.1 sizePt rfl (by simp [Value.oneCell']) ?_
  refine hK.out _ _ (HP5.out.1.rowOther (by have := HP5.out.2.2.2.2.2.2; omega) _) (fun hHeld => ?_)
  clear hK K
  try simp only [Act.put, List.getElem_toArray, List.getElem_cons_zero, List.getElem_cons_succ, List.setIfInBounds_toArray, List.set_cons_zero, List.set_cons_succ]
  refine wpAnyH_take (i := 5) (v := ?v4) rfl (by kernel_rfl) (by kernel_rfl) (by kernel_rfl) (fun _ _ _ h => h) (Or.inl ⟨by rfl, ?h4⟩) hHeld ?r4
  case h4 => intro wq hS; go_simp; with_reducible rfl
  try simp only [Act.put, List.getElem_toArray, List.getElem_cons_zero, List.getElem_cons_succ, List.setIfInBounds_toArray, List.set_cons_zero, List.set_cons_succ]
  refine wpAnyH_take (i := 6) (v := ?v5) rfl (by kernel_rfl) (by kernel_rfl) (by kernel_rfl) (fun _ _ _ h => h) (Or.inl ⟨by rfl, ?h5⟩) hHeld ?r5
  case h5 => intro wq hS; go_simp; with_reducible rfl
  try simp only [Act.put, List.getElem_toArray, List.getElem_cons_zero, List.getElem_cons_succ, List.setIfInBounds_toArray, List.set_cons_zero, List.set_cons_succ]
  refine wpAnyH_done (by kernel_rfl) ?_ _
  have hT : Turned [w.heap.size, w.heap.size + 1] w5 (w5.setRow w.heap.size #[.int .i64 p.pvid, .slice a p.ins.length ca, .slice e p.plain.length cb, .int .i64 p.acc]) := (Turned.refl _ _).row (by simp) _
  have HD := Lib.hid (HP5.out.done hT)
  have HG := Lib.hid (Blk.row (cs := #[.int .i64 p.pvid, .slice a p.ins.length ca, .slice e p.plain.length cb, .int .i64 p.acc]) HP5.out.2.2.2.1)
  clear hT hHeld
  skip
  generalize (w5.setRow w.heap.size #[.int .i64 p.pvid, .slice a p.ins.length ca, .slice e p.plain.length cb, .int .i64 p.acc]) = X at HD HG ⊢
  have r0 := HG.out.cell 0
  have r1 := HG.out.cell 1
  have r2 := HG.out.cell 2
  have r3 := HG.out.cell 3
  go_wp2_with fail
  exact bodyPost_ret (v := .tuple #[.agg #[.int .i64 p.pvid, .slice a p.ins.length ca, .slice e p.plain.length cb, .int .i64 p.acc], .int .i64 x, .bool u]) (by simp [results, Try.results21, go_sem, r0, r1, r2, r3]) rfl ⟨p, _, x, u, rfl, ⟨C, D, _, _, _, _, rfl, HD.out.1, HD.out.2⟩, HX.out⟩

set_option linter.unusedSimpArgs false in
set_option maxRecDepth 20000 in
set_option maxHeartbeats 2000000 in
theorem drawIngress_any (w : World) (a : Option Addr) (len cap : Nat) (zs : List Int) (hl : len ≤ 1048576) (hrow : IsRow .u8 w a len cap zs) (hlow : ∀ x, a = some x → 0 < cap → x.block < w.heap.size) :
    Calls Try.prog 19 #[.slice a len cap] w (DrewIn w) := by
  have hbz : Below w.heap.size w ((w.alloc (.cells #[.int .i64 0, .slice none 0 0, .slice none 0 0, .int .i64 0] 26)).alloc (.cells #[.int .i64 0, .int .i64 0, .bool false, .int .i64 0, .int .i64 0, .int .i64 0, .string ⟨#[]⟩] 28)) := ((Below.refl _ _).alloc (Nat.le_refl _) _).alloc (by simp) _
  have g1 : Blk ((w.alloc (.cells #[.int .i64 0, .slice none 0 0, .slice none 0 0, .int .i64 0] 26)).alloc (.cells #[.int .i64 0, .int .i64 0, .bool false, .int .i64 0, .int .i64 0, .int .i64 0, .string ⟨#[]⟩] 28)) w.heap.size #[.int .i64 0, .slice none 0 0, .slice none 0 0, .int .i64 0] 26 := (blk_new _ _ rfl).alloc _
  have gf : Blk ((w.alloc (.cells #[.int .i64 0, .slice none 0 0, .slice none 0 0, .int .i64 0] 26)).alloc (.cells #[.int .i64 0, .int .i64 0, .bool false, .int .i64 0, .int .i64 0, .int .i64 0, .string ⟨#[]⟩] 28)) (w.heap.size + 1) #[.int .i64 0, .int .i64 0, .bool false, .int .i64 0, .int .i64 0, .int .i64 0, .string ⟨#[]⟩] 28 := blk_new _ _ (by simp)
  go_enter Try.func19, Try.ntmps19
  go_wp2_with fail
  have hsz := Lib.hid (show ((w.alloc (.cells #[.int .i64 0, .slice none 0 0, .slice none 0 0, .int .i64 0] 26)).alloc (.cells #[.int .i64 0, .int .i64 0, .bool false, .int .i64 0, .int .i64 0, .int .i64 0, .string ⟨#[]⟩] 28)).heap.size = w.heap.size + 2 by simp)
  generalize ((w.alloc (.cells #[.int .i64 0, .slice none 0 0, .slice none 0 0, .int .i64 0] 26)).alloc (.cells #[.int .i64 0, .int .i64 0, .bool false, .int .i64 0, .int .i64 0, .int .i64 0, .string ⟨#[]⟩] 28)) = w0 at g1 gf hbz hsz ⊢
  refine (new_any w0 a len cap zs hl (hrow.below hlow hbz) (fun x hx hc => Nat.lt_of_lt_of_le (hlow x hx hc) hbz.size)).mono ?_
  rintro e w1 ⟨rfl, hc1, hb1, hs1⟩
  have hR1 := g1.after hb1
  have hw0 := g1.lt
  have hB1 := hbz.trans (hb1.mono hbz.size)
  have HR1 := Lib.hid hR1; have HB1 := Lib.hid hB1; have HF1 := Lib.hid (gf.after hb1); clear gf; clear g1 hbz hb1 hR1 hB1
  go_wp2_with fail
  refine (any6_any _ _ _ _ hl hc1).mono ?_
  rintro e w2 ⟨C, D, p, a, ca, e, cb, rfl, hT2, hC2, hD2, hc2, hg2⟩
  unfold ptVal
  generalize w0.heap.size = c at hc1 hs1 hw0 hc2 hg2 hsz ⊢
  have hR2 : Blk w2 w.heap.size #[.int .i64 0, .slice none 0 0, .slice none 0 0, .int .i64 0] 26 := (hg2.block _ HR1.out.lt (fun e => by have e' := Option.some.inj e; omega)).trans HR1.out
  have hF2 : Blk w2 (w.heap.size + 1) #[.int .i64 0, .int .i64 0, .bool false, .int .i64 0, .int .i64 0, .int .i64 0, .string ⟨#[]⟩] 28 := (hg2.block _ HF1.out.lt (fun e => by have e' := Option.some.inj e; have := hsz.out; omega)).trans HF1.out
  have hl2 := cur_lt hc2
  have hb3 : Below w2.heap.size w2 (w2.alloc (.cells #[.int .i64 p.pvid, .slice a p.ins.length ca, .slice e p.plain.length cb, .int .i64 p.acc] 26)) := (Below.refl _ w2).alloc (Nat.le_refl _) _
  have hB2 := HB1.out.grown hg2 HB1.out.size (fun k e => by cases e; omega)
  have hs2 := HB1.out.size
  have hsz' := hsz.out
  have hr2 := HR1.out.lt
  have hP3 : DrQ w c len w2.heap.size (w2.alloc (.cells #[.int .i64 p.pvid, .slice a p.ins.length ca, .slice e p.plain.length cb, .int .i64 p.acc] 26)) C D p a ca e cb :=
    ⟨blk_new _ _ rfl, hT2.after hb3, ⟨fun b hb => by have := hC2 b hb; omega, fun b hb => by have := hD2 b hb; omega⟩, hR2.alloc _, cur_alloc hc2 _ _, hB2.alloc hB2.size _, hw0, hl2⟩
  have HP3 := Lib.hid hP3
  have HF3 := Lib.hid (hF2.alloc (.cells #[.int .i64 p.pvid, .slice a p.ins.length ca, .slice e p.plain.length cb, .int .i64 p.acc] 26))
  clear hF2 HF1
  clear hT2 hC2 hD2 hc1 hc2 hg2 hR2 hP3 HR1 HB1 hb3 hB2 hs2 hsz'
  go_wp2_with fail
  generalize w2.heap.size = bt at HP3 hl2 ⊢
  generalize w2.alloc (.cells #[.int .i64 p.pvid, .slice a p.ins.length ca, .slice e p.plain.length cb, .int .i64 p.acc] 26) = w3 at HP3 HF3 ⊢
  go_upto_region 3 with fail
  refine wp_region_held_drew (S := fun w' => Blk w' bt #[.int .i64 p.pvid, .slice a p.ins.length ca, .slice e p.plain.length cb, .int .i64 p.acc] 26) (by kernel_rfl) (HP3.out.1) (fun hHeld => ?_)
  refine wpAnyH_take (i := 0) (v := ?v6) rfl (by kernel_rfl) (by kernel_rfl) (by kernel_rfl) (fun _ _ _ h => h) (Or.inl ⟨by rfl, ?h6⟩) hHeld ?r6
  case h6 => intro wq hS; have c0 := hS.cell 0; have c1 := hS.cell 1; have c2 := hS.cell 2; have c3 := hS.cell 3; go_simp; with_reducible rfl
  try simp only [Act.put, List.getElem_toArray, List.getElem_cons_zero, List.getElem_cons_succ, List.setIfInBounds_toArray, List.set_cons_zero, List.set_cons_succ]
  refine wpAnyH_take (i := 1) (v := ?v7) rfl (by kernel_rfl) (by kernel_rfl) (by kernel_rfl) (fun _ _ _ h => h) (Or.inl ⟨by rfl, ?h7⟩) hHeld ?r7
  case h7 => intro wq hS; go_simp; with_reducible rfl
  try simp only [Act.put, List.getElem_toArray, List.getElem_cons_zero, List.getElem_cons_succ, List.setIfInBounds_toArray, List.set_cons_zero, List.set_cons_succ]
  refine wpAnyH_ready (rs := [2]) (by kernel_rfl) (by simp) ?_
  refine AllReadyH.cons rfl (fun K hK => ?_) AllReadyH.nil
  go_simp
  refine (anyFr_any _ _ _ _ hl HP3.out.drew.cur).mono ?_
  rintro e' w5 ⟨f, rfl, hfs, hc5, hg5⟩
  have HP5 := Lib.hid (HP3.out.drew.call hc5 hg5)
  have HF5 := Lib.hid (show Blk w5 (w.heap.size + 1) #[.int .i64 0, .int .i64 0, .bool false, .int .i64 0, .int .i64 0, .int .i64 0, .string ⟨#[]⟩] 28 from (hg5.block _ HF3.out.lt (fun e => by have e' := Option.some.inj e; have := hsz.out; omega)).trans HF3.out)
  obtain ⟨fd, fs, ft, fv, fp, fy, fb⟩ := f
  have HFS := Lib.hid hfs
  unfold Fr.val
  clear hc5 hg5 hfs
  refine hK.out _ _ (HP5.out.1) (fun hHeld => ?_)
  clear hK K
  try simp only [Act.put, List.getElem_toArray, List.getElem_cons_zero, List.getElem_cons_succ, List.setIfInBounds_toArray, List.set_cons_zero, List.set_cons_succ]
  refine wpAnyH_ready (rs := [3]) (by kernel_rfl) (by simp) ?_
  refine AllReadyH.cons rfl (fun K hK => ?_) AllReadyH.nil
  refine step_store_row rfl 26 (.tmp 2) (.tmp 10) rfl w.heap.size #[.int .i64 p.pvid, .slice a p.ins.length ca, .slice e p.plain.length cb, .int .i64 p.acc] rfl rfl 26 #[.int .i64 0, .slice none 0 0, .slice none 0 0, .int .i64 0] HP5.out.2.2.2.1 sizePt rfl (by simp [Value.oneCell']) ?_
  refine hK.out _ _ (HP5.out.1.rowOther (by have := HP5.out.2.2.2.2.2.2; omega) _) (fun hHeld => ?_)
  clear hK K
  try simp only [Act.put, List.getElem_toArray, List.getElem_cons_zero, List.getElem_cons_succ, List.setIfInBounds_toArray, List.set_cons_zero, List.set_cons_succ]
  refine wpAnyH_ready (rs := [4]) (by kernel_rfl) (by simp) ?_
  refine AllReadyH.cons rfl (fun K hK => ?_) AllReadyH.nil
  refine step_store_row rfl 28 (.tmp 3) (.tmp 12) rfl (w.heap.size + 1) #[.int .i64 fd, .int .i64 fs, .bool ft, .int .i64 fv, .int .i64 fp, .int .i64 fy, .string fb] rfl rfl 28 #[.int .i64 0, .int .i64 0, .bool false, .int .i64 0, .int .i64 0, .int .i64 0, .string ⟨#[]⟩] (HF5.out.rowOther (by omega) _) sizeFr rfl (by simp [Value.oneCell']) ?_
  refine hK.out _ _ ((HP5.out.1.rowOther (by have := HP5.out.2.2.2.2.2.2; omega) _).rowOther (by have := HP5.out.2.2.2.2.2.2; have := hsz.out; omega) _) (fun hHeld => ?_)
  clear hK K
  try simp only [Act.put, List.getElem_toArray, List.getElem_cons_zero, List.getElem_cons_succ, List.setIfInBounds_toArray, List.set_cons_zero, List.set_cons_succ]
  refine wpAnyH_done (by kernel_rfl) ?_ _
  have hT : Turned [w.heap.size, w.heap.size + 1] w5 ((w5.setRow w.heap.size #[.int .i64 p.pvid, .slice a p.ins.length ca, .slice e p.plain.length cb, .int .i64 p.acc]).setRow (w.heap.size + 1) #[.int .i64 fd, .int .i64 fs, .bool ft, .int .i64 fv, .int .i64 fp, .int .i64 fy, .string fb]) := ((Turned.refl _ _).row (by simp) _).row (by simp) _
  have HD := Lib.hid (HP5.out.done hT)
  have HG := Lib.hid ((Blk.row (cs := #[.int .i64 p.pvid, .slice a p.ins.length ca, .slice e p.plain.length cb, .int .i64 p.acc]) HP5.out.2.2.2.1).rowOther (g := w.heap.size + 1) (by omega) #[.int .i64 fd, .int .i64 fs, .bool ft, .int .i64 fv, .int .i64 fp, .int .i64 fy, .string fb])
  have HH := Lib.hid (Blk.row (cs := #[.int .i64 fd, .int .i64 fs, .bool ft, .int .i64 fv, .int .i64 fp, .int .i64 fy, .string fb]) (HF5.out.rowOther (g := w.heap.size) (by omega) #[.int .i64 p.pvid, .slice a p.ins.length ca, .slice e p.plain.length cb, .int .i64 p.acc]))
  clear hT hHeld
  skip
  generalize ((w5.setRow w.heap.size #[.int .i64 p.pvid, .slice a p.ins.length ca, .slice e p.plain.length cb, .int .i64 p.acc]).setRow (w.heap.size + 1) #[.int .i64 fd, .int .i64 fs, .bool ft, .int .i64 fv, .int .i64 fp, .int .i64 fy, .string fb]) = X at HD HG HH ⊢
  have r0 := HG.out.cell 0
  have r1 := HG.out.cell 1
  have r2 := HG.out.cell 2
  have r3 := HG.out.cell 3
  have s0 := HH.out.cell 0
  have s1 := HH.out.cell 1
  have s2 := HH.out.cell 2
  have s3 := HH.out.cell 3
  have s4 := HH.out.cell 4
  have s5 := HH.out.cell 5
  have s6 := HH.out.cell 6
  go_wp2_with fail
  exact bodyPost_ret (v := .tuple #[.agg #[.int .i64 p.pvid, .slice a p.ins.length ca, .slice e p.plain.length cb, .int .i64 p.acc], .agg #[.int .i64 fd, .int .i64 fs, .bool ft, .int .i64 fv, .int .i64 fp, .int .i64 fy, .string fb]]) (by simp [results, Try.results19, go_sem, r0, r1, r2, r3, s0, s1, s2, s3, s4, s5, s6]) rfl ⟨p, _, ⟨fd, fs, ft, fv, fp, fy, fb⟩, rfl, ⟨C, D, _, _, _, _, rfl, HD.out.1, HD.out.2⟩, HFS.out⟩

set_option linter.unusedSimpArgs false in
set_option maxRecDepth 20000 in
set_option maxHeartbeats 2000000 in
theorem drawEgress_any (w : World) (a : Option Addr) (len cap : Nat) (zs : List Int) (hl : len ≤ 1048576) (hrow : IsRow .u8 w a len cap zs) (hlow : ∀ x, a = some x → 0 < cap → x.block < w.heap.size) :
    Calls Try.prog 13 #[.slice a len cap] w (DrewOut w) := by
  have hbz : Below w.heap.size w ((w.alloc (.cells #[.int .i64 0, .slice none 0 0, .slice none 0 0, .int .i64 0] 26)).alloc (.cells #[.int .i64 0, .int .i64 0, .bool false, .int .i64 0, .int .i64 0, .int .i64 0, .string ⟨#[]⟩] 28)) := ((Below.refl _ _).alloc (Nat.le_refl _) _).alloc (by simp) _
  have g1 : Blk ((w.alloc (.cells #[.int .i64 0, .slice none 0 0, .slice none 0 0, .int .i64 0] 26)).alloc (.cells #[.int .i64 0, .int .i64 0, .bool false, .int .i64 0, .int .i64 0, .int .i64 0, .string ⟨#[]⟩] 28)) w.heap.size #[.int .i64 0, .slice none 0 0, .slice none 0 0, .int .i64 0] 26 := (blk_new _ _ rfl).alloc _
  have gf : Blk ((w.alloc (.cells #[.int .i64 0, .slice none 0 0, .slice none 0 0, .int .i64 0] 26)).alloc (.cells #[.int .i64 0, .int .i64 0, .bool false, .int .i64 0, .int .i64 0, .int .i64 0, .string ⟨#[]⟩] 28)) (w.heap.size + 1) #[.int .i64 0, .int .i64 0, .bool false, .int .i64 0, .int .i64 0, .int .i64 0, .string ⟨#[]⟩] 28 := blk_new _ _ (by simp)
  go_enter Try.func13, Try.ntmps13
  go_wp2_with fail
  have hsz := Lib.hid (show ((w.alloc (.cells #[.int .i64 0, .slice none 0 0, .slice none 0 0, .int .i64 0] 26)).alloc (.cells #[.int .i64 0, .int .i64 0, .bool false, .int .i64 0, .int .i64 0, .int .i64 0, .string ⟨#[]⟩] 28)).heap.size = w.heap.size + 2 by simp)
  generalize ((w.alloc (.cells #[.int .i64 0, .slice none 0 0, .slice none 0 0, .int .i64 0] 26)).alloc (.cells #[.int .i64 0, .int .i64 0, .bool false, .int .i64 0, .int .i64 0, .int .i64 0, .string ⟨#[]⟩] 28)) = w0 at g1 gf hbz hsz ⊢
  refine (new_any w0 a len cap zs hl (hrow.below hlow hbz) (fun x hx hc => Nat.lt_of_lt_of_le (hlow x hx hc) hbz.size)).mono ?_
  rintro e w1 ⟨rfl, hc1, hb1, hs1⟩
  have hR1 := g1.after hb1
  have hw0 := g1.lt
  have hB1 := hbz.trans (hb1.mono hbz.size)
  have HR1 := Lib.hid hR1; have HB1 := Lib.hid hB1; have HF1 := Lib.hid (gf.after hb1); clear gf; clear g1 hbz hb1 hR1 hB1
  go_wp2_with fail
  refine (any6_any _ _ _ _ hl hc1).mono ?_
  rintro e w2 ⟨C, D, p, a, ca, e, cb, rfl, hT2, hC2, hD2, hc2, hg2⟩
  unfold ptVal
  generalize w0.heap.size = c at hc1 hs1 hw0 hc2 hg2 hsz ⊢
  have hR2 : Blk w2 w.heap.size #[.int .i64 0, .slice none 0 0, .slice none 0 0, .int .i64 0] 26 := (hg2.block _ HR1.out.lt (fun e => by have e' := Option.some.inj e; omega)).trans HR1.out
  have hF2 : Blk w2 (w.heap.size + 1) #[.int .i64 0, .int .i64 0, .bool false, .int .i64 0, .int .i64 0, .int .i64 0, .string ⟨#[]⟩] 28 := (hg2.block _ HF1.out.lt (fun e => by have e' := Option.some.inj e; have := hsz.out; omega)).trans HF1.out
  have hl2 := cur_lt hc2
  have hb3 : Below w2.heap.size w2 (w2.alloc (.cells #[.int .i64 p.pvid, .slice a p.ins.length ca, .slice e p.plain.length cb, .int .i64 p.acc] 26)) := (Below.refl _ w2).alloc (Nat.le_refl _) _
  have hB2 := HB1.out.grown hg2 HB1.out.size (fun k e => by cases e; omega)
  have hs2 := HB1.out.size
  have hsz' := hsz.out
  have hr2 := HR1.out.lt
  have hP3 : DrQ w c len w2.heap.size (w2.alloc (.cells #[.int .i64 p.pvid, .slice a p.ins.length ca, .slice e p.plain.length cb, .int .i64 p.acc] 26)) C D p a ca e cb :=
    ⟨blk_new _ _ rfl, hT2.after hb3, ⟨fun b hb => by have := hC2 b hb; omega, fun b hb => by have := hD2 b hb; omega⟩, hR2.alloc _, cur_alloc hc2 _ _, hB2.alloc hB2.size _, hw0, hl2⟩
  have HP3 := Lib.hid hP3
  have HF3 := Lib.hid (hF2.alloc (.cells #[.int .i64 p.pvid, .slice a p.ins.length ca, .slice e p.plain.length cb, .int .i64 p.acc] 26))
  clear hF2 HF1
  clear hT2 hC2 hD2 hc1 hc2 hg2 hR2 hP3 HR1 HB1 hb3 hB2 hs2 hsz'
  go_wp2_with fail
  generalize w2.heap.size = bt at HP3 hl2 ⊢
  generalize w2.alloc (.cells #[.int .i64 p.pvid, .slice a p.ins.length ca, .slice e p.plain.length cb, .int .i64 p.acc] 26) = w3 at HP3 HF3 ⊢
  refine (vid_wf _ _ _ _ hl HP3.out.cur).mono ?_
  rintro e' w4 ⟨x, rfl, hx, hc4, hg4⟩
  have HP4 := Lib.hid (HP3.out.call hc4 hg4); have HX := Lib.hid hx
  have HF4 := Lib.hid (show Blk w4 (w.heap.size + 1) #[.int .i64 0, .int .i64 0, .bool false, .int .i64 0, .int .i64 0, .int .i64 0, .string ⟨#[]⟩] 28 from (hg4.block _ HF3.out.lt (fun e => by have e' := Option.some.inj e; have := hsz.out; omega)).trans HF3.out)
  clear hc4 hg4 hx HP3 HF3
  go_wp2_with fail
  refine (anyFr_any _ _ _ _ hl HP4.out.cur).mono ?_
  rintro e' w5 ⟨f, rfl, hfs, hc5, hg5⟩
  have HP5 := Lib.hid (HP4.out.call hc5 hg5)
  have HF5 := Lib.hid (show Blk w5 (w.heap.size + 1) #[.int .i64 0, .int .i64 0, .bool false, .int .i64 0, .int .i64 0, .int .i64 0, .string ⟨#[]⟩] 28 from (hg5.block _ HF4.out.lt (fun e => by have e' := Option.some.inj e; have := hsz.out; omega)).trans HF4.out)
  obtain ⟨fd, fs, ft, fv, fp, fy, fb⟩ := f
  have HFS := Lib.hid hfs
  unfold Fr.val
  clear hc5 hg5 hfs
  go_upto_region 5 with fail
  have HP6 := Lib.hid (HP5.out.call (cur_alloc HP5.out.cur #[.int .i64 fd, .int .i64 fs, .bool ft, .int .i64 fv, .int .i64 fp, .int .i64 fy, .string fb] 28) (World.grownBy_alloc _ _ _)); have HF6 := Lib.hid (HF5.out.alloc (.cells #[.int .i64 fd, .int .i64 fs, .bool ft, .int .i64 fv, .int .i64 fp, .int .i64 fy, .string fb] 28)); have HL6 := Lib.hid (show Blk (w5.alloc (.cells #[.int .i64 fd, .int .i64 fs, .bool ft, .int .i64 fv, .int .i64 fp, .int .i64 fy, .string fb] 28)) w5.heap.size #[.int .i64 fd, .int .i64 fs, .bool ft, .int .i64 fv, .int .i64 fp, .int .i64 fy, .string fb] 28 from blk_new _ _ rfl); have HBT := Lib.hid (show bt < w5.heap.size from HP5.out.1.lt)
  clear HP5 HF5 HP4 HF4
  generalize w5.alloc (.cells #[.int .i64 fd, .int .i64 fs, .bool ft, .int .i64 fv, .int .i64 fp, .int .i64 fy, .string fb] 28) = w6 at HP6 HF6 HL6 ⊢
  generalize w5.heap.size = bf at HL6 HBT ⊢
  have hb1 := HBT.out
  have hb2 := HP6.out.2.2.2.2.2.2
  have hb3 := hsz.out
  have HB := Lib.hid (And.intro hb1 (And.intro hb2 hb3))
  clear hb1 hb2 hb3
  refine wp_region_held_drew (S := fun w' => Blk w' bt #[.int .i64 p.pvid, .slice a p.ins.length ca, .slice e p.plain.length cb, .int .i64 p.acc] 26 ∧ Blk w' bf #[.int .i64 fd, .int .i64 fs, .bool ft, .int .i64 fv, .int .i64 fp, .int .i64 fy, .string fb] 28) (by kernel_rfl) (⟨HP6.out.1, HL6.out⟩) (fun hHeld => ?_)
  refine wpAnyH_take (i := 0) (v := ?v8) rfl (by kernel_rfl) (by kernel_rfl) (by kernel_rfl) (fun _ _ _ h => h) (Or.inl ⟨by rfl, ?h8⟩) hHeld ?r8
  case h8 => intro wq hS; obtain ⟨k1, k2⟩ := hS; have c0 := k1.cell 0; have c1 := k1.cell 1; have c2 := k1.cell 2; have c3 := k1.cell 3; go_simp; with_reducible rfl
  try simp only [Act.put, List.getElem_toArray, List.getElem_cons_zero, List.getElem_cons_succ, List.setIfInBounds_toArray, List.set_cons_zero, List.set_cons_succ]
  refine wpAnyH_take (i := 1) (v := ?v9) rfl (by kernel_rfl) (by kernel_rfl) (by kernel_rfl) (fun _ _ _ h => h) (Or.inl ⟨by rfl, ?h9⟩) hHeld ?r9
  case h9 => intro wq hS; go_simp; with_reducible rfl
  try simp only [Act.put, List.getElem_toArray, List.getElem_cons_zero, List.getElem_cons_succ, List.setIfInBounds_toArray, List.set_cons_zero, List.set_cons_succ]
  refine wpAnyH_take (i := 2) (v := ?v10) rfl (by kernel_rfl) (by kernel_rfl) (by kernel_rfl) (fun _ _ _ h => h) (Or.inl ⟨by rfl, ?h10⟩) hHeld ?r10
  case h10 => intro wq hS; obtain ⟨k1, k2⟩ := hS; have c0 := k2.cell 0; have c1 := k2.cell 1; have c2 := k2.cell 2; have c3 := k2.cell 3; have c4 := k2.cell 4; have c5 := k2.cell 5; have c6 := k2.cell 6; go_simp; with_reducible rfl
  try simp only [Act.put, List.getElem_toArray, List.getElem_cons_zero, List.getElem_cons_succ, List.setIfInBounds_toArray, List.set_cons_zero, List.set_cons_succ]
  refine wpAnyH_take (i := 3) (v := ?v11) rfl (by kernel_rfl) (by kernel_rfl) (by kernel_rfl) (fun _ _ _ h => h) (Or.inl ⟨by rfl, ?h11⟩) hHeld ?r11
  case h11 => intro wq hS; go_simp; with_reducible rfl
  try simp only [Act.put, List.getElem_toArray, List.getElem_cons_zero, List.getElem_cons_succ, List.setIfInBounds_toArray, List.set_cons_zero, List.set_cons_succ]
  refine wpAnyH_ready (rs := [4]) (by kernel_rfl) (by simp) ?_
  refine AllReadyH.cons rfl (fun K hK => ?_) AllReadyH.nil
  go_simp
  refine hK.out _ _ (⟨(hHeld.1.alloc _).drew, (hHeld.2.alloc _).drew⟩) (fun hHeld => ?_)
  clear hK K
  try simp only [Act.put, List.getElem_toArray, List.getElem_cons_zero, List.getElem_cons_succ, List.setIfInBounds_toArray, List.set_cons_zero, List.set_cons_succ]
  have HP7 := Lib.hid (show DrQ w c len bt (w6.alloc (.cells #[.int .i64 0, .int .i64 3, .int .i64 7, .int .i64 8, .int .i64 (-1)] 3)).drew C D p a ca e cb from (HP6.out.call (cur_alloc HP6.out.cur _ _) (World.grownBy_alloc _ _ _)).drew); have HF7 := Lib.hid (show Blk (w6.alloc (.cells #[.int .i64 0, .int .i64 3, .int .i64 7, .int .i64 8, .int .i64 (-1)] 3)).drew (w.heap.size + 1) #[.int .i64 0, .int .i64 0, .bool false, .int .i64 0, .int .i64 0, .int .i64 0, .string ⟨#[]⟩] 28 from (HF6.out.alloc _).drew); have HLIT := Lib.hid (show Blk (w6.alloc (.cells #[.int .i64 0, .int .i64 3, .int .i64 7, .int .i64 8, .int .i64 (-1)] 3)).drew w6.heap.size #[.int .i64 0, .int .i64 3, .int .i64 7, .int .i64 8, .int .i64 (-1)] 3 from (blk_new _ _ rfl).drew)
  generalize (w6.alloc (.cells #[.int .i64 0, .int .i64 3, .int .i64 7, .int .i64 8, .int .i64 (-1)] 3)).drew = w7 at HP7 HF7 HLIT hHeld ⊢
  refine wpAnyH_ready (rs := [5]) (by kernel_rfl) (by simp) ?_
  refine AllReadyH.cons rfl (fun K hK => ?_) AllReadyH.nil
  go_simp
  refine (pickWf (m := 5) (g := w6.heap.size) (zs := [0, 3, 7, 8, -1]) (by decide) (by decide) hl HP7.out.cur (by have := cur_lt HP6.out.cur; omega) rfl (by decide) (fun i hi => by rw [HLIT.out.cell]; match i, hi with | 0, _ | 1, _ | 2, _ | 3, _ | 4, _ => rfl)).mono ?_
  rintro e' w8 ⟨z, rfl, hz, hc8, hg8⟩
  have HP8 := Lib.hid (HP7.out.call hc8 hg8); have HN8 := Lib.hid hz; have HF8 := Lib.hid (show Blk w8 (w.heap.size + 1) #[.int .i64 0, .int .i64 0, .bool false, .int .i64 0, .int .i64 0, .int .i64 0, .string ⟨#[]⟩] 28 from (hg8.block _ HF7.out.lt (fun e => by have e' := Option.some.inj e; obtain ⟨k1, k2, k3⟩ := HB.out; omega)).trans HF7.out)
  have hL8 : Blk w8 bf #[.int .i64 fd, .int .i64 fs, .bool ft, .int .i64 fv, .int .i64 fp, .int .i64 fy, .string fb] 28 := (hg8.block _ hHeld.2.lt (fun e => by have e' := Option.some.inj e; obtain ⟨k1, k2, k3⟩ := HB.out; omega)).trans hHeld.2
  clear hc8 hg8 hz
  refine hK.out _ _ (⟨HP8.out.1, hL8⟩) (fun hHeld => ?_)
  clear hK K
  try simp only [Act.put, List.getElem_toArray, List.getElem_cons_zero, List.getElem_cons_succ, List.setIfInBounds_toArray, List.set_cons_zero, List.set_cons_succ]
  refine wpAnyH_ready (rs := [6]) (by kernel_rfl) (by simp) ?_
  refine AllReadyH.cons rfl (fun K hK => ?_) AllReadyH.nil
  refine step_store_row rfl 26 (.tmp 2) (.tmp 18) rfl w.heap.size #[.int .i64 p.pvid, .slice a p.ins.length ca, .slice e p.plain.length cb, .int .i64 p.acc] rfl rfl 26 #[.int .i64 0, .slice none 0 0, .slice none 0 0, .int .i64 0] HP8.out.2.2.2.1 sizePt rfl (by simp [Value.oneCell']) ?_
  refine hK.out _ _ (⟨HP8.out.1.rowOther (by obtain ⟨k1, k2, k3⟩ := HB.out; omega) _, hL8.rowOther (by obtain ⟨k1, k2, k3⟩ := HB.out; omega) _⟩) (fun hHeld => ?_)
  clear hK K
  try simp only [Act.put, List.getElem_toArray, List.getElem_cons_zero, List.getElem_cons_succ, List.setIfInBounds_toArray, List.set_cons_zero, List.set_cons_succ]
  refine wpAnyH_take (i := 7) (v := ?v12) rfl (by kernel_rfl) (by kernel_rfl) (by kernel_rfl) (fun _ _ _ h => h) (Or.inl ⟨by rfl, ?h12⟩) hHeld ?r12
  case h12 => intro wq hS; go_simp; with_reducible rfl
  try simp only [Act.put, List.getElem_toArray, List.getElem_cons_zero, List.getElem_cons_succ, List.setIfInBounds_toArray, List.set_cons_zero, List.set_cons_succ]
  refine wpAnyH_ready (rs := [8]) (by kernel_rfl) (by simp) ?_
  refine AllReadyH.cons rfl (fun K hK => ?_) AllReadyH.nil
  refine step_store_row rfl 28 (.tmp 4) (.tmp 20) rfl (w.heap.size + 1) #[.int .i64 fd, .int .i64 fs, .bool ft, .int .i64 fv, .int .i64 fp, .int .i64 fy, .string fb] rfl rfl 28 #[.int .i64 0, .int .i64 0, .bool false, .int .i64 0, .int .i64 0, .int .i64 0, .string ⟨#[]⟩] (HF8.out.rowOther (by omega) _) sizeFr rfl (by simp [Value.oneCell']) ?_
  refine hK.out _ _ (⟨(HP8.out.1.rowOther (by obtain ⟨k1, k2, k3⟩ := HB.out; omega) _).rowOther (by obtain ⟨k1, k2, k3⟩ := HB.out; omega) _, (hL8.rowOther (by obtain ⟨k1, k2, k3⟩ := HB.out; omega) _).rowOther (by obtain ⟨k1, k2, k3⟩ := HB.out; omega) _⟩) (fun hHeld => ?_)
  clear hK K
  try simp only [Act.put, List.getElem_toArray, List.getElem_cons_zero, List.getElem_cons_succ, List.setIfInBounds_toArray, List.set_cons_zero, List.set_cons_succ]
  refine wpAnyH_take (i := 9) (v := ?v13) rfl (by kernel_rfl) (by kernel_rfl) (by kernel_rfl) (fun _ _ _ h => h) (Or.inl ⟨by rfl, ?h13⟩) hHeld ?r13
  case h13 => intro wq hS; go_simp; with_reducible rfl
  try simp only [Act.put, List.getElem_toArray, List.getElem_cons_zero, List.getElem_cons_succ, List.setIfInBounds_toArray, List.set_cons_zero, List.set_cons_succ]
  refine wpAnyH_done (by kernel_rfl) ?_ _
  have hT : Turned [w.heap.size, w.heap.size + 1] w8 ((w8.setRow w.heap.size #[.int .i64 p.pvid, .slice a p.ins.length ca, .slice e p.plain.length cb, .int .i64 p.acc]).setRow (w.heap.size + 1) #[.int .i64 fd, .int .i64 fs, .bool ft, .int .i64 fv, .int .i64 fp, .int .i64 fy, .string fb]) := ((Turned.refl _ _).row (by simp) _).row (by simp) _
  have HD := Lib.hid (HP8.out.done hT)
  have HG := Lib.hid ((Blk.row (cs := #[.int .i64 p.pvid, .slice a p.ins.length ca, .slice e p.plain.length cb, .int .i64 p.acc]) HP8.out.2.2.2.1).rowOther (g := w.heap.size + 1) (by omega) #[.int .i64 fd, .int .i64 fs, .bool ft, .int .i64 fv, .int .i64 fp, .int .i64 fy, .string fb])
  have HH := Lib.hid (Blk.row (cs := #[.int .i64 fd, .int .i64 fs, .bool ft, .int .i64 fv, .int .i64 fp, .int .i64 fy, .string fb]) (HF8.out.rowOther (g := w.heap.size) (by omega) #[.int .i64 p.pvid, .slice a p.ins.length ca, .slice e p.plain.length cb, .int .i64 p.acc]))
  clear hT hHeld
  skip
  generalize ((w8.setRow w.heap.size #[.int .i64 p.pvid, .slice a p.ins.length ca, .slice e p.plain.length cb, .int .i64 p.acc]).setRow (w.heap.size + 1) #[.int .i64 fd, .int .i64 fs, .bool ft, .int .i64 fv, .int .i64 fp, .int .i64 fy, .string fb]) = X at HD HG HH ⊢
  have r0 := HG.out.cell 0
  have r1 := HG.out.cell 1
  have r2 := HG.out.cell 2
  have r3 := HG.out.cell 3
  have s0 := HH.out.cell 0
  have s1 := HH.out.cell 1
  have s2 := HH.out.cell 2
  have s3 := HH.out.cell 3
  have s4 := HH.out.cell 4
  have s5 := HH.out.cell 5
  have s6 := HH.out.cell 6
  go_wp2_with fail
  exact bodyPost_ret (v := .tuple #[.agg #[.int .i64 p.pvid, .slice a p.ins.length ca, .slice e p.plain.length cb, .int .i64 p.acc], .int .i64 x, .agg #[.int .i64 fd, .int .i64 fs, .bool ft, .int .i64 fv, .int .i64 fp, .int .i64 fy, .string fb], .int .i64 z]) (by simp [results, Try.results13, go_sem, r0, r1, r2, r3, s0, s1, s2, s3, s4, s5, s6]) rfl ⟨p, _, x, ⟨fd, fs, ft, fv, fp, fy, fb⟩, z, rfl, ⟨C, D, _, _, _, _, rfl, HD.out.1, HD.out.2⟩, HFS.out, HX.out, HN8.out⟩

end Go.Proofs.Ytfkpecildcejkaa
