/- The draws of tables. -/
import Derived.Test.YtleebmbnjdoinaaDrawFr2
import Derived.Test.YtleebmbnjdoinaaTbF
namespace Go.Proofs.Ytleebmbnjdoinaa
open Go.RowKit

def DrawnWf (B c len : Nat) (w : World) (e : Ending) (w' : World) : Prop := ∃ x : Int, e = .returned (.int .i64 x) ∧ (Lit.int .i64 x).wf = true ∧ Cur B c len w' ∧ w.grownBy w' (some c)

theorem getD_all {p : Int → Bool} {zs : List Int} (h : zs.all p = true) {i : Nat} (hi : i < zs.length) : p (zs.getD i 0) = true := by
  rw [List.getD_eq_getElem?_getD, List.getElem?_eq_getElem hi]
  exact List.all_eq_true.1 h _ (List.getElem_mem hi)

theorem wf_in {x : Int} (h0 : -9223372036854775808 ≤ x) (h1 : x ≤ 9223372036854775807) : (Lit.int .i64 x).wf = true := by
  simp [Lit.wf, IntKind.min, IntKind.max, IntKind.signed, IntKind.bits]
  omega

/-- a number is picked from a row of numbers -/
theorem pickWf {B c len g m cap : Nat} {zs : List Int} (hm1 : 1 ≤ m) (hm2 : m ≤ 256) {w : World} (hl : len ≤ 1048576) (hc : Cur B c len w) (hne : g ≠ c) (hlen : zs.length = m) (hwf : (zs.all fun x => (Lit.int .i64 x).wf) = true)
    (hcell : ∀ i, i < m → w.cell? ⟨g, i, none⟩ = some (.int .i64 (zs.getD i 0))) :
    Calls Try.prog 37 #[.pointer (some ⟨c, 0, none⟩), .slice (some ⟨g, 0, none⟩) m cap] w (DrawnWf B c len w) := by
  refine (pickInt_any B c len g m cap zs hm1 hm2 w hl hc hne hcell).mono ?_
  rintro e w' ⟨i, hi, rfl, hc', hg⟩
  exact ⟨_, rfl, getD_all hwf (by omega), hc', hg⟩

theorem vid_wf (B c len : Nat) (w : World) (hl : len ≤ 1048576) (hc : Cur B c len w) :
    Calls Try.prog 86 #[.pointer (some ⟨c, 0, none⟩)] w (DrawnWf B c len w) := by
  have hlt := cur_lt hc
  go_enter Try.func86, Try.ntmps86
  go_wp2_with fail
  refine (pickWf (zs := [1, 1, 10, 10, 20, 4094]) (by decide) (by decide) hl (cur_alloc hc _ _) (by omega) rfl (by decide) ?_).mono ?_
  · intro i hi
    rw [World.cell?_alloc_at (hn := rfl)]
    match i, hi with
    | 0, _ | 1, _ | 2, _ | 3, _ | 4, _ | 5, _ => rfl
  · rintro e w3 ⟨z, rfl, hwf, hc3, hg3⟩
    go_wp2_with fail
    go_ret
    exact ⟨z, rfl, hwf, hc3, grown_trans (World.grownBy_alloc _ _ _) hg3⟩

theorem mac_wf (B c len : Nat) (w : World) (hl : len ≤ 1048576) (hc : Cur B c len w) :
    Calls Try.prog 66 #[.pointer (some ⟨c, 0, none⟩)] w (DrawnWf B c len w) := by
  refine (mac_any B c len w hl hc).mono ?_
  rintro e w' ⟨x, rfl, hx, hc', hg⟩
  unfold isMac at hx
  exact ⟨x, rfl, wf_in (by omega) (by omega), hc', hg⟩

theorem below_wf (B c len : Nat) (n : Int) (h1 : 1 ≤ n) (h2 : n ≤ 4294967296) (w : World) (hl : len ≤ 1048576) (hc : Cur B c len w) :
    Calls Try.prog 55 #[.pointer (some ⟨c, 0, none⟩), .int .i64 n] w (DrawnWf B c len w) := by
  refine (below_any B c len n h1 h2 w hl hc).mono ?_
  rintro e w' ⟨x, rfl, h3, h4, hc', hg⟩
  exact ⟨x, rfl, wf_in (by omega) (by omega), hc', hg⟩

theorem any2_wf (B c len : Nat) (w : World) (hl : len ≤ 1048576) (hc : Cur B c len w) :
    Calls Try.prog 38 #[.pointer (some ⟨c, 0, none⟩)] w (DrawnWf B c len w) := by
  refine (any2_any B c len w hl hc).mono ?_
  rintro e w' ⟨x, rfl, h3, h4, hc', hg⟩
  exact ⟨x, rfl, wf_in h3 h4, hc', hg⟩

set_option maxHeartbeats 1000000 in
theorem now5_any (B c len : Nat) (w : World) (hl : len ≤ 1048576) (hc : Cur B c len w) :
    Calls Try.prog 54 #[.pointer (some ⟨c, 0, none⟩)] w (DrawnWf B c len w) := by
  have hlt := cur_lt hc
  go_enter Try.func54, Try.ntmps54
  go_wp2_with fail
  · refine (below_wf B c len 400 (by decide) (by decide) w hl hc).mono ?_
    rintro e w1 ⟨x, rfl, hx, hc1, hg1⟩
    go_wp2_with fail
    have hl1 := cur_lt hc1
    refine (pickWf (m := 7) (zs := [0, 5, 10, 300, 305, 1000000000, x]) (by decide) (by decide) hl (cur_alloc hc1 _ _) (by omega) rfl (by simp only [List.all_cons, hx, List.all_nil, Bool.and_true]; decide) ?_).mono ?_
    · intro i hi
      rw [World.cell?_alloc_at (hn := rfl)]
      match i, hi with
      | 0, _ | 1, _ | 2, _ | 3, _ | 4, _ | 5, _ | 6, _ => rfl
    · rintro e w3 ⟨z, rfl, hwf, hc3, hg3⟩
      go_wp2_with fail
      go_ret
      exact ⟨z, rfl, hwf, hc3, grown_trans hg1 (grown_trans (World.grownBy_alloc _ _ _) hg3)⟩

/-- a table is drawn -/
def DrawnTab (B c len : Nat) (w : World) (e : Ending) (w' : World) : Prop := ∃ (C : List Nat) (t : Tb) (a : Option Addr) (n cap : Nat) (q : Int), e = .returned (.agg #[.slice a n cap, .int .i64 q]) ∧ TabIn w' C (.agg #[.slice a n cap, .int .i64 q]) t ∧ (∀ b ∈ C, w.heap.size ≤ b) ∧ Cur B c len w' ∧ w.grownBy w' (some c)

/-- the state of l05Make: the table lies in block bt, the result's block is w.heap.size -/
def MkP (B c len : Nat) (w : World) (bt : Nat) (wi : World) (C : List Nat) (t : Tb) (a : Option Addr) (n cap : Nat) (q : Int) : Prop :=
  Blk wi bt #[.slice a n cap, .int .i64 q] 26 ∧ TabIn wi C (.agg #[.slice a n cap, .int .i64 q]) t ∧ (∀ b ∈ C, w.heap.size < b ∧ b ≠ bt) ∧ Blk wi w.heap.size #[.slice none 0 0, .int .i64 0] 26 ∧ Cur B c len wi ∧ w.grownBy wi (some c) ∧ w.heap.size < bt ∧ c < w.heap.size
def MkT (B c len : Nat) (w : World) (bt : Nat) (wi : World) : Prop := ∃ (C : List Nat) (t : Tb) (a : Option Addr) (n cap : Nat) (q : Int), MkP B c len w bt wi C t a n cap q

section
variable {B c len : Nat} {w : World} {bt : Nat} {wi : World} {C : List Nat} {t : Tb} {a : Option Addr} {n cap : Nat} {q : Int}
theorem MkP.drew (h : MkP B c len w bt wi C t a n cap q) : MkP B c len w bt wi.drew C t a n cap q :=
  ⟨h.1, h.2.1, h.2.2.1, h.2.2.2.1, h.2.2.2.2.1, ⟨h.2.2.2.2.2.1.os, h.2.2.2.2.2.1.tape, h.2.2.2.2.2.1.output, h.2.2.2.2.2.1.size, h.2.2.2.2.2.1.block⟩, h.2.2.2.2.2.2⟩
theorem MkP.call {w1 : World} (h : MkP B c len w bt wi C t a n cap q) (hc : Cur B c len w1) (hg : wi.grownBy w1 (some c)) : MkP B c len w bt w1 C t a n cap q := by
  obtain ⟨h1, h2, h3, h4, h5, h6, h7, h8⟩ := h
  have hne : ∀ x, c < x → some x ≠ some c := fun x hx e => by have e1 : x = c := Option.some.inj e; omega
  exact ⟨(hg.block _ h1.lt (hne _ (by omega))).trans h1, h2.keep (fun b hb => hg.block b (h2.lt b hb) (hne _ (by have := (h3 b hb).1; omega))), h3, (hg.block _ h4.lt (hne _ h8)).trans h4, hc, grown_trans h6 hg, h7, h8⟩
theorem MkP.put {w5 : World} {C' : List Nat} {t' : Tb} {a' : Option Addr} {n' cap' : Nat} {q' : Int} (h : MkP B c len w bt wi C t a n cap q) (hT : TabIn w5 C' (.agg #[.slice a' n' cap', .int .i64 q']) t') (hf : ∀ b ∈ C', wi.heap.size ≤ b) (hb : Below wi.heap.size wi w5) :
    MkP B c len w bt ((w5.setCell ⟨bt, 0, none⟩ (.slice a' n' cap')).setCell ⟨bt, 1, none⟩ (.int .i64 q')) C' t' a' n' cap' q' := by
  obtain ⟨h1, h2, h3, h4, h5, h6, h7, h8⟩ := h
  have hlt := h1.lt
  have hcb : c < bt := by omega
  have hg5 : wi.grownBy w5 (some c) := ⟨hb.os, hb.tape, hb.output, hb.size, fun k hk _ => hb.block k hk⟩
  have hg5n : wi.grownBy w5 none := ⟨hb.os, hb.tape, hb.output, hb.size, fun k hk _ => hb.block k hk⟩
  refine ⟨((h1.after hb).set 0 _).set 1 _, ?_, fun b hb' => (by have := hf b hb'; omega), ((h4.after hb).other (by omega) _).other (by omega) _, ?_, ?_, h7, h8⟩
  · exact hT.turned (C := [bt]) (((Turned.refl _ w5).setCell (p := ⟨bt, 0, none⟩) (by simp) _).setCell (p := ⟨bt, 1, none⟩) (by simp) _) (fun b hb' hm => by have := hf b hb'; simp at hm; omega)
  · exact cur_store (cur_store (cur_grow h5 hg5n) hcb _) hcb _
  · exact grown_store (grown_store (grown_trans h6 hg5) (by omega) _) (by omega) _
theorem MkP.facts (h : MkP B c len w bt wi C t a n cap q) : (∀ j, wi.frozen? ⟨bt, j, none⟩ = false) ∧ wi.shape? bt = some (26, 2) ∧ wi.cell? ⟨bt, 0, none⟩ = some (.slice a n cap) ∧ wi.cell? ⟨bt, 1, none⟩ = some (.int .i64 q) :=
  ⟨h.1.frozen, h.1.shape, h.1.cell 0, h.1.cell 1⟩
theorem MkP.kept {w5 : World} (h : MkP B c len w bt wi C t a n cap q) (hb : Below wi.heap.size wi w5) : (∀ j, w5.frozen? ⟨bt, j, none⟩ = false) ∧ w5.shape? bt = some (26, 2) ∧ w5.cell? ⟨bt, 0, none⟩ = some (.slice a n cap) ∧ w5.cell? ⟨bt, 1, none⟩ = some (.int .i64 q) :=
  ⟨(h.1.after hb).frozen, (h.1.after hb).shape, (h.1.after hb).cell 0, (h.1.after hb).cell 1⟩
end

set_option maxHeartbeats 2000000 in
theorem make5_any (B c len : Nat) (w : World) (hl : len ≤ 1048576) (hc : Cur B c len w) :
    Calls Try.prog 63 #[.pointer (some ⟨c, 0, none⟩)] w (DrawnTab B c len w) := by
  have hlt := cur_lt hc
  have hlt0 := hlt
  go_enter Try.func63, Try.ntmps63
  go_wp2_with fail
  refine (pickWf (m := 6) (zs := [0, 1, 2, 3, 4, 64]) (by decide) (by decide) hl (cur_alloc (cur_alloc hc _ _) _ _) (by omega) rfl (by decide) ?_).mono ?_
  · intro i hi
    rw [World.cell?_alloc_at (hn := by simp)]
    match i, hi with
    | 0, _ | 1, _ | 2, _ | 3, _ | 4, _ | 5, _ => rfl
  rintro e w1 ⟨z, rfl, hz, hc1, hg1⟩
  have hT0 : Blk (w.alloc (.cells #[.slice none 0 0, .int .i64 0] 26)) w.heap.size #[.slice none 0 0, .int .i64 0] 26 := blk_new _ _ rfl
  have hT1 : Blk w1 w.heap.size #[.slice none 0 0, .int .i64 0] 26 := (hg1.block _ ((hT0.alloc _).lt) (fun e => by have e1 : w.heap.size = c := Option.some.inj e; omega)).trans (hT0.alloc _)
  have hgw1 : w.grownBy w1 (some c) := grown_trans (World.grownBy_alloc _ _ _) (grown_trans (World.grownBy_alloc _ _ _) hg1)
  have z1 := hT1.frozen
  have y1 := hT1.shape
  have c0 : w1.cell? ⟨w.heap.size, 0, none⟩ = some (.slice none 0 0) := hT1.cell 0
  have c1 : w1.cell? ⟨w.heap.size, 1, none⟩ = some (.int .i64 0) := hT1.cell 1
  have HT1 := Lib.hid hT1; have HG1 := Lib.hid hgw1
  clear hT0 hT1 hgw1 hg1
  go_wp2_with fail
  refine (below_any B c len 7 (by decide) (by decide) _ hl (cur_alloc hc1 _ _)).mono ?_
  rintro e w2 ⟨n, rfl, hn0, hn7, hc2, hg2⟩
  have hl1 := cur_lt hc1
  have hw1 := HT1.out.lt
  have hR2 : Blk w2 w.heap.size #[.slice none 0 0, .int .i64 0] 26 := (hg2.block _ ((HT1.out.alloc _).lt) (fun e => by have e1 : w.heap.size = c := Option.some.inj e; omega)).trans (HT1.out.alloc _)
  have hT1 : Blk (w1.alloc (.cells #[.slice none 0 0, .int .i64 z] 26)) w1.heap.size #[.slice none 0 0, .int .i64 z] 26 := blk_new _ _ rfl
  have hT2 : Blk w2 w1.heap.size #[.slice none 0 0, .int .i64 z] 26 := (hg2.block _ hT1.lt (fun e => by have e1 : w1.heap.size = c := Option.some.inj e; omega)).trans hT1
  have hG2 : w.grownBy w2 (some c) := grown_trans HG1.out (grown_trans (World.grownBy_alloc _ _ _) hg2)
  clear hT1 hg2 c0 c1 z1 y1
  have hI2 : MkT B c len w w1.heap.size w2 := ⟨[], ⟨[], z⟩, none, 0, 0, z, hT2, ⟨none, 0, rfl, fun k hk => absurd hk (by simp), ⟨rfl, Nat.le_refl _⟩, by simp, ⟨fun x hx => absurd hx (by simp), hz⟩⟩, fun b hb => absurd hb (by simp), hR2, hc2, hG2, hw1, hlt⟩
  have HI2 := Lib.hid hI2
  clear hI2 hT2 hR2 hG2 hc2 hc1 HT1 HG1 hz hw1
  obtain ⟨m, rfl⟩ := Int.eq_ofNat_of_zero_le hn0
  generalize w1.heap.size = bt at HI2 hl1 ⊢
  go_wp2_with fail
  go_loopw [5] (fun i wr => ∃ (k : Nat), i = .int .i64 (k : Nat) ∧ k ≤ m ∧ Hid (MkT B c len w bt wr))
    (fun i _ => m - (intOf i).toNat)
  case atStart => exact ⟨0, rfl, Nat.zero_le _, HI2⟩
  case round =>
    obtain ⟨k, rfl, hk, HI⟩ := hrel
    by_cases hlt : k < m
    · have hlt' : (k : Int) < (m : Int) := by omega
      go_wp2_with fail
      obtain ⟨C, t, a, n, cap, q, hP⟩ := HI.out
      refine (vid_wf B c len wr hl hP.2.2.2.2.1).mono ?_
      rintro e w3 ⟨x, rfl, hx, hc3, hg3⟩
      have hP3 := hP.call hc3 hg3
      have HP3 := Lib.hid hP3; have HX := Lib.hid hx
      clear hP hP3 hc3 hg3 hx
      go_wp2_with fail
      refine (mac_wf B c len w3 hl HP3.out.2.2.2.2.1).mono ?_
      rintro e w4 ⟨y, rfl, hy, hc4, hg4⟩
      have HP4 := Lib.hid (HP3.out.call hc4 hg4); have HY := Lib.hid hy
      clear hc4 hg4 hy
      go_wp2_with fail
      refine (below_wf B c len 4 (by decide) (by decide) w4 hl HP4.out.2.2.2.2.1).mono ?_
      rintro e w5 ⟨p, rfl, hp, hc5, hg5⟩
      have HP5 := Lib.hid (HP4.out.call hc5 hg5); have HZ := Lib.hid hp
      clear hc5 hg5 hp
      go_wp2_with fail
      refine (once_any B c len 5 (by decide) (by decide) w5 hl HP5.out.2.2.2.2.1).mono ?_
      rintro e w6 ⟨bb, rfl, hc6, hg6⟩
      have HP := Lib.hid (HP5.out.call hc6 hg6)
      clear hc6 hg6 HP3 HP4 HP5
      obtain ⟨_, _, c0, c1⟩ := HP.out.facts
      cases bb
      · go_upto_region 9 with fail
        refine wp_region_held_drew (S := fun _ => True) (by kernel_rfl) (trivial) (fun hHeld => ?_)
        refine wpAnyH_take (i := 1) (v := ?v1) rfl (by kernel_rfl) (by kernel_rfl) (by kernel_rfl) (fun _ _ _ h => h) (Or.inl ⟨by rfl, ?h1⟩) hHeld ?r1
        case h1 => intro wq hS; go_simp; with_reducible rfl
        try simp only [Act.put, List.getElem_toArray, List.getElem_cons_zero, List.getElem_cons_succ, List.setIfInBounds_toArray, List.set_cons_zero, List.set_cons_succ]
        refine wpAnyH_take (i := 2) (v := ?v2) rfl (by kernel_rfl) (by kernel_rfl) (by kernel_rfl) (fun _ _ _ h => h) (Or.inl ⟨by rfl, ?h2⟩) hHeld ?r2
        case h2 => intro wq hS; go_simp; with_reducible rfl
        try simp only [Act.put, List.getElem_toArray, List.getElem_cons_zero, List.getElem_cons_succ, List.setIfInBounds_toArray, List.set_cons_zero, List.set_cons_succ]
        refine wpAnyH_take (i := 3) (v := ?v3) rfl (by kernel_rfl) (by kernel_rfl) (by kernel_rfl) (fun _ _ _ h => h) (Or.inl ⟨by rfl, ?h3⟩) hHeld ?r3
        case h3 => intro wq hS; go_simp; with_reducible rfl
        try simp only [Act.put, List.getElem_toArray, List.getElem_cons_zero, List.getElem_cons_succ, List.setIfInBounds_toArray, List.set_cons_zero, List.set_cons_succ]
        refine wpAnyH_take (i := 4) (v := ?v4) rfl (by kernel_rfl) (by kernel_rfl) (by kernel_rfl) (fun _ _ _ h => h) (Or.inl ⟨by rfl, ?h4⟩) hHeld ?r4
        case h4 => intro wq hS; go_simp; with_reducible rfl
        try simp only [Act.put, List.getElem_toArray, List.getElem_cons_zero, List.getElem_cons_succ, List.setIfInBounds_toArray, List.set_cons_zero, List.set_cons_succ]
        refine wpAnyH_ready (rs := [0, 5]) (by kernel_rfl) (by simp) ?_
        refine AllReadyH.cons rfl (fun K hK => ?_) ?_
        · go_simp
          refine hK.out _ _ (trivial) (fun hHeld => ?_)
          clear hK K
          try simp only [Act.put, List.getElem_toArray, List.getElem_cons_zero, List.getElem_cons_succ, List.setIfInBounds_toArray, List.set_cons_zero, List.set_cons_succ]
          refine wpAnyH_ready (rs := [5]) (by kernel_rfl) (by simp) ?_
          refine AllReadyH.cons rfl (fun K hK => ?_) AllReadyH.nil
          go_simp
          refine (now5_any B c len _ hl HP.out.drew.2.2.2.2.1).mono ?_
          rintro e w7 ⟨nw, rfl, hnw, hc7, hg7⟩
          have HP7 := Lib.hid (HP.out.drew.call hc7 hg7)
          obtain ⟨_, _, c0, c1⟩ := HP7.out.facts
          have HNW := Lib.hid hnw
          clear hc7 hg7 hnw
          refine hK.out _ _ (trivial) (fun hHeld => ?_)
          clear hK K
          try simp only [Act.put, List.getElem_toArray, List.getElem_cons_zero, List.getElem_cons_succ, List.setIfInBounds_toArray, List.set_cons_zero, List.set_cons_succ]
          refine wpAnyH_ready (rs := [6]) (by kernel_rfl) (by simp) ?_
          refine AllReadyH.cons rfl (fun K hK => ?_) AllReadyH.nil
          go_simp
          refine (learn5_spec HP7.out.2.1 x y p nw ⟨HX.out, HY.out, HZ.out, HNW.out⟩).mono ?_
          rintro e w8 ⟨C8, a8, n8, p8, q8, rfl, hT8, hf8, hb8⟩
          obtain ⟨z8, y8, e8, e9⟩ := HP7.out.kept hb8
          refine hK.out _ _ (trivial) (fun hHeld => ?_)
          clear hK K
          try simp only [Act.put, List.getElem_toArray, List.getElem_cons_zero, List.getElem_cons_succ, List.setIfInBounds_toArray, List.set_cons_zero, List.set_cons_succ]
          refine wpAnyH_ready (rs := [7]) (by kernel_rfl) (by simp) ?_
          refine AllReadyH.cons rfl (fun K hK => ?_) AllReadyH.nil
          go_simp
          refine hK.out _ _ (trivial) (fun hHeld => ?_)
          clear hK K
          try simp only [Act.put, List.getElem_toArray, List.getElem_cons_zero, List.getElem_cons_succ, List.setIfInBounds_toArray, List.set_cons_zero, List.set_cons_succ]
          refine wpAnyH_done (by kernel_rfl) ?_ _
          clear e8 e9 z8 y8
          have HP9 := Lib.hid (HP7.out.put hT8 hf8 hb8)
          clear hT8 hf8 hb8
          go_wp2_with fail
          go_roundw
          case rel => exact ⟨k + 1, by go_num, by omega, Lib.hid ⟨_, _, _, _, _, _, HP9.out⟩⟩
          case measure => simp [intOf]; omega
        refine AllReadyH.cons rfl (fun K hK => ?_) AllReadyH.nil
        · go_simp
          refine (now5_any B c len _ hl HP.out.drew.2.2.2.2.1).mono ?_
          rintro e w7 ⟨nw, rfl, hnw, hc7, hg7⟩
          have HP7 := Lib.hid (HP.out.drew.call hc7 hg7)
          obtain ⟨_, _, c0, c1⟩ := HP7.out.facts
          have HNW := Lib.hid hnw
          clear hc7 hg7 hnw
          refine hK.out _ _ (trivial) (fun hHeld => ?_)
          clear hK K
          try simp only [Act.put, List.getElem_toArray, List.getElem_cons_zero, List.getElem_cons_succ, List.setIfInBounds_toArray, List.set_cons_zero, List.set_cons_succ]
          refine wpAnyH_ready (rs := [0]) (by kernel_rfl) (by simp) ?_
          refine AllReadyH.cons rfl (fun K hK => ?_) AllReadyH.nil
          go_simp
          refine hK.out _ _ (trivial) (fun hHeld => ?_)
          clear hK K
          try simp only [Act.put, List.getElem_toArray, List.getElem_cons_zero, List.getElem_cons_succ, List.setIfInBounds_toArray, List.set_cons_zero, List.set_cons_succ]
          refine wpAnyH_ready (rs := [6]) (by kernel_rfl) (by simp) ?_
          refine AllReadyH.cons rfl (fun K hK => ?_) AllReadyH.nil
          go_simp
          refine (learn5_spec HP7.out.2.1 x y p nw ⟨HX.out, HY.out, HZ.out, HNW.out⟩).mono ?_
          rintro e w8 ⟨C8, a8, n8, p8, q8, rfl, hT8, hf8, hb8⟩
          obtain ⟨z8, y8, e8, e9⟩ := HP7.out.kept hb8
          refine hK.out _ _ (trivial) (fun hHeld => ?_)
          clear hK K
          try simp only [Act.put, List.getElem_toArray, List.getElem_cons_zero, List.getElem_cons_succ, List.setIfInBounds_toArray, List.set_cons_zero, List.set_cons_succ]
          refine wpAnyH_ready (rs := [7]) (by kernel_rfl) (by simp) ?_
          refine AllReadyH.cons rfl (fun K hK => ?_) AllReadyH.nil
          go_simp
          refine hK.out _ _ (trivial) (fun hHeld => ?_)
          clear hK K
          try simp only [Act.put, List.getElem_toArray, List.getElem_cons_zero, List.getElem_cons_succ, List.setIfInBounds_toArray, List.set_cons_zero, List.set_cons_succ]
          refine wpAnyH_done (by kernel_rfl) ?_ _
          clear e8 e9 z8 y8
          have HP9 := Lib.hid (HP7.out.put hT8 hf8 hb8)
          clear hT8 hf8 hb8
          go_wp2_with fail
          go_roundw
          case rel => exact ⟨k + 1, by go_num, by omega, Lib.hid ⟨_, _, _, _, _, _, HP9.out⟩⟩
          case measure => simp [intOf]; omega
      · go_wp2_with fail
        refine (fix5_spec HP.out.2.1 x y p ⟨HX.out, HY.out, HZ.out, (by decide : (Lit.int .i64 0).wf = true)⟩).mono ?_
        rintro e w8 ⟨C8, a8, n8, p8, q8, rfl, hT8, hf8, hb8⟩
        obtain ⟨z8, y8, e8, e9⟩ := HP.out.kept hb8
        have HP9 := Lib.hid (HP.out.put hT8 hf8 hb8)
        clear hT8 hf8 hb8 c0 c1
        go_wp2_with fail
        go_roundw
        case rel => exact ⟨k + 1, by go_num, by omega, Lib.hid ⟨_, _, _, _, _, _, HP9.out⟩⟩
        case measure => simp [intOf]; omega
    · have hlt' : ¬ ((k : Int) < (m : Int)) := by omega
      obtain ⟨C, t, a, n, cap, q, hT, hTI, hC, hR, hcw, hG, hb2, _⟩ := HI.out
      have c0 : wr.cell? ⟨bt, 0, none⟩ = some (.slice a n cap) := hT.cell 0
      have c1 : wr.cell? ⟨bt, 1, none⟩ = some (.int .i64 q) := hT.cell 1
      have z1 := hR.frozen
      have y1 := hR.shape
      have e0 : wr.cell? ⟨w.heap.size, 0, none⟩ = some (.slice none 0 0) := hR.cell 0
      have e1 : wr.cell? ⟨w.heap.size, 1, none⟩ = some (.int .i64 0) := hR.cell 1
      have hf := hR.set 0 (.slice a n cap) |>.set 1 (.int .i64 q)
      have hTf := hTI.turned (C := [w.heap.size]) (((Turned.refl _ wr).setCell (p := ⟨w.heap.size, 0, none⟩) (by simp) (.slice a n cap)).setCell (p := ⟨w.heap.size, 1, none⟩) (by simp) (.int .i64 q)) (fun b hb' hm => by have := (hC b hb').1; simp at hm; omega)
      have hcf := cur_store (j := 1) (cur_store (j := 0) hcw hlt0 (.slice a n cap)) hlt0 (.int .i64 q)
      have hgf := grown_store (j := 1) (grown_store (j := 0) hG (Nat.le_refl _) (.slice a n cap)) (Nat.le_refl _) (.int .i64 q)
      clear hT hTI hR hcw hG
      go_wp2_with fail
      have r0 : ((wr.setCell ⟨w.heap.size, 0, none⟩ (.slice a n cap)).setCell ⟨w.heap.size, 1, none⟩ (.int .i64 q)).cell? ⟨w.heap.size, 0, none⟩ = some (.slice a n cap) := hf.cell 0
      have r1 : ((wr.setCell ⟨w.heap.size, 0, none⟩ (.slice a n cap)).setCell ⟨w.heap.size, 1, none⟩ (.int .i64 q)).cell? ⟨w.heap.size, 1, none⟩ = some (.int .i64 q) := hf.cell 1
      clear hf
      generalize (wr.setCell ⟨w.heap.size, 0, none⟩ (.slice a n cap)).setCell ⟨w.heap.size, 1, none⟩ (.int .i64 q) = W at r0 r1 hTf hcf hgf ⊢
      refine bodyPost_ret (v := .agg #[.slice a n cap, .int .i64 q]) (by simp [results, Try.results63, go_sem, r0, r1]) rfl ?_
      exact ⟨C, t, a, n, cap, q, rfl, hTf, fun b hb => by have := (hC b hb).1; omega, hcf, hgf⟩
end Go.Proofs.Ytleebmbnjdoinaa
