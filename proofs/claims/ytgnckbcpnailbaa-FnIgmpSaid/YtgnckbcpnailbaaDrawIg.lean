/- The drawn packets: what l04Make, l04Any and DrawPutIgmp answer. -/
import Derived.Test.YtgnckbcpnailbaaDraw
import Derived.Test.YtgnckbcpnailbaaDrawM
import Derived.Test.YtgnckbcpnailbaaGetIgS
namespace Go.Proofs.Ytgnckbcpnailbaa
open Go.RowKit

theorem grown_newI {w wi : World} {r : Option Nat} (h : w.grownBy wi r) (o : Obj) : w.grownBy (wi.alloc o) r :=
  ⟨h.os, h.tape, h.output, Nat.le_trans h.size (by simp), fun k hk hr => (Below.heap_alloc wi o k (Nat.lt_of_lt_of_le hk h.size)).trans (h.block k hk hr)⟩
theorem grown_storeI {w wi : World} {r : Option Nat} (h : w.grownBy wi r) {b j : Nat} (hb : w.heap.size ≤ b) (v : Value) : w.grownBy (wi.setCell ⟨b, j, none⟩ v) r :=
  ⟨h.os, h.tape, h.output, Nat.le_trans h.size (by simp [World.setCell]), fun k hk hr => (Below.heap_setCell wi _ _ _ (by simp only; omega)).trans (h.block k hk hr)⟩
theorem cur_storeI {B c len : Nat} {w : World} (hc : Cur B c len w) {b j : Nat} (hb : c < b) (v : Value) : Cur B c len (w.setCell ⟨b, j, none⟩ v) := by
  obtain ⟨a, cap, zs, i, h, h1, h2, h3, h4, h5, h6⟩ := hc
  exact ⟨a, cap, zs, i, h, h1, (Below.heap_setCell w _ _ _ (by simp only; omega)).trans h2, h3.below h4 ((Below.refl _ w).setCell (p := ⟨b, j, none⟩) (by simp only; omega) _), h4, h5, h6⟩
theorem igBlk_0 {w : World} {b : Nat} {g : Ig} (h : IgBlk w b g) (x : Int) : IgBlk (w.setCell ⟨b, 0, none⟩ (.int .i64 x)) b { g with kind := x } := heap_setCell_same w b 0 _ _ _ h
theorem igBlk_1 {w : World} {b : Nat} {g : Ig} (h : IgBlk w b g) (x : Int) : IgBlk (w.setCell ⟨b, 1, none⟩ (.int .i64 x)) b { g with time := x } := heap_setCell_same w b 1 _ _ _ h
theorem igBlk_2 {w : World} {b : Nat} {g : Ig} (h : IgBlk w b g) (x : Int) : IgBlk (w.setCell ⟨b, 2, none⟩ (.int .i64 x)) b { g with group := x } := heap_setCell_same w b 2 _ _ _ h
theorem igBlk_3 {w : World} {b : Nat} {g : Ig} (h : IgBlk w b g) (x : Int) : IgBlk (w.setCell ⟨b, 3, none⟩ (.int .i64 x)) b { g with src := x } := heap_setCell_same w b 3 _ _ _ h

/-- the state of a draw of a packet: the cursor; the result's block, nought yet; the block of the packet under way -/
structure MI (B c len : Nat) (w wi : World) (b2 b3 : Nat) (g : Ig) : Prop where
  cur : Cur B c len wi
  grown : w.grownBy wi (some c)
  blk2 : IgBlk wi b2 Ig.zero
  blk3 : IgBlk wi b3 g
  lt1 : w.heap.size ≤ b2
  lt2 : b2 < b3
  lt3 : c < b2

theorem IgBlk.grown {w w1 : World} {b c : Nat} {g : Ig} (h : IgBlk w b g) (hg : w.grownBy w1 (some c)) (hne : c < b) : IgBlk w1 b g := (hg.block b h.lt (fun e => by have := Option.some.inj e; omega)).trans h
theorem MI.call {B c len : Nat} {w wi w1 : World} {b2 b3 : Nat} {g : Ig} (h : MI B c len w wi b2 b3 g) (hc : Cur B c len w1) (hg : wi.grownBy w1 (some c)) : MI B c len w w1 b2 b3 g :=
  ⟨hc, grown_trans h.grown hg, h.blk2.grown hg h.lt3, h.blk3.grown hg (Nat.lt_trans h.lt3 h.lt2), h.lt1, h.lt2, h.lt3⟩
theorem MI.alloc {B c len : Nat} {w wi : World} {b2 b3 : Nat} {g : Ig} (h : MI B c len w wi b2 b3 g) (cs : Array Value) (t : TypeId) : MI B c len w (wi.alloc (.cells cs t)) b2 b3 g :=
  ⟨cur_alloc h.cur cs t, grown_newI h.grown _, h.blk2.alloc _, h.blk3.alloc _, h.lt1, h.lt2, h.lt3⟩
theorem MI.store {B c len : Nat} {w wi : World} {b2 b3 j : Nat} {g g' : Ig} {v : Value} (h : MI B c len w wi b2 b3 g) (hF : IgBlk (wi.setCell ⟨b3, j, none⟩ v) b3 g') : MI B c len w (wi.setCell ⟨b3, j, none⟩ v) b2 b3 g' :=
  ⟨cur_storeI h.cur (Nat.lt_trans h.lt3 h.lt2) v, grown_storeI h.grown (Nat.le_of_lt (Nat.lt_of_le_of_lt h.lt1 h.lt2)) v, (Below.heap_setCell wi _ _ _ (by have := h.lt2; simp only; omega)).trans h.blk2, hF, h.lt1, h.lt2, h.lt3⟩

/-- a packet is drawn -/
def DrawnIg (B c len : Nat) (w : World) (e : Ending) (w' : World) : Prop := ∃ g : Ig, e = .returned g.val ∧ Cur B c len w' ∧ w.grownBy w' (some c)

theorem makeI_ret {B c len : Nat} {w wi : World} {b2 b3 : Nat} {g : Ig} {a : Act} (h : MI B c len w wi b2 b3 g) (hd : a.defers = []) (h2 : a.tmps.getD 2 undef = .pointer (some ⟨b2, 0, none⟩)) :
    bodyPost Try.prog Try.f40 (DrawnIg B c len w) Exit.ret a ((((wi.setCell ⟨b2, 0, none⟩ (.int .i64 g.kind)).setCell ⟨b2, 1, none⟩ (.int .i64 g.time)).setCell ⟨b2, 2, none⟩ (.int .i64 g.group)).setCell ⟨b2, 3, none⟩ (.int .i64 g.src)) := by
  have hF := IgBlk.put (f := g) h.blk2
  have hC := cur_storeI (cur_storeI (cur_storeI (cur_storeI h.cur h.lt3 (.int .i64 g.kind) (j := 0)) h.lt3 (.int .i64 g.time) (j := 1)) h.lt3 (.int .i64 g.group) (j := 2)) h.lt3 (.int .i64 g.src) (j := 3)
  have hG := grown_storeI (grown_storeI (grown_storeI (grown_storeI h.grown h.lt1 (.int .i64 g.kind) (j := 0)) h.lt1 (.int .i64 g.time) (j := 1)) h.lt1 (.int .i64 g.group) (j := 2)) h.lt1 (.int .i64 g.src) (j := 3)
  generalize (((wi.setCell ⟨b2, 0, none⟩ (.int .i64 g.kind)).setCell ⟨b2, 1, none⟩ (.int .i64 g.time)).setCell ⟨b2, 2, none⟩ (.int .i64 g.group)).setCell ⟨b2, 3, none⟩ (.int .i64 g.src) = W at hF hC hG ⊢
  obtain ⟨_, _, c0, c1, c2, c3⟩ := hF.facts
  obtain ⟨tmps, defers⟩ := a
  simp only [Array.getD_eq_getD_getElem?] at hd h2
  subst hd
  exact bodyPost_ret (v := g.val) (by simp [results, Try.results40, go_sem, Ig.val, h2, c0, c1, c2, c3]) rfl ⟨g, rfl, hC, hG⟩

theorem anyI_ret {B c len : Nat} {w wi : World} {b2 b3 : Nat} {g : Ig} {a : Act} (h : MI B c len w wi b2 b3 g) (hd : a.defers = []) (h2 : a.tmps.getD 2 undef = .pointer (some ⟨b2, 0, none⟩)) :
    bodyPost Try.prog Try.f25 (DrawnIg B c len w) Exit.ret a ((((wi.setCell ⟨b2, 0, none⟩ (.int .i64 g.kind)).setCell ⟨b2, 1, none⟩ (.int .i64 g.time)).setCell ⟨b2, 2, none⟩ (.int .i64 g.group)).setCell ⟨b2, 3, none⟩ (.int .i64 g.src)) := by
  have hF := IgBlk.put (f := g) h.blk2
  have hC := cur_storeI (cur_storeI (cur_storeI (cur_storeI h.cur h.lt3 (.int .i64 g.kind) (j := 0)) h.lt3 (.int .i64 g.time) (j := 1)) h.lt3 (.int .i64 g.group) (j := 2)) h.lt3 (.int .i64 g.src) (j := 3)
  have hG := grown_storeI (grown_storeI (grown_storeI (grown_storeI h.grown h.lt1 (.int .i64 g.kind) (j := 0)) h.lt1 (.int .i64 g.time) (j := 1)) h.lt1 (.int .i64 g.group) (j := 2)) h.lt1 (.int .i64 g.src) (j := 3)
  generalize (((wi.setCell ⟨b2, 0, none⟩ (.int .i64 g.kind)).setCell ⟨b2, 1, none⟩ (.int .i64 g.time)).setCell ⟨b2, 2, none⟩ (.int .i64 g.group)).setCell ⟨b2, 3, none⟩ (.int .i64 g.src) = W at hF hC hG ⊢
  obtain ⟨_, _, c0, c1, c2, c3⟩ := hF.facts
  obtain ⟨tmps, defers⟩ := a
  simp only [Array.getD_eq_getD_getElem?] at hd h2
  subst hd
  exact bodyPost_ret (v := g.val) (by simp [results, Try.results25, go_sem, Ig.val, h2, c0, c1, c2, c3]) rfl ⟨g, rfl, hC, hG⟩

theorem makeI_ret' {B c len : Nat} {w W : World} {b2 : Nat} {g : Ig} {a : Act} (hF : IgBlk W b2 g) (hC : Cur B c len W) (hG : w.grownBy W (some c)) (hd : a.defers = []) (h2 : a.tmps.getD 2 undef = .pointer (some ⟨b2, 0, none⟩)) :
    bodyPost Try.prog Try.f40 (DrawnIg B c len w) Exit.ret a W := by
  obtain ⟨_, _, c0, c1, c2, c3⟩ := hF.facts
  obtain ⟨tmps, defers⟩ := a
  simp only [Array.getD_eq_getD_getElem?] at hd h2
  subst hd
  exact bodyPost_ret (v := g.val) (by simp [results, Try.results40, go_sem, Ig.val, h2, c0, c1, c2, c3]) rfl ⟨g, rfl, hC, hG⟩
set_option maxHeartbeats 2000000 in
theorem makeI_any (B c len : Nat) (w : World) (hl : len ≤ 1048576) (hc : Cur B c len w) :
    Calls Try.prog 40 #[.pointer (some ⟨c, 0, none⟩)] w (DrawnIg B c len w) := by
  have hlt := cur_lt hc
  have hz := igBlk_new w 0 0 0 0
  have hgz := grown_newI (World.grownBy.refl w (some c)) (.cells #[.int .i64 0, .int .i64 0, .int .i64 0, .int .i64 0] 25)
  have hcz := cur_alloc hc #[.int .i64 0, .int .i64 0, .int .i64 0, .int .i64 0] 25
  go_enter Try.func40, Try.ntmps40
  go_wp2_with fail
  refine (pickInt_any B c len (w.heap.size + 1) 5 5 [17, 18, 22, 22, 23] (by decide) (by decide) _ hl (cur_alloc hcz _ _) (by omega) ?_).mono ?_
  · intro i hi
    rw [World.cell?_alloc_at (hn := by simp)]
    match i, hi with
    | 0, _ | 1, _ | 2, _ | 3, _ | 4, _ => rfl
  rintro e w1 ⟨i1, _, rfl, hc1, hg1⟩
  generalize [17, 18, 22, 22, 23].getD i1 (0 : Int) = z1
  generalize w.alloc (.cells #[.int .i64 0, .int .i64 0, .int .i64 0, .int .i64 0] 25) = w0 at hz hgz hcz hg1
  have HZ := Lib.hid hz; clear hz
  go_wp2_with fail
  refine (pickInt_any B c len w1.heap.size 4 4 [3774873601, 3774873602, 3758096384, 4026531839] (by decide) (by decide) _ hl (cur_alloc hc1 _ _) (by have := cur_lt hc1; omega) ?_).mono ?_
  · intro i hi
    rw [World.cell?_alloc_at (hn := rfl)]
    match i, hi with
    | 0, _ | 1, _ | 2, _ | 3, _ => rfl
  rintro e w2 ⟨i2, _, rfl, hc2, hg2⟩
  generalize [3774873601, 3774873602, 3758096384, 4026531839].getD i2 (0 : Int) = z2
  go_wp2_with fail
  refine (pickInt_any B c len w2.heap.size 3 3 [0, 3232235777, 4294967295] (by decide) (by decide) _ hl (cur_alloc hc2 _ _) (by have := cur_lt hc2; omega) ?_).mono ?_
  · intro i hi
    rw [World.cell?_alloc_at (hn := rfl)]
    match i, hi with
    | 0, _ | 1, _ | 2, _ => rfl
  rintro e w3 ⟨i3, _, rfl, hc3, hg3⟩
  generalize [0, 3232235777, 4294967295].getD i3 (0 : Int) = z3
  have hg3' := grown_trans (World.grownBy_alloc _ _ _) (grown_trans hg1 (grown_trans (World.grownBy_alloc _ _ _) (grown_trans hg2 (grown_trans (World.grownBy_alloc _ _ _) hg3))))
  have hS4 : MI B c len w (w3.alloc (.cells #[.int .i64 z1, .int .i64 0, .int .i64 z2, .int .i64 z3] 25)) w.heap.size w3.heap.size ⟨z1, 0, z2, z3⟩ :=
    ⟨cur_alloc hc3 _ _, grown_newI (grown_trans hgz hg3') _, ((IgBlk.grown HZ.out hg3' hlt).alloc _), igBlk_new w3 _ _ _ _, Nat.le_refl _, Nat.lt_of_lt_of_le HZ.out.lt hg3'.size, hlt⟩
  by_cases h17 : z1 = 17
  case neg =>
    have hblk := IgBlk.grown HZ.out hg3' hlt
    have hl2 : w.heap.size < w3.heap.size := hblk.lt
    obtain ⟨zfz, zsh, d0, d1, d2, d3⟩ := hblk.facts
    have hq : (z1 == 17) = false := by simp [h17]
    have hF : IgBlk (((((w3.setCell ⟨w.heap.size, 0, none⟩ (.int .i64 z1)).setCell ⟨w.heap.size, 1, none⟩ (.int .i64 0)).setCell ⟨w.heap.size, 2, none⟩ (.int .i64 z2)).setCell ⟨w.heap.size, 3, none⟩ (.int .i64 z3)).alloc (.cells #[.int .i64 z1, .int .i64 0, .int .i64 z2, .int .i64 z3] 25)) w.heap.size ⟨z1, 0, z2, z3⟩ := (IgBlk.put (f := ⟨z1, 0, z2, z3⟩) hblk).alloc _
    have hC := cur_alloc (cur_storeI (cur_storeI (cur_storeI (cur_storeI hc3 hlt (.int .i64 z1) (j := 0)) hlt (.int .i64 0) (j := 1)) hlt (.int .i64 z2) (j := 2)) hlt (.int .i64 z3) (j := 3)) #[.int .i64 z1, .int .i64 0, .int .i64 z2, .int .i64 z3] 25
    have hG := grown_newI (grown_storeI (grown_storeI (grown_storeI (grown_storeI (grown_trans hgz hg3') (Nat.le_refl w.heap.size) (.int .i64 z1) (j := 0)) (Nat.le_refl w.heap.size) (.int .i64 0) (j := 1)) (Nat.le_refl w.heap.size) (.int .i64 z2) (j := 2)) (Nat.le_refl w.heap.size) (.int .i64 z3) (j := 3)) (.cells #[.int .i64 z1, .int .i64 0, .int .i64 z2, .int .i64 z3] 25)
    have HF := Lib.hid hF; have HC := Lib.hid hC; have HG := Lib.hid hG
    clear hF hC hG hblk hS4 h17 hg1 hg2 hg3 hg3' hgz hc1 hc2 hc3 hcz hc
    try simp only at d0 d1 d2 d3
    go_wp2_with fail
    refine makeI_ret' (b2 := w.heap.size) (g := ⟨z1, 0, z2, z3⟩) ?_ ?_ ?_ rfl rfl
    · exact HF.out
    · exact HC.out
    · exact HG.out
  clear hg1 hg2 hg3 hg3' hgz hc1 hc2 hc3 hcz hc
  subst h17
  go_wp2_with fail
  have hsz4 : (w3.alloc (.cells #[.int .i64 17, .int .i64 0, .int .i64 z2, .int .i64 z3] 25)).heap.size = w3.heap.size + 1 := by simp
  generalize w3.alloc (.cells #[.int .i64 17, .int .i64 0, .int .i64 z2, .int .i64 z3] 25) = w4 at hS4 hsz4 ⊢
  generalize w3.heap.size = b3 at hS4 hsz4 ⊢
  refine (pickInt_any B c len (b3 + 1) 3 3 [0, 100, 255] (by decide) (by decide) _ hl (cur_alloc hS4.cur _ _) (by have := hS4.lt2; have := hS4.lt3; omega) ?_).mono ?_
  · intro i hi
    rw [World.cell?_alloc_at (hn := by omega)]
    match i, hi with
    | 0, _ | 1, _ | 2, _ => rfl
  rintro e w5 ⟨i5, _, rfl, hc5, hg5⟩
  generalize [0, 100, 255].getD i5 (0 : Int) = z5
  clear hsz4
  have hS5 := (hS4.alloc _ _).call hc5 hg5
  obtain ⟨hfz, hsh, c0, c1, c2, c3⟩ := hS5.blk3.facts
  have HS5 := Lib.hid hS5; clear hS5 hS4 hc5 hg5
  simp only at *
  go_wp2_with fail
  have hS6 := HS5.out.store (igBlk_1 HS5.out.blk3 z5)
  generalize w5.setCell ⟨b3, 1, none⟩ (.int .i64 z5) = w6 at hS6 ⊢
  clear hfz hsh c0 c1 c2 c3 HS5
  refine (once_any B c len 2 (by decide) (by decide) _ hl hS6.cur).mono ?_
  rintro e w7 ⟨b, rfl, hc7, hg7⟩
  have hS7 := hS6.call hc7 hg7
  clear hS6 hc7 hg7
  obtain ⟨hfz, hsh, c0, c1, c2, c3⟩ := hS7.blk3.facts
  cases b
  · obtain ⟨zfz, zsh, d0, d1, d2, d3⟩ := hS7.blk2.facts
    have HS := Lib.hid hS7; clear hS7
    simp only [Ig.zero] at *
    go_wp2_with fail
    exact makeI_ret (g := ⟨17, z5, z2, z3⟩) HS.out rfl rfl
  · have HS7 := Lib.hid hS7; clear hS7
    simp only at *
    have hS8 := HS7.out.store (igBlk_2 HS7.out.blk3 0)
    obtain ⟨yfz, ysh, e0, e1, e2, e3⟩ := hS8.blk3.facts
    obtain ⟨zfz, zsh, d0, d1, d2, d3⟩ := hS8.blk2.facts
    have HS := Lib.hid hS8; clear hS8 HS7
    simp only [Ig.zero] at *
    go_wp2_with fail
    exact makeI_ret (g := ⟨17, z5, 0, z3⟩) HS.out rfl rfl

set_option maxHeartbeats 2000000 in
theorem anyI_any (B c len : Nat) (w : World) (hl : len ≤ 1048576) (hc : Cur B c len w) :
    Calls Try.prog 25 #[.pointer (some ⟨c, 0, none⟩)] w (DrawnIg B c len w) := by
  have hlt := cur_lt hc
  have hz := igBlk_new w 0 0 0 0
  have hgz := grown_newI (World.grownBy.refl w (some c)) (.cells #[.int .i64 0, .int .i64 0, .int .i64 0, .int .i64 0] 25)
  have hcz := cur_alloc hc #[.int .i64 0, .int .i64 0, .int .i64 0, .int .i64 0] 25
  go_enter Try.func25, Try.ntmps25
  go_wp2_with fail
  generalize w.alloc (.cells #[.int .i64 0, .int .i64 0, .int .i64 0, .int .i64 0] 25) = w0 at hz hgz hcz ⊢
  have HZ := Lib.hid hz; clear hz
  refine (makeI_any B c len _ hl hcz).mono ?_
  rintro e w3 ⟨⟨kind, time, group, src⟩, rfl, hc3, hg3⟩
  unfold Ig.val
  simp only
  have hS4 : MI B c len w (w3.alloc (.cells #[.int .i64 kind, .int .i64 time, .int .i64 group, .int .i64 src] 25)) w.heap.size w3.heap.size ⟨kind, time, group, src⟩ :=
    ⟨cur_alloc hc3 _ _, grown_newI (grown_trans hgz hg3) _, ((IgBlk.grown HZ.out hg3 hlt).alloc _), igBlk_new w3 _ _ _ _, Nat.le_refl _, Nat.lt_of_lt_of_le HZ.out.lt hg3.size, hlt⟩
  clear hg3 hgz hc3 hcz hc
  go_wp2_with fail
  generalize w3.alloc (.cells #[.int .i64 kind, .int .i64 time, .int .i64 group, .int .i64 src] 25) = w4 at hS4 ⊢
  generalize w3.heap.size = b3 at hS4 ⊢
  refine (below_any B c len 12 (by decide) (by decide) _ hl hS4.cur).mono ?_
  rintro e w5 ⟨k, rfl, hk0, hk1, hc5, hg5⟩
  have hS5 := hS4.call hc5 hg5
  clear hS4 hc5 hg5
  have hk : k = 0 ∨ k = 1 ∨ k = 2 ∨ k = 3 ∨ 4 ≤ k := by omega
  rcases hk with rfl | rfl | rfl | rfl | hk4
  · go_wp2_with fail
    refine (pickInt_any B c len w5.heap.size 4 4 [0, 16, 34, 17] (by decide) (by decide) _ hl (cur_alloc hS5.cur _ _) (by have := cur_lt hS5.cur; omega) ?_).mono ?_
    · intro i hi
      rw [World.cell?_alloc_at (hn := rfl)]
      match i, hi with
      | 0, _ | 1, _ | 2, _ | 3, _ => rfl
    rintro e w6 ⟨i6, _, rfl, hc6, hg6⟩
    generalize [0, 16, 34, 17].getD i6 (0 : Int) = z6
    have hS6 := (hS5.alloc _ _).call hc6 hg6
    clear hS5 hc6 hg6
    obtain ⟨hfz, hsh, c0, c1, c2, c3⟩ := hS6.blk3.facts
    have HS6 := Lib.hid hS6; clear hS6
    simp only at *
    have hS7 := HS6.out.store (igBlk_0 HS6.out.blk3 z6)
    obtain ⟨yfz, ysh, e0, e1, e2, e3⟩ := hS7.blk3.facts
    obtain ⟨zfz, zsh, d0, d1, d2, d3⟩ := hS7.blk2.facts
    have HS := Lib.hid hS7; clear hS7 HS6
    simp only [Ig.zero] at *
    go_wp2_with fail
    exact anyI_ret (g := ⟨z6, time, group, src⟩) HS.out rfl rfl
  · go_wp2_with fail
    refine (pickInt_any B c len w5.heap.size 3 3 [1, -1, 256] (by decide) (by decide) _ hl (cur_alloc hS5.cur _ _) (by have := cur_lt hS5.cur; omega) ?_).mono ?_
    · intro i hi
      rw [World.cell?_alloc_at (hn := rfl)]
      match i, hi with
      | 0, _ | 1, _ | 2, _ => rfl
    rintro e w6 ⟨i6, _, rfl, hc6, hg6⟩
    generalize [1, -1, 256].getD i6 (0 : Int) = z6
    have hS6 := (hS5.alloc _ _).call hc6 hg6
    clear hS5 hc6 hg6
    obtain ⟨hfz, hsh, c0, c1, c2, c3⟩ := hS6.blk3.facts
    have HS6 := Lib.hid hS6; clear hS6
    simp only at *
    have hS7 := HS6.out.store (igBlk_1 HS6.out.blk3 z6)
    obtain ⟨yfz, ysh, e0, e1, e2, e3⟩ := hS7.blk3.facts
    obtain ⟨zfz, zsh, d0, d1, d2, d3⟩ := hS7.blk2.facts
    have HS := Lib.hid hS7; clear hS7 HS6
    simp only [Ig.zero] at *
    go_wp2_with fail
    exact anyI_ret (g := ⟨kind, z6, group, src⟩) HS.out rfl rfl
  · go_wp2_with fail
    refine (ip_any B c len _ hl hS5.cur).mono ?_
    rintro e w6 ⟨x, rfl, _, _, hc6, hg6⟩
    have hS6 := hS5.call hc6 hg6
    clear hS5 hc6 hg6
    obtain ⟨hfz, hsh, c0, c1, c2, c3⟩ := hS6.blk3.facts
    have HS6 := Lib.hid hS6; clear hS6
    simp only at *
    have hS7 := HS6.out.store (igBlk_2 HS6.out.blk3 x)
    obtain ⟨yfz, ysh, e0, e1, e2, e3⟩ := hS7.blk3.facts
    obtain ⟨zfz, zsh, d0, d1, d2, d3⟩ := hS7.blk2.facts
    have HS := Lib.hid hS7; clear hS7 HS6
    simp only [Ig.zero] at *
    go_wp2_with fail
    exact anyI_ret (g := ⟨kind, time, x, src⟩) HS.out rfl rfl
  · go_wp2_with fail
    refine (ip_any B c len _ hl hS5.cur).mono ?_
    rintro e w6 ⟨x, rfl, _, _, hc6, hg6⟩
    have hS6 := hS5.call hc6 hg6
    clear hS5 hc6 hg6
    obtain ⟨hfz, hsh, c0, c1, c2, c3⟩ := hS6.blk3.facts
    have HS6 := Lib.hid hS6; clear hS6
    simp only at *
    have hS7 := HS6.out.store (igBlk_3 HS6.out.blk3 x)
    obtain ⟨yfz, ysh, e0, e1, e2, e3⟩ := hS7.blk3.facts
    obtain ⟨zfz, zsh, d0, d1, d2, d3⟩ := hS7.blk2.facts
    have HS := Lib.hid hS7; clear hS7 HS6
    simp only [Ig.zero] at *
    go_wp2_with fail
    exact anyI_ret (g := ⟨kind, time, group, x⟩) HS.out rfl rfl
  · obtain ⟨hfz, hsh, c0, c1, c2, c3⟩ := hS5.blk3.facts
    obtain ⟨zfz, zsh, d0, d1, d2, d3⟩ := hS5.blk2.facts
    have HS := Lib.hid hS5; clear hS5
    simp only [Ig.zero] at *
    go_wp2_with fail
    exact anyI_ret (g := ⟨kind, time, group, src⟩) HS.out rfl rfl

/-- some packet is drawn; below the heap's end nothing has turned -/
def DrewIg (w : World) (e : Ending) (w' : World) : Prop := ∃ g : Ig, e = .returned g.val ∧ Below w.heap.size w w'

theorem drawI_ret {w W : World} {b : Nat} {g : Ig} {a : Act} (hd : a.defers = []) (h2 : a.tmps.getD 2 undef = .pointer (some ⟨b, 0, none⟩)) (hF : IgBlk W b g) (hB : Below w.heap.size w W) :
    bodyPost Try.prog Try.f10 (DrewIg w) Exit.ret a W := by
  obtain ⟨_, _, c0, c1, c2, c3⟩ := hF.facts
  obtain ⟨tmps, defers⟩ := a
  simp only [Array.getD_eq_getD_getElem?] at hd h2
  subst hd
  exact bodyPost_ret (v := g.val) (by simp [results, Try.results10, go_sem, Ig.val, h2, c0, c1, c2, c3]) rfl ⟨g, rfl, hB⟩

theorem drawPutIgmp_any (w : World) (a : Option Addr) (len cap : Nat) (zs : List Int) (hl : len ≤ 1048576) (hrow : IsRow .u8 w a len cap zs) (hlow : ∀ x, a = some x → 0 < cap → x.block < w.heap.size) :
    Calls Try.prog 10 #[.slice a len cap] w (DrewIg w) := by
  have hz := igBlk_new w 0 0 0 0
  have hbz : Below w.heap.size w (w.alloc (.cells #[.int .i64 0, .int .i64 0, .int .i64 0, .int .i64 0] 25)) := (Below.refl _ _).alloc (Nat.le_refl _) _
  go_enter Try.func10, Try.ntmps10
  go_wp2_with fail
  generalize w.alloc (.cells #[.int .i64 0, .int .i64 0, .int .i64 0, .int .i64 0] 25) = w0 at hz hbz ⊢
  refine (new_any w0 a len cap zs hl (hrow.below hlow hbz) (fun x hx hc => Nat.lt_of_lt_of_le (hlow x hx hc) hbz.size)).mono ?_
  rintro e w1 ⟨rfl, hc1, hb1, hs1⟩
  have hF1 := hz.below hb1 hz.lt
  have HF1 := Lib.hid hF1; have HZ := Lib.hid hz
  clear hF1 hz
  go_wp2_with fail
  refine (anyI_any _ _ _ _ hl hc1).mono ?_
  rintro e w2 ⟨⟨kind, time, group, src⟩, rfl, hc2, hg2⟩
  unfold Ig.val
  simp only
  have hF2 : IgBlk w2 w.heap.size Ig.zero := (hg2.block _ HF1.out.lt (fun e => by have := HZ.out.lt; have e' := Option.some.inj e; omega)).trans HF1.out
  obtain ⟨hfz, hsh, c0, c1, c2, c3⟩ := hF2.facts
  have hbb : Below w.heap.size w w2 := hbz.trans ((hb1.trans (grown_below hg2 (Nat.le_refl _) (by omega))).mono hbz.size)
  have HF2 := Lib.hid hF2; have HB := Lib.hid hbb
  clear hF2 hbb hc1 hb1 hs1 hc2 hg2 hbz
  simp only [Ig.zero] at c0 c1 c2 c3
  go_wp2_with fail
  exact drawI_ret rfl rfl (IgBlk.put (f := ⟨kind, time, group, src⟩) HF2.out) (below_putIg (f := ⟨kind, time, group, src⟩) HB.out (Nat.le_refl w.heap.size))
end Go.Proofs.Ytgnckbcpnailbaa
