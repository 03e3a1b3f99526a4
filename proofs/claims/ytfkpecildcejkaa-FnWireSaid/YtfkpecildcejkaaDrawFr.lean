/- The drawn frames: what l03Make, l03Any and DrawPutFrame answer. -/
import Derived.Test.YtfkpecildcejkaaDraw
import Derived.Test.YtfkpecildcejkaaDrawM
import Derived.Test.YtfkpecildcejkaaText
import Derived.Test.YtfkpecildcejkaaGetFrG
namespace Go.Proofs.Ytfkpecildcejkaa
open Go.RowKit

theorem grown_new {w wi : World} {r : Option Nat} (h : w.grownBy wi r) (o : Obj) : w.grownBy (wi.alloc o) r :=
  ⟨h.os, h.tape, h.output, Nat.le_trans h.size (by simp), fun k hk hr => (Below.heap_alloc wi o k (Nat.lt_of_lt_of_le hk h.size)).trans (h.block k hk hr)⟩
theorem grown_store {w wi : World} {r : Option Nat} (h : w.grownBy wi r) {b j : Nat} (hb : w.heap.size ≤ b) (v : Value) : w.grownBy (wi.setCell ⟨b, j, none⟩ v) r :=
  ⟨h.os, h.tape, h.output, Nat.le_trans h.size (by simp [World.setCell]), fun k hk hr => (Below.heap_setCell wi _ _ _ (by simp only; omega)).trans (h.block k hk hr)⟩
theorem cur_store {B c len : Nat} {w : World} (hc : Cur B c len w) {b j : Nat} (hb : c < b) (v : Value) : Cur B c len (w.setCell ⟨b, j, none⟩ v) := by
  obtain ⟨a, cap, zs, i, h, h1, h2, h3, h4, h5, h6⟩ := hc
  exact ⟨a, cap, zs, i, h, h1, (Below.heap_setCell w _ _ _ (by simp only; omega)).trans h2, h3.below h4 ((Below.refl _ w).setCell (p := ⟨b, j, none⟩) (by simp only; omega) _), h4, h5, h6⟩

theorem frBlk_0 {w : World} {b : Nat} {g : Fr} (h : FrBlk w b g) (x : Int) : FrBlk (w.setCell ⟨b, 0, none⟩ (.int .i64 x)) b { g with dst := x } := heap_setCell_same w b 0 _ _ _ h
theorem frBlk_1 {w : World} {b : Nat} {g : Fr} (h : FrBlk w b g) (x : Int) : FrBlk (w.setCell ⟨b, 1, none⟩ (.int .i64 x)) b { g with src := x } := heap_setCell_same w b 1 _ _ _ h
theorem frBlk_2 {w : World} {b : Nat} {g : Fr} (h : FrBlk w b g) (x : Bool) : FrBlk (w.setCell ⟨b, 2, none⟩ (.bool x)) b { g with tagged := x } := heap_setCell_same w b 2 _ _ _ h
theorem frBlk_3 {w : World} {b : Nat} {g : Fr} (h : FrBlk w b g) (x : Int) : FrBlk (w.setCell ⟨b, 3, none⟩ (.int .i64 x)) b { g with vid := x } := heap_setCell_same w b 3 _ _ _ h
theorem frBlk_4 {w : World} {b : Nat} {g : Fr} (h : FrBlk w b g) (x : Int) : FrBlk (w.setCell ⟨b, 4, none⟩ (.int .i64 x)) b { g with pri := x } := heap_setCell_same w b 4 _ _ _ h
theorem frBlk_5 {w : World} {b : Nat} {g : Fr} (h : FrBlk w b g) (x : Int) : FrBlk (w.setCell ⟨b, 5, none⟩ (.int .i64 x)) b { g with type := x } := heap_setCell_same w b 5 _ _ _ h
theorem frBlk_6 {w : World} {b : Nat} {g : Fr} (h : FrBlk w b g) (x : ByteArray) : FrBlk (w.setCell ⟨b, 6, none⟩ (.string x)) b { g with body := x } := heap_setCell_same w b 6 _ _ _ h

/-- the state of a draw of a frame: the cursor; the result's block, nought yet; the block of the frame under way -/
structure MS (B c len : Nat) (w wi : World) (b2 b3 : Nat) (g : Fr) : Prop where
  cur : Cur B c len wi
  grown : w.grownBy wi (some c)
  blk2 : FrBlk wi b2 Fr.zero
  blk3 : FrBlk wi b3 g
  lt1 : w.heap.size ≤ b2
  lt2 : b2 < b3
  lt3 : c < b2

theorem FrBlk.lt {w : World} {b : Nat} {g : Fr} (h : FrBlk w b g) : b < w.heap.size := (Array.getElem?_eq_some_iff.1 h).1
theorem FrBlk.grown {w w1 : World} {b c : Nat} {g : Fr} (h : FrBlk w b g) (hg : w.grownBy w1 (some c)) (hne : c < b) : FrBlk w1 b g := (hg.block b h.lt (fun e => by cases e; omega)).trans h
theorem MS.call {B c len : Nat} {w wi w1 : World} {b2 b3 : Nat} {g : Fr} (h : MS B c len w wi b2 b3 g) (hc : Cur B c len w1) (hg : wi.grownBy w1 (some c)) : MS B c len w w1 b2 b3 g :=
  ⟨hc, grown_trans h.grown hg, h.blk2.grown hg h.lt3, h.blk3.grown hg (Nat.lt_trans h.lt3 h.lt2), h.lt1, h.lt2, h.lt3⟩
theorem MS.alloc {B c len : Nat} {w wi : World} {b2 b3 : Nat} {g : Fr} (h : MS B c len w wi b2 b3 g) (cs : Array Value) (t : TypeId) : MS B c len w (wi.alloc (.cells cs t)) b2 b3 g :=
  ⟨cur_alloc h.cur cs t, grown_new h.grown _, h.blk2.alloc _, h.blk3.alloc _, h.lt1, h.lt2, h.lt3⟩
theorem MS.store {B c len : Nat} {w wi : World} {b2 b3 j : Nat} {g g' : Fr} {v : Value} (h : MS B c len w wi b2 b3 g) (hF : FrBlk (wi.setCell ⟨b3, j, none⟩ v) b3 g') : MS B c len w (wi.setCell ⟨b3, j, none⟩ v) b2 b3 g' :=
  ⟨cur_store h.cur (Nat.lt_trans h.lt3 h.lt2) v, grown_store h.grown (Nat.le_of_lt (Nat.lt_of_le_of_lt h.lt1 h.lt2)) v, (Below.heap_setCell wi _ _ _ (by have := h.lt2; simp only; omega)).trans h.blk2, hF, h.lt1, h.lt2, h.lt3⟩
theorem below_puts {w W : World} {b : Nat} {c : Option Nat} (h : w.grownBy W c) (hb : w.heap.size ≤ b) (f : Fr) :
    w.grownBy (((((((W.setCell ⟨b, 0, none⟩ (.int .i64 f.dst)).setCell ⟨b, 1, none⟩ (.int .i64 f.src)).setCell ⟨b, 2, none⟩ (.bool f.tagged)).setCell ⟨b, 3, none⟩ (.int .i64 f.vid)).setCell ⟨b, 4, none⟩ (.int .i64 f.pri)).setCell ⟨b, 5, none⟩ (.int .i64 f.type)).setCell ⟨b, 6, none⟩ (.string f.body)) c :=
  grown_store (grown_store (grown_store (grown_store (grown_store (grown_store (grown_store h hb _) hb _) hb _) hb _) hb _) hb _) hb _
theorem cur_puts {B c len : Nat} {W : World} {b : Nat} (h : Cur B c len W) (hb : c < b) (f : Fr) :
    Cur B c len (((((((W.setCell ⟨b, 0, none⟩ (.int .i64 f.dst)).setCell ⟨b, 1, none⟩ (.int .i64 f.src)).setCell ⟨b, 2, none⟩ (.bool f.tagged)).setCell ⟨b, 3, none⟩ (.int .i64 f.vid)).setCell ⟨b, 4, none⟩ (.int .i64 f.pri)).setCell ⟨b, 5, none⟩ (.int .i64 f.type)).setCell ⟨b, 6, none⟩ (.string f.body)) :=
  cur_store (cur_store (cur_store (cur_store (cur_store (cur_store (cur_store h hb _) hb _) hb _) hb _) hb _) hb _) hb _

/-- a frame is drawn -/
def DrawnFr (B c len : Nat) (w : World) (e : Ending) (w' : World) : Prop := ∃ f : Fr, e = .returned f.val ∧ f.body.size ≤ 1600 ∧ Cur B c len w' ∧ w.grownBy w' (some c)

theorem vid_any (B c len : Nat) (w : World) (hl : len ≤ 1048576) (hc : Cur B c len w) :
    Calls Try.prog 39 #[.pointer (some ⟨c, 0, none⟩)] w fun e w' => ∃ x : Int, e = .returned (.int .i64 x) ∧ Cur B c len w' ∧ w.grownBy w' (some c) := by
  have hlt := cur_lt hc
  go_enter Try.func39, Try.ntmps39
  go_wp2_with fail
  refine (pickInt_any B c len w.heap.size 6 6 [1, 1, 10, 10, 20, 4094] (by decide) (by decide) _ hl (cur_alloc hc _ _) (by omega) ?_).mono ?_
  · intro i hi
    rw [World.cell?_alloc_at (hn := rfl)]
    match i, hi with
    | 0, _ | 1, _ | 2, _ | 3, _ | 4, _ | 5, _ => rfl
  · rintro e w3 ⟨i, hi, rfl, hc3, hg3⟩
    generalize [1, 1, 10, 10, 20, 4094].getD i (0 : Int) = z
    go_wp2_with fail
    go_ret
    exact ⟨z, rfl, hc3, grown_trans (World.grownBy_alloc _ _ _) hg3⟩


theorem make_ret {B c len : Nat} {w wi : World} {b2 b3 : Nat} {g : Fr} {a : Act} (h : MS B c len w wi b2 b3 g) (hs : g.body.size ≤ 1600) (hd : a.defers = []) (h2 : a.tmps.getD 2 undef = .pointer (some ⟨b2, 0, none⟩)) :
    bodyPost Try.prog Try.f71 (DrawnFr B c len w) Exit.ret a (((((((wi.setCell ⟨b2, 0, none⟩ (.int .i64 g.dst)).setCell ⟨b2, 1, none⟩ (.int .i64 g.src)).setCell ⟨b2, 2, none⟩ (.bool g.tagged)).setCell ⟨b2, 3, none⟩ (.int .i64 g.vid)).setCell ⟨b2, 4, none⟩ (.int .i64 g.pri)).setCell ⟨b2, 5, none⟩ (.int .i64 g.type)).setCell ⟨b2, 6, none⟩ (.string g.body)) := by
  have hF := FrBlk.put (f := g) h.blk2
  have hC := cur_puts h.cur h.lt3 g
  have hG := below_puts h.grown h.lt1 g
  generalize ((((((wi.setCell ⟨b2, 0, none⟩ (.int .i64 g.dst)).setCell ⟨b2, 1, none⟩ (.int .i64 g.src)).setCell ⟨b2, 2, none⟩ (.bool g.tagged)).setCell ⟨b2, 3, none⟩ (.int .i64 g.vid)).setCell ⟨b2, 4, none⟩ (.int .i64 g.pri)).setCell ⟨b2, 5, none⟩ (.int .i64 g.type)).setCell ⟨b2, 6, none⟩ (.string g.body) = W at hF hC hG ⊢
  have c0 := Lib.cell_of_heap hF 0
  have c1 := Lib.cell_of_heap hF 1
  have c2 := Lib.cell_of_heap hF 2
  have c3 := Lib.cell_of_heap hF 3
  have c4 := Lib.cell_of_heap hF 4
  have c5 := Lib.cell_of_heap hF 5
  have c6 := Lib.cell_of_heap hF 6
  obtain ⟨tmps, defers⟩ := a
  simp only [Array.getD_eq_getD_getElem?] at hd h2
  subst hd
  exact bodyPost_ret (v := g.val) (by simp [results, Try.results71, go_sem, Fr.val, h2, c0, c1, c2, c3, c4, c5, c6]) rfl ⟨g, rfl, hs, hC, hG⟩


theorem any_ret {B c len : Nat} {w wi : World} {b2 b3 : Nat} {g : Fr} {a : Act} (h : MS B c len w wi b2 b3 g) (hs : g.body.size ≤ 1600) (hd : a.defers = []) (h2 : a.tmps.getD 2 undef = .pointer (some ⟨b2, 0, none⟩)) :
    bodyPost Try.prog Try.f40 (DrawnFr B c len w) Exit.ret a (((((((wi.setCell ⟨b2, 0, none⟩ (.int .i64 g.dst)).setCell ⟨b2, 1, none⟩ (.int .i64 g.src)).setCell ⟨b2, 2, none⟩ (.bool g.tagged)).setCell ⟨b2, 3, none⟩ (.int .i64 g.vid)).setCell ⟨b2, 4, none⟩ (.int .i64 g.pri)).setCell ⟨b2, 5, none⟩ (.int .i64 g.type)).setCell ⟨b2, 6, none⟩ (.string g.body)) := by
  have hF := FrBlk.put (f := g) h.blk2
  have hC := cur_puts h.cur h.lt3 g
  have hG := below_puts h.grown h.lt1 g
  generalize ((((((wi.setCell ⟨b2, 0, none⟩ (.int .i64 g.dst)).setCell ⟨b2, 1, none⟩ (.int .i64 g.src)).setCell ⟨b2, 2, none⟩ (.bool g.tagged)).setCell ⟨b2, 3, none⟩ (.int .i64 g.vid)).setCell ⟨b2, 4, none⟩ (.int .i64 g.pri)).setCell ⟨b2, 5, none⟩ (.int .i64 g.type)).setCell ⟨b2, 6, none⟩ (.string g.body) = W at hF hC hG ⊢
  have c0 := Lib.cell_of_heap hF 0
  have c1 := Lib.cell_of_heap hF 1
  have c2 := Lib.cell_of_heap hF 2
  have c3 := Lib.cell_of_heap hF 3
  have c4 := Lib.cell_of_heap hF 4
  have c5 := Lib.cell_of_heap hF 5
  have c6 := Lib.cell_of_heap hF 6
  obtain ⟨tmps, defers⟩ := a
  simp only [Array.getD_eq_getD_getElem?] at hd h2
  subst hd
  exact bodyPost_ret (v := g.val) (by simp [results, Try.results40, go_sem, Fr.val, h2, c0, c1, c2, c3, c4, c5, c6]) rfl ⟨g, rfl, hs, hC, hG⟩

set_option maxHeartbeats 1000000 in
theorem make_any (B c len : Nat) (w : World) (hl : len ≤ 1048576) (hc : Cur B c len w) :
    Calls Try.prog 71 #[.pointer (some ⟨c, 0, none⟩)] w (DrawnFr B c len w) := by
  have hlt := cur_lt hc
  have hz := frBlk_new w 0 0 false 0 0 0 ⟨#[]⟩
  have hgz := grown_new (World.grownBy.refl w (some c)) (.cells #[.int .i64 0, .int .i64 0, .bool false, .int .i64 0, .int .i64 0, .int .i64 0, .string ⟨#[]⟩] 28)
  have hcz := cur_alloc hc #[.int .i64 0, .int .i64 0, .bool false, .int .i64 0, .int .i64 0, .int .i64 0, .string ⟨#[]⟩] 28
  go_enter Try.func71, Try.ntmps71
  go_wp2_with fail
  generalize w.alloc (.cells #[.int .i64 0, .int .i64 0, .bool false, .int .i64 0, .int .i64 0, .int .i64 0, .string ⟨#[]⟩] 28) = w0 at hz hgz hcz ⊢
  have HZ := Lib.hid hz; clear hz
  refine (mac_any B c len _ hl hcz).mono ?_
  rintro e w1 ⟨dst, rfl, _, hc1, hg1⟩
  go_wp2_with fail
  refine (pickInt_any B c len w1.heap.size 5 5 [2199023255553, 2199023255554, 2199023255555, 2199023255556, 0] (by decide) (by decide) _ hl (cur_alloc hc1 _ _) (by have := cur_lt hc1; omega) ?_).mono ?_
  · intro i hi
    rw [World.cell?_alloc_at (hn := rfl)]
    match i, hi with
    | 0, _ | 1, _ | 2, _ | 3, _ | 4, _ => rfl
  rintro e w2 ⟨i2, _, rfl, hc2, hg2⟩
  generalize [2199023255553, 2199023255554, 2199023255555, 2199023255556, 0].getD i2 (0 : Int) = z2
  go_wp2_with fail
  refine (pickInt_any B c len w2.heap.size 5 5 [2048, 2054, 1536, 65535, 34525] (by decide) (by decide) _ hl (cur_alloc hc2 _ _) (by have := cur_lt hc2; omega) ?_).mono ?_
  · intro i hi
    rw [World.cell?_alloc_at (hn := rfl)]
    match i, hi with
    | 0, _ | 1, _ | 2, _ | 3, _ | 4, _ => rfl
  rintro e w3 ⟨i3, _, rfl, hc3, hg3⟩
  generalize [2048, 2054, 1536, 65535, 34525].getD i3 (0 : Int) = z3
  have hg3' := grown_trans hg1 (grown_trans (World.grownBy_alloc _ _ _) (grown_trans hg2 (grown_trans (World.grownBy_alloc _ _ _) hg3)))
  have hS4 : MS B c len w (w3.alloc (.cells #[.int .i64 dst, .int .i64 z2, .bool false, .int .i64 0, .int .i64 0, .int .i64 z3, .string ⟨#[]⟩] 28)) w.heap.size w3.heap.size ⟨dst, z2, false, 0, 0, z3, ⟨#[]⟩⟩ :=
    ⟨cur_alloc hc3 _ _, grown_new (grown_trans hgz hg3') _, ((FrBlk.grown HZ.out hg3' hlt).alloc _), frBlk_new w3 _ _ _ _ _ _ _, Nat.le_refl _, Nat.lt_of_lt_of_le HZ.out.lt hg3'.size, hlt⟩
  clear hg1 hg2 hg3 hg3' hgz hc1 hc2 hc3 hcz hc
  go_wp2_with fail
  generalize w3.alloc (.cells #[.int .i64 dst, .int .i64 z2, .bool false, .int .i64 0, .int .i64 0, .int .i64 z3, .string ⟨#[]⟩] 28) = w4 at hS4 ⊢
  generalize w3.heap.size = b3 at hS4 ⊢
  have HS4 := Lib.hid hS4
  refine (below_any B c len 6 (by decide) (by decide) _ hl hS4.cur).mono ?_
  rintro e w5 ⟨x, rfl, hx0, hx1, hc5, hg5⟩
  obtain ⟨n, rfl⟩ := Int.eq_ofNat_of_zero_le hx0
  have hS5 := hS4.call hc5 hg5
  clear hS4 HS4 hc5 hg5 hx0
  go_wp2_with fail
  refine (text_any B c len n (by omega) _ hl hS5.cur).mono ?_
  rintro e w6 ⟨s, hs, rfl, hc6, hg6⟩
  have hS6 := hS5.call hc6 hg6
  have hsz : s.size ≤ 1600 := by omega
  obtain ⟨hfz, hsh, c0, c1, c2, c3, c4, c5, c6⟩ := hS6.blk3.facts
  have HS6 := Lib.hid hS6; have HSZ := Lib.hid hsz
  clear hS5 hc6 hg6 hs hsz hS6
  go_wp2_with fail
  have hS7 := HS6.out.store (frBlk_6 HS6.out.blk3 s)
  generalize w6.setCell ⟨b3, 6, none⟩ (.string s) = w7 at hS7 ⊢
  clear hfz hsh c0 c1 c2 c3 c4 c5 c6 HS6
  refine (once_any B c len 2 (by decide) (by decide) _ hl hS7.cur).mono ?_
  rintro e w8 ⟨b, rfl, hc8, hg8⟩
  have hS8 := hS7.call hc8 hg8
  clear hS7 hc8 hg8
  obtain ⟨hfz, hsh, c0, c1, c2, c3, c4, c5, c6⟩ := hS8.blk3.facts
  cases b
  · obtain ⟨zfz, zsh, d0, d1, d2, d3, d4, d5, d6⟩ := hS8.blk2.facts
    have HS := Lib.hid hS8; clear hS8
    simp only at *
    go_wp2_with fail
    exact make_ret (g := ⟨dst, z2, false, 0, 0, z3, s⟩) HS.out HSZ.out rfl rfl
  · have HS8 := Lib.hid hS8; clear hS8
    simp only at *
    go_wp2_with fail
    have hS9 := HS8.out.store (frBlk_2 HS8.out.blk3 true)
    generalize w8.setCell ⟨b3, 2, none⟩ (.bool true) = w9 at hS9 ⊢
    clear hfz hsh c0 c1 c2 c3 c4 c5 c6 HS8
    refine (vid_any B c len _ hl hS9.cur).mono ?_
    rintro e w10 ⟨v, rfl, hc10, hg10⟩
    have hS10 := hS9.call hc10 hg10
    obtain ⟨hfz, hsh, c0, c1, c2, c3, c4, c5, c6⟩ := hS10.blk3.facts
    have HS10 := Lib.hid hS10; clear hS10 hS9 hc10 hg10
    simp only at *
    go_wp2_with fail
    have hS11 := HS10.out.store (frBlk_3 HS10.out.blk3 v)
    generalize w10.setCell ⟨b3, 3, none⟩ (.int .i64 v) = w11 at hS11 ⊢
    clear hfz hsh c0 c1 c2 c3 c4 c5 c6 HS10
    refine (below_any B c len 8 (by decide) (by decide) _ hl hS11.cur).mono ?_
    rintro e w12 ⟨p, rfl, hp0, hp1, hc12, hg12⟩
    have hS12 := hS11.call hc12 hg12
    obtain ⟨hfz, hsh, c0, c1, c2, c3, c4, c5, c6⟩ := hS12.blk3.facts
    have HS12 := Lib.hid hS12; clear hS12 hS11 hc12 hg12
    simp only at *
    have hS13 := HS12.out.store (frBlk_4 HS12.out.blk3 p)
    obtain ⟨yfz, ysh, e0, e1, e2, e3, e4, e5, e6⟩ := hS13.blk3.facts
    obtain ⟨zfz, zsh, d0, d1, d2, d3, d4, d5, d6⟩ := hS13.blk2.facts
    have HS := Lib.hid hS13; clear hS13 HS12
    simp only at *
    go_wp2_with fail
    exact make_ret (g := ⟨dst, z2, true, v, p, z3, s⟩) HS.out HSZ.out rfl rfl
end Go.Proofs.Ytfkpecildcejkaa
