/- The drawn frames: what l03Make, l03Any and DrawPutFrame answer. -/
import Derived.Test.YtleebmbnjdoinaaDraw
import Derived.Test.YtleebmbnjdoinaaDrawM
import Derived.Test.YtleebmbnjdoinaaText
import Derived.Test.YtleebmbnjdoinaaFr
import Derived.Test.YtleebmbnjdoinaaIn
import Derived.Shelf.SlicesE.Equal
import Derived.Shelf.SlicesE.Reverse
import Derived.ArgAppend
import Derived.Laws.IdiomStrings
import Derived.Below
import Derived.Lib.Hide
import Derived.Test.YtleebmbnjdoinaaRows
import Derived.Laws.BitsAllLaws
import Derived.Laws.OwnMore
import Derived.Maps.AppendAt
import Derived.StillTailTactics
import Derived.Deep.RegionHeld3
import Derived.IntWalk
import Derived.WalkKit
import Derived.Outline
import Derived.WalkLawsBesides
import Derived.WalkSpells
import Derived.Lib.Builder
import Derived.ScopeJumps
import Derived.WalkMore
namespace Go.Proofs.Ytleebmbnjdoinaa
open Go.RowKit

theorem grown_new {w wi : World} {r : Option Nat} (h : w.grownBy wi r) (o : Obj) : w.grownBy (wi.alloc o) r :=
  ⟨h.os, h.tape, h.output, Nat.le_trans h.size (by simp), fun k hk hr => (Below.heap_alloc wi o k (Nat.lt_of_lt_of_le hk h.size)).trans (h.block k hk hr)⟩
theorem grown_store {w wi : World} {r : Option Nat} (h : w.grownBy wi r) {b j : Nat} (hb : w.heap.size ≤ b) (v : Value) : w.grownBy (wi.setCell ⟨b, j, none⟩ v) r :=
  ⟨h.os, h.tape, h.output, Nat.le_trans h.size (by simp [World.setCell]), fun k hk hr => (Below.heap_setCell wi _ _ _ (by simp only; omega)).trans (h.block k hk hr)⟩
theorem cur_store {B c len : Nat} {w : World} (hc : Cur B c len w) {b j : Nat} (hb : c < b) (v : Value) : Cur B c len (w.setCell ⟨b, j, none⟩ v) := by
  obtain ⟨a, cap, zs, i, h, h1, h2, h3, h4, h5, h6⟩ := hc
  exact ⟨a, cap, zs, i, h, h1, (Below.heap_setCell w _ _ _ (by simp only; omega)).trans h2, h3.below h4 ((Below.refl _ w).setCell (p := ⟨b, j, none⟩) (by simp only; omega) _), h4, h5, h6⟩

theorem below_puts {w W : World} {b : Nat} {c : Option Nat} (h : w.grownBy W c) (hb : w.heap.size ≤ b) (f : Fr) :
    w.grownBy (((((((W.setCell ⟨b, 0, none⟩ (.int .i64 f.dst)).setCell ⟨b, 1, none⟩ (.int .i64 f.src)).setCell ⟨b, 2, none⟩ (.bool f.tagged)).setCell ⟨b, 3, none⟩ (.int .i64 f.vid)).setCell ⟨b, 4, none⟩ (.int .i64 f.pri)).setCell ⟨b, 5, none⟩ (.int .i64 f.type)).setCell ⟨b, 6, none⟩ (.string f.body)) c :=
  grown_store (grown_store (grown_store (grown_store (grown_store (grown_store (grown_store h hb _) hb _) hb _) hb _) hb _) hb _) hb _
theorem cur_puts {B c len : Nat} {W : World} {b : Nat} (h : Cur B c len W) (hb : c < b) (f : Fr) :
    Cur B c len (((((((W.setCell ⟨b, 0, none⟩ (.int .i64 f.dst)).setCell ⟨b, 1, none⟩ (.int .i64 f.src)).setCell ⟨b, 2, none⟩ (.bool f.tagged)).setCell ⟨b, 3, none⟩ (.int .i64 f.vid)).setCell ⟨b, 4, none⟩ (.int .i64 f.pri)).setCell ⟨b, 5, none⟩ (.int .i64 f.type)).setCell ⟨b, 6, none⟩ (.string f.body)) :=
  cur_store (cur_store (cur_store (cur_store (cur_store (cur_store (cur_store h hb _) hb _) hb _) hb _) hb _) hb _) hb _

/-- a frame is drawn -/
def DrawnFr (B c len : Nat) (w : World) (e : Ending) (w' : World) : Prop := ∃ f : Fr, e = .returned f.val ∧ f.body.size ≤ 1600 ∧ Cur B c len w' ∧ w.grownBy w' (some c)

theorem vid_any (B c len : Nat) (w : World) (hl : len ≤ 1048576) (hc : Cur B c len w) :
    Calls Try.prog 86 #[.pointer (some ⟨c, 0, none⟩)] w fun e w' => ∃ x : Int, e = .returned (.int .i64 x) ∧ Cur B c len w' ∧ w.grownBy w' (some c) := by
  have hlt := cur_lt hc
  go_enter Try.func86, Try.ntmps86
  go_wp2_with fail
  refine (pickInt_any B c len w.heap.size 6 6 [1, 1, 10, 10, 20, 4094] (by decide) (by decide) _ hl (cur_alloc hc _ _) (by omega) ?_).mono ?_
  · intro i hi
    rw [World.cell?_alloc_at (hn := rfl)]
    match i, hi with
    | 0, _ | 1, _ | 2, _ | 3, _ | 4, _ | 5, _ => rfl
  · rintro e w3 ⟨i, hi, rfl, hc3, hg3⟩
    generalize [1, 1, 10, 10, 20, 4094].getD i (0 : Int) = z
    go_wp2_with fail
    go_ret
    exact ⟨z, rfl, hc3, grown_trans (World.grownBy_alloc _ _ _) hg3⟩


end Go.Proofs.Ytleebmbnjdoinaa
