/- l01Text: a text of so many bytes is drawn. -/
import Derived.Test.YtleebmbnjdoinaaTextL
import Derived.Test.YtleebmbnjdoinaaDraw
import Derived.Test.YtleebmbnjdoinaaIn
import Derived.Test.YtleebmbnjdoinaaMath
import Derived.Lib.ItoaNum
import Derived.WalkKit
import Derived.Outline
import Derived.Lib.Hide
import Derived.WalkLawsBesides
import Derived.WalkSpells
import Derived.WalkSmall
import Derived.Deep.QuietTactic
import Derived.BigQuiet
import Derived.Deep.RegionHeld3
import Derived.Laws.OwnMore
import Derived.Laws.IdiomStrings
import Derived.Maps.AppendAt
namespace Go.Proofs.Ytleebmbnjdoinaa
open Go.RowKit

theorem curF_grow {B c len : Nat} {zs : List Int} {s : Nat × Int} {w w' : World} {r : Option Nat} (hc : CurF B c len zs s w) (hg : w.grownBy w' r) (hr : ∀ g, r = some g → c < g) : CurF B c len zs s w' := by
  obtain ⟨a, cap, hB, hblk, hrow, hlow, hi⟩ := hc
  have hlt : c < w.heap.size := (Array.getElem?_eq_some_iff.1 hblk).1
  refine ⟨a, cap, hB, (hg.block c hlt (fun e => by have := hr c e.symm; omega)).trans hblk, ?_, hlow, hi⟩
  rcases hrow with h | ⟨x, rfl, h1, h2, h3, h4, h5⟩
  · exact .inl h
  · refine .inr ⟨x, rfl, h1, h2, h3, fun i hi => hg.cell (h4 i hi) ?_, h5⟩
    have hx := hlow x rfl (by omega)
    have e : (x.add i).block = x.block := by unfold Addr.add; split <;> rfl
    rw [e]
    intro he
    have := hr x.block he.symm
    omega
theorem curF_of {B c len : Nat} {w : World} (h : Cur B c len w) : ∃ zs s, CurF B c len zs s w := by
  obtain ⟨a, cap, zs, i, h, hB, hblk, hrow, hlow, hi0, hi1⟩ := h
  obtain ⟨j, rfl⟩ := Int.eq_ofNat_of_zero_le hi0
  exact ⟨zs, (j, h), a, cap, hB, hblk, hrow, hlow, by show j ≤ len; omega⟩
theorem CurF.cur {B c len : Nat} {zs : List Int} {s : Nat × Int} {w : World} (h : CurF B c len zs s w) : Cur B c len w := by
  obtain ⟨a, cap, hB, hblk, hrow, hlow, hi⟩ := h
  exact ⟨a, cap, zs, (s.1 : Int), s.2, hB, hblk, hrow, hlow, by omega, by omega⟩
theorem CurF.lt {B c len : Nat} {zs : List Int} {s : Nat × Int} {w : World} (h : CurF B c len zs s w) : c < w.heap.size := by
  obtain ⟨a, cap, hB, hblk, _⟩ := h
  exact (Array.getElem?_eq_some_iff.1 hblk).1
theorem grown_own {a b d : World} {c : Nat} {r : Option Nat} (h : a.grownBy b (some c)) (k : b.grownBy d r) (hr : ∀ g, r = some g → a.heap.size ≤ g) : a.grownBy d (some c) :=
  ⟨k.os.trans h.os, k.tape.trans h.tape, k.output.trans h.output, Nat.le_trans h.size k.size, fun i hi hn => (k.block i (Nat.lt_of_lt_of_le hi h.size) (fun e => by have := hr i e.symm; omega)).trans (h.block i hi hn)⟩

/-- the state of a text under way -/
def TextSt (B c len : Nat) (zs : List Int) (w : World) (v : Value) (l : List UInt8) (s : Nat × Int) (wr : World) : Prop :=
  wr.ownsRow w.heap.size 5 1 v l.length (byteVals l) ∧ CurF B c len zs s wr ∧ w.grownBy wr (some c)

theorem TextSt.drew {B c len : Nat} {zs : List Int} {w : World} {v : Value} {l : List UInt8} {s t : Nat × Int} {wr w1 : World} (h : TextSt B c len zs w v l s wr) (hlt : c < w.heap.size) (hc : CurF B c len zs t w1) (hg : wr.grownBy w1 (some c)) : TextSt B c len zs w v l t w1 := by
  refine ⟨h.1.kept hg ?_, hc, grown_trans h.2.2 hg⟩
  cases hv : v.ownBlock with
  | none => exact .inl rfl
  | some g =>
    right
    have := (h.1.lt g hv).1
    intro e
    cases e
    omega

/-- the measure of a text under way: what it lacks, and the cursor's own -/
noncomputable def textM (n len c : Nat) (v : Value) (w : World) : Nat :=
  (match v with | .slice _ m _ => n - m | _ => 0) * ((len + 1) * lcgM) + (match w.cell? ⟨c, 1, none⟩, w.cell? ⟨c, 2, none⟩ with | some (.int _ i), some (.int _ h) => curM len (i.toNat, h) | _, _ => 0)

theorem textM_eq {B c len : Nat} {zs : List Int} {w : World} {v : Value} {l : List UInt8} {s : Nat × Int} {wr : World} (h : TextSt B c len zs w v l s wr) (n : Nat) : textM n len c v wr = (n - l.length) * ((len + 1) * lcgM) + curM len s := by
  obtain ⟨hrow, ⟨a, cap, hB, hblk, _⟩, _⟩ := h
  have c1 : wr.cell? ⟨c, 1, none⟩ = some (.int .i64 s.1) := by simp [World.cell?, hblk]
  have c2 : wr.cell? ⟨c, 2, none⟩ = some (.int .i64 s.2) := by simp [World.cell?, hblk]
  unfold textM
  rw [c1, c2]
  simp only [Int.toNat_natCast]
  rcases hrow.2 with ⟨rfl, h0⟩ | ⟨g, cap, cur, rfl, _⟩
  · simp only [h0]
  · rfl

theorem textM_more {n m k len : Nat} {s t : Nat × Int} (h : m < k) (hm : m < n) : (n - k) * ((len + 1) * lcgM) + curM len t < (n - m) * ((len + 1) * lcgM) + curM len s := by
  have h1 := curM_lt len t
  have h2 : (n - k) * ((len + 1) * lcgM) ≤ (n - m - 1) * ((len + 1) * lcgM) := Nat.mul_le_mul_right _ (by omega)
  have h3 : (n - m) * ((len + 1) * lcgM) = (n - m - 1) * ((len + 1) * lcgM) + (len + 1) * lcgM := by
    have e : n - m = (n - m - 1) + 1 := by omega
    rw [e, Nat.add_mul, Nat.one_mul]
    rfl
  omega

theorem TextSt.more {B c len : Nat} {zs : List Int} {w : World} {v v' : Value} {l : List UInt8} {s : Nat × Int} {wr wa w1 : World} {y : Int} (h : TextSt B c len zs w v l s wr) (hlt : c < w.heap.size)
    (hga : wr.grownBy wa none) (hown : w1.ownsRow w.heap.size 5 1 v' (l.length + 1) (byteVals l ++ [.int .u8 y])) (hg : wa.grownBy w1 v.ownBlock) (h0 : 0 ≤ y) (h1 : y < 256) :
    TextSt B c len zs w v' (l ++ [UInt8.ofNat y.toNat]) s w1 := by
  have hb : ∀ g, v.ownBlock = some g → w.heap.size ≤ g := fun g e => (h.1.lt g e).1
  refine ⟨?_, curF_grow (curF_grow h.2.1 hga (fun g e => by cases e)) hg (fun g e => by have := hb g e; omega), grown_own (grown_own h.2.2 hga (fun g e => by cases e)) hg hb⟩
  have e : ((UInt8.ofNat y.toNat).toNat : Int) = y := by rw [UInt8.toNat_ofNat']; omega
  rw [byteVals_snoc, e, List.length_append]
  exact hown

theorem TextSt.slice {B c len : Nat} {zs : List Int} {w : World} {v : Value} {l : List UInt8} {s : Nat × Int} {wr : World} (h : TextSt B c len zs w v l s wr) : ∃ ao cap, v = .slice ao l.length cap := by
  rcases h.1.2 with ⟨rfl, h0⟩ | ⟨g, cap, cur, rfl, _⟩
  · exact ⟨none, 0, by rw [h0]⟩
  · exact ⟨_, cap, rfl⟩

end Go.Proofs.Ytleebmbnjdoinaa
