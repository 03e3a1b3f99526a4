/- The drawn inputs' cursor: what l01New, l01Byte, l01Below and their kin answer, and what they leave alone. -/
import Derived.Test.YtbcpfciegamaeaaIn
import Derived.WalkKit
import Derived.Outline
import Derived.Lib.Hide
import Derived.WalkLawsBesides
import Derived.WalkSpells
import Derived.OneCell
import Derived.Deep.QuietTactic
import Derived.BigQuiet
namespace Go.Proofs.Ytbcpfciegamaeaa
open Go.RowKit

/-- a slice of integers that came in: it is nil; or it leads to a row of 'cap' cells, the numbers 'zs' -/
def IsRow (k : IntKind) (w : World) (a : Option Addr) (len cap : Nat) (zs : List Int) : Prop :=
  (a = none ∧ len = 0 ∧ cap = 0 ∧ zs = []) ∨
  ∃ x, a = some x ∧ len ≤ cap ∧ cap ≤ maxLen ∧ zs.length = cap ∧ (∀ i, i < zs.length → w.cell? (x.add i) = some (.int k (zs.getD i 0))) ∧ ∀ n ∈ zs, (Lit.int k n).wf = true

/-- THE CURSOR: block c holds a slice of bytes that lies below B, a place in it, and a number. -/
def Cur (B c len : Nat) (w : World) : Prop :=
  ∃ (a : Option Addr) (cap : Nat) (zs : List Int) (i h : Int), B ≤ c ∧ w.heap[c]? = some (.cells #[.slice a len cap, .int .i64 i, .int .i64 h] 57 (0, 0)) ∧
    IsRow .u8 w a len cap zs ∧ (∀ x, a = some x → 0 < cap → x.block < B) ∧ 0 ≤ i ∧ i ≤ len

theorem IsRow.grown {k : IntKind} {w w' : World} {a : Option Addr} {len cap : Nat} {zs : List Int} {B c : Nat} (h : IsRow k w a len cap zs) (hlow : ∀ x, a = some x → 0 < cap → x.block < B) (hB : B ≤ c) (hg : w.grownBy w' (some c)) : IsRow k w' a len cap zs := by
  rcases h with h | ⟨x, rfl, h1, h2, h3, h4, h5⟩
  · exact .inl h
  · refine .inr ⟨x, rfl, h1, h2, h3, fun i hi => hg.cell (h4 i hi) ?_, h5⟩
    have hx := hlow x rfl (by omega)
    have e : (x.add i).block = x.block := by unfold Addr.add; split <;> rfl
    rw [e]
    intro he
    cases he
    omega

theorem IsRow.below {k : IntKind} {w w' : World} {a : Option Addr} {len cap : Nat} {zs : List Int} {B : Nat} (h : IsRow k w a len cap zs) (hlow : ∀ x, a = some x → 0 < cap → x.block < B) (hb : Below B w w') : IsRow k w' a len cap zs := by
  rcases h with h | ⟨x, rfl, h1, h2, h3, h4, h5⟩
  · exact .inl h
  · refine .inr ⟨x, rfl, h1, h2, h3, fun i hi => ?_, h5⟩
    have hx := hlow x rfl (by omega)
    have e : (x.add i).block = x.block := by unfold Addr.add; split <;> rfl
    rw [hb.cell (by rw [e]; exact hx)]
    exact h4 i hi

theorem IsRow.low {k : IntKind} {w : World} {a : Option Addr} {len cap : Nat} {zs : List Int} (h : IsRow k w a len cap zs) : ∀ x, a = some x → 0 < cap → x.block < w.heap.size := by
  intro x hx hc
  rcases h with ⟨rfl, _⟩ | ⟨y, rfl, h1, h2, h3, h4, h5⟩
  · cases hx
  · obtain rfl := Option.some.inj hx
    have h := World.block_lt_of_cell? _ _ (h4 0 (by omega))
    have e : (y.add 0).block = y.block := by unfold Addr.add; split <;> rfl
    rw [← e]
    exact h

theorem heap_new (w : World) (o : Obj) : (w.alloc o).heap[w.heap.size]? = some o := by show (w.heap.push o)[w.heap.size]? = some o; simp
theorem grown_setCell (w : World) (a : Addr) (v : Value) : w.grownBy (w.setCell a v) (some a.block) :=
  ⟨rfl, rfl, rfl, by simp, fun k _ hk => heap_setCell_other w a k v (fun e => hk (by rw [e]))⟩
theorem grown_drewN {w w' : World} {r : Option Nat} (h : w.grownBy w' r) (n : Nat) : w.grownBy (w'.drewN n) r := ⟨h.os, h.tape, h.output, h.size, h.block⟩
theorem grown_trans {a b c : World} {r : Option Nat} (h : a.grownBy b r) (k : b.grownBy c r) : a.grownBy c r :=
  ⟨k.os.trans h.os, k.tape.trans h.tape, k.output.trans h.output, Nat.le_trans h.size k.size, fun i hi hr => (k.block i (Nat.lt_of_lt_of_le hi h.size) hr).trans (h.block i hi hr)⟩
theorem grown_below {w w' : World} {c : Nat} (h : w.grownBy w' (some c)) {B : Nat} (hB : B ≤ c) (hs : B ≤ w.heap.size) : Below B w w' := (Below.refl B w).grown h hs (fun k e => by cases e; exact hB)

theorem IsRow.at {w : World} {a : Option Addr} {len cap : Nat} {zs : List Int} (h : IsRow .u8 w a len cap zs) {j : Nat} (hj : j < len) :
    ∃ b off z, a = some ⟨b, off, none⟩ ∧ w.cell? ⟨b, off + j, none⟩ = some (.int .u8 z) ∧ 0 ≤ z ∧ z < 256 := by
  rcases h with ⟨_, rfl, _⟩ | ⟨x, rfl, h1, h2, h3, h4, h5⟩
  · omega
  · obtain ⟨b, off, spot⟩ := x
    have hcc := h4 j (by omega)
    have hspot : spot = none := by have := World.cell?_spot (h4 0 (by omega)); simpa [Addr.add] using this
    subst hspot
    rw [Addr.add_lit] at hcc
    have hwf := h5 (zs.getD j 0) (by rw [List.getD_eq_getElem?_getD, List.getElem?_eq_getElem (by omega)]; exact List.getElem_mem _)
    have hb : 0 ≤ zs.getD j 0 ∧ zs.getD j 0 ≤ 255 := by simpa [Lit.wf, IntKind.min, IntKind.max, IntKind.signed, IntKind.bits] using hwf
    exact ⟨b, off, zs.getD j 0, rfl, hcc, hb.1, by omega⟩

/-- a number from lo to below hi is drawn; the cursor's block alone has turned -/
def Drawn (B c len : Nat) (lo hi : Int) (w : World) (e : Ending) (w' : World) : Prop := ∃ x : Int, e = .returned (.int .i64 x) ∧ lo ≤ x ∧ x < hi ∧ Cur B c len w' ∧ w.grownBy w' (some c)

theorem byte_any (B c len : Nat) (w : World) (hl : len ≤ 1048576) (hc : Cur B c len w) :
    Calls Try.prog 44 #[.pointer (some ⟨c, 0, none⟩)] w (Drawn B c len 0 256 w) := by
  obtain ⟨a, cap, zs, i, h, hB, hblk, hrow, hlow, hi0, hi1⟩ := hc
  obtain ⟨j, rfl⟩ := Int.eq_ofNat_of_zero_le hi0
  have c0 : w.cell? ⟨c, 0, none⟩ = some (.slice a len cap) := by simp [World.cell?, hblk]
  have c1 : w.cell? ⟨c, 1, none⟩ = some (.int .i64 j) := by simp [World.cell?, hblk]
  have c2 : w.cell? ⟨c, 2, none⟩ = some (.int .i64 h) := by simp [World.cell?, hblk]
  have f0 : ∀ j, w.frozen? ⟨c, j, none⟩ = false := by intro j; simp [World.frozen?, hblk]
  have b255 := bits_and_255
  go_enter Try.func44, Try.ntmps44
  go_wp2_with fail
  generalize wrap64 (wrap64 (h * 6364136223846793005) + 1442695040888963407) = h1
  have hblk1 : (w.setCell ⟨c, 2, none⟩ (.int .i64 h1)).heap[c]? = some (.cells #[.slice a len cap, .int .i64 j, .int .i64 h1] 57 (0, 0)) := heap_setCell_same w c 2 _ _ _ hblk
  have hg1 := grown_setCell w ⟨c, 2, none⟩ (.int .i64 h1)
  obtain ⟨w1, hw1⟩ : ∃ w1, w.setCell ⟨c, 2, none⟩ (.int .i64 h1) = w1 := ⟨_, rfl⟩
  rw [hw1] at hblk1 hg1 ⊢
  clear hw1 c0 c1 c2 f0
  have hrow1 := hrow.grown hlow hB hg1
  have c0 : w1.cell? ⟨c, 0, none⟩ = some (.slice a len cap) := by simp [World.cell?, hblk1]
  have c1 : w1.cell? ⟨c, 1, none⟩ = some (.int .i64 j) := by simp [World.cell?, hblk1]
  have c2 : w1.cell? ⟨c, 2, none⟩ = some (.int .i64 h1) := by simp [World.cell?, hblk1]
  have f1 : w1.frozen? ⟨c, 1, none⟩ = false := by simp [World.frozen?, hblk1]
  have HB1 := Lib.hid hblk1; clear hblk1
  by_cases hlt : j < len
  · obtain ⟨b, off, z, rfl, hcell, hz0, hz1⟩ := hrow1.at hlt
    have hjl : (j : Int) < (len : Int) := by omega
    go_quiet (fail)
    go_wp2_with fail
    go_quiet (fail)
    go_wp2_with fail
    go_quiet (fail)
    go_wp2_with fail
    go_ret
    refine ⟨_, rfl, by omega, by omega, ⟨some ⟨b, off, none⟩, cap, zs, (j : Int) + 1, h1, hB, ?_, ?_, hlow, by omega, by omega⟩, ?_⟩
    · exact heap_setCell_same (World.drewN _ _) c 1 _ _ _ HB1.out
    · exact hrow1.grown hlow hB (grown_trans (by repeat (first | exact World.grownBy.refl _ _ | refine grown_drewN ?_ _)) (grown_setCell _ ⟨c, 1, none⟩ _))
    · exact grown_trans (by repeat (first | exact hg1 | refine grown_drewN ?_ _)) (grown_setCell _ ⟨c, 1, none⟩ _)
  · go_quiet (fail)
    go_wp2_with fail
    go_quiet (fail)
    go_wp2_with fail
    go_ret
    refine ⟨_, rfl, by omega, by omega, ⟨a, cap, zs, (j : Int), h1, hB, HB1.out, ?_, hlow, by omega, by omega⟩, by repeat (first | exact hg1 | refine grown_drewN ?_ _)⟩
    exact hrow1.grown hlow hB (by repeat (first | exact World.grownBy.refl _ _ | refine grown_drewN ?_ _))

theorem below_none (p : Option Addr) (n : Int) (h : n ≤ 0) (w : World) :
    Calls Try.prog 33 #[.pointer p, .int .i64 n] w fun e w' => e = .returned (.int .i64 0) ∧ w = w' := by
  go_enter Try.func33, Try.ntmps33
  go_wp2_with fail
  go_ret
  exact ⟨rfl, rfl⟩

theorem below_any (B c len : Nat) (n : Int) (h1 : 1 ≤ n) (h2 : n ≤ 4294967296) (w : World) (hl : len ≤ 1048576) (hc : Cur B c len w) :
    Calls Try.prog 33 #[.pointer (some ⟨c, 0, none⟩), .int .i64 n] w (Drawn B c len 0 n w) := by
  by_cases h : n ≤ 256
  · go_enter Try.func33, Try.ntmps33
    go_wp2_with (go_at_call 44; refine (byte_any B c len _ hl (by assumption)).mono ?_; rintro e w1 ⟨x, rfl, hx0, hx1, hc1, hg1⟩)
    go_ret
    exact ⟨_, rfl, Int.emod_nonneg _ (by omega), Int.emod_lt_of_pos _ (by omega), hc1, hg1⟩
  · go_enter Try.func33, Try.ntmps33
    go_wp2_with fail
    refine (byte_any B c len _ hl hc).mono ?_; rintro e w1 ⟨x1, rfl, hx0, hx1, hc1, hg1⟩
    go_wp2_with fail
    refine (byte_any B c len _ hl hc1).mono ?_; rintro e w2 ⟨x2, rfl, hx2, hx3, hc2, hg2⟩
    go_wp2_with fail
    refine (byte_any B c len _ hl hc2).mono ?_; rintro e w3 ⟨x3, rfl, hx4, hx5, hc3, hg3⟩
    go_wp2_with fail
    refine (byte_any B c len _ hl hc3).mono ?_; rintro e w4 ⟨x4, rfl, hx6, hx7, hc4, hg4⟩
    go_wp2_with fail
    go_ret
    exact ⟨_, rfl, Int.emod_nonneg _ (by omega), Int.emod_lt_of_pos _ (by omega), hc4, grown_trans (grown_trans (grown_trans hg1 hg2) hg3) hg4⟩

/-- one of the numbers of a row is picked -/
theorem pickInt_any (B c len g m cap : Nat) (zs : List Int) (hm1 : 1 ≤ m) (hm2 : m ≤ 256) (w : World) (hl : len ≤ 1048576) (hc : Cur B c len w) (hne : g ≠ c)
    (hcell : ∀ i, i < m → w.cell? ⟨g, i, none⟩ = some (.int .i64 (zs.getD i 0))) :
    Calls Try.prog 43 #[.pointer (some ⟨c, 0, none⟩), .slice (some ⟨g, 0, none⟩) m cap] w fun e w' => ∃ i : Nat, i < m ∧ e = .returned (.int .i64 (zs.getD i 0)) ∧ Cur B c len w' ∧ w.grownBy w' (some c) := by
  go_enter Try.func43, Try.ntmps43
  go_wp2_with fail
  refine (below_any B c len m (by omega) (by omega) _ hl hc).mono ?_
  rintro e w1 ⟨x, rfl, hx0, hx1, hc1, hg1⟩
  obtain ⟨j, rfl⟩ := Int.eq_ofNat_of_zero_le hx0
  have hj : j < m := by omega
  have hcj : w1.cell? ⟨g, j, none⟩ = some (.int .i64 (zs.getD j 0)) := hg1.cell (hcell j hj) (fun h => hne (by cases h; rfl))
  have HJ := Lib.hid hcell; clear hcell
  generalize hz : zs.getD j 0 = z at hcj
  have HZ := Lib.hid hz; clear hz
  go_wp2_with fail
  go_ret
  exact ⟨j, hj, by rw [HZ.out]; rfl, hc1, hg1⟩

/-- a number that an int holds -/
def DrawnInt (B c len : Nat) (w : World) (e : Ending) (w' : World) : Prop := ∃ x : Int, e = .returned (.int .i64 x) ∧ -9223372036854775808 ≤ x ∧ x ≤ 9223372036854775807 ∧ Cur B c len w' ∧ w.grownBy w' (some c)

theorem int_any (B c len : Nat) (w : World) (hl : len ≤ 1048576) (hc : Cur B c len w) :
    Calls Try.prog 45 #[.pointer (some ⟨c, 0, none⟩)] w (DrawnInt B c len w) := by
  go_enter Try.func45, Try.ntmps45
  go_wp2_with fail
  refine (below_any B c len 100000 (by omega) (by omega) _ hl hc).mono ?_
  rintro e w1 ⟨x, rfl, hx0, hx1, hc1, hg1⟩
  go_wp2_with fail
  have hcB : c < w1.heap.size := by
    obtain ⟨_, _, _, _, _, _, hb, _⟩ := hc1
    exact (Array.getElem?_eq_some_iff.1 hb).1
  have hw2 : ∀ (cs : Array Value) t, Cur B c len (w1.alloc (.cells cs t)) := fun cs t => by
    obtain ⟨a, cap, zs, i, h, h1, h2, h3, h4, h5, h6⟩ := hc1
    exact ⟨a, cap, zs, i, h, h1, (Below.heap_alloc w1 _ c hcB).trans h2, h3.below h4 ((Below.refl _ w1).alloc (by omega) _), h4, h5, h6⟩
  refine (pickInt_any B c len w1.heap.size 14 14 [0, 1, -1, 255, 256, 65535, 16777216, 281474976710655, 281474976710656, 999999999, 1000000000, 9223372036854775807, -9223372036854775808, x] (by decide) (by decide) _ hl (hw2 _ _) (by omega) ?_).mono ?_
  · intro i hi
    rw [World.cell?_alloc_at (hn := rfl)]
    match i, hi with
    | 0, _ => rfl
    | 1, _ => rfl
    | 2, _ => rfl
    | 3, _ => rfl
    | 4, _ => rfl
    | 5, _ => rfl
    | 6, _ => rfl
    | 7, _ => rfl
    | 8, _ => rfl
    | 9, _ => rfl
    | 10, _ => rfl
    | 11, _ => rfl
    | 12, _ => rfl
    | 13, _ => rfl
  · rintro e w3 ⟨i, hi, rfl, hc3, hg3⟩
    generalize hz : [0, 1, -1, 255, 256, 65535, 16777216, 281474976710655, 281474976710656, 999999999, 1000000000, 9223372036854775807, -9223372036854775808, x].getD i 0 = z
    have hb : -9223372036854775808 ≤ z ∧ z ≤ 9223372036854775807 := by
      subst hz
      match i, hi with
      | 0, _ | 1, _ | 2, _ | 3, _ | 4, _ | 5, _ | 6, _ | 7, _ | 8, _ | 9, _ | 10, _ | 11, _ | 12, _ => simp
      | 13, _ => simp; omega
    have HZ := Lib.hid hz; clear hz
    go_wp2_with fail
    go_ret
    exact ⟨z, rfl, hb.1, hb.2, hc3, grown_trans hg1 (grown_trans (World.grownBy_alloc _ _ _) hg3)⟩

set_option maxRecDepth 100000 in
theorem new_any (w : World) (a : Option Addr) (len cap : Nat) (zs : List Int) (hl : len ≤ 1048576) (hrow : IsRow .u8 w a len cap zs) (hlow : ∀ x, a = some x → 0 < cap → x.block < w.heap.size) :
    Calls Try.prog 28 #[.slice a len cap] w fun e w' => e = .returned (.pointer (some ⟨w.heap.size, 0, none⟩)) ∧ Cur w.heap.size w.heap.size len w' ∧ Below w.heap.size w w' ∧ w.heap.size < w'.heap.size := by
  go_enter Try.func28, Try.ntmps28
  go_wp2_with fail
  go_loop [3, 4] (fun v i => ∃ (k : Nat) (h : Int), i = .int .i64 k ∧ v = .int .i64 h ∧ k ≤ len) (fun _ i => len - (intOf i).toNat)
  case atStart => exact ⟨0, _, rfl, rfl, Nat.zero_le _⟩
  case round =>
    obtain ⟨k, h, rfl, rfl, hk⟩ := hrel
    by_cases hlt : k < len
    · by_cases h4 : k < 4000
      · obtain ⟨b, off, z, rfl, hcell, hz0, hz1⟩ := hrow.at hlt
        go_wp2_with fail
        go_round
        case rel => exact ⟨k + 1, _, by go_num, rfl, by omega⟩
        case measure => simp [intOf]; omega
      · have h4' : 4000 ≤ (k : Int) := by omega
        go_wp2_with fail
        go_ret
        exact ⟨rfl, ⟨a, cap, zs, 0, _, Nat.le_refl _, heap_new _ _, hrow.below hlow ((Below.refl _ w).alloc (Nat.le_refl _) _), hlow, Int.le_refl _, by omega⟩, (Below.refl _ _).alloc (Nat.le_refl _) _, by simp⟩
    · have hlt' : (len : Int) ≤ (k : Int) := by omega
      go_wp2_with fail
      go_ret
      exact ⟨rfl, ⟨a, cap, zs, 0, _, Nat.le_refl _, heap_new _ _, hrow.below hlow ((Below.refl _ w).alloc (Nat.le_refl _) _), hlow, Int.le_refl _, by omega⟩, (Below.refl _ _).alloc (Nat.le_refl _) _, by simp⟩
end Go.Proofs.Ytbcpfciegamaeaa
