/- Rows in the laws: copied in. -/
import Derived.Test.YtleebmbnjdoinaaRwM
import Derived.Deep.Slices
namespace Go.Proofs.Ytleebmbnjdoinaa
open Go.RowKit

theorem add_block (x : Addr) (n : Nat) : (x.add n).block = x.block := by unfold Addr.add; split <;> rfl
/-- a slice that came in -/
def SlArg (sz : Nat) {α : Type} (cs : α → List Value) (w : World) (a : Option Addr) (xs : List α) : Prop :=
  ∀ k (h : k < xs.length), ∃ x, a = some x ∧ x.block < w.heap.size ∧ ∀ j, j < sz → w.cell? (x.add (k * sz + j)) = (cs (xs[k]'h))[j]?
theorem SlArg.after {sz : Nat} {α : Type} {cs : α → List Value} {w w' : World} {a : Option Addr} {xs : List α} (h : SlArg sz cs w a xs) (hb : Below w.heap.size w w') : SlArg sz cs w' a xs := by
  intro k hk
  obtain ⟨x, e, hl, hc⟩ := h k hk
  exact ⟨x, e, Nat.lt_of_lt_of_le hl hb.size, fun j hj => (hb.cell (by rw [add_block]; exact hl)).trans (hc j hj)⟩

theorem infoRow : (Try.prog.info? 34).map (fun i => (i.zero, i.size, i.bytes)) = some (some (.agg #[.int .i64 0, .int .i64 0, .int .i64 0, .int .i64 0, .bool false]), 5, 40) := by kernel_rfl

theorem toRowS_any (xs : List Rw) (a : Option Addr) (n cap : Nat) (w : World) (hn : xs.length = n) (hx : SlArg 5 Rw.cs w a xs) (hsz : n ≤ 1048576) :
    Calls Try.prog 59 #[.slice a n cap] w fun e w' => e = .returned (.slice (some ⟨w.heap.size, 0, none⟩) n n) ∧ SlIn kdRw w' (some ⟨w.heap.size, 0, none⟩) xs ∧ Below w.heap.size w w' := by
  obtain ⟨i0, hi, hz0, hz1, hz2⟩ := info_parts infoRow
  have HX := Lib.hid hx; have HN := Lib.hid hn
  clear hx hn
  go_enter Try.func59, Try.ntmps59
  go_wp2_with (at_make; refine wpList_make_full _ rfl _ _ 24 rfl w.heap.size 34 i0 (.agg #[.int .i64 0, .int .i64 0, .int .i64 0, .int .i64 0, .bool false]) 5 Try.underlying24 hi hz0 hz1 .i64 .i64 _ _ n rfl rfl rfl rfl (by rw [hz2]; omega) (by unfold maxLen; omega) (Nat.le_refl _) ?_)
  intro w1 hown hgrow
  have hs0 : SlIn kdRw w1 (some ⟨w.heap.size, 0, none⟩) (xs.take 0 ++ List.replicate (n - 0) ⟨0, 0, 0, 0, false⟩) := by
    have hm := made_flat kdRw ⟨0, 0, 0, 0, false⟩ n (by decide)
    have hown' : w1.ownsRow w.heap.size kdRw.e kdRw.sz (.slice (some ⟨w.heap.size, 0, none⟩) n n) n ((List.replicate n (⟨0, 0, 0, 0, false⟩ : Rw)).flatMap kdRw.cs) := by rw [← hm]; exact hown
    obtain ⟨_, _, e, h, _⟩ := SlIn.of_owns (K := kdRw) hown' (by simp)
    cases e
    simpa using h
  have hb1 : Below w.heap.size w w1 := (Below.refl _ _).grown hgrow (Nat.le_refl _) (fun k e => by cases e)
  have HS0 := Lib.hid hs0
  clear hown hs0 hgrow
  go_wp2_with fail
  go_loopw [4] (fun i wr => ∃ k : Nat, i = .int .i64 (k : Nat) ∧ k ≤ n ∧ Below w.heap.size w wr ∧ Hid (SlIn kdRw wr (some ⟨w.heap.size, 0, none⟩) (xs.take k ++ List.replicate (n - k) ⟨0, 0, 0, 0, false⟩)))
    (fun i _ => n - (intOf i).toNat)
  case atStart => exact ⟨0, rfl, Nat.zero_le _, hb1, HS0⟩
  case round =>
    obtain ⟨k, rfl, hk, hB, HS⟩ := hrel
    by_cases hlt : k < n
    · have hkx : k < xs.length := by rw [HN.out]; exact hlt
      have hkf : k < (xs.take k ++ List.replicate (n - k) (⟨0, 0, 0, 0, false⟩ : Rw)).length := by rw [List.length_append, List.length_take, List.length_replicate, HN.out]; omega
      obtain ⟨x, rfl, hxl, hc⟩ := HX.out k hkx
      have hd := fun j hj => (hB.cell (p := x.add (k * 5 + j)) (by rw [add_block]; exact hxl)).trans (hc j hj)
      have d0 := hd 0 (by decide)
      have d1 := hd 1 (by decide)
      have d2 := hd 2 (by decide)
      have d3 := hd 3 (by decide)
      have d4 := hd 4 (by decide)
      rw [← Go.Deep.add_add] at d1 d2 d3 d4
      rw [Nat.add_zero] at d0
      have hr := toRow_any xs[k]
      have hput := fun w' (hb : Below wr.heap.size wr w') => (HS.out.after hb).put0 k hkf xs[k]
      rw [set_fill HN.out hlt] at hput
      have hcs : kdRw.cs xs[k] = Rw.cs xs[k] := rfl
      rw [hcs] at hput
      clear hcs hc hd
      generalize xs[k] = r at d0 d1 d2 d3 d4 hr hput
      obtain ⟨x0, x1, x2, x3, x4⟩ := r
      unfold Rw.val at hr
      simp only at hr
      replace d0 : wr.cell? (x.add (k * 5)) = some (.int .i64 x0) := d0
      replace d1 : wr.cell? ⟨(x.add (k * 5)).block, (x.add (k * 5)).off + 1, none⟩ = some (.int .i64 x1) := d1
      replace d2 : wr.cell? ⟨(x.add (k * 5)).block, (x.add (k * 5)).off + 2, none⟩ = some (.int .i64 x2) := d2
      replace d3 : wr.cell? ⟨(x.add (k * 5)).block, (x.add (k * 5)).off + 3, none⟩ = some (.int .i64 x3) := d3
      replace d4 : wr.cell? ⟨(x.add (k * 5)).block, (x.add (k * 5)).off + 4, none⟩ = some (.bool x4) := d4
      have HR := Lib.hid hr
      obtain ⟨_, _, e, hg0, hA⟩ := rowAt HS.out k hkf
      cases e
      clear hr
      go_wp2_with fail
      refine (HR.out _).mono ?_
      rintro e w2 ⟨rfl, hb2⟩
      obtain ⟨⟨c0, c1, c2, c3, c4⟩, hfz⟩ := hA w2 hb2
      have hP := hput w2 hb2
      have HB2 := Lib.hid hb2; have HP := Lib.hid hP
      clear hput hA d0 d1 d2 d3 d4 hb2 hP
      simp only [Nat.zero_add] at c0 c1 c2 c3 c4
      go_wp2_with fail
      have hBw := hB.trans (HB2.out.mono hB.size)
      have HB3 := Lib.hid (hBw.trans (HP.out.2.below hBw.size (fun b hb => by simp at hb; omega)))
      clear hBw
      go_roundw
      case rel => exact ⟨k + 1, by go_num, by omega, HB3.out, Lib.hid HP.out.1⟩
      case measure => simp [intOf]; omega
    · have hke : k = n := by omega
      have hlt' : ¬ ((k : Int) < (n : Int)) := by omega
      have hs : SlIn kdRw wr (some ⟨w.heap.size, 0, none⟩) xs := by
        have e := HS.out
        rw [hke, Nat.sub_self, List.take_of_length_le (by rw [HN.out]; exact Nat.le_refl _)] at e
        simpa using e
      have HS2 := Lib.hid hs
      clear HS hs
      go_wp2_with fail
      go_ret
      exact ⟨rfl, HS2.out, hB⟩

/-! tables -/
/-- a table as the program holds it -/
def tabVal (a : Option Addr) (n cap : Nat) (most : Int) : Value := .agg #[.slice a n cap, .int .i64 most]

theorem szTable_any (a : Option Addr) (n cap : Nat) (most left : Int) (w : World) (hn : n ≤ 9223372036854775807) (hl : 0 ≤ left) (hl' : left ≤ 1048576) :
    Calls Try.prog 29 #[tabVal a n cap most, .int .i64 left] w fun e w' => e = .returned (.int .i64 (if (n : Int) ≤ left then left - n else -1)) ∧ Below w.heap.size w w' := by
  have hS := fun w => szRowS_any a n cap left w hn hl hl'
  have hb0 : ∀ o, Below w.heap.size w (w.alloc o) := fun o => (Below.refl _ _).alloc (Nat.le_refl _) o
  unfold tabVal
  by_cases h : (n : Int) ≤ left
  · rw [if_pos h] at hS ⊢
    have hd : ¬ (left - (n : Int) < 0) := by omega
    have HS := Lib.hid hS; have HB := Lib.hid hb0
    clear hS hb0
    go_enter Try.func29, Try.ntmps29
    go_wp2_with fail
    refine (HS.out _).mono ?_
    rintro e w1 ⟨rfl, rfl⟩
    go_wp2_with fail
    go_ret
    exact ⟨rfl, HB.out _⟩
  · rw [if_neg h] at hS ⊢
    have HS := Lib.hid hS; have HB := Lib.hid hb0
    clear hS hb0
    go_enter Try.func29, Try.ntmps29
    go_wp2_with fail
    refine (HS.out _).mono ?_
    rintro e w1 ⟨rfl, rfl⟩
    go_wp2_with fail
    go_ret
    exact ⟨rfl, HB.out _⟩

theorem toTable_any (xs : List Rw) (a : Option Addr) (n cap : Nat) (most : Int) (w : World) (hn : xs.length = n) (hx : SlArg 5 Rw.cs w a xs) (hsz : n ≤ 1048576) :
    Calls Try.prog 30 #[tabVal a n cap most] w fun e w' => ∃ b, e = .returned (tabVal (some b) n n most) ∧ SlIn kdRw w' (some b) xs ∧ w.heap.size ≤ b.block ∧ Below w.heap.size w w' := by
  have hT := fun w' (hb : Below w.heap.size w w') => toRowS_any xs a n cap w' hn (hx.after hb) hsz
  have HT := Lib.hid hT
  clear hT hx
  unfold tabVal
  go_enter Try.func30, Try.ntmps30
  go_wp2_with fail
  have hb3 : Below w.heap.size w (((w.alloc (Obj.cells #[Value.slice a n cap, Value.int IntKind.i64 most] 46)).alloc (Obj.cells #[Value.slice none 0 0, Value.int IntKind.i64 0] 26)).alloc (Obj.cells #[Value.slice none 0 0, Value.int IntKind.i64 0] 26)) :=
    (((Below.refl _ _).alloc (Nat.le_refl _) _).alloc (by simp) _).alloc (by simp; omega) _
  have f0 : Blk (((w.alloc (Obj.cells #[Value.slice a n cap, Value.int IntKind.i64 most] 46)).alloc (Obj.cells #[Value.slice none 0 0, Value.int IntKind.i64 0] 26)).alloc (Obj.cells #[Value.slice none 0 0, Value.int IntKind.i64 0] 26)) w.heap.size #[Value.slice a n cap, Value.int IntKind.i64 most] 46 := ((blk_new _ _ rfl).alloc _).alloc _
  have f1 : Blk (((w.alloc (Obj.cells #[Value.slice a n cap, Value.int IntKind.i64 most] 46)).alloc (Obj.cells #[Value.slice none 0 0, Value.int IntKind.i64 0] 26)).alloc (Obj.cells #[Value.slice none 0 0, Value.int IntKind.i64 0] 26)) (w.heap.size + 1) #[Value.slice none 0 0, Value.int IntKind.i64 0] 26 := (blk_new _ _ (by simp)).alloc _
  have f2 : Blk (((w.alloc (Obj.cells #[Value.slice a n cap, Value.int IntKind.i64 most] 46)).alloc (Obj.cells #[Value.slice none 0 0, Value.int IntKind.i64 0] 26)).alloc (Obj.cells #[Value.slice none 0 0, Value.int IntKind.i64 0] 26)) (w.heap.size + 1 + 1) #[Value.slice none 0 0, Value.int IntKind.i64 0] 26 := blk_new _ _ (by simp)
  generalize ((w.alloc (Obj.cells #[Value.slice a n cap, Value.int IntKind.i64 most] 46)).alloc (Obj.cells #[Value.slice none 0 0, Value.int IntKind.i64 0] 26)).alloc (Obj.cells #[Value.slice none 0 0, Value.int IntKind.i64 0] 26) = w3 at hb3 f0 f1 f2 ⊢
  have hl3 : w.heap.size + 1 + 1 < w3.heap.size := f2.lt
  have hlz := hb3.size
  refine (HT.out w3 hb3).mono ?_
  rintro e w4 ⟨rfl, hs, hb4⟩
  replace f0 := f0.after hb4
  replace f1 := f1.after hb4
  replace f2 := f2.after hb4
  have c0 : w4.cell? ⟨w.heap.size, 1, none⟩ = some (.int .i64 most) := f0.cell 1
  have d2 : w4.cell? ⟨w.heap.size + 1 + 1, 0, none⟩ = some (.slice none 0 0) := f2.cell 0
  have d3 : w4.cell? ⟨w.heap.size + 1 + 1, 1, none⟩ = some (.int .i64 0) := f2.cell 1
  have e2 : w4.cell? ⟨w.heap.size + 1, 0, none⟩ = some (.slice none 0 0) := f1.cell 0
  have e3 : w4.cell? ⟨w.heap.size + 1, 1, none⟩ = some (.int .i64 0) := f1.cell 1
  have z2 := f2.frozen
  have z1 := f1.frozen
  have y1 := f1.shape
  have y2 := f2.shape
  have hle := hb3.size
  have hl2 := f2.lt
  have g1 := (((f1.other (g := w.heap.size + 1 + 1) (j := 0) (by omega) (.slice (some ⟨w3.heap.size, 0, none⟩) n n)).other (g := w.heap.size + 1 + 1) (j := 1) (by omega) (.int .i64 most)).set 0 (.slice (some ⟨w3.heap.size, 0, none⟩) n n)).set 1 (.int .i64 most)
  have hB : Below w.heap.size w ((((w4.setCell ⟨w.heap.size + 1 + 1, 0, none⟩ (.slice (some ⟨w3.heap.size, 0, none⟩) n n)).setCell ⟨w.heap.size + 1 + 1, 1, none⟩ (.int .i64 most)).setCell ⟨w.heap.size + 1, 0, none⟩ (.slice (some ⟨w3.heap.size, 0, none⟩) n n)).setCell ⟨w.heap.size + 1, 1, none⟩ (.int .i64 most)) :=
    ((((hb3.trans (hb4.mono hle)).setCell (by simp only; omega) _).setCell (by simp only; omega) _).setCell (by simp only; omega) _).setCell (by simp only; omega) _
  have hS : SlIn kdRw ((((w4.setCell ⟨w.heap.size + 1 + 1, 0, none⟩ (.slice (some ⟨w3.heap.size, 0, none⟩) n n)).setCell ⟨w.heap.size + 1 + 1, 1, none⟩ (.int .i64 most)).setCell ⟨w.heap.size + 1, 0, none⟩ (.slice (some ⟨w3.heap.size, 0, none⟩) n n)).setCell ⟨w.heap.size + 1, 1, none⟩ (.int .i64 most)) (some ⟨w3.heap.size, 0, none⟩) xs :=
    hs.turned (B := [w.heap.size + 1 + 1, w.heap.size + 1]) (((((Turned.refl _ w4).setCell (by simp) _).setCell (by simp) _).setCell (by simp) _).setCell (by simp) _) (fun x hx _ hm => by
      cases hx
      have h2 : w.heap.size + 1 + 1 < w3.heap.size := by assumption
      simp at hm
      omega)
  have G1 := Lib.hid g1; have HB := Lib.hid hB; have HS := Lib.hid hS
  clear f0 f1 f2 hb3 hb4 hs hle hl2 g1 hB hS HT
  go_wp2_with fail
  have r0 : (((((w4.setCell ⟨w.heap.size + 1 + 1, 0, none⟩ (.slice (some ⟨w3.heap.size, 0, none⟩) n n)).setCell ⟨w.heap.size + 1 + 1, 1, none⟩ (.int .i64 most)).setCell ⟨w.heap.size + 1, 0, none⟩ (.slice (some ⟨w3.heap.size, 0, none⟩) n n)).setCell ⟨w.heap.size + 1, 1, none⟩ (.int .i64 most))).cell? ⟨w.heap.size + 1, 0, none⟩ = some (.slice (some ⟨w3.heap.size, 0, none⟩) n n) := G1.out.cell 0
  have r1 : (((((w4.setCell ⟨w.heap.size + 1 + 1, 0, none⟩ (.slice (some ⟨w3.heap.size, 0, none⟩) n n)).setCell ⟨w.heap.size + 1 + 1, 1, none⟩ (.int .i64 most)).setCell ⟨w.heap.size + 1, 0, none⟩ (.slice (some ⟨w3.heap.size, 0, none⟩) n n)).setCell ⟨w.heap.size + 1, 1, none⟩ (.int .i64 most))).cell? ⟨w.heap.size + 1, 1, none⟩ = some (.int .i64 most) := G1.out.cell 1
  have HBo := HB.out; have HSo := HS.out
  clear G1 HB HS
  generalize ((((w4.setCell ⟨w.heap.size + 1 + 1, 0, none⟩ (.slice (some ⟨w3.heap.size, 0, none⟩) n n)).setCell ⟨w.heap.size + 1 + 1, 1, none⟩ (.int .i64 most)).setCell ⟨w.heap.size + 1, 0, none⟩ (.slice (some ⟨w3.heap.size, 0, none⟩) n n)).setCell ⟨w.heap.size + 1, 1, none⟩ (.int .i64 most)) = W at r0 r1 HBo HSo ⊢
  exact bodyPost_ret (v := .agg #[.slice (some ⟨w3.heap.size, 0, none⟩) n n, .int .i64 most]) (by simp [results, Try.results30, go_sem, r0, r1]) rfl ⟨_, rfl, HSo, hlz, HBo⟩

theorem eqTable_any (xs ys : List Rw) (a b : Option Addr) (n m cap cap' : Nat) (p q : Int) (w : World) (hn : xs.length = n) (hm : ys.length = m) (hx : SlIn kdRw w a xs) (hy : SlIn kdRw w b ys) (hsz : n ≤ 2097152) :
    Calls Try.prog 31 #[tabVal a n cap p, tabVal b m cap' q] w fun e w' => e = .returned (.bool (decide (xs = ys ∧ p = q))) ∧ Below w.heap.size w w' := by
  have hE := fun w' (h : Below w.heap.size w w') => eqRowS_any xs ys a b n m cap cap' w' hn hm (hx.after h) (hy.after h) hsz
  rw [Bool.decide_and]
  generalize decide (xs = ys) = r at hE ⊢
  obtain ⟨s, hs⟩ : ∃ s, (r && decide (p = q)) = s := ⟨_, rfl⟩
  rw [hs]
  have HS := Lib.hid hs
  clear hs
  have hc0 : ∀ w', Below ((w.alloc (.cells #[.slice a n cap, .int .i64 p] 26)).alloc (.cells #[.slice b m cap', .int .i64 q] 26)).heap.size ((w.alloc (.cells #[.slice a n cap, .int .i64 p] 26)).alloc (.cells #[.slice b m cap', .int .i64 q] 26)) w' →
      w'.cell? ⟨w.heap.size, 1, none⟩ = some (.int .i64 p) ∧ w'.cell? ⟨w.heap.size + 1, 1, none⟩ = some (.int .i64 q) := fun w' h =>
    ⟨(((blk_new _ _ rfl).alloc _).after h).cell 1, ((blk_new _ _ (by simp)).after h).cell 1⟩
  have hb2 : Below w.heap.size w ((w.alloc (.cells #[.slice a n cap, .int .i64 p] 26)).alloc (.cells #[.slice b m cap', .int .i64 q] 26)) := ((Below.refl _ _).alloc (Nat.le_refl _) _).alloc (by simp) _
  have HE := Lib.hid hE; have HC := Lib.hid hc0; have HB2 := Lib.hid hb2
  clear hE hc0 hx hy hb2
  unfold tabVal
  go_enter Try.func31, Try.ntmps31
  go_wp2_with fail
  refine (HE.out _ HB2.out).mono ?_
  rintro e w3 ⟨rfl, hb3⟩
  obtain ⟨c0, c1⟩ := HC.out w3 hb3
  have hfin := HB2.out.trans (hb3.mono HB2.out.size)
  have HF := Lib.hid hfin
  clear hb3 hfin
  cases r
  · go_wp2_with fail
    go_ret
    exact ⟨by rw [← HS.out]; rfl, HF.out⟩
  by_cases hpq : p = q
  · have he : s = true := by rw [← HS.out, decide_eq_true hpq]; rfl
    subst hpq he
    go_wp2_with fail
    go_ret
    exact ⟨rfl, HF.out⟩
  · have he : s = false := by rw [← HS.out, decide_eq_false hpq]; rfl
    have hq : (p != q) = true := by simp [hpq]
    subst he
    go_wp2_with fail
    go_ret
    exact ⟨rfl, HF.out⟩

theorem markTable_any (xs : List Rw) (a : Option Addr) (n cap : Nat) (most k0 : Int) (w : World) (hn : xs.length = n) (hx : SlIn kdRw w a xs) (hsz : n ≤ 2097152) (h0 : 0 ≤ k0) (h1 : k0 ≤ 1099511627776) :
    Calls Try.prog 33 #[tabVal a n cap most, .int .i64 k0] w fun e w' => e = .returned (.int .i64 (k0 + 5 * n)) ∧ Turned (blkN a n) w w' ∧ SlIn kdRw w' a (markRs k0 n) := by
  have hb : Below w.heap.size w (w.alloc (.cells #[.slice a n cap, .int .i64 most] 26)) := (Below.refl _ _).alloc (Nat.le_refl _) _
  have hM := markRowS_any xs a n cap k0 _ hn (hx.after hb) hsz h0 h1
  have HM := Lib.hid hM; have HB := Lib.hid hb
  clear hM hx hb
  unfold tabVal
  go_enter Try.func33, Try.ntmps33
  go_wp2_with fail
  refine HM.out.mono ?_
  rintro e w2 ⟨rfl, hT, hs⟩
  have hT2 := (Turned.of_below (B := blkN a n) HB.out).trans1 hT
  have HT := Lib.hid hT2; have HS := Lib.hid hs
  clear hT hs hT2
  go_wp2_with fail
  go_ret
  exact ⟨rfl, HT.out, HS.out⟩

theorem heldTable_any (a : Option Addr) (n cap : Nat) (most k0 : Int) (w : World) (hx : SlIn kdRw w a (markRs k0 n)) (hsz : n ≤ 2097152) (h0 : 0 ≤ k0) (h1 : k0 ≤ 1099511627776) :
    Calls Try.prog 34 #[tabVal a n cap most, .int .i64 k0] w fun e w' => e = .returned (.int .i64 (k0 + 5 * n)) ∧ Below w.heap.size w w' := by
  have hb : Below w.heap.size w (w.alloc (.cells #[.slice a n cap, .int .i64 most] 26)) := (Below.refl _ _).alloc (Nat.le_refl _) _
  have hM := heldRowS_any a n cap k0 _ (hx.after hb) hsz h0 h1
  have HM := Lib.hid hM; have HB := Lib.hid hb
  clear hM hx hb
  have hq : ¬ (k0 + 5 * (n : Int) < 0) := by omega
  unfold tabVal
  go_enter Try.func34, Try.ntmps34
  go_wp2_with fail
  refine HM.out.mono ?_
  rintro e w2 ⟨rfl, rfl⟩
  go_wp2_with fail
  go_ret
  exact ⟨rfl, HB.out⟩
end Go.Proofs.Ytleebmbnjdoinaa
