/- Rows of the address table: their values and cells; how a row of rows lies in memory. -/
import Derived.Test.YtleebmbnjdoinaaSl
import Derived.Deep.RegionHeld3
import Derived.Deep.RegionWith
namespace Go.Proofs.Ytleebmbnjdoinaa
open Go.RowKit

structure Rw where
  vid : Int
  mac : Int
  port : Int
  at_ : Int
  fixed : Bool
deriving DecidableEq

instance : Inhabited Rw := ⟨⟨0, 0, 0, 0, false⟩⟩
def Rw.cs (r : Rw) : List Value := [.int .i64 r.vid, .int .i64 r.mac, .int .i64 r.port, .int .i64 r.at_, .bool r.fixed]
/-- a row as the program holds it -/
def Rw.val (r : Rw) : Value := .agg #[.int .i64 r.vid, .int .i64 r.mac, .int .i64 r.port, .int .i64 r.at_, .bool r.fixed]
def kdRw : Kd Rw := ⟨34, 5, Rw.cs, fun _ => rfl⟩

theorem eqRow_any (a b : Rw) (w : World) : Calls Try.prog 85 #[a.val, b.val] w fun e w' => e = .returned (.bool (decide (a = b))) ∧ Below w.heap.size w w' := by
  obtain ⟨a0, a1, a2, a3, a4⟩ := a
  obtain ⟨b0, b1, b2, b3, b4⟩ := b
  have hbw : ∀ o o', Below w.heap.size w ((w.alloc o).alloc o') := fun o o' => ((Below.refl _ _).alloc (Nat.le_refl _) _).alloc (by simp) _
  unfold Rw.val
  simp only
  obtain ⟨r, hr⟩ : ∃ r, decide ((⟨a0, a1, a2, a3, a4⟩ : Rw) = ⟨b0, b1, b2, b3, b4⟩) = r := ⟨_, rfl⟩
  rw [hr]
  simp only [Rw.mk.injEq] at hr
  have HBW := Lib.hid hbw
  clear hbw
  by_cases h0 : a0 = b0
  case neg =>
    obtain rfl : r = false := by rw [← hr]; simp [h0]
    have q : (a0 != b0) = true := by simp [h0]
    clear hr
    go_enter Try.func85, Try.ntmps85
    go_wp2_with fail
    go_ret
    exact ⟨rfl, HBW.out _ _⟩
  subst h0
  by_cases h1 : a1 = b1
  case neg =>
    obtain rfl : r = false := by rw [← hr]; simp [h1]
    have q : (a1 != b1) = true := by simp [h1]
    clear hr
    go_enter Try.func85, Try.ntmps85
    go_wp2_with fail
    go_ret
    exact ⟨rfl, HBW.out _ _⟩
  subst h1
  by_cases h2 : a2 = b2
  case neg =>
    obtain rfl : r = false := by rw [← hr]; simp [h2]
    have q : (a2 != b2) = true := by simp [h2]
    clear hr
    go_enter Try.func85, Try.ntmps85
    go_wp2_with fail
    go_ret
    exact ⟨rfl, HBW.out _ _⟩
  subst h2
  by_cases h3 : a3 = b3
  case neg =>
    obtain rfl : r = false := by rw [← hr]; simp [h3]
    have q : (a3 != b3) = true := by simp [h3]
    clear hr
    go_enter Try.func85, Try.ntmps85
    go_wp2_with fail
    go_ret
    exact ⟨rfl, HBW.out _ _⟩
  subst h3
  cases a4 <;> cases b4 <;>
  · simp only [Bool.false_eq_true, Bool.true_eq_false, and_false, and_true, decide_false, decide_true] at hr
    subst hr
    go_enter Try.func85, Try.ntmps85
    go_wp2_with fail
    go_ret
    exact ⟨rfl, HBW.out _ _⟩

/-- the cells of a row at place p -/
def RowAt (w : World) (g p : Nat) (r : Rw) : Prop :=
  w.cell? ⟨g, p, none⟩ = some (.int .i64 r.vid) ∧ w.cell? ⟨g, p + 1, none⟩ = some (.int .i64 r.mac) ∧ w.cell? ⟨g, p + 2, none⟩ = some (.int .i64 r.port) ∧ w.cell? ⟨g, p + 3, none⟩ = some (.int .i64 r.at_) ∧ w.cell? ⟨g, p + 4, none⟩ = some (.bool r.fixed)
theorem rowAt {w : World} {a : Option Addr} {xs : List Rw} (h : SlIn kdRw w a xs) (k : Nat) (hk : k < xs.length) :
    ∃ g o, a = some ⟨g, o, none⟩ ∧ g < w.heap.size ∧ ∀ w', Below w.heap.size w w' → RowAt w' g (o + k * 5) (xs[k]'hk) ∧ ∀ j, w'.frozen? ⟨g, j, none⟩ = false := by
  obtain ⟨g, o, ha, hg, hw⟩ := h.at k hk
  exact ⟨g, o, ha, hg, fun w' hb => ⟨⟨(hw w' hb).1 0 (by decide), (hw w' hb).1 1 (by decide), (hw w' hb).1 2 (by decide), (hw w' hb).1 3 (by decide), (hw w' hb).1 4 (by decide)⟩, (hw w' hb).2⟩⟩

set_option linter.unusedSimpArgs false in
theorem eqRowS_any (xs ys : List Rw) (a b : Option Addr) (n m cap cap' : Nat) (w : World) (hn : xs.length = n) (hm : ys.length = m) (hx : SlIn kdRw w a xs) (hy : SlIn kdRw w b ys) (hsz : n ≤ 2097152) :
    Calls Try.prog 60 #[.slice a n cap, .slice b m cap'] w fun e w' => e = .returned (.bool (decide (xs = ys))) ∧ Below w.heap.size w w' := by
  by_cases hl : n = m
  case neg =>
    have hne : ((n : Int) != (m : Int)) = true := by simp; omega
    rw [decide_eq_false (fun e => hl (by rw [← hn, ← hm, e]))]
    clear hx hy
    go_enter Try.func60, Try.ntmps60
    go_wp2_with fail
    go_ret
    exact ⟨rfl, Below.refl _ _⟩
  subst hl
  have HX := Lib.hid hx; have HY := Lib.hid hy; have HN := Lib.hid hn; have HM := Lib.hid hm
  clear hx hy hn hm
  go_enter Try.func60, Try.ntmps60
  go_wp2_with fail
  go_loopw [5] (fun i wr => ∃ k : Nat, i = .int .i64 (k : Nat) ∧ k ≤ n ∧ Below w.heap.size w wr ∧ Hid (xs.take k = ys.take k))
    (fun i _ => n - (intOf i).toNat)
  case atStart => exact ⟨0, rfl, Nat.zero_le _, Below.refl _ _, Lib.hid rfl⟩
  case round =>
    obtain ⟨k, rfl, hk, hB0, HT⟩ := hrel
    by_cases hlt : k < n
    · go_wp2_with fail
      have hkx : k < xs.length := by rw [HN.out]; exact hlt
      have hky : k < ys.length := by rw [HM.out]; exact hlt
      obtain ⟨g, o, rfl, _, hA'⟩ := rowAt HX.out k hkx
      obtain ⟨g', o', rfl, _, hB'⟩ := rowAt HY.out k hky
      have hA := fun w' (hb : Below wr.heap.size wr w') => (hA' w' (hB0.trans (hb.mono hB0.size))).1
      have hB := fun w' (hb : Below wr.heap.size wr w') => (hB' w' (hB0.trans (hb.mono hB0.size))).1
      clear hA' hB'
      have hq := eqRow_any xs[k] ys[k]
      obtain ⟨r, hr⟩ : ∃ r, decide (xs[k] = ys[k]) = r := ⟨_, rfl⟩
      rw [hr] at hq
      have HR := Lib.hid hr
      clear hr
      generalize xs[k] = x at hA hq
      generalize ys[k] = y at hB hq
      obtain ⟨x0, x1, x2, x3, x4⟩ := x
      obtain ⟨y0, y1, y2, y3, y4⟩ := y
      unfold Rw.val at hq
      unfold RowAt at hA hB
      simp only at hq hA hB
      have HQ := Lib.hid hq
      clear hq
      refine wp_region_held_drew (S := fun w' => Below wr.heap.size wr w') (by kernel_rfl) (Below.drew (Below.refl _ _)) (fun hHeld => ?_)
      refine wpAnyH_take (i := 0) (v := ?v1) rfl (by kernel_rfl) (by kernel_rfl) (by kernel_rfl) (fun _ _ _ h => h) (Or.inl ⟨by rfl, ?h1⟩) hHeld ?r1
      case h1 => intro wq hS; go_simp; with_reducible rfl
      try simp only [Act.put, List.getElem_toArray, List.getElem_cons_zero, List.getElem_cons_succ, List.setIfInBounds_toArray, List.set_cons_zero, List.set_cons_succ]
      refine wpAnyH_take (i := 1) (v := ?v2) rfl (by kernel_rfl) (by kernel_rfl) (by kernel_rfl) (fun _ _ _ h => h) (Or.inl ⟨by rfl, ?h2⟩) hHeld ?r2
      case h2 => intro wq hS; go_simp; with_reducible rfl
      try simp only [Act.put, List.getElem_toArray, List.getElem_cons_zero, List.getElem_cons_succ, List.setIfInBounds_toArray, List.set_cons_zero, List.set_cons_succ]
      refine wpAnyH_take (i := 2) (v := ?v3) rfl (by kernel_rfl) (by kernel_rfl) (by kernel_rfl) (fun _ _ _ h => h) (Or.inl ⟨by rfl, ?h3⟩) hHeld ?r3
      case h3 => intro wq hS; go_simp; with_reducible rfl
      try simp only [Act.put, List.getElem_toArray, List.getElem_cons_zero, List.getElem_cons_succ, List.setIfInBounds_toArray, List.set_cons_zero, List.set_cons_succ]
      refine wpAnyH_take (i := 3) (v := ?v4) rfl (by kernel_rfl) (by kernel_rfl) (by kernel_rfl) (fun _ _ _ h => h) (Or.inl ⟨by rfl, ?h4⟩) hHeld ?r4
      case h4 => intro wq hS; obtain ⟨c0, c1, c2, c3, c4⟩ := hA wq hS; go_simp; with_reducible rfl
      try simp only [Act.put, List.getElem_toArray, List.getElem_cons_zero, List.getElem_cons_succ, List.setIfInBounds_toArray, List.set_cons_zero, List.set_cons_succ]
      refine wpAnyH_take (i := 4) (v := ?v5) rfl (by kernel_rfl) (by kernel_rfl) (by kernel_rfl) (fun _ _ _ h => h) (Or.inl ⟨by rfl, ?h5⟩) hHeld ?r5
      case h5 => intro wq hS; go_simp; with_reducible rfl
      try simp only [Act.put, List.getElem_toArray, List.getElem_cons_zero, List.getElem_cons_succ, List.setIfInBounds_toArray, List.set_cons_zero, List.set_cons_succ]
      refine wpAnyH_take (i := 5) (v := ?v6) rfl (by kernel_rfl) (by kernel_rfl) (by kernel_rfl) (fun _ _ _ h => h) (Or.inl ⟨by rfl, ?h6⟩) hHeld ?r6
      case h6 => intro wq hS; go_simp; with_reducible rfl
      try simp only [Act.put, List.getElem_toArray, List.getElem_cons_zero, List.getElem_cons_succ, List.setIfInBounds_toArray, List.set_cons_zero, List.set_cons_succ]
      refine wpAnyH_take (i := 6) (v := ?v7) rfl (by kernel_rfl) (by kernel_rfl) (by kernel_rfl) (fun _ _ _ h => h) (Or.inl ⟨by rfl, ?h7⟩) hHeld ?r7
      case h7 => intro wq hS; go_simp; with_reducible rfl
      try simp only [Act.put, List.getElem_toArray, List.getElem_cons_zero, List.getElem_cons_succ, List.setIfInBounds_toArray, List.set_cons_zero, List.set_cons_succ]
      refine wpAnyH_take (i := 7) (v := ?v8) rfl (by kernel_rfl) (by kernel_rfl) (by kernel_rfl) (fun _ _ _ h => h) (Or.inl ⟨by rfl, ?h8⟩) hHeld ?r8
      case h8 => intro wq hS; obtain ⟨c0, c1, c2, c3, c4⟩ := hB wq hS; go_simp; with_reducible rfl
      try simp only [Act.put, List.getElem_toArray, List.getElem_cons_zero, List.getElem_cons_succ, List.setIfInBounds_toArray, List.set_cons_zero, List.set_cons_succ]
      refine wpAnyH_ready (rs := [8]) (by kernel_rfl) (by simp) ?_
      refine AllReadyH.cons rfl (fun K hK => ?_) AllReadyH.nil
      go_simp
      refine (HQ.out _).mono ?_
      rintro e w2 ⟨rfl, hb2⟩
      refine hK.out _ _ (hHeld.trans (hb2.mono hHeld.size)) (fun hHeld => ?_)
      clear hK K
      try simp only [Act.put, List.getElem_toArray, List.getElem_cons_zero, List.getElem_cons_succ, List.setIfInBounds_toArray, List.set_cons_zero, List.set_cons_succ]
      refine wpAnyH_take (i := 9) (v := ?v9) rfl (by kernel_rfl) (by kernel_rfl) (by kernel_rfl) (fun _ _ _ h => h) (Or.inl ⟨by rfl, ?h9⟩) hHeld ?r9
      case h9 => intro wq hS; go_simp; with_reducible rfl
      try simp only [Act.put, List.getElem_toArray, List.getElem_cons_zero, List.getElem_cons_succ, List.setIfInBounds_toArray, List.set_cons_zero, List.set_cons_succ]
      refine wpAnyH_done (by kernel_rfl) ?_ _
      have hbf := hB0.trans (hHeld.mono hB0.size)
      have HBF := Lib.hid hbf
      clear hHeld hA hB hB0 hbf hb2
      cases r
      · go_wp2_with fail
        go_ret
        exact ⟨by rw [decide_eq_false (ne_of_get hkx hky (of_decide_eq_false HR.out))]; rfl, HBF.out⟩
      · go_wp2_with fail
        go_roundw
        case rel => exact ⟨k + 1, by go_num, by omega, HBF.out, Lib.hid (take_step hkx hky HT.out (of_decide_eq_true HR.out))⟩
        case measure => simp [intOf]; omega
    · have hke : k = n := by omega
      have hlt' : ¬ ((k : Int) < (n : Int)) := by omega
      have he : xs = ys := eq_of_takes HN.out HM.out (by rw [← hke]; exact HT.out)
      have HE := Lib.hid he
      clear he hke
      go_wp2_with fail
      go_ret
      exact ⟨by rw [decide_eq_true HE.out]; rfl, hB0⟩
end Go.Proofs.Ytleebmbnjdoinaa
