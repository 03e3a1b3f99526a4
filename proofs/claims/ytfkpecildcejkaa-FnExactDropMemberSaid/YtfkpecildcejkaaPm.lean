/- Slices of numbers in the laws: measured, copied in, compared, marked, held. -/
import Derived.Test.YtfkpecildcejkaaPo
import Derived.Test.YtfkpecildcejkaaRwT
namespace Go.Proofs.Ytfkpecildcejkaa
open Go.RowKit

theorem int_put0 {w : World} {g : Nat} {xs : List Int} (h : SlIn kdI w (some ⟨g, 0, none⟩) xs) (k : Nat) (hk : k < xs.length) (x : Int) :
    SlIn kdI (w.setCell ⟨g, k, none⟩ (.int .i64 x)) (some ⟨g, 0, none⟩) (xs.set k x) ∧ Turned [g] w (w.setCell ⟨g, k, none⟩ (.int .i64 x)) := by
  have e := h.put0 k hk x
  rw [show k * kdI.sz = k from Nat.mul_one k] at e
  exact e
theorem int_put {w : World} {g o : Nat} {xs : List Int} (h : SlIn kdI w (some ⟨g, o, none⟩) xs) (k : Nat) (hk : k < xs.length) (x : Int) :
    SlIn kdI (w.setCell ⟨g, o + k, none⟩ (.int .i64 x)) (some ⟨g, o, none⟩) (xs.set k x) ∧ Turned [g] w (w.setCell ⟨g, o + k, none⟩ (.int .i64 x)) := by
  have e := h.put k hk x
  rw [show k * kdI.sz = k from Nat.mul_one k] at e
  exact e

theorem szIntS_any (a : Option Addr) (n cap : Nat) (left : Int) (w : World) (hn : n ≤ 9223372036854775807) (hl : 0 ≤ left) (hl' : left ≤ 1048576) :
    Calls Try.prog 64 #[.slice a n cap, .int .i64 left] w fun e w' => e = .returned (.int .i64 (if (n : Int) ≤ left then left - n else -1)) ∧ w = w' := by
  by_cases h : (n : Int) ≤ left
  · rw [if_pos h]
    have h' : ¬ (left - (n : Int) < 0) := by omega
    go_enter Try.func64, Try.ntmps64
    go_wp2_with fail
    go_ret
    exact ⟨rfl, rfl⟩
  · rw [if_neg h]
    have h' : left - (n : Int) < 0 := by omega
    go_enter Try.func64, Try.ntmps64
    go_wp2_with fail
    go_ret
    exact ⟨rfl, rfl⟩

theorem toIntS_any (xs : List Int) (a : Option Addr) (n cap : Nat) (w : World) (hn : xs.length = n) (hx : SlArg 1 intCs w a xs) (hsz : n ≤ 1048576) :
    Calls Try.prog 65 #[.slice a n cap] w fun e w' => e = .returned (.slice (some ⟨w.heap.size, 0, none⟩) n n) ∧ SlIn kdI w' (some ⟨w.heap.size, 0, none⟩) xs ∧ Below w.heap.size w w' ∧ (n ≠ 0 → w.heap.size < w'.heap.size) := by
  obtain ⟨i0, hi, hz0, hz1, hz2⟩ := info_parts infoI
  have HX := Lib.hid hx; have HN := Lib.hid hn
  clear hx hn
  go_enter Try.func65, Try.ntmps65
  go_wp2_with (at_make; refine wpList_make_full _ rfl _ _ 24 rfl w.heap.size 3 i0 (.int .i64 0) 1 Try.underlying24 hi hz0 hz1 .i64 .i64 _ _ n rfl rfl rfl rfl (by rw [hz2]; omega) (by unfold maxLen; omega) (Nat.le_refl _) ?_)
  intro w1 hown hgrow
  have hs0 : SlIn kdI w1 (some ⟨w.heap.size, 0, none⟩) (xs.take 0 ++ List.replicate (n - 0) 0) := by
    have hm := made_flat kdI 0 n (by decide)
    rw [show n * kdI.sz = n from Nat.mul_one n] at hm
    have hown' : w1.ownsRow w.heap.size kdI.e kdI.sz (.slice (some ⟨w.heap.size, 0, none⟩) n n) n ((List.replicate n (0 : Int)).flatMap kdI.cs) := by rw [← hm]; exact hown
    obtain ⟨_, _, e, h, _⟩ := SlIn.of_owns (K := kdI) hown' (by simp)
    cases e
    simpa using h
  have hb1 : Below w.heap.size w w1 := (Below.refl _ _).grown hgrow (Nat.le_refl _) (fun k e => by cases e)
  have HS0 := Lib.hid hs0
  clear hown hs0 hgrow
  go_wp2_with fail
  go_loopw [4] (fun i wr => ∃ k : Nat, i = .int .i64 (k : Nat) ∧ k ≤ n ∧ Below w.heap.size w wr ∧ Hid (SlIn kdI wr (some ⟨w.heap.size, 0, none⟩) (xs.take k ++ List.replicate (n - k) 0)))
    (fun i _ => n - (intOf i).toNat)
  case atStart => exact ⟨0, rfl, Nat.zero_le _, hb1, HS0⟩
  case round =>
    obtain ⟨k, rfl, hk, hB, HS⟩ := hrel
    by_cases hlt : k < n
    · have hkx : k < xs.length := by rw [HN.out]; exact hlt
      have hkf : k < (xs.take k ++ List.replicate (n - k) (0 : Int)).length := by rw [List.length_append, List.length_take, List.length_replicate, HN.out]; omega
      obtain ⟨x, rfl, hxl, hc⟩ := HX.out k hkx
      have d0 := (hB.cell (p := x.add (k * 1 + 0)) (by rw [add_block]; exact hxl)).trans (hc 0 (by decide))
      rw [Nat.mul_one, Nat.add_zero] at d0
      have hput := int_put0 HS.out k hkf xs[k]
      rw [set_fill HN.out hlt] at hput
      have hget := intAt HS.out k hkf
      obtain ⟨_, _, e, hg0, hA⟩ := hget
      cases e
      obtain ⟨c0, hfz⟩ := hA wr (Below.refl _ _)
      clear hA hc
      generalize xs[k] = r at d0 hput
      generalize (xs.take k ++ List.replicate (n - k) (0 : Int))[k] = r0 at c0
      replace d0 : wr.cell? (x.add k) = some (.int .i64 r) := d0
      have HP := Lib.hid hput; have HBB := Lib.hid hB
      rw [Nat.zero_add] at c0
      clear hput hB
      go_wp2_with fail
      have HB3 := Lib.hid (HBB.out.trans (HP.out.2.below HBB.out.size (fun b hb => by simp at hb; omega)))
      go_roundw
      case rel => exact ⟨k + 1, by go_num, by omega, HB3.out, Lib.hid HP.out.1⟩
      case measure => simp [intOf]; omega
    · have hke : k = n := by omega
      have hlt' : ¬ ((k : Int) < (n : Int)) := by omega
      have hs : SlIn kdI wr (some ⟨w.heap.size, 0, none⟩) xs := by
        have e := HS.out
        rw [hke, Nat.sub_self, List.take_of_length_le (by rw [HN.out]; exact Nat.le_refl _)] at e
        simpa using e
      have HS2 := Lib.hid hs
      clear HS hs
      go_wp2_with fail
      go_ret
      exact ⟨rfl, HS2.out, hB, fun h0 => HS2.out.lt _ rfl (fun e => h0 (by rw [← HN.out, e]; rfl))⟩

set_option linter.unusedSimpArgs false in
theorem eqIntS_any (xs ys : List Int) (a b : Option Addr) (n m cap cap' : Nat) (w : World) (hn : xs.length = n) (hm : ys.length = m) (hx : SlIn kdI w a xs) (hy : SlIn kdI w b ys) (hsz : n ≤ 2097152) :
    Calls Try.prog 66 #[.slice a n cap, .slice b m cap'] w fun e w' => e = .returned (.bool (decide (xs = ys))) ∧ Below w.heap.size w w' := by
  by_cases hl : n = m
  case neg =>
    have hne : ((n : Int) != (m : Int)) = true := by simp; omega
    rw [decide_eq_false (fun e => hl (by rw [← hn, ← hm, e]))]
    clear hx hy
    go_enter Try.func66, Try.ntmps66
    go_wp2_with fail
    go_ret
    exact ⟨rfl, Below.refl _ _⟩
  subst hl
  obtain ⟨r, hr⟩ : ∃ r, decide (xs = ys) = r := ⟨_, rfl⟩
  rw [hr]
  have HX := Lib.hid hx; have HY := Lib.hid hy; have HN := Lib.hid hn; have HM := Lib.hid hm; have HR := Lib.hid hr
  clear hx hy hn hm hr
  go_enter Try.func66, Try.ntmps66
  go_wp2_with fail
  go_loopw [5] (fun i wr => ∃ k : Nat, i = .int .i64 (k : Nat) ∧ k ≤ n ∧ Below w.heap.size w wr ∧ Hid (xs.take k = ys.take k))
    (fun i _ => n - (intOf i).toNat)
  case atStart => exact ⟨0, rfl, Nat.zero_le _, Below.refl _ _, Lib.hid rfl⟩
  case round =>
    obtain ⟨k, rfl, hk, hB0, HT⟩ := hrel
    have HWR := Lib.hid hB0
    clear hB0
    by_cases hlt : k < n
    · have hkx : k < xs.length := by rw [HN.out]; exact hlt
      have hky : k < ys.length := by rw [HM.out]; exact hlt
      obtain ⟨g, o, rfl, _, hA'⟩ := intAt HX.out k hkx
      obtain ⟨g', o', rfl, _, hB'⟩ := intAt HY.out k hky
      have hA := fun w' (hb : Below wr.heap.size wr w') => (hA' w' (HWR.out.trans (hb.mono HWR.out.size))).1
      have hB := fun w' (hb : Below wr.heap.size wr w') => (hB' w' (HWR.out.trans (hb.mono HWR.out.size))).1
      clear hA' hB'
      by_cases he : xs[k] = ys[k]
      · have HT1 := Lib.hid (take_step hkx hky HT.out he)
        rw [← he] at hB
        generalize xs[k] = y at hA hB
        clear he
        have hq : (y != y) = false := by simp
        go_wp2_with fail
        refine wp_region_held_drew (S := fun w' => Below wr.heap.size wr w') (by kernel_rfl) (Below.drew (Below.refl _ _)) (fun hHeld => ?_)
        refine wpAnyH_take (i := 0) (v := ?v10) rfl (by kernel_rfl) (by kernel_rfl) (by kernel_rfl) (fun _ _ _ h => h) (Or.inl ⟨by rfl, ?h10⟩) hHeld ?r10
        case h10 => intro wq hS; go_simp; with_reducible rfl
        try simp only [Act.put, List.getElem_toArray, List.getElem_cons_zero, List.getElem_cons_succ, List.setIfInBounds_toArray, List.set_cons_zero, List.set_cons_succ]
        refine wpAnyH_take (i := 1) (v := ?v11) rfl (by kernel_rfl) (by kernel_rfl) (by kernel_rfl) (fun _ _ _ h => h) (Or.inl ⟨by rfl, ?h11⟩) hHeld ?r11
        case h11 => intro wq hS; go_simp; with_reducible rfl
        try simp only [Act.put, List.getElem_toArray, List.getElem_cons_zero, List.getElem_cons_succ, List.setIfInBounds_toArray, List.set_cons_zero, List.set_cons_succ]
        refine wpAnyH_take (i := 2) (v := ?v12) rfl (by kernel_rfl) (by kernel_rfl) (by kernel_rfl) (fun _ _ _ h => h) (Or.inl ⟨by rfl, ?h12⟩) hHeld ?r12
        case h12 => intro wq hS; go_simp; with_reducible rfl
        try simp only [Act.put, List.getElem_toArray, List.getElem_cons_zero, List.getElem_cons_succ, List.setIfInBounds_toArray, List.set_cons_zero, List.set_cons_succ]
        refine wpAnyH_take (i := 3) (v := ?v13) rfl (by kernel_rfl) (by kernel_rfl) (by kernel_rfl) (fun _ _ _ h => h) (Or.inl ⟨by rfl, ?h13⟩) hHeld ?r13
        case h13 => intro wq hS; have c := hA wq hS; go_simp; with_reducible rfl
        try simp only [Act.put, List.getElem_toArray, List.getElem_cons_zero, List.getElem_cons_succ, List.setIfInBounds_toArray, List.set_cons_zero, List.set_cons_succ]
        refine wpAnyH_take (i := 4) (v := ?v14) rfl (by kernel_rfl) (by kernel_rfl) (by kernel_rfl) (fun _ _ _ h => h) (Or.inl ⟨by rfl, ?h14⟩) hHeld ?r14
        case h14 => intro wq hS; go_simp; with_reducible rfl
        try simp only [Act.put, List.getElem_toArray, List.getElem_cons_zero, List.getElem_cons_succ, List.setIfInBounds_toArray, List.set_cons_zero, List.set_cons_succ]
        refine wpAnyH_take (i := 5) (v := ?v15) rfl (by kernel_rfl) (by kernel_rfl) (by kernel_rfl) (fun _ _ _ h => h) (Or.inl ⟨by rfl, ?h15⟩) hHeld ?r15
        case h15 => intro wq hS; go_simp; with_reducible rfl
        try simp only [Act.put, List.getElem_toArray, List.getElem_cons_zero, List.getElem_cons_succ, List.setIfInBounds_toArray, List.set_cons_zero, List.set_cons_succ]
        refine wpAnyH_take (i := 6) (v := ?v16) rfl (by kernel_rfl) (by kernel_rfl) (by kernel_rfl) (fun _ _ _ h => h) (Or.inl ⟨by rfl, ?h16⟩) hHeld ?r16
        case h16 => intro wq hS; go_simp; with_reducible rfl
        try simp only [Act.put, List.getElem_toArray, List.getElem_cons_zero, List.getElem_cons_succ, List.setIfInBounds_toArray, List.set_cons_zero, List.set_cons_succ]
        refine wpAnyH_take (i := 7) (v := ?v17) rfl (by kernel_rfl) (by kernel_rfl) (by kernel_rfl) (fun _ _ _ h => h) (Or.inl ⟨by rfl, ?h17⟩) hHeld ?r17
        case h17 => intro wq hS; have c2 := hB wq hS; go_simp; with_reducible rfl
        try simp only [Act.put, List.getElem_toArray, List.getElem_cons_zero, List.getElem_cons_succ, List.setIfInBounds_toArray, List.set_cons_zero, List.set_cons_succ]
        refine wpAnyH_take (i := 8) (v := ?v18) rfl (by kernel_rfl) (by kernel_rfl) (by kernel_rfl) (fun _ _ _ h => h) (Or.inl ⟨by rfl, ?h18⟩) hHeld ?r18
        case h18 => intro wq hS; go_simp; with_reducible rfl
        try simp only [Act.put, List.getElem_toArray, List.getElem_cons_zero, List.getElem_cons_succ, List.setIfInBounds_toArray, List.set_cons_zero, List.set_cons_succ]
        refine wpAnyH_done (by kernel_rfl) ?_ _
        have hbf := HWR.out.trans (hHeld.mono HWR.out.size)
        have HBF := Lib.hid hbf
        clear hHeld hbf hA hB
        go_wp2_with fail
        go_roundw
        case rel => exact ⟨k + 1, by go_num, by omega, HBF.out, HT1⟩
        case measure => simp [intOf]; omega
      · have hne := ne_of_get hkx hky he
        obtain rfl : r = false := by rw [← HR.out]; exact decide_eq_false hne
        obtain ⟨y, hy⟩ : ∃ y, xs[k] = y := ⟨_, rfl⟩
        obtain ⟨y2, hy2⟩ : ∃ y, ys[k] = y := ⟨_, rfl⟩
        rw [hy, hy2] at he
        simp only [hy] at hA
        simp only [hy2] at hB
        have hq : (y != y2) = true := by simp [he]
        clear he hne hy hy2
        go_wp2_with fail
        refine wp_region_held_drew (S := fun w' => Below wr.heap.size wr w') (by kernel_rfl) (Below.drew (Below.refl _ _)) (fun hHeld => ?_)
        refine wpAnyH_take (i := 0) (v := ?v1) rfl (by kernel_rfl) (by kernel_rfl) (by kernel_rfl) (fun _ _ _ h => h) (Or.inl ⟨by rfl, ?h1⟩) hHeld ?r1
        case h1 => intro wq hS; go_simp; with_reducible rfl
        try simp only [Act.put, List.getElem_toArray, List.getElem_cons_zero, List.getElem_cons_succ, List.setIfInBounds_toArray, List.set_cons_zero, List.set_cons_succ]
        refine wpAnyH_take (i := 1) (v := ?v2) rfl (by kernel_rfl) (by kernel_rfl) (by kernel_rfl) (fun _ _ _ h => h) (Or.inl ⟨by rfl, ?h2⟩) hHeld ?r2
        case h2 => intro wq hS; go_simp; with_reducible rfl
        try simp only [Act.put, List.getElem_toArray, List.getElem_cons_zero, List.getElem_cons_succ, List.setIfInBounds_toArray, List.set_cons_zero, List.set_cons_succ]
        refine wpAnyH_take (i := 2) (v := ?v3) rfl (by kernel_rfl) (by kernel_rfl) (by kernel_rfl) (fun _ _ _ h => h) (Or.inl ⟨by rfl, ?h3⟩) hHeld ?r3
        case h3 => intro wq hS; go_simp; with_reducible rfl
        try simp only [Act.put, List.getElem_toArray, List.getElem_cons_zero, List.getElem_cons_succ, List.setIfInBounds_toArray, List.set_cons_zero, List.set_cons_succ]
        refine wpAnyH_take (i := 3) (v := ?v4) rfl (by kernel_rfl) (by kernel_rfl) (by kernel_rfl) (fun _ _ _ h => h) (Or.inl ⟨by rfl, ?h4⟩) hHeld ?r4
        case h4 => intro wq hS; have c := hA wq hS; go_simp; with_reducible rfl
        try simp only [Act.put, List.getElem_toArray, List.getElem_cons_zero, List.getElem_cons_succ, List.setIfInBounds_toArray, List.set_cons_zero, List.set_cons_succ]
        refine wpAnyH_take (i := 4) (v := ?v5) rfl (by kernel_rfl) (by kernel_rfl) (by kernel_rfl) (fun _ _ _ h => h) (Or.inl ⟨by rfl, ?h5⟩) hHeld ?r5
        case h5 => intro wq hS; go_simp; with_reducible rfl
        try simp only [Act.put, List.getElem_toArray, List.getElem_cons_zero, List.getElem_cons_succ, List.setIfInBounds_toArray, List.set_cons_zero, List.set_cons_succ]
        refine wpAnyH_take (i := 5) (v := ?v6) rfl (by kernel_rfl) (by kernel_rfl) (by kernel_rfl) (fun _ _ _ h => h) (Or.inl ⟨by rfl, ?h6⟩) hHeld ?r6
        case h6 => intro wq hS; go_simp; with_reducible rfl
        try simp only [Act.put, List.getElem_toArray, List.getElem_cons_zero, List.getElem_cons_succ, List.setIfInBounds_toArray, List.set_cons_zero, List.set_cons_succ]
        refine wpAnyH_take (i := 6) (v := ?v7) rfl (by kernel_rfl) (by kernel_rfl) (by kernel_rfl) (fun _ _ _ h => h) (Or.inl ⟨by rfl, ?h7⟩) hHeld ?r7
        case h7 => intro wq hS; go_simp; with_reducible rfl
        try simp only [Act.put, List.getElem_toArray, List.getElem_cons_zero, List.getElem_cons_succ, List.setIfInBounds_toArray, List.set_cons_zero, List.set_cons_succ]
        refine wpAnyH_take (i := 7) (v := ?v8) rfl (by kernel_rfl) (by kernel_rfl) (by kernel_rfl) (fun _ _ _ h => h) (Or.inl ⟨by rfl, ?h8⟩) hHeld ?r8
        case h8 => intro wq hS; have c2 := hB wq hS; go_simp; with_reducible rfl
        try simp only [Act.put, List.getElem_toArray, List.getElem_cons_zero, List.getElem_cons_succ, List.setIfInBounds_toArray, List.set_cons_zero, List.set_cons_succ]
        refine wpAnyH_take (i := 8) (v := ?v9) rfl (by kernel_rfl) (by kernel_rfl) (by kernel_rfl) (fun _ _ _ h => h) (Or.inl ⟨by rfl, ?h9⟩) hHeld ?r9
        case h9 => intro wq hS; go_simp; with_reducible rfl
        try simp only [Act.put, List.getElem_toArray, List.getElem_cons_zero, List.getElem_cons_succ, List.setIfInBounds_toArray, List.set_cons_zero, List.set_cons_succ]
        refine wpAnyH_done (by kernel_rfl) ?_ _
        have hbf := HWR.out.trans (hHeld.mono HWR.out.size)
        have HBF := Lib.hid hbf
        clear hHeld hbf hA hB
        go_wp2_with fail
        go_ret
        exact ⟨rfl, HBF.out⟩
    · have hke : k = n := by omega
      have hlt' : ¬ ((k : Int) < (n : Int)) := by omega
      have hT := HT.out
      rw [hke] at hT
      obtain rfl : r = true := by rw [← HR.out]; exact decide_eq_true (eq_of_takes HN.out HM.out hT)
      clear hT hke
      go_wp2_with fail
      go_ret
      exact ⟨rfl, HWR.out⟩

def markIs (k : Int) : Nat → List Int
  | 0 => []
  | n + 1 => markIs k n ++ [k + n]
theorem markIs_len (k : Int) : ∀ n, (markIs k n).length = n
  | 0 => rfl
  | n + 1 => by simp [markIs, markIs_len k n]
theorem markIs_get (k0 : Int) : ∀ (n k : Nat) (h : k < (markIs k0 n).length), (markIs k0 n)[k]'h = k0 + (k : Int)
  | 0, k, h => absurd h (by simp [markIs])
  | n + 1, k, h => by
    simp only [markIs]
    by_cases hk : k < n
    · rw [List.getElem_append_left (by rw [markIs_len]; exact hk)]
      exact markIs_get k0 n k _
    · have h' : k < n + 1 := by rw [markIs_len] at h; exact h
      obtain rfl : k = n := by omega
      rw [List.getElem_append_right (by rw [markIs_len]; exact Nat.le_refl _)]
      simp

theorem markIntS_any (xs : List Int) (a : Option Addr) (n cap : Nat) (k0 : Int) (w : World) (hn : xs.length = n) (hx : SlIn kdI w a xs) (hsz : n ≤ 2097152) (h0 : 0 ≤ k0) (h1 : k0 ≤ 1099511627776) :
    Calls Try.prog 67 #[.slice a n cap, .int .i64 k0] w fun e w' => e = .returned (.int .i64 (k0 + n)) ∧ Turned (blkN a n) w w' ∧ SlIn kdI w' a (markIs k0 n) := by
  have HX := Lib.hid hx; have HN := Lib.hid hn
  clear hx hn
  go_enter Try.func67, Try.ntmps67
  go_wp2_with fail
  go_loopw [1, 5] (fun q i wr => ∃ k : Nat, i = .int .i64 (k : Nat) ∧ q = .int .i64 (k0 + (k : Int)) ∧ k ≤ n ∧ Turned (blkN a n) w wr ∧ Hid (SlIn kdI wr a (markIs k0 k ++ xs.drop k)))
    (fun _ i _ => n - (intOf i).toNat)
  case atStart => exact ⟨0, rfl, by simp, Nat.zero_le _, Turned.refl _ _, Lib.hid (by simpa [markIs] using HX.out)⟩
  case round =>
    obtain ⟨k, rfl, rfl, hk, hT, HS⟩ := hrel
    by_cases hlt : k < n
    · have hkx : k < (markIs k0 k ++ xs.drop k).length := by rw [List.length_append, markIs_len, List.length_drop, HN.out]; omega
      obtain ⟨g, o, rfl, hg, hA⟩ := intAt HS.out k hkx
      obtain ⟨c0, hfz⟩ := hA wr (Below.refl _ _)
      clear hA
      generalize (markIs k0 k ++ xs.drop k)[k] = r0 at c0
      have hn0 : n ≠ 0 := by omega
      rw [blkN_some hn0] at hT
      have hput := int_put HS.out k hkx (k0 + (k : Int))
      rw [set_drop (markIs_len k0 k) _ (by rw [List.length_drop, HN.out]; omega), List.drop_drop] at hput
      have HP := Lib.hid hput; have HTT := Lib.hid hT
      clear hput hT
      go_wp2_with fail
      clear c0 hfz
      go_roundw
      case rel => exact ⟨k + 1, by go_num, by go_num, by omega, by rw [blkN_some hn0]; exact HTT.out.trans1 HP.out.2, Lib.hid HP.out.1⟩
      case measure => simp [intOf]; omega
    · have hke : k = n := by omega
      have hlt' : ¬ ((k : Int) < (n : Int)) := by omega
      have hs : SlIn kdI wr a (markIs k0 n) := by
        have e := HS.out
        rw [hke, List.drop_of_length_le (by rw [HN.out]; exact Nat.le_refl _), List.append_nil] at e
        exact e
      have HS2 := Lib.hid hs
      subst hke
      clear HS hs
      go_wp2_with fail
      go_ret
      exact ⟨rfl, hT, HS2.out⟩

theorem heldIntS_any (a : Option Addr) (n cap : Nat) (k0 : Int) (w : World) (hx : SlIn kdI w a (markIs k0 n)) (hsz : n ≤ 2097152) (h0 : 0 ≤ k0) (h1 : k0 ≤ 1099511627776) :
    Calls Try.prog 68 #[.slice a n cap, .int .i64 k0] w fun e w' => e = .returned (.int .i64 (k0 + n)) ∧ w = w' := by
  have HX := Lib.hid hx
  clear hx
  go_enter Try.func68, Try.ntmps68
  go_wp2_with fail
  go_loop [1, 5] (fun q i => ∃ k : Nat, i = .int .i64 (k : Nat) ∧ q = .int .i64 (k0 + (k : Int)) ∧ k ≤ n)
    (fun _ i => n - (intOf i).toNat)
  case atStart => exact ⟨0, rfl, by simp, Nat.zero_le _⟩
  case round =>
    obtain ⟨k, rfl, rfl, hk⟩ := hrel
    by_cases hlt : k < n
    · obtain ⟨g, o, rfl, hg, hA⟩ := intAt HX.out k (by rw [markIs_len]; exact hlt)
      have c0 := (hA w (Below.refl _ _)).1
      rw [markIs_get] at c0
      clear hA
      go_wp2_with fail
      go_round
      case rel => exact ⟨k + 1, by go_num, by go_num, by omega⟩
      case measure => simp [intOf]; omega
    · have hke : k = n := by omega
      have hlt' : ¬ ((k : Int) < (n : Int)) := by omega
      subst hke
      go_wp2_with fail
      go_ret
      exact ⟨rfl, rfl⟩
end Go.Proofs.Ytfkpecildcejkaa
