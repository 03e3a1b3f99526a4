/- The program's ports: whether one is right, what comes in by it. -/
import Derived.Test.YtfkpecildcejkaaHs
import Derived.Test.YtfkpecildcejkaaCp
namespace Go.Proofs.Ytfkpecildcejkaa
open Go.RowKit

theorem holds_impl (xs ys : List Int) (a b : Option Addr) (n m ca cb : Nat) (w : World) (hn : xs.length = n) (hm : ys.length = m) (hx : SlIn kdI w a xs) (hy : SlIn kdI w b ys) (hsz : n ≤ 2097152) (hsm : m ≤ 2097152) :
    Calls Try.prog 84 #[.slice a n ca, .slice b m cb] w fun e w' => e = .returned (.bool (decide (∀ x ∈ ys, x ∈ xs))) ∧ w' = w := by
  obtain ⟨r, hr⟩ : ∃ r, decide (∀ x ∈ ys, x ∈ xs) = r := ⟨_, rfl⟩
  rw [hr]
  have hH := fun x => has_impl xs a n ca x w hn hx hsz
  have HH := Lib.hid hH; have HY := Lib.hid hy; have HM := Lib.hid hm; have HR := Lib.hid hr
  clear hx hn hr hy hm hH
  go_enter Try.func84, Try.ntmps84
  go_wp2_with fail
  go_loopw [6, 9] (fun _ i wr => ∃ k : Nat, i = .int .i64 (k : Nat) ∧ k ≤ m ∧ wr = w ∧ Hid (∀ x ∈ ys.take k, x ∈ xs))
    (fun _ i _ => m - (intOf i).toNat)
  case atStart => exact ⟨0, rfl, Nat.zero_le _, rfl, Lib.hid (by simp)⟩
  case round =>
    obtain ⟨k, rfl, hk, rfl, HT⟩ := hrel
    by_cases hlt : k < m
    · have hkx : k < ys.length := by rw [HM.out]; exact hlt
      obtain ⟨g, o, rfl, _, hA⟩ := intAt HY.out k hkx
      have hc := (hA wr (Below.refl _ _)).1
      clear hA
      have hmt := fun x => mem_take_succ (x := x) hkx
      have HMT := Lib.hid hmt; clear hmt
      have hmem : ys[k] ∈ ys := List.getElem_mem hkx
      have HMem := Lib.hid hmem; clear hmem
      obtain ⟨y, hy⟩ : ∃ y, ys[k] = y := ⟨_, rfl⟩
      rw [hy] at hc
      have HC := Lib.hid (HH.out y)
      obtain ⟨q, hq⟩ : ∃ q, decide (y ∈ xs) = q := ⟨_, rfl⟩
      rw [hq] at HC
      have HQ := Lib.hid hq; have HYE := Lib.hid hy
      clear hq hy
      go_wp2_with fail
      refine HC.out.mono ?_
      rintro e w1 ⟨rfl, rfl⟩
      cases q
      · obtain rfl : r = false := by rw [← HR.out]; exact decide_eq_false (fun h => of_decide_eq_false HQ.out (HYE.out ▸ h _ HMem.out))
        go_wp2_with fail
        go_ret
        exact ⟨rfl, rfl⟩
      · go_wp2_with fail
        go_roundw
        case rel => exact ⟨k + 1, by go_num, by omega, by first | trivial | rfl, Lib.hid (fun x hx => ((HMT.out x).1 hx).elim (HT.out x) (fun e => by rw [e, HYE.out]; exact of_decide_eq_true HQ.out))⟩
        case measure => simp [intOf]; omega
    · have hke : k = m := by omega
      have hlt' : ¬ ((k : Int) < (m : Int)) := by omega
      obtain rfl : r = true := by rw [← HR.out]; exact decide_eq_true (by have h := HT.out; rwa [List.take_of_length_le (by rw [HM.out]; omega)] at h)
      clear hke
      go_wp2_with fail
      go_ret
      exact ⟨rfl, rfl⟩

def ascTo (xs : List Int) (k : Nat) : Prop := (xs.take k).Pairwise (· < ·)
theorem ascTo_all {xs : List Int} {n : Nat} (hn : xs.length = n) {k : Nat} (hk : n ≤ k) (h : ascTo xs k) : xs.Pairwise (· < ·) := by
  unfold ascTo at h
  rwa [List.take_of_length_le (by omega)] at h
theorem ascTo_one (xs : List Int) : ascTo xs 1 := by
  unfold ascTo
  cases xs with
  | nil => simp
  | cons a l => simp
theorem ascTo_succ {xs : List Int} {k : Nat} (h : k + 1 < xs.length) (hT : ascTo xs (k + 1)) (hlt : xs[k] < xs[k + 1]) : ascTo xs (k + 1 + 1) := by
  unfold ascTo at *
  rw [List.take_succ_eq_append_getElem h, List.pairwise_append]
  refine ⟨hT, by simp, fun a ha b hb => ?_⟩
  simp only [List.mem_singleton] at hb
  subst hb
  rw [List.take_succ_eq_append_getElem (by omega)] at hT ha
  rcases List.mem_append.1 ha with ha | ha
  · have h1 := (List.pairwise_append.1 hT).2.2 a ha _ (List.mem_singleton.2 rfl)
    omega
  · rw [List.mem_singleton] at ha
    rw [ha]; exact hlt

set_option linter.unusedSimpArgs false in
set_option maxHeartbeats 1000000 in
theorem asc_impl (xs : List Int) (a : Option Addr) (n cap : Nat) (w : World) (hn : xs.length = n) (hx : SlIn kdI w a xs) (hsz : n ≤ 2097152) :
    Calls Try.prog 93 #[.slice a n cap] w fun e w' => e = .returned (.bool (decide (xs.Pairwise (· < ·)))) ∧ Below w.heap.size w w' := by
  have HX := Lib.hid hx; have HN := Lib.hid hn
  clear hx hn
  obtain ⟨r, hr⟩ : ∃ r, decide (xs.Pairwise (· < ·)) = r := ⟨_, rfl⟩
  rw [hr]
  have HR := Lib.hid hr
  clear hr
  go_enter Try.func93, Try.ntmps93
  go_wp2_with fail
  go_loopw [3] (fun i wr => ∃ k : Nat, i = .int .i64 ((k : Int) + 1) ∧ (k = 0 ∨ k < n) ∧ Below w.heap.size w wr ∧ Hid (ascTo xs (k + 1)))
    (fun i _ => n + 1 - (intOf i).toNat)
  case atStart => exact ⟨0, rfl, Or.inl rfl, Below.refl _ _, Lib.hid (ascTo_one xs)⟩
  case round =>
    obtain ⟨k, rfl, hk, hB0, HT⟩ := hrel
    have HWR := Lib.hid hB0
    clear hB0
    by_cases hlt : k + 1 < n
    · have hlti : (k : Int) + 1 < (n : Int) := by omega
      have hkx : k + 1 < xs.length := by rw [HN.out]; exact hlt
      obtain ⟨g, o, rfl, _, hA⟩ := intAt HX.out k (by omega)
      have hC := fun w' (hb : Below wr.heap.size wr w') => (hA w' (HWR.out.trans (hb.mono HWR.out.size))).1
      clear hA
      obtain ⟨g', o', e, _, hA⟩ := intAt HX.out (k + 1) hkx
      simp only [Option.some.injEq, Addr.mk.injEq, and_true] at e
      obtain ⟨rfl, rfl⟩ := e
      have hC2 := fun w' (hb : Below wr.heap.size wr w') => (hA w' (HWR.out.trans (hb.mono HWR.out.size))).1
      clear hA
      have e1 : IntKind.i64.wrap (k : Int) = (k : Int) := IntWalk.i64_in _ (by omega)
      have e2 : (0 : Int) ≤ (k : Int) + 1 := by omega
      have e3 : (k : Int) < (n : Int) := by omega
      obtain ⟨y1, hy1⟩ : ∃ y, xs[k] = y := ⟨_, rfl⟩
      obtain ⟨y2, hy2⟩ : ∃ y, xs[k + 1] = y := ⟨_, rfl⟩
      simp only [hy1] at hC
      simp only [hy2] at hC2
      have HY1 := Lib.hid hy1; have HY2 := Lib.hid hy2
      clear hy1 hy2
      by_cases hle : y2 ≤ y1
      · have hq : decide (y1 ≥ y2) = true := decide_eq_true hle
        obtain rfl : r = false := by rw [← HR.out]; exact decide_eq_false (fun h => by have := List.pairwise_iff_getElem.1 h k (k + 1) (by omega) hkx (by omega); rw [HY1.out, HY2.out] at this; omega)
        go_wp2_with fail
        refine wp_region_held_drew (S := fun w' => Below wr.heap.size wr w') (by kernel_rfl) (Below.drew (Below.refl _ _)) (fun hHeld => ?_)
        refine wpAnyH_take (i := 0) (v := ?v11) rfl (by kernel_rfl) (by kernel_rfl) (by kernel_rfl) (fun _ _ _ h => h) (Or.inl ⟨by rfl, ?h11⟩) hHeld ?r11
        case h11 => intro wq hS; go_simp; with_reducible rfl
        try simp only [Act.put, List.getElem_toArray, List.getElem_cons_zero, List.getElem_cons_succ, List.setIfInBounds_toArray, List.set_cons_zero, List.set_cons_succ]
        refine wpAnyH_take (i := 1) (v := ?v12) rfl (by kernel_rfl) (by kernel_rfl) (by kernel_rfl) (fun _ _ _ h => h) (Or.inl ⟨by rfl, ?h12⟩) hHeld ?r12
        case h12 => intro wq hS; go_simp; with_reducible rfl
        try simp only [Act.put, List.getElem_toArray, List.getElem_cons_zero, List.getElem_cons_succ, List.setIfInBounds_toArray, List.set_cons_zero, List.set_cons_succ]
        refine wpAnyH_take (i := 2) (v := ?v13) rfl (by kernel_rfl) (by kernel_rfl) (by kernel_rfl) (fun _ _ _ h => h) (Or.inl ⟨by rfl, ?h13⟩) hHeld ?r13
        case h13 => intro wq hS; go_simp; with_reducible rfl
        try simp only [Act.put, List.getElem_toArray, List.getElem_cons_zero, List.getElem_cons_succ, List.setIfInBounds_toArray, List.set_cons_zero, List.set_cons_succ]
        refine wpAnyH_take (i := 3) (v := ?v14) rfl (by kernel_rfl) (by kernel_rfl) (by kernel_rfl) (fun _ _ _ h => h) (Or.inl ⟨by rfl, ?h14⟩) hHeld ?r14
        case h14 => intro wq hS; go_simp; with_reducible rfl
        try simp only [Act.put, List.getElem_toArray, List.getElem_cons_zero, List.getElem_cons_succ, List.setIfInBounds_toArray, List.set_cons_zero, List.set_cons_succ]
        refine wpAnyH_take (i := 4) (v := ?v15) rfl (by kernel_rfl) (by kernel_rfl) (by kernel_rfl) (fun _ _ _ h => h) (Or.inl ⟨by rfl, ?h15⟩) hHeld ?r15
        case h15 => intro wq hS; have c := hC wq hS; go_simp; with_reducible rfl
        try simp only [Act.put, List.getElem_toArray, List.getElem_cons_zero, List.getElem_cons_succ, List.setIfInBounds_toArray, List.set_cons_zero, List.set_cons_succ]
        refine wpAnyH_take (i := 5) (v := ?v16) rfl (by kernel_rfl) (by kernel_rfl) (by kernel_rfl) (fun _ _ _ h => h) (Or.inl ⟨by rfl, ?h16⟩) hHeld ?r16
        case h16 => intro wq hS; go_simp; with_reducible rfl
        try simp only [Act.put, List.getElem_toArray, List.getElem_cons_zero, List.getElem_cons_succ, List.setIfInBounds_toArray, List.set_cons_zero, List.set_cons_succ]
        refine wpAnyH_take (i := 6) (v := ?v17) rfl (by kernel_rfl) (by kernel_rfl) (by kernel_rfl) (fun _ _ _ h => h) (Or.inl ⟨by rfl, ?h17⟩) hHeld ?r17
        case h17 => intro wq hS; go_simp; with_reducible rfl
        try simp only [Act.put, List.getElem_toArray, List.getElem_cons_zero, List.getElem_cons_succ, List.setIfInBounds_toArray, List.set_cons_zero, List.set_cons_succ]
        refine wpAnyH_take (i := 7) (v := ?v18) rfl (by kernel_rfl) (by kernel_rfl) (by kernel_rfl) (fun _ _ _ h => h) (Or.inl ⟨by rfl, ?h18⟩) hHeld ?r18
        case h18 => intro wq hS; go_simp; with_reducible rfl
        try simp only [Act.put, List.getElem_toArray, List.getElem_cons_zero, List.getElem_cons_succ, List.setIfInBounds_toArray, List.set_cons_zero, List.set_cons_succ]
        refine wpAnyH_take (i := 8) (v := ?v19) rfl (by kernel_rfl) (by kernel_rfl) (by kernel_rfl) (fun _ _ _ h => h) (Or.inl ⟨by rfl, ?h19⟩) hHeld ?r19
        case h19 => intro wq hS; have c2 := hC2 wq hS; go_simp; with_reducible rfl
        try simp only [Act.put, List.getElem_toArray, List.getElem_cons_zero, List.getElem_cons_succ, List.setIfInBounds_toArray, List.set_cons_zero, List.set_cons_succ]
        refine wpAnyH_take (i := 9) (v := ?v20) rfl (by kernel_rfl) (by kernel_rfl) (by kernel_rfl) (fun _ _ _ h => h) (Or.inl ⟨by rfl, ?h20⟩) hHeld ?r20
        case h20 => intro wq hS; go_simp; with_reducible rfl
        try simp only [Act.put, List.getElem_toArray, List.getElem_cons_zero, List.getElem_cons_succ, List.setIfInBounds_toArray, List.set_cons_zero, List.set_cons_succ]
        refine wpAnyH_done (by kernel_rfl) ?_ _
        have hbf := HWR.out.trans (hHeld.mono HWR.out.size)
        have HBF := Lib.hid hbf
        clear hHeld hbf hC hC2
        go_wp2_with fail
        go_ret
        exact ⟨rfl, HBF.out⟩
      · have hq : decide (y1 ≥ y2) = false := decide_eq_false hle
        have HT1 := Lib.hid (ascTo_succ hkx HT.out (by rw [HY1.out, HY2.out]; omega))
        go_wp2_with fail
        refine wp_region_held_drew (S := fun w' => Below wr.heap.size wr w') (by kernel_rfl) (Below.drew (Below.refl _ _)) (fun hHeld => ?_)
        refine wpAnyH_take (i := 0) (v := ?v21) rfl (by kernel_rfl) (by kernel_rfl) (by kernel_rfl) (fun _ _ _ h => h) (Or.inl ⟨by rfl, ?h21⟩) hHeld ?r21
        case h21 => intro wq hS; go_simp; with_reducible rfl
        try simp only [Act.put, List.getElem_toArray, List.getElem_cons_zero, List.getElem_cons_succ, List.setIfInBounds_toArray, List.set_cons_zero, List.set_cons_succ]
        refine wpAnyH_take (i := 1) (v := ?v22) rfl (by kernel_rfl) (by kernel_rfl) (by kernel_rfl) (fun _ _ _ h => h) (Or.inl ⟨by rfl, ?h22⟩) hHeld ?r22
        case h22 => intro wq hS; go_simp; with_reducible rfl
        try simp only [Act.put, List.getElem_toArray, List.getElem_cons_zero, List.getElem_cons_succ, List.setIfInBounds_toArray, List.set_cons_zero, List.set_cons_succ]
        refine wpAnyH_take (i := 2) (v := ?v23) rfl (by kernel_rfl) (by kernel_rfl) (by kernel_rfl) (fun _ _ _ h => h) (Or.inl ⟨by rfl, ?h23⟩) hHeld ?r23
        case h23 => intro wq hS; go_simp; with_reducible rfl
        try simp only [Act.put, List.getElem_toArray, List.getElem_cons_zero, List.getElem_cons_succ, List.setIfInBounds_toArray, List.set_cons_zero, List.set_cons_succ]
        refine wpAnyH_take (i := 3) (v := ?v24) rfl (by kernel_rfl) (by kernel_rfl) (by kernel_rfl) (fun _ _ _ h => h) (Or.inl ⟨by rfl, ?h24⟩) hHeld ?r24
        case h24 => intro wq hS; go_simp; with_reducible rfl
        try simp only [Act.put, List.getElem_toArray, List.getElem_cons_zero, List.getElem_cons_succ, List.setIfInBounds_toArray, List.set_cons_zero, List.set_cons_succ]
        refine wpAnyH_take (i := 4) (v := ?v25) rfl (by kernel_rfl) (by kernel_rfl) (by kernel_rfl) (fun _ _ _ h => h) (Or.inl ⟨by rfl, ?h25⟩) hHeld ?r25
        case h25 => intro wq hS; have c := hC wq hS; go_simp; with_reducible rfl
        try simp only [Act.put, List.getElem_toArray, List.getElem_cons_zero, List.getElem_cons_succ, List.setIfInBounds_toArray, List.set_cons_zero, List.set_cons_succ]
        refine wpAnyH_take (i := 5) (v := ?v26) rfl (by kernel_rfl) (by kernel_rfl) (by kernel_rfl) (fun _ _ _ h => h) (Or.inl ⟨by rfl, ?h26⟩) hHeld ?r26
        case h26 => intro wq hS; go_simp; with_reducible rfl
        try simp only [Act.put, List.getElem_toArray, List.getElem_cons_zero, List.getElem_cons_succ, List.setIfInBounds_toArray, List.set_cons_zero, List.set_cons_succ]
        refine wpAnyH_take (i := 6) (v := ?v27) rfl (by kernel_rfl) (by kernel_rfl) (by kernel_rfl) (fun _ _ _ h => h) (Or.inl ⟨by rfl, ?h27⟩) hHeld ?r27
        case h27 => intro wq hS; go_simp; with_reducible rfl
        try simp only [Act.put, List.getElem_toArray, List.getElem_cons_zero, List.getElem_cons_succ, List.setIfInBounds_toArray, List.set_cons_zero, List.set_cons_succ]
        refine wpAnyH_take (i := 7) (v := ?v28) rfl (by kernel_rfl) (by kernel_rfl) (by kernel_rfl) (fun _ _ _ h => h) (Or.inl ⟨by rfl, ?h28⟩) hHeld ?r28
        case h28 => intro wq hS; go_simp; with_reducible rfl
        try simp only [Act.put, List.getElem_toArray, List.getElem_cons_zero, List.getElem_cons_succ, List.setIfInBounds_toArray, List.set_cons_zero, List.set_cons_succ]
        refine wpAnyH_take (i := 8) (v := ?v29) rfl (by kernel_rfl) (by kernel_rfl) (by kernel_rfl) (fun _ _ _ h => h) (Or.inl ⟨by rfl, ?h29⟩) hHeld ?r29
        case h29 => intro wq hS; have c2 := hC2 wq hS; go_simp; with_reducible rfl
        try simp only [Act.put, List.getElem_toArray, List.getElem_cons_zero, List.getElem_cons_succ, List.setIfInBounds_toArray, List.set_cons_zero, List.set_cons_succ]
        refine wpAnyH_take (i := 9) (v := ?v30) rfl (by kernel_rfl) (by kernel_rfl) (by kernel_rfl) (fun _ _ _ h => h) (Or.inl ⟨by rfl, ?h30⟩) hHeld ?r30
        case h30 => intro wq hS; go_simp; with_reducible rfl
        try simp only [Act.put, List.getElem_toArray, List.getElem_cons_zero, List.getElem_cons_succ, List.setIfInBounds_toArray, List.set_cons_zero, List.set_cons_succ]
        refine wpAnyH_done (by kernel_rfl) ?_ _
        have hbf := HWR.out.trans (hHeld.mono HWR.out.size)
        have HBF := Lib.hid hbf
        clear hHeld hbf hC hC2
        go_wp2_with fail
        go_roundw
        case rel => exact ⟨k + 1, by go_num, by omega, HBF.out, HT1⟩
        case measure => simp [intOf]; omega
    · have hlti : ¬ ((k : Int) + 1 < (n : Int)) := by omega
      obtain rfl : r = true := by rw [← HR.out]; exact decide_eq_true (ascTo_all HN.out (by omega) HT.out)
      clear hlt
      go_wp2_with fail
      go_ret
      exact ⟨rfl, HWR.out⟩
end Go.Proofs.Ytfkpecildcejkaa
