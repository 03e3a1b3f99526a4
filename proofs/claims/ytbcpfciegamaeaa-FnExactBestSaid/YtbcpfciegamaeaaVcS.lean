/- Vector in the laws: slices of them, copied in, compared, marked, held. -/
import Derived.Test.YtbcpfciegamaeaaVc
import Derived.Test.YtbcpfciegamaeaaSlArg
import Derived.Deep.RegionHeld3
import Derived.Deep.RegionWith
import Derived.Deep.Slices
namespace Go.Proofs.Ytbcpfciegamaeaa
open Go.RowKit Go.ChangeShapes Go.WideShapes

def kdVc : Kd Vc := ⟨25, 4, Vc.cs, fun _ => rfl⟩
/-- its numbers are an int's -/
def Vc.fits (x : Vc) : Prop := (Lit.int .i64 x.root).wf = true ∧ (Lit.int .i64 x.cost).wf = true ∧ (Lit.int .i64 x.bridge).wf = true ∧ (Lit.int .i64 x.port).wf = true
theorem open_vc {H : Type} {enc : TypeId × Value → H} {w : World} {base : Nat} {spare : Nat → Bool} {held : Bool} {r : Reach} {b0 : Nat} {v : Value} {d : DataW H} {p : List MemPlace}
    (hv : Value.okWide Try.prog w r b0 35 v) (h : DataW.Trod enc Try.prog w base spare held 35 v d p) : ∃ g : Vc, v = g.val ∧ g.fits := by
  have hv0 := hv
  obtain ⟨cs, rfl, hsz, hf⟩ := open_fields Try.underlying35 (by kernel_rfl) (by kernel_rfl) hv h
  obtain ⟨l⟩ := cs
  match l, hsz with
  | [c0, c1, c2, c3], _ =>
    obtain ⟨_, _, _, rfl', t0⟩ := hf 0 _ rfl
    cases rfl'
    obtain ⟨_, _, _, rfl', t1⟩ := hf 1 _ rfl
    cases rfl'
    obtain ⟨_, _, _, rfl', t2⟩ := hf 2 _ rfl
    cases rfl'
    obtain ⟨_, _, _, rfl', t3⟩ := hf 3 _ rfl
    cases rfl'
    obtain ⟨n0, e0, _, w0⟩ := DataW.trod_int Try.underlying3 t0
    obtain ⟨n1, e1, _, w1⟩ := DataW.trod_int Try.underlying3 t1
    obtain ⟨n2, e2, _, w2⟩ := DataW.trod_int Try.underlying3 t2
    obtain ⟨n3, e3, _, w3⟩ := DataW.trod_int Try.underlying3 t3
    simp only [List.cons.injEq, and_true] at e0 e1 e2 e3
    subst e0 e1 e2 e3
    exact ⟨⟨n0, n1, n2, n3⟩, rfl, w0, w1, w2, w3⟩

theorem vc_cells {H : Type} {enc : TypeId × Value → H} {w : World} {base : Nat} {spare : Nat → Bool} {held : Bool} {fuel : Nat} {cs : List Value} {y : DataW H × List MemPlace}
    (h : DataW.trod enc Try.prog w base spare held fuel 35 cs = some y) : ∃ r : Vc, cs = r.cs ∧ r.fits := by
  obtain ⟨hlen, hf⟩ := struct_cells Try.underlying35 (by kernel_rfl) (by kernel_rfl) h
  match cs, hlen with
  | [v0, v1, v2, v3], _ =>
    obtain ⟨_, _, _, rfl', t0⟩ := hf 0 _ rfl
    cases rfl'
    obtain ⟨_, _, _, rfl', t1⟩ := hf 1 _ rfl
    cases rfl'
    obtain ⟨_, _, _, rfl', t2⟩ := hf 2 _ rfl
    cases rfl'
    obtain ⟨_, _, _, rfl', t3⟩ := hf 3 _ rfl
    cases rfl'
    obtain ⟨n0, e0, _, w0⟩ := DataW.trod_int Try.underlying3 t0
    obtain ⟨n1, e1, _, w1⟩ := DataW.trod_int Try.underlying3 t1
    obtain ⟨n2, e2, _, w2⟩ := DataW.trod_int Try.underlying3 t2
    obtain ⟨n3, e3, _, w3⟩ := DataW.trod_int Try.underlying3 t3
    simp only [List.cons.injEq, and_true] at e0 e1 e2 e3
    subst e0 e1 e2 e3
    exact ⟨⟨n0, n1, n2, n3⟩, rfl, w0, w1, w2, w3⟩

/-- a slice of them as an argument -/
structure VcsA where
  a : Option Addr
  cap : Nat
  xs : List Vc
def VcsA.val (x : VcsA) : Value := .slice x.a x.xs.length x.cap
def VcsA.ok (x : VcsA) (w : World) : Prop := SlArg 4 Vc.cs w x.a x.xs ∧ x.xs.length ≤ 9223372036854775807 ∧ ∀ r ∈ x.xs, r.fits
theorem open_vcs {H : Type} {enc : TypeId × Value → H} {w : World} {base : Nat} {spare : Nat → Bool} {held : Bool} {r : Reach} {b0 : Nat} {v : Value} {d : DataW H} {p : List MemPlace}
    (hv : Value.okWide Try.prog w r b0 42 v) (h : DataW.Trod enc Try.prog w base spare held 42 v d p) : ∃ x : VcsA, v = x.val ∧ x.ok w := by
  obtain ⟨a, len, cap, rfl⟩ := okWide_slice Try.underlying42 hv
  obtain ⟨fuel, hf⟩ := h
  have hf' : DataW.trod enc Try.prog w base spare held fuel 42 [.slice a len cap] = some (d, p) := by simpa [Value.cells] using hf
  obtain ⟨a', cap', xs, e, hs, hok, hl⟩ := open_sl (cells := Vc.cs) (ok := Vc.fits) (sz := 4) Try.underlying42 (by kernel_rfl) (by decide) (fun h => vc_cells h) hf'
  cases e
  unfold maxLen at hl
  exact ⟨⟨a, cap, xs⟩, rfl, hs, by simp only; omega, hok⟩

theorem toVector_any (x : Vc) (w : World) : Calls Try.prog 21 #[x.val] w fun e w' => e = .returned x.val ∧ Below w.heap.size w w' := by
  obtain ⟨a0, a1, a2, a3⟩ := x
  unfold Vc.val
  go_enter Try.func21, Try.ntmps21
  go_wp2_with fail
  exact bodyPost_ret (v := .agg #[.int .i64 a0, .int .i64 a1, .int .i64 a2, .int .i64 a3]) (by simp [results, Try.results21, go_sem]) rfl ⟨rfl, ((((Below.refl _ _).alloc (Nat.le_refl _) _).alloc (by simp) _).alloc (by simp; omega) _)⟩

theorem eqVector_any (a b : Vc) (w : World) : Calls Try.prog 24 #[a.val, b.val] w fun e w' => e = .returned (.bool (decide (a = b))) ∧ Below w.heap.size w w' := by
  obtain ⟨a0, a1, a2, a3⟩ := a
  obtain ⟨b0, b1, b2, b3⟩ := b
  have hbw : ∀ o o', Below w.heap.size w ((w.alloc o).alloc o') := fun o o' => ((Below.refl _ _).alloc (Nat.le_refl _) _).alloc (by simp) _
  unfold Vc.val
  simp only
  obtain ⟨r, hr⟩ : ∃ r, decide ((⟨a0, a1, a2, a3⟩ : Vc) = ⟨b0, b1, b2, b3⟩) = r := ⟨_, rfl⟩
  rw [hr]
  simp only [Vc.mk.injEq] at hr
  have HBW := Lib.hid hbw
  clear hbw
  by_cases h0 : a0 = b0
  case neg =>
    obtain rfl : r = false := by rw [← hr]; simp [h0]
    have q : (a0 != b0) = true := by simp [h0]
    clear hr
    go_enter Try.func24, Try.ntmps24
    go_wp2_with fail
    go_ret
    exact ⟨rfl, HBW.out _ _⟩
  subst h0
  by_cases h1 : a1 = b1
  case neg =>
    obtain rfl : r = false := by rw [← hr]; simp [h1]
    have q : (a1 != b1) = true := by simp [h1]
    clear hr
    go_enter Try.func24, Try.ntmps24
    go_wp2_with fail
    go_ret
    exact ⟨rfl, HBW.out _ _⟩
  subst h1
  by_cases h2 : a2 = b2
  case neg =>
    obtain rfl : r = false := by rw [← hr]; simp [h2]
    have q : (a2 != b2) = true := by simp [h2]
    clear hr
    go_enter Try.func24, Try.ntmps24
    go_wp2_with fail
    go_ret
    exact ⟨rfl, HBW.out _ _⟩
  subst h2
  by_cases h3 : a3 = b3
  case neg =>
    obtain rfl : r = false := by rw [← hr]; simp [h3]
    have q : (a3 != b3) = true := by simp [h3]
    clear hr
    go_enter Try.func24, Try.ntmps24
    go_wp2_with fail
    go_ret
    exact ⟨rfl, HBW.out _ _⟩
  subst h3
  obtain rfl : r = true := by rw [← hr]; simp
  clear hr
  go_enter Try.func24, Try.ntmps24
  go_wp2_with fail
  go_ret
  exact ⟨rfl, HBW.out _ _⟩

theorem eqVector_same (x : Vc) (w : World) : Calls Try.prog 24 #[x.val, x.val] w fun e w' => e = .returned (.bool true) ∧ Below w.heap.size w w' := by
  have h := eqVector_any x x w
  rwa [decide_eq_true rfl] at h

/-- the cells of an element at place p -/
def VcAt (w : World) (g p : Nat) (r : Vc) : Prop := w.cell? ⟨g, p, none⟩ = some (.int .i64 r.root) ∧ w.cell? ⟨g, p + 1, none⟩ = some (.int .i64 r.cost) ∧ w.cell? ⟨g, p + 2, none⟩ = some (.int .i64 r.bridge) ∧ w.cell? ⟨g, p + 3, none⟩ = some (.int .i64 r.port)
theorem vcAt {w : World} {a : Option Addr} {xs : List Vc} (h : SlIn kdVc w a xs) (k : Nat) (hk : k < xs.length) :
    ∃ g o, a = some ⟨g, o, none⟩ ∧ g < w.heap.size ∧ ∀ w', Below w.heap.size w w' → VcAt w' g (o + k * 4) (xs[k]'hk) ∧ ∀ j, w'.frozen? ⟨g, j, none⟩ = false := by
  obtain ⟨g, o, ha, hg, hw⟩ := h.at k hk
  exact ⟨g, o, ha, hg, fun w' hb => ⟨⟨(hw w' hb).1 0 (by decide), (hw w' hb).1 1 (by decide), (hw w' hb).1 2 (by decide), (hw w' hb).1 3 (by decide)⟩, (hw w' hb).2⟩⟩

set_option linter.unusedSimpArgs false in
set_option linter.unusedVariables false in
theorem eqVectorS_any (xs ys : List Vc) (a b : Option Addr) (n m cap cap' : Nat) (w : World) (hn : xs.length = n) (hm : ys.length = m) (hx : SlIn kdVc w a xs) (hy : SlIn kdVc w b ys) (hsz : n ≤ 2097152) :
    Calls Try.prog 27 #[.slice a n cap, .slice b m cap'] w fun e w' => e = .returned (.bool (decide (xs = ys))) ∧ Below w.heap.size w w' := by
  by_cases hl : n = m
  case neg =>
    have hne : ((n : Int) != (m : Int)) = true := by simp; omega
    rw [decide_eq_false (fun e => hl (by rw [← hn, ← hm, e]))]
    clear hx hy
    go_enter Try.func27, Try.ntmps27
    go_wp2_with fail
    go_ret
    exact ⟨rfl, Below.refl _ _⟩
  subst hl
  have HX := Lib.hid hx; have HY := Lib.hid hy; have HN := Lib.hid hn; have HM := Lib.hid hm
  clear hx hy hn hm
  go_enter Try.func27, Try.ntmps27
  go_wp2_with fail
  go_loopw [5] (fun i wr => ∃ k : Nat, i = .int .i64 (k : Nat) ∧ k ≤ n ∧ Below w.heap.size w wr ∧ Hid (xs.take k = ys.take k))
    (fun i _ => n - (intOf i).toNat)
  case atStart => exact ⟨0, rfl, Nat.zero_le _, Below.refl _ _, Lib.hid rfl⟩
  case round =>
    obtain ⟨k, rfl, hk, hB0, HT⟩ := hrel
    by_cases hlt : k < n
    · go_wp2_with fail
      have hkx : k < xs.length := by rw [HN.out]; exact hlt
      have hky : k < ys.length := by rw [HM.out]; exact hlt
      obtain ⟨g, o, rfl, _, hA'⟩ := vcAt HX.out k hkx
      obtain ⟨g', o', rfl, _, hB'⟩ := vcAt HY.out k hky
      have hA := fun w' (hb : Below wr.heap.size wr w') => (hA' w' (hB0.trans (hb.mono hB0.size))).1
      have hB := fun w' (hb : Below wr.heap.size wr w') => (hB' w' (hB0.trans (hb.mono hB0.size))).1
      clear hA' hB'
      have hq := eqVector_any xs[k] ys[k]
      obtain ⟨r, hr⟩ : ∃ r, decide (xs[k] = ys[k]) = r := ⟨_, rfl⟩
      rw [hr] at hq
      have HR := Lib.hid hr
      clear hr
      generalize xs[k] = x at hA hq
      generalize ys[k] = y at hB hq
      obtain ⟨x0, x1, x2, x3⟩ := x
      obtain ⟨y0, y1, y2, y3⟩ := y
      unfold Vc.val at hq
      unfold VcAt at hA hB
      simp only at hq hA hB
      have HQ := Lib.hid hq
      clear hq
      refine wp_region_held_drew (S := fun w' => Below wr.heap.size wr w') (by kernel_rfl) (Below.drew (Below.refl _ _)) (fun hHeld => ?_)
      refine wpAnyH_take (i := 0) (v := ?v1) rfl (by kernel_rfl) (by kernel_rfl) (by kernel_rfl) (fun _ _ _ h => h) (Or.inl ⟨by rfl, ?h1⟩) hHeld ?r1
      case h1 => intro wq hS; go_simp; with_reducible rfl
      try simp only [Act.put, List.getElem_toArray, List.getElem_cons_zero, List.getElem_cons_succ, List.setIfInBounds_toArray, List.set_cons_zero, List.set_cons_succ]
      refine wpAnyH_take (i := 1) (v := ?v2) rfl (by kernel_rfl) (by kernel_rfl) (by kernel_rfl) (fun _ _ _ h => h) (Or.inl ⟨by rfl, ?h2⟩) hHeld ?r2
      case h2 => intro wq hS; go_simp; with_reducible rfl
      try simp only [Act.put, List.getElem_toArray, List.getElem_cons_zero, List.getElem_cons_succ, List.setIfInBounds_toArray, List.set_cons_zero, List.set_cons_succ]
      refine wpAnyH_take (i := 2) (v := ?v3) rfl (by kernel_rfl) (by kernel_rfl) (by kernel_rfl) (fun _ _ _ h => h) (Or.inl ⟨by rfl, ?h3⟩) hHeld ?r3
      case h3 => intro wq hS; go_simp; with_reducible rfl
      try simp only [Act.put, List.getElem_toArray, List.getElem_cons_zero, List.getElem_cons_succ, List.setIfInBounds_toArray, List.set_cons_zero, List.set_cons_succ]
      refine wpAnyH_take (i := 3) (v := ?v4) rfl (by kernel_rfl) (by kernel_rfl) (by kernel_rfl) (fun _ _ _ h => h) (Or.inl ⟨by rfl, ?h4⟩) hHeld ?r4
      case h4 => intro wq hS; obtain ⟨c0, c1, c2, c3⟩ := hA wq hS; go_simp; with_reducible rfl
      try simp only [Act.put, List.getElem_toArray, List.getElem_cons_zero, List.getElem_cons_succ, List.setIfInBounds_toArray, List.set_cons_zero, List.set_cons_succ]
      refine wpAnyH_take (i := 4) (v := ?v5) rfl (by kernel_rfl) (by kernel_rfl) (by kernel_rfl) (fun _ _ _ h => h) (Or.inl ⟨by rfl, ?h5⟩) hHeld ?r5
      case h5 => intro wq hS; go_simp; with_reducible rfl
      try simp only [Act.put, List.getElem_toArray, List.getElem_cons_zero, List.getElem_cons_succ, List.setIfInBounds_toArray, List.set_cons_zero, List.set_cons_succ]
      refine wpAnyH_take (i := 5) (v := ?v6) rfl (by kernel_rfl) (by kernel_rfl) (by kernel_rfl) (fun _ _ _ h => h) (Or.inl ⟨by rfl, ?h6⟩) hHeld ?r6
      case h6 => intro wq hS; go_simp; with_reducible rfl
      try simp only [Act.put, List.getElem_toArray, List.getElem_cons_zero, List.getElem_cons_succ, List.setIfInBounds_toArray, List.set_cons_zero, List.set_cons_succ]
      refine wpAnyH_take (i := 6) (v := ?v7) rfl (by kernel_rfl) (by kernel_rfl) (by kernel_rfl) (fun _ _ _ h => h) (Or.inl ⟨by rfl, ?h7⟩) hHeld ?r7
      case h7 => intro wq hS; go_simp; with_reducible rfl
      try simp only [Act.put, List.getElem_toArray, List.getElem_cons_zero, List.getElem_cons_succ, List.setIfInBounds_toArray, List.set_cons_zero, List.set_cons_succ]
      refine wpAnyH_take (i := 7) (v := ?v8) rfl (by kernel_rfl) (by kernel_rfl) (by kernel_rfl) (fun _ _ _ h => h) (Or.inl ⟨by rfl, ?h8⟩) hHeld ?r8
      case h8 => intro wq hS; obtain ⟨c0, c1, c2, c3⟩ := hB wq hS; go_simp; with_reducible rfl
      try simp only [Act.put, List.getElem_toArray, List.getElem_cons_zero, List.getElem_cons_succ, List.setIfInBounds_toArray, List.set_cons_zero, List.set_cons_succ]
      refine wpAnyH_ready (rs := [8]) (by kernel_rfl) (by simp) ?_
      refine AllReadyH.cons rfl (fun K hK => ?_) AllReadyH.nil
      go_simp
      refine (HQ.out _).mono ?_
      rintro e w2 ⟨rfl, hb2⟩
      refine hK.out _ _ (hHeld.trans (hb2.mono hHeld.size)) (fun hHeld => ?_)
      clear hK K
      try simp only [Act.put, List.getElem_toArray, List.getElem_cons_zero, List.getElem_cons_succ, List.setIfInBounds_toArray, List.set_cons_zero, List.set_cons_succ]
      refine wpAnyH_take (i := 9) (v := ?v9) rfl (by kernel_rfl) (by kernel_rfl) (by kernel_rfl) (fun _ _ _ h => h) (Or.inl ⟨by rfl, ?h9⟩) hHeld ?r9
      case h9 => intro wq hS; go_simp; with_reducible rfl
      try simp only [Act.put, List.getElem_toArray, List.getElem_cons_zero, List.getElem_cons_succ, List.setIfInBounds_toArray, List.set_cons_zero, List.set_cons_succ]
      refine wpAnyH_done (by kernel_rfl) ?_ _
      have hbf := hB0.trans (hHeld.mono hB0.size)
      have HBF := Lib.hid hbf
      clear hHeld hA hB hB0 hbf hb2
      cases r
      · go_wp2_with fail
        go_ret
        exact ⟨by rw [decide_eq_false (ne_of_get hkx hky (of_decide_eq_false HR.out))]; rfl, HBF.out⟩
      · go_wp2_with fail
        go_roundw
        case rel => exact ⟨k + 1, by go_num, by omega, HBF.out, Lib.hid (take_step hkx hky HT.out (of_decide_eq_true HR.out))⟩
        case measure => simp [intOf]; omega
    · have hke : k = n := by omega
      have hlt' : ¬ ((k : Int) < (n : Int)) := by omega
      have he : xs = ys := eq_of_takes HN.out HM.out (by rw [← hke]; exact HT.out)
      have HE := Lib.hid he
      clear he hke
      go_wp2_with fail
      go_ret
      exact ⟨by rw [decide_eq_true HE.out]; rfl, hB0⟩

theorem szVectorS_any (a : Option Addr) (n cap : Nat) (left : Int) (w : World) (hn : n ≤ 9223372036854775807) (hl : 0 ≤ left) (hl' : left ≤ 1048576) :
    Calls Try.prog 25 #[.slice a n cap, .int .i64 left] w fun e w' => e = .returned (.int .i64 (if (n : Int) ≤ left then left - n else -1)) ∧ w = w' := by
  by_cases h : (n : Int) ≤ left
  · rw [if_pos h]
    have h' : ¬ (left - (n : Int) < 0) := by omega
    go_enter Try.func25, Try.ntmps25
    go_wp2_with fail
    go_ret
    exact ⟨rfl, rfl⟩
  · rw [if_neg h]
    have h' : left - (n : Int) < 0 := by omega
    go_enter Try.func25, Try.ntmps25
    go_wp2_with fail
    go_ret
    exact ⟨rfl, rfl⟩

theorem infoVc : (Try.prog.info? 25).map (fun i => (i.zero, i.size, i.bytes)) = some (some (.agg #[.int .i64 0, .int .i64 0, .int .i64 0, .int .i64 0]), 4, 32) := by kernel_rfl

set_option linter.unusedSimpArgs false in
theorem toVectorS_any (xs : List Vc) (a : Option Addr) (n cap : Nat) (w : World) (hn : xs.length = n) (hx : SlArg 4 Vc.cs w a xs) (hsz : n ≤ 1048576) :
    Calls Try.prog 26 #[.slice a n cap] w fun e w' => e = .returned (.slice (some ⟨w.heap.size, 0, none⟩) n n) ∧ SlIn kdVc w' (some ⟨w.heap.size, 0, none⟩) xs ∧ Below w.heap.size w w' := by
  obtain ⟨i0, hi, hz0, hz1, hz2⟩ := info_parts infoVc
  have HX := Lib.hid hx; have HN := Lib.hid hn
  clear hx hn
  go_enter Try.func26, Try.ntmps26
  go_wp2_with (at_make; refine wpList_make_full _ rfl _ _ 29 rfl w.heap.size 25 i0 (.agg #[.int .i64 0, .int .i64 0, .int .i64 0, .int .i64 0]) 4 Try.underlying29 hi hz0 hz1 .i64 .i64 _ _ n rfl rfl rfl rfl (by rw [hz2]; omega) (by unfold maxLen; omega) (Nat.le_refl _) ?_)
  intro w1 hown hgrow
  have hs0 : SlIn kdVc w1 (some ⟨w.heap.size, 0, none⟩) (xs.take 0 ++ List.replicate (n - 0) ⟨0, 0, 0, 0⟩) := by
    have hm := made_flat kdVc ⟨0, 0, 0, 0⟩ n (by decide)
    have hown' : w1.ownsRow w.heap.size kdVc.e kdVc.sz (.slice (some ⟨w.heap.size, 0, none⟩) n n) n ((List.replicate n (⟨0, 0, 0, 0⟩ : Vc)).flatMap kdVc.cs) := by rw [← hm]; exact hown
    obtain ⟨_, _, e, h, _⟩ := SlIn.of_owns (K := kdVc) hown' (by simp)
    cases e
    simpa using h
  have hb1 : Below w.heap.size w w1 := (Below.refl _ _).grown hgrow (Nat.le_refl _) (fun k e => by cases e)
  have HS0 := Lib.hid hs0
  clear hown hs0 hgrow
  go_wp2_with fail
  go_loopw [4] (fun i wr => ∃ k : Nat, i = .int .i64 (k : Nat) ∧ k ≤ n ∧ Below w.heap.size w wr ∧ Hid (SlIn kdVc wr (some ⟨w.heap.size, 0, none⟩) (xs.take k ++ List.replicate (n - k) ⟨0, 0, 0, 0⟩)))
    (fun i _ => n - (intOf i).toNat)
  case atStart => exact ⟨0, rfl, Nat.zero_le _, hb1, HS0⟩
  case round =>
    obtain ⟨k, rfl, hk, hB, HS⟩ := hrel
    by_cases hlt : k < n
    · have hkx : k < xs.length := by rw [HN.out]; exact hlt
      have hkf : k < (xs.take k ++ List.replicate (n - k) (⟨0, 0, 0, 0⟩ : Vc)).length := by rw [List.length_append, List.length_take, List.length_replicate, HN.out]; omega
      obtain ⟨x, rfl, hxl, hc⟩ := HX.out k hkx
      have hd := fun j hj => (hB.cell (p := x.add (k * 4 + j)) (by rw [add_block]; exact hxl)).trans (hc j hj)
      have d0 := hd 0 (by decide)
      have d1 := hd 1 (by decide)
      have d2 := hd 2 (by decide)
      have d3 := hd 3 (by decide)
      rw [← Go.Deep.add_add] at d1 d2 d3
      rw [Nat.add_zero] at d0
      have hr := toVector_any xs[k]
      have hput := fun w' (hb : Below wr.heap.size wr w') => (HS.out.after hb).put0 k hkf xs[k]
      rw [set_fill HN.out hlt] at hput
      have hcs : kdVc.cs xs[k] = Vc.cs xs[k] := rfl
      rw [hcs] at hput
      clear hcs hc hd
      generalize xs[k] = r at d0 d1 d2 d3 hr hput
      obtain ⟨x0, x1, x2, x3⟩ := r
      unfold Vc.val at hr
      simp only at hr
      replace d0 : wr.cell? (x.add (k * 4)) = some (.int .i64 x0) := d0
      replace d1 : wr.cell? ⟨(x.add (k * 4)).block, (x.add (k * 4)).off + 1, none⟩ = some (.int .i64 x1) := d1
      replace d2 : wr.cell? ⟨(x.add (k * 4)).block, (x.add (k * 4)).off + 2, none⟩ = some (.int .i64 x2) := d2
      replace d3 : wr.cell? ⟨(x.add (k * 4)).block, (x.add (k * 4)).off + 3, none⟩ = some (.int .i64 x3) := d3
      have HR := Lib.hid hr
      obtain ⟨_, _, e, hg0, hA⟩ := vcAt HS.out k hkf
      cases e
      clear hr
      go_wp2_with fail
      refine (HR.out _).mono ?_
      rintro e w2 ⟨rfl, hb2⟩
      obtain ⟨⟨c0, c1, c2, c3⟩, hfz⟩ := hA w2 hb2
      have hP := hput w2 hb2
      have HB2 := Lib.hid hb2; have HP := Lib.hid hP
      clear hput hA d0 d1 d2 d3 hb2 hP
      simp only [Nat.zero_add] at c0 c1 c2 c3
      go_wp2_with fail
      have hBw := hB.trans (HB2.out.mono hB.size)
      have HB3 := Lib.hid (hBw.trans (HP.out.2.below hBw.size (fun b hb => by simp at hb; omega)))
      clear hBw
      go_roundw
      case rel => exact ⟨k + 1, by go_num, by omega, HB3.out, Lib.hid HP.out.1⟩
      case measure => simp [intOf]; omega
    · have hke : k = n := by omega
      have hlt' : ¬ ((k : Int) < (n : Int)) := by omega
      have hs : SlIn kdVc wr (some ⟨w.heap.size, 0, none⟩) xs := by
        have e := HS.out
        rw [hke, Nat.sub_self, List.take_of_length_le (by rw [HN.out]; exact Nat.le_refl _)] at e
        simpa using e
      have HS2 := Lib.hid hs
      clear HS hs
      go_wp2_with fail
      go_ret
      exact ⟨rfl, HS2.out, hB⟩
theorem Vc.fits.fit {x : Vc} (h : x.fits) : x.fit := ⟨wf_top h.1, wf_top h.2.2.1⟩
end Go.Proofs.Ytbcpfciegamaeaa
