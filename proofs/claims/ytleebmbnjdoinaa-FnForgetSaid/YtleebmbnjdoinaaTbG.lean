/- AgeOut and Flush of the model. -/
import Derived.Test.YtleebmbnjdoinaaTbW
import Derived.IntWalk
namespace Go.Proofs.Ytleebmbnjdoinaa
open Go.RowKit

theorem infoB : (Try.prog.info? 4).map (fun i => (i.zero, i.size, i.bytes)) = some (some (.bool false), 1, 1) := by kernel_rfl
def OwnB (w : World) (base : Nat) (v : Value) (xs : List Bool) : Prop := w.ownsRow base 4 1 v xs.length (xs.map Value.bool)
theorem own_emptyB (w : World) : OwnB (w.alloc (.cells #[] 4)) w.heap.size (.slice (some ⟨w.heap.size, 0, none⟩) 0 0) [] :=
  ⟨rfl, .inr ⟨w.heap.size, 0, #[], rfl, Nat.le_refl _, by show (w.heap.push _)[w.heap.size]? = _; simp, Nat.le_refl _, by decide, rfl, rfl⟩⟩
theorem flat_bool (xs : List Bool) : xs.flatMap kdB.cs = xs.map Value.bool := by
  induction xs with
  | nil => rfl
  | cons x l ih => rw [List.flatMap_cons, ih]; rfl


def flushTGone (p : Int) (rs : List Rw) : List Bool := rs.map (fun x => decide (x.port = p))
noncomputable def flushT (t : Tb) (p : Int) : Tb := if tabOk t then ⟨woAt t.rows (flushTGone p t.rows) t.rows.length, t.most⟩ else ⟨[], 0⟩

set_option linter.unusedSimpArgs false in
set_option maxHeartbeats 2000000 in
theorem flushT_spec {w : World} {B : List Nat} {v : Value} {t : Tb} (h : TabIn w B v t) (p : Int) : Calls Try.prog 28 #[v, .int .i64 p] w (GotTab w (flushT t p)) := by
  have hO := fun w' (hb : Below w.heap.size w w') => tableOk_spec (h.after hb)
  have hW := fun w' (hb : Below w.heap.size w w') => without5_spec (h.after hb)
  obtain ⟨a, cap, rfl, hs, _, hl, hfit⟩ := h
  obtain ⟨rs, most⟩ := t
  unfold tabVal at hO hW ⊢
  simp only at hO hW hs hl ⊢
  obtain ⟨n, hn⟩ : ∃ n, rs.length = n := ⟨_, rfl⟩
  rw [hn] at hO hW hl ⊢
  have hb2 : Below w.heap.size w ((w.alloc (.cells #[.slice a n cap, .int .i64 most] 26)).alloc (.cells #[.slice none 0 0, .int .i64 0] 26)) := ((Below.refl _ _).alloc (Nat.le_refl _) _).alloc (by simp) _
  have g0 : Blk ((w.alloc (.cells #[.slice a n cap, .int .i64 most] 26)).alloc (.cells #[.slice none 0 0, .int .i64 0] 26)) w.heap.size #[.slice a n cap, .int .i64 most] 26 := (blk_new _ _ rfl).alloc _
  have g1 : Blk ((w.alloc (.cells #[.slice a n cap, .int .i64 most] 26)).alloc (.cells #[.slice none 0 0, .int .i64 0] 26)) (w.heap.size + 1) #[.slice none 0 0, .int .i64 0] 26 := blk_new _ _ (by simp)
  have HS := Lib.hid hs; have HN := Lib.hid hn; have HB2 := Lib.hid hb2; have G0 := Lib.hid g0; have G1 := Lib.hid g1; have HFIT := Lib.hid hfit; have HO := Lib.hid hO; have HW := Lib.hid hW
  clear hs hn hb2 g0 g1 hfit hO hW
  by_cases hok : tabOk ⟨rs, most⟩
  case neg =>
    have hm : flushT ⟨rs, most⟩ p = ⟨[], 0⟩ := by unfold flushT; rw [if_neg hok]
    rw [hm]
    clear hm
    go_enter Try.func28, Try.ntmps28
    go_wp2_with fail
    refine (HO.out _ HB2.out).mono ?_
    rintro e w4 ⟨rfl, hb4⟩
    rw [decide_eq_false hok]
    have g1 := G1.out.after hb4
    have z1 := g1.frozen
    have y1 := g1.shape
    have c0 : w4.cell? ⟨w.heap.size + 1, 0, none⟩ = some (.slice none 0 0) := g1.cell 0
    have c1 : w4.cell? ⟨w.heap.size + 1, 1, none⟩ = some (.int .i64 0) := g1.cell 1
    have g2 := (g1.set 0 (.slice none 0 0)).set 1 (.int .i64 0)
    have hB := ((HB2.out.trans (hb4.mono HB2.out.size)).setCell (p := ⟨w.heap.size + 1, 0, none⟩) (by simp only; omega) (.slice none 0 0)).setCell (p := ⟨w.heap.size + 1, 1, none⟩) (by simp only; omega) (.int .i64 0)
    have hz := HB2.out.size
    clear hb4
    go_wp2_with fail
    have r0 : ((w4.setCell ⟨w.heap.size + 1, 0, none⟩ (.slice none 0 0)).setCell ⟨w.heap.size + 1, 1, none⟩ (.int .i64 0)).cell? ⟨w.heap.size + 1, 0, none⟩ = some (.slice none 0 0) := g2.cell 0
    have r1 : ((w4.setCell ⟨w.heap.size + 1, 0, none⟩ (.slice none 0 0)).setCell ⟨w.heap.size + 1, 1, none⟩ (.int .i64 0)).cell? ⟨w.heap.size + 1, 1, none⟩ = some (.int .i64 0) := g2.cell 1
    clear g1 g2 z1 y1 c0 c1
    generalize (w4.setCell ⟨w.heap.size + 1, 0, none⟩ (.slice none 0 0)).setCell ⟨w.heap.size + 1, 1, none⟩ (.int .i64 0) = W at r0 r1 hB ⊢
    refine bodyPost_ret (v := .agg #[.slice none 0 0, .int .i64 0]) (by simp [results, Try.results28, go_sem, r0, r1]) rfl ?_
    exact got_own (t := ⟨[], 0⟩) (base := w.heap.size) (World.ownsRow_nil _ _ _ _) (Nat.le_refl _) (by simp) ⟨fun x hx => absurd hx (by simp), by decide⟩ hB
  have hm : flushT ⟨rs, most⟩ p = ⟨woAt rs (flushTGone p rs) rs.length, most⟩ := by unfold flushT; rw [if_pos hok]
  rw [hm, HN.out]
  clear hm
  have hn64 : n ≤ 64 := by have h1 := hok.1.2; have h2 := hok.2.1; simp only at h1 h2; rw [HN.out] at h2; omega
  have HOK := Lib.hid hok
  clear hl
  obtain ⟨gs, hgs⟩ : ∃ gs, flushTGone p = gs := ⟨_, rfl⟩
  rw [hgs]
  have hgl : (gs rs).length = n := by rw [← hgs, ← HN.out]; simp [flushTGone]
  have hge : ∀ (k : Nat) (h : k < rs.length) (h' : k < (gs rs).length), (gs rs)[k]'h' = (fun (x : Rw) => decide (x.port = p)) (rs[k]'h) := by
    subst hgs
    intro k h h'
    simp [flushTGone]
  have HGL := Lib.hid hgl; have HGE := Lib.hid hge
  clear hgs hgl hge
  obtain ⟨i0, hi, hz0, hz1, hz2⟩ := info_parts infoB
  go_enter Try.func28, Try.ntmps28
  go_wp2_with fail
  refine (HO.out _ HB2.out).mono ?_
  rintro e w4 ⟨rfl, hb4⟩
  rw [decide_eq_true hok]
  clear hok
  have HB4 := Lib.hid (HB2.out.trans (hb4.mono HB2.out.size)); have G04 := Lib.hid (G0.out.after hb4); have G14 := Lib.hid (G1.out.after hb4); have HS4 := Lib.hid ((HS.out.after HB2.out).after hb4)
  clear HB2 G0 G1 HS hb4 HO
  go_wp2_with fail
  have hfr0 : OwnB (w4.alloc (.cells #[] 4)) w4.heap.size (.slice (some ⟨w4.heap.size, 0, none⟩) 0 0) ((gs rs).take 0) := own_emptyB w4
  generalize w4 = w3 at HB4 G04 G14 HS4 hfr0 ⊢
  have hb0 : Below w3.heap.size w3 (w3.alloc (.cells #[] 4)) := (Below.refl _ _).alloc (Nat.le_refl _) _
  have HFR0 := Lib.hid hfr0
  clear hfr0
  go_loopw [5, 6] (fun q i wr => ∃ (k : Nat) (v : Value), i = .int .i64 (k : Nat) ∧ q = v ∧ k ≤ n ∧ Below w3.heap.size w3 wr ∧ Hid (OwnB wr w3.heap.size v ((gs rs).take k)))
    (fun _ i _ => n - (intOf i).toNat)
  case atStart => exact ⟨0, _, rfl, rfl, Nat.zero_le _, hb0, HFR0⟩
  case round =>
    obtain ⟨k, v, rfl, rfl, hk, hWR, HV⟩ := hrel
    have kA := G04.out.after hWR
    have d0 : wr.cell? ⟨w.heap.size, 0, none⟩ = some (.slice a n cap) := kA.cell 0
    by_cases hlt : k < n
    · have hkx : k < rs.length := by rw [HN.out]; exact hlt
      have hkg : k < (gs rs).length := by rw [HGL.out]; exact hlt
      have hlv : ((gs rs).take k).length = k := by rw [List.length_take]; omega
      obtain ⟨eb, heb⟩ : ∃ b, (gs rs)[k]'hkg = b := ⟨_, rfl⟩
      have hev := HGE.out k hkx hkg
      rw [heb] at hev
      have EB := Lib.hid heb
      clear heb
      obtain ⟨g, o, rfl, _, hX⟩ := rowAt (HS4.out.after hWR) k hkx
      obtain ⟨k0, k1, k2, k3, k4⟩ := (hX wr (Below.refl _ _)).1
      have hrok := (HOK.out.2.2 k hkx).1
      simp only at hrok
      clear hX
      generalize rs[k] = x at k0 k1 k2 k3 k4 hev hrok
      obtain ⟨x0, x1, x2, x3, x4⟩ := x
      simp only at k0 k1 k2 k3 k4 hev
      have hpe : eb = (x2 == p) := by rw [hev]; rw [Bool.eq_iff_iff]; simp
      clear hev
      subst hpe
      go_wp2_with (at_builtin; apply stop_here)
      refine stop_go ?_
      refine wpList_append_own_at _ rfl _ _ 80 rfl w3.heap.size 4 i0 (.bool false) 1 1 Try.underlying80 hi hz0 hz1 hz2 rfl (by decide) _ _ _ rfl (World.ownsRow.alloc HV.out _) ⟨wr.heap.size, 0, none⟩ 1 1 [.bool (x2 == p)] rfl rfl (cell_one_new _ _ _) (by simp [Value.oneCell']) (by unfold maxLen; omega) (by omega) (by have := hWR.size; simp; omega) ?_
      intro v' w5 hown5 hgrow5 _ _
      have hB5 : Below w3.heap.size w3 w5 := (hWR.alloc hWR.size _).grown hgrow5 (by have := hWR.size; simp; omega) (fun g e => (World.ownsRow.lt HV.out g e).1)
      have HV5 := Lib.hid (show OwnB w5 w3.heap.size v' ((gs rs).take (k + 1)) from by
        unfold OwnB
        rw [List.take_succ_eq_append_getElem hkg, List.length_append, List.map_append]
        have e := EB.out
        rw [e]
        exact hown5)
      have HB5 := Lib.hid hB5
      clear hown5 hgrow5 hB5
      go_wp2_with fail
      go_roundw
      case rel => exact ⟨k + 1, v', by go_num, rfl, by omega, HB5.out, HV5⟩
      case measure => simp [intOf]; omega
    · have hke : k = n := by omega
      have hlt' : ¬ ((k : Int) < (n : Int)) := by omega
      obtain ⟨va, vc, rfl⟩ := own_form HV.out
      have hlg : ((gs rs).take k).length = n := by rw [List.length_take, HGL.out]; omega
      have htk : (gs rs).take k = gs rs := List.take_of_length_le (by rw [HGL.out]; omega)
      have hV := HV.out
      rw [htk] at hV
      rw [hlg]
      have c0 : wr.cell? ⟨w.heap.size, 1, none⟩ = some (.int .i64 most) := kA.cell 1
      obtain ⟨_, _, e, hgsl, _⟩ := SlIn.of_owns (K := kdB) (xs := gs rs) (show wr.ownsRow w3.heap.size kdB.e kdB.sz (.slice va (gs rs).length vc) (gs rs).length ((gs rs).flatMap kdB.cs) by rw [flat_bool]; have h := hV; unfold OwnB at h; rw [HGL.out] at h ⊢; exact h) rfl
      cases e
      have hcall := HW.out wr (HB4.out.trans (hWR.mono HB4.out.size)) (gs rs) va vc hgsl (by rw [HGL.out])
      rw [HGL.out] at hcall
      have HCALL := Lib.hid hcall
      have HBW := Lib.hid (HB4.out.trans (hWR.mono HB4.out.size)); have G1W := Lib.hid (G14.out.after hWR)
      clear hcall hV hgsl hWR kA htk
      go_wp2_with fail
      refine HCALL.out.mono ?_
      rintro e w6 ⟨Bo, oa, on, oc, om, rfl, hTo, hfo, hbo⟩
      have g1 := G1W.out.after hbo
      have z1 := g1.frozen
      have y1 := g1.shape
      have c2 : w6.cell? ⟨w.heap.size + 1, 0, none⟩ = some (.slice none 0 0) := g1.cell 0
      have c3 : w6.cell? ⟨w.heap.size + 1, 1, none⟩ = some (.int .i64 0) := g1.cell 1
      have g2 := (g1.set 0 (.slice oa on oc)).set 1 (.int .i64 om)
      have hB := ((HBW.out.trans (hbo.mono HBW.out.size)).setCell (p := ⟨w.heap.size + 1, 0, none⟩) (by simp only; omega) (.slice oa on oc)).setCell (p := ⟨w.heap.size + 1, 1, none⟩) (by simp only; omega) (.int .i64 om)
      have hl1 := G1W.out.lt
      have hT7 := hTo.turned (C := [w.heap.size + 1]) (((Turned.refl _ w6).setCell (p := ⟨w.heap.size + 1, 0, none⟩) (by simp) (.slice oa on oc)).setCell (p := ⟨w.heap.size + 1, 1, none⟩) (by simp) (.int .i64 om)) (fun b hb hm => by have := hfo b hb; simp at hm; omega)
      have hzz := HBW.out.size
      clear hbo d0 c0
      go_wp2_with fail
      have r0 : ((w6.setCell ⟨w.heap.size + 1, 0, none⟩ (.slice oa on oc)).setCell ⟨w.heap.size + 1, 1, none⟩ (.int .i64 om)).cell? ⟨w.heap.size + 1, 0, none⟩ = some (.slice oa on oc) := g2.cell 0
      have r1 : ((w6.setCell ⟨w.heap.size + 1, 0, none⟩ (.slice oa on oc)).setCell ⟨w.heap.size + 1, 1, none⟩ (.int .i64 om)).cell? ⟨w.heap.size + 1, 1, none⟩ = some (.int .i64 om) := g2.cell 1
      clear g1 g2 z1 y1 c2 c3
      generalize (w6.setCell ⟨w.heap.size + 1, 0, none⟩ (.slice oa on oc)).setCell ⟨w.heap.size + 1, 1, none⟩ (.int .i64 om) = W at r0 r1 hB hT7 ⊢
      refine bodyPost_ret (v := .agg #[.slice oa on oc, .int .i64 om]) (by simp [results, Try.results28, go_sem, r0, r1]) rfl ?_
      exact ⟨Bo, oa, on, oc, om, rfl, hT7, fun b hb => Nat.le_trans hzz (hfo b hb), hB⟩


def ageTGone (now : Int) (age : Int) (rs : List Rw) : List Bool := rs.map (fun x => (decide (0 ≤ now ∧ now ≤ 1000000000) && (decide (0 ≤ age ∧ age ≤ 1000000000) && decide (x.at_ + age < now))))
noncomputable def ageT (t : Tb) (now : Int) (age : Int) : Tb := if tabOk t then ⟨woAt t.rows (ageTGone now age t.rows) t.rows.length, t.most⟩ else ⟨[], 0⟩

set_option linter.unusedSimpArgs false in
set_option maxHeartbeats 2000000 in
theorem ageT_spec {w : World} {B : List Nat} {v : Value} {t : Tb} (h : TabIn w B v t) (now : Int) (age : Int) : Calls Try.prog 27 #[v, .int .i64 now, .int .i64 age] w (GotTab w (ageT t now age)) := by
  have hO := fun w' (hb : Below w.heap.size w w') => tableOk_spec (h.after hb)
  have hW := fun w' (hb : Below w.heap.size w w') => without5_spec (h.after hb)
  obtain ⟨a, cap, rfl, hs, _, hl, hfit⟩ := h
  obtain ⟨rs, most⟩ := t
  unfold tabVal at hO hW ⊢
  simp only at hO hW hs hl ⊢
  obtain ⟨n, hn⟩ : ∃ n, rs.length = n := ⟨_, rfl⟩
  rw [hn] at hO hW hl ⊢
  have hb2 : Below w.heap.size w ((w.alloc (.cells #[.slice a n cap, .int .i64 most] 26)).alloc (.cells #[.slice none 0 0, .int .i64 0] 26)) := ((Below.refl _ _).alloc (Nat.le_refl _) _).alloc (by simp) _
  have g0 : Blk ((w.alloc (.cells #[.slice a n cap, .int .i64 most] 26)).alloc (.cells #[.slice none 0 0, .int .i64 0] 26)) w.heap.size #[.slice a n cap, .int .i64 most] 26 := (blk_new _ _ rfl).alloc _
  have g1 : Blk ((w.alloc (.cells #[.slice a n cap, .int .i64 most] 26)).alloc (.cells #[.slice none 0 0, .int .i64 0] 26)) (w.heap.size + 1) #[.slice none 0 0, .int .i64 0] 26 := blk_new _ _ (by simp)
  have HS := Lib.hid hs; have HN := Lib.hid hn; have HB2 := Lib.hid hb2; have G0 := Lib.hid g0; have G1 := Lib.hid g1; have HFIT := Lib.hid hfit; have HO := Lib.hid hO; have HW := Lib.hid hW
  clear hs hn hb2 g0 g1 hfit hO hW
  by_cases hok : tabOk ⟨rs, most⟩
  case neg =>
    have hm : ageT ⟨rs, most⟩ now age = ⟨[], 0⟩ := by unfold ageT; rw [if_neg hok]
    rw [hm]
    clear hm
    go_enter Try.func27, Try.ntmps27
    go_wp2_with fail
    refine (HO.out _ HB2.out).mono ?_
    rintro e w4 ⟨rfl, hb4⟩
    rw [decide_eq_false hok]
    have g1 := G1.out.after hb4
    have z1 := g1.frozen
    have y1 := g1.shape
    have c0 : w4.cell? ⟨w.heap.size + 1, 0, none⟩ = some (.slice none 0 0) := g1.cell 0
    have c1 : w4.cell? ⟨w.heap.size + 1, 1, none⟩ = some (.int .i64 0) := g1.cell 1
    have g2 := (g1.set 0 (.slice none 0 0)).set 1 (.int .i64 0)
    have hB := ((HB2.out.trans (hb4.mono HB2.out.size)).setCell (p := ⟨w.heap.size + 1, 0, none⟩) (by simp only; omega) (.slice none 0 0)).setCell (p := ⟨w.heap.size + 1, 1, none⟩) (by simp only; omega) (.int .i64 0)
    have hz := HB2.out.size
    clear hb4
    go_wp2_with fail
    have r0 : ((w4.setCell ⟨w.heap.size + 1, 0, none⟩ (.slice none 0 0)).setCell ⟨w.heap.size + 1, 1, none⟩ (.int .i64 0)).cell? ⟨w.heap.size + 1, 0, none⟩ = some (.slice none 0 0) := g2.cell 0
    have r1 : ((w4.setCell ⟨w.heap.size + 1, 0, none⟩ (.slice none 0 0)).setCell ⟨w.heap.size + 1, 1, none⟩ (.int .i64 0)).cell? ⟨w.heap.size + 1, 1, none⟩ = some (.int .i64 0) := g2.cell 1
    clear g1 g2 z1 y1 c0 c1
    generalize (w4.setCell ⟨w.heap.size + 1, 0, none⟩ (.slice none 0 0)).setCell ⟨w.heap.size + 1, 1, none⟩ (.int .i64 0) = W at r0 r1 hB ⊢
    refine bodyPost_ret (v := .agg #[.slice none 0 0, .int .i64 0]) (by simp [results, Try.results27, go_sem, r0, r1]) rfl ?_
    exact got_own (t := ⟨[], 0⟩) (base := w.heap.size) (World.ownsRow_nil _ _ _ _) (Nat.le_refl _) (by simp) ⟨fun x hx => absurd hx (by simp), by decide⟩ hB
  have hm : ageT ⟨rs, most⟩ now age = ⟨woAt rs (ageTGone now age rs) rs.length, most⟩ := by unfold ageT; rw [if_pos hok]
  rw [hm, HN.out]
  clear hm
  have hn64 : n ≤ 64 := by have h1 := hok.1.2; have h2 := hok.2.1; simp only at h1 h2; rw [HN.out] at h2; omega
  have HOK := Lib.hid hok
  clear hl
  obtain ⟨gs, hgs⟩ : ∃ gs, ageTGone now age = gs := ⟨_, rfl⟩
  rw [hgs]
  have hgl : (gs rs).length = n := by rw [← hgs, ← HN.out]; simp [ageTGone]
  have hge : ∀ (k : Nat) (h : k < rs.length) (h' : k < (gs rs).length), (gs rs)[k]'h' = (fun (x : Rw) => (decide (0 ≤ now ∧ now ≤ 1000000000) && (decide (0 ≤ age ∧ age ≤ 1000000000) && decide (x.at_ + age < now)))) (rs[k]'h) := by
    subst hgs
    intro k h h'
    simp [ageTGone]
  have HGL := Lib.hid hgl; have HGE := Lib.hid hge
  clear hgs hgl hge
  obtain ⟨i0, hi, hz0, hz1, hz2⟩ := info_parts infoB
  go_enter Try.func27, Try.ntmps27
  go_wp2_with fail
  refine (HO.out _ HB2.out).mono ?_
  rintro e w4 ⟨rfl, hb4⟩
  rw [decide_eq_true hok]
  clear hok
  have HB4 := Lib.hid (HB2.out.trans (hb4.mono HB2.out.size)); have G04 := Lib.hid (G0.out.after hb4); have G14 := Lib.hid (G1.out.after hb4); have HS4 := Lib.hid ((HS.out.after HB2.out).after hb4)
  clear HB2 G0 G1 HS hb4 HO
  go_wp2_with fail
  have hfr0 : OwnB (w4.alloc (.cells #[] 4)) w4.heap.size (.slice (some ⟨w4.heap.size, 0, none⟩) 0 0) ((gs rs).take 0) := own_emptyB w4
  generalize w4 = w3 at HB4 G04 G14 HS4 hfr0 ⊢
  have hb0 : Below w3.heap.size w3 (w3.alloc (.cells #[] 4)) := (Below.refl _ _).alloc (Nat.le_refl _) _
  have HFR0 := Lib.hid hfr0
  clear hfr0
  go_loopw [7, 8] (fun q i wr => ∃ (k : Nat) (v : Value), i = .int .i64 (k : Nat) ∧ q = v ∧ k ≤ n ∧ Below w3.heap.size w3 wr ∧ Hid (OwnB wr w3.heap.size v ((gs rs).take k)))
    (fun _ i _ => n - (intOf i).toNat)
  case atStart => exact ⟨0, _, rfl, rfl, Nat.zero_le _, hb0, HFR0⟩
  case round =>
    obtain ⟨k, v, rfl, rfl, hk, hWR, HV⟩ := hrel
    have kA := G04.out.after hWR
    have d0 : wr.cell? ⟨w.heap.size, 0, none⟩ = some (.slice a n cap) := kA.cell 0
    by_cases hlt : k < n
    · have hkx : k < rs.length := by rw [HN.out]; exact hlt
      have hkg : k < (gs rs).length := by rw [HGL.out]; exact hlt
      have hlv : ((gs rs).take k).length = k := by rw [List.length_take]; omega
      obtain ⟨eb, heb⟩ : ∃ b, (gs rs)[k]'hkg = b := ⟨_, rfl⟩
      have hev := HGE.out k hkx hkg
      rw [heb] at hev
      have EB := Lib.hid heb
      clear heb
      obtain ⟨g, o, rfl, _, hX⟩ := rowAt (HS4.out.after hWR) k hkx
      obtain ⟨k0, k1, k2, k3, k4⟩ := (hX wr (Below.refl _ _)).1
      have hrok := (HOK.out.2.2 k hkx).1
      simp only at hrok
      clear hX
      generalize rs[k] = x at k0 k1 k2 k3 k4 hev hrok
      obtain ⟨x0, x1, x2, x3, x4⟩ := x
      simp only at k0 k1 k2 k3 k4 hev
      have hT1 := time5_spec now
      have hT2 := time5_spec age
      obtain ⟨b1, hb1⟩ : ∃ b, decide (0 ≤ now ∧ now ≤ 1000000000) = b := ⟨_, rfl⟩
      obtain ⟨b2, hb2⟩ : ∃ b, decide (0 ≤ age ∧ age ≤ 1000000000) = b := ⟨_, rfl⟩
      rw [hb1] at hT1 hev
      rw [hb2] at hT2 hev
      have HT1 := Lib.hid hT1; have HT2 := Lib.hid hT2; have HBA := Lib.hid hb2
      clear hT1 hT2 hb1 hb2
      go_wp2_with fail
      refine (HT1.out _).mono ?_
      rintro e w' ⟨rfl, rfl⟩
      cases b1
      · have hpe : eb = false := by rw [hev]; rfl
        clear hev
        subst hpe
        go_wp2_with (at_builtin; apply stop_here)
        refine stop_go ?_
        refine wpList_append_own_at _ rfl _ _ 80 rfl w3.heap.size 4 i0 (.bool false) 1 1 Try.underlying80 hi hz0 hz1 hz2 rfl (by decide) _ _ _ rfl (World.ownsRow.alloc HV.out _) ⟨wr.heap.size, 0, none⟩ 1 1 [.bool (false)] rfl rfl (cell_one_new _ _ _) (by simp [Value.oneCell']) (by unfold maxLen; omega) (by omega) (by have := hWR.size; simp; omega) ?_
        intro v' w5 hown5 hgrow5 _ _
        have hB5 : Below w3.heap.size w3 w5 := (hWR.alloc hWR.size _).grown hgrow5 (by have := hWR.size; simp; omega) (fun g e => (World.ownsRow.lt HV.out g e).1)
        have HV5 := Lib.hid (show OwnB w5 w3.heap.size v' ((gs rs).take (k + 1)) from by
          unfold OwnB
          rw [List.take_succ_eq_append_getElem hkg, List.length_append, List.map_append]
          have e := EB.out
          rw [e]
          exact hown5)
        have HB5 := Lib.hid hB5
        clear hown5 hgrow5 hB5
        go_wp2_with fail
        go_roundw
        case rel => exact ⟨k + 1, v', by go_num, rfl, by omega, HB5.out, HV5⟩
        case measure => simp [intOf]; omega
      go_wp2_with fail
      refine (HT2.out _).mono ?_
      rintro e w' ⟨rfl, rfl⟩
      cases b2
      · have hpe : eb = false := by rw [hev]; rfl
        clear hev
        subst hpe
        go_wp2_with (at_builtin; apply stop_here)
        refine stop_go ?_
        refine wpList_append_own_at _ rfl _ _ 80 rfl w3.heap.size 4 i0 (.bool false) 1 1 Try.underlying80 hi hz0 hz1 hz2 rfl (by decide) _ _ _ rfl (World.ownsRow.alloc HV.out _) ⟨wr.heap.size, 0, none⟩ 1 1 [.bool (false)] rfl rfl (cell_one_new _ _ _) (by simp [Value.oneCell']) (by unfold maxLen; omega) (by omega) (by have := hWR.size; simp; omega) ?_
        intro v' w5 hown5 hgrow5 _ _
        have hB5 : Below w3.heap.size w3 w5 := (hWR.alloc hWR.size _).grown hgrow5 (by have := hWR.size; simp; omega) (fun g e => (World.ownsRow.lt HV.out g e).1)
        have HV5 := Lib.hid (show OwnB w5 w3.heap.size v' ((gs rs).take (k + 1)) from by
          unfold OwnB
          rw [List.take_succ_eq_append_getElem hkg, List.length_append, List.map_append]
          have e := EB.out
          rw [e]
          exact hown5)
        have HB5 := Lib.hid hB5
        clear hown5 hgrow5 hB5
        go_wp2_with fail
        go_roundw
        case rel => exact ⟨k + 1, v', by go_num, rfl, by omega, HB5.out, HV5⟩
        case measure => simp [intOf]; omega
      have hpe : eb = decide (x3 + age < now) := by rw [hev]; rfl
      have ha := of_decide_eq_true HBA.out
      have hx := hrok.2.2.2.2
      simp only at hx
      have hw1 : IntKind.i64.wrap (x3 + age) = x3 + age := IntWalk.i64_in _ (by omega)
      clear hev
      subst hpe
      go_wp2_with (at_builtin; apply stop_here)
      refine stop_go ?_
      refine wpList_append_own_at _ rfl _ _ 80 rfl w3.heap.size 4 i0 (.bool false) 1 1 Try.underlying80 hi hz0 hz1 hz2 rfl (by decide) _ _ _ rfl (World.ownsRow.alloc HV.out _) ⟨wr.heap.size, 0, none⟩ 1 1 [.bool (decide (x3 + age < now))] rfl rfl (cell_one_new _ _ _) (by simp [Value.oneCell']) (by unfold maxLen; omega) (by omega) (by have := hWR.size; simp; omega) ?_
      intro v' w5 hown5 hgrow5 _ _
      have hB5 : Below w3.heap.size w3 w5 := (hWR.alloc hWR.size _).grown hgrow5 (by have := hWR.size; simp; omega) (fun g e => (World.ownsRow.lt HV.out g e).1)
      have HV5 := Lib.hid (show OwnB w5 w3.heap.size v' ((gs rs).take (k + 1)) from by
        unfold OwnB
        rw [List.take_succ_eq_append_getElem hkg, List.length_append, List.map_append]
        have e := EB.out
        rw [e]
        exact hown5)
      have HB5 := Lib.hid hB5
      clear hown5 hgrow5 hB5
      go_wp2_with fail
      go_roundw
      case rel => exact ⟨k + 1, v', by go_num, rfl, by omega, HB5.out, HV5⟩
      case measure => simp [intOf]; omega
    · have hke : k = n := by omega
      have hlt' : ¬ ((k : Int) < (n : Int)) := by omega
      obtain ⟨va, vc, rfl⟩ := own_form HV.out
      have hlg : ((gs rs).take k).length = n := by rw [List.length_take, HGL.out]; omega
      have htk : (gs rs).take k = gs rs := List.take_of_length_le (by rw [HGL.out]; omega)
      have hV := HV.out
      rw [htk] at hV
      rw [hlg]
      have c0 : wr.cell? ⟨w.heap.size, 1, none⟩ = some (.int .i64 most) := kA.cell 1
      obtain ⟨_, _, e, hgsl, _⟩ := SlIn.of_owns (K := kdB) (xs := gs rs) (show wr.ownsRow w3.heap.size kdB.e kdB.sz (.slice va (gs rs).length vc) (gs rs).length ((gs rs).flatMap kdB.cs) by rw [flat_bool]; have h := hV; unfold OwnB at h; rw [HGL.out] at h ⊢; exact h) rfl
      cases e
      have hcall := HW.out wr (HB4.out.trans (hWR.mono HB4.out.size)) (gs rs) va vc hgsl (by rw [HGL.out])
      rw [HGL.out] at hcall
      have HCALL := Lib.hid hcall
      have HBW := Lib.hid (HB4.out.trans (hWR.mono HB4.out.size)); have G1W := Lib.hid (G14.out.after hWR)
      clear hcall hV hgsl hWR kA htk
      go_wp2_with fail
      refine HCALL.out.mono ?_
      rintro e w6 ⟨Bo, oa, on, oc, om, rfl, hTo, hfo, hbo⟩
      have g1 := G1W.out.after hbo
      have z1 := g1.frozen
      have y1 := g1.shape
      have c2 : w6.cell? ⟨w.heap.size + 1, 0, none⟩ = some (.slice none 0 0) := g1.cell 0
      have c3 : w6.cell? ⟨w.heap.size + 1, 1, none⟩ = some (.int .i64 0) := g1.cell 1
      have g2 := (g1.set 0 (.slice oa on oc)).set 1 (.int .i64 om)
      have hB := ((HBW.out.trans (hbo.mono HBW.out.size)).setCell (p := ⟨w.heap.size + 1, 0, none⟩) (by simp only; omega) (.slice oa on oc)).setCell (p := ⟨w.heap.size + 1, 1, none⟩) (by simp only; omega) (.int .i64 om)
      have hl1 := G1W.out.lt
      have hT7 := hTo.turned (C := [w.heap.size + 1]) (((Turned.refl _ w6).setCell (p := ⟨w.heap.size + 1, 0, none⟩) (by simp) (.slice oa on oc)).setCell (p := ⟨w.heap.size + 1, 1, none⟩) (by simp) (.int .i64 om)) (fun b hb hm => by have := hfo b hb; simp at hm; omega)
      have hzz := HBW.out.size
      clear hbo d0 c0
      go_wp2_with fail
      have r0 : ((w6.setCell ⟨w.heap.size + 1, 0, none⟩ (.slice oa on oc)).setCell ⟨w.heap.size + 1, 1, none⟩ (.int .i64 om)).cell? ⟨w.heap.size + 1, 0, none⟩ = some (.slice oa on oc) := g2.cell 0
      have r1 : ((w6.setCell ⟨w.heap.size + 1, 0, none⟩ (.slice oa on oc)).setCell ⟨w.heap.size + 1, 1, none⟩ (.int .i64 om)).cell? ⟨w.heap.size + 1, 1, none⟩ = some (.int .i64 om) := g2.cell 1
      clear g1 g2 z1 y1 c2 c3
      generalize (w6.setCell ⟨w.heap.size + 1, 0, none⟩ (.slice oa on oc)).setCell ⟨w.heap.size + 1, 1, none⟩ (.int .i64 om) = W at r0 r1 hB hT7 ⊢
      refine bodyPost_ret (v := .agg #[.slice oa on oc, .int .i64 om]) (by simp [results, Try.results27, go_sem, r0, r1]) rfl ?_
      exact ⟨Bo, oa, on, oc, om, rfl, hT7, fun b hb => Nat.le_trans hzz (hfo b hb), hB⟩
end Go.Proofs.Ytleebmbnjdoinaa
