/- Flush, AgeOut, Fix, Learn of the program. -/
import Derived.Test.YtleebmbnjdoinaaAge2
import Derived.Test.YtleebmbnjdoinaaTbPl
namespace Go.Proofs.Ytleebmbnjdoinaa
open Go.RowKit Go.Maps

theorem rows_of_ok {t : Tb} (hok : tabOk t) (hf : ∀ r ∈ t.rows, r.fits) : Rows t.rows :=
  ⟨((tabOk_iff t).1 hok).2.2.2.imp (fun {_ _} h => ahead_key h), hf⟩
theorem put_perm {r : Rw} {rs : List Rw} (hr : rowOk r) (h : Good rs) : (putRows r rs).Perm (r :: rs.filter (fun x => !hit r.vid r.mac x)) := by
  have hn : ∀ l : List Rw, l.Pairwise ahead → l.Nodup := fun l hl => List.Pairwise.imp (fun {a b} (h : ahead a b) => (fun e => by subst e; exact ahead_irr h h : a ≠ b)) hl
  refine (List.perm_ext_iff_of_nodup (hn _ (put_good hr h).2) (List.nodup_cons.2 ⟨fun hm => ?_, (hn _ h.2).filter _⟩)).2 (fun x => ?_)
  · have := (List.mem_filter.1 hm).2
    unfold hit at this
    simp at this
  · rw [put_mem h.2, List.mem_cons, List.mem_filter]
    unfold hit
    rw [Bool.not_eq_true', decide_eq_false_iff_not]
theorem put_len5 {r : Rw} {rs : List Rw} (hr : rowOk r) (h : Good rs) : (putRows r rs).length ≤ rs.length + 1 ∧ ((tabFind rs r.vid r.mac).isSome = true → (putRows r rs).length ≤ rs.length) ∧ ((tabFind rs r.vid r.mac).isSome = false → (putRows r rs).length = rs.length + 1) := by
  refine ⟨(put_len h.2).1, (put_len h.2).2, fun hn => ?_⟩
  rw [(put_perm hr h).length_eq, List.length_cons, List.filter_eq_self.2]
  intro x hx
  rw [Option.isSome_eq_false_iff, Option.isNone_iff_eq_none] at hn
  have := List.find?_eq_none.1 hn x hx
  simpa using this
theorem all_sorted {t : Tb} (hok : tabOk t) : t.rows.Pairwise ahead := ((tabOk_iff t).1 hok).2.2.2
theorem sub_sorted {t : Tb} (hok : tabOk t) (p : Rw → Bool) : (t.rows.filter p).Pairwise ahead := ((tabOk_iff t).1 hok).2.2.2.filter p

set_option linter.unusedSimpArgs false in
set_option maxRecDepth 100000 in
set_option maxHeartbeats 1000000 in
theorem age_impl {w : World} {B : List Nat} {v : Value} {t : Tb} (h : TabIn w B v t) (now age : Int) : Calls Try.prog 24 #[v, .int .i64 now, .int .i64 age] w (GotTab w (ageT t now age)) := by
  have HTI := Lib.hid h
  obtain ⟨a, cap, rfl, hs, _, hl, hf⟩ := h
  obtain ⟨rs, most⟩ := t
  unfold tabVal at HTI ⊢
  simp only at HTI hs hl hf ⊢
  have hz : ∀ w : World, (zeroValue 26).run Try.prog w = .ok (.agg #[.slice none 0 0, .int .i64 0]) w := fun w => by kernel_rfl
  have hb1 : Below w.heap.size w ((w.alloc (.cells #[.slice a rs.length cap, .int .i64 most] 26)).alloc (.cells #[.slice none 0 0, .int .i64 0] 26)) := ((Below.refl _ _).alloc (Nat.le_refl _) _).alloc (by simp) _
  have kA : Blk ((w.alloc (.cells #[.slice a rs.length cap, .int .i64 most] 26)).alloc (.cells #[.slice none 0 0, .int .i64 0] 26)) w.heap.size #[.slice a rs.length cap, .int .i64 most] 26 := (blk_new _ _ rfl).alloc _
  have kO : Blk ((w.alloc (.cells #[.slice a rs.length cap, .int .i64 most] 26)).alloc (.cells #[.slice none 0 0, .int .i64 0] 26)) (w.heap.size + 1) #[.slice none 0 0, .int .i64 0] 26 := blk_new _ _ (by simp)
  have HT1 := Lib.hid (HTI.out.after hb1)
  have HOK := Lib.hid (tableOk_impl HT1.out)
  have HB1 := Lib.hid hb1; have HKA := Lib.hid kA; have HKO := Lib.hid kO; have HFT := Lib.hid hf
  clear hb1 kA kO hs hl hf
  obtain ⟨n, hn⟩ : ∃ n, rs.length = n := ⟨_, rfl⟩
  have HN := Lib.hid hn
  rw [hn] at HT1 HOK HB1 HKA HKO HTI ⊢
  clear hn
  by_cases hok : tabOk ⟨rs, most⟩
  case neg =>
    have hres : ageT ⟨rs, most⟩ now age = ⟨[], 0⟩ := by unfold ageT; rw [if_neg hok]
    rw [hres]
    clear hres
    have HNO := Lib.hid hok
    clear hok
    go_enter Try.func24, Try.ntmps24
    go_wp2_with fail
    refine HOK.out.mono ?_
    rintro e w2 ⟨rfl, hb2⟩
    rw [decide_eq_false HNO.out]
    have HB2 := Lib.hid (HB1.out.trans (hb2.mono HB1.out.size)); have HK2 := Lib.hid (HKO.out.after hb2)
    have c0 := HK2.out.cell 0
    have c1 := HK2.out.cell 1
    have z0 := HK2.out.frozen
    have y0 := HK2.out.shape
    simp at c0 c1 y0
    clear hb2
    go_wp2_with fail
    obtain ⟨r0, r1, hG⟩ := tab_stored (w := w) (base := w.heap.size) (a := none) (n := 0) (cap := 0) (S := []) (most := 0) (World.ownsRow_nil _ _ _ _) rfl (by simp) ⟨fun x hx => absurd hx (by simp), by decide⟩ HK2.out (by omega) (Nat.le_refl _) HB2.out
    clear c0 c1 z0 y0
    generalize (w2.setCell ⟨w.heap.size + 1, 0, none⟩ (.slice none 0 0)).setCell ⟨w.heap.size + 1, 1, none⟩ (.int .i64 0) = W at r0 r1 hG ⊢
    exact bodyPost_ret (v := .agg #[.slice none 0 0, .int .i64 0]) (by simp [results, Try.results24, go_sem, r0, r1]) rfl hG
  have HGOOD := Lib.hid hok
  have hR : Rows rs := rows_of_ok hok HFT.out.1
  have hs64 : rs.length ≤ 64 := by have := hok.1.2; have := hok.2.1; simp only at *; omega
  have HRO := Lib.hid hR; have H64 := Lib.hid hs64
  clear hok hR hs64
  go_enter Try.func24, Try.ntmps24
  go_wp2_with fail
  refine HOK.out.mono ?_
  rintro e w2 ⟨rfl, hb2⟩
  rw [decide_eq_true HGOOD.out]
  have HB2 := Lib.hid (HB1.out.trans (hb2.mono HB1.out.size)); have HA2 := Lib.hid (HKA.out.after hb2); have HO2 := Lib.hid (HKO.out.after hb2)
  have HT2 := Lib.hid (HT1.out.after hb2)
  have a0 := HA2.out.cell 0
  have a1 := HA2.out.cell 1
  simp at a0 a1
  have HRS := Lib.hid (rowSetOf_impl HT2.out HRO.out H64.out)
  clear hb2
  go_wp2_with fail
  refine HRS.out.mono ?_
  rintro e w3 ⟨b, rfl, hRM, hwb, hb3⟩
  have HB3 := Lib.hid (HB2.out.trans (hb3.mono HB2.out.size)); have HA3 := Lib.hid (HA2.out.after hb3); have HO3 := Lib.hid (HO2.out.after hb3)
  have HRM := Lib.hid hRM
  have HBW := Lib.hid (show w.heap.size + 1 < b from Nat.lt_of_lt_of_le HO2.out.lt hwb)
  clear hb3 hRM hwb a0 a1 HT2 HRS HOK HT1 HB1 HKA HKO HB2 HA2 HO2
  have htn := time_impl now
  have hta := time_impl age
  have HTN := Lib.hid htn; have HTA := Lib.hid hta
  clear htn hta
  by_cases h1 : 0 ≤ now ∧ now ≤ 1000000000
  case neg =>
    have hq : ageT ⟨rs, most⟩ now age = ⟨rs, most⟩ := by
      rw [age_eq HGOOD.out, decide_eq_false h1]
      simp
    rw [decide_eq_false h1] at HTN
    have HQE := Lib.hid hq
    clear hq h1
    go_wp2_with fail
    refine (HTN.out _).mono ?_
    rintro e w4 ⟨rfl, rfl⟩
    have HTB := Lib.hid (table_impl HRM.out (by have := (HRM.out).len_le; have := H64.out; have := HN.out; omega) (S := rs) (List.Perm.refl _) (all_sorted HGOOD.out) HFT.out.2)
    have m1 := (HA3.out).cell 1
    simp at m1
    have HKO9 := Lib.hid (HO3.out); have HB9 := Lib.hid (HB3.out)
    go_wp2_with fail
    refine HTB.out.mono ?_
    rintro e w9 hG9
    obtain ⟨B9, a9, n9, c9, q9, rfl, hT9, hB9, hb9⟩ := hG9
    have HO9 := Lib.hid (HKO9.out.after hb9)
    have c0 := HO9.out.cell 0
    have c1 := HO9.out.cell 1
    have z0 := HO9.out.frozen
    have y0 := HO9.out.shape
    simp at c0 c1 y0
    have HG9 := Lib.hid (show GotTab w3 _ (.returned (.agg #[.slice a9 n9 c9, .int .i64 q9])) w9 from ⟨B9, a9, n9, c9, q9, rfl, hT9, hB9, hb9⟩)
    clear hT9 hB9 hb9 m1
    go_wp2_with fail
    obtain ⟨r0, r1, hG⟩ := got_stored (w := w) HG9.out HKO9.out (by omega) HB9.out
    clear c0 c1 z0 y0
    generalize (w9.setCell ⟨w.heap.size + 1, 0, none⟩ (.slice a9 n9 c9)).setCell ⟨w.heap.size + 1, 1, none⟩ (.int .i64 q9) = W at r0 r1 hG ⊢
    exact bodyPost_ret (v := .agg #[.slice a9 n9 c9, .int .i64 q9]) (by simp [results, Try.results24, go_sem, r0, r1]) rfl (by rw [HQE.out]; exact hG)
  by_cases h2 : 0 ≤ age ∧ age ≤ 1000000000
  case neg =>
    have hq : ageT ⟨rs, most⟩ now age = ⟨rs, most⟩ := by
      rw [age_eq HGOOD.out, decide_eq_false h2]
      simp
    rw [decide_eq_true h1] at HTN
    rw [decide_eq_false h2] at HTA
    have HQE := Lib.hid hq
    clear hq h1 h2
    go_wp2_with fail
    refine (HTN.out _).mono ?_
    rintro e w4 ⟨rfl, rfl⟩
    go_wp2_with fail
    refine (HTA.out _).mono ?_
    rintro e w4 ⟨rfl, rfl⟩
    have HTB := Lib.hid (table_impl HRM.out (by have := (HRM.out).len_le; have := H64.out; have := HN.out; omega) (S := rs) (List.Perm.refl _) (all_sorted HGOOD.out) HFT.out.2)
    have m1 := (HA3.out).cell 1
    simp at m1
    have HKO9 := Lib.hid (HO3.out); have HB9 := Lib.hid (HB3.out)
    go_wp2_with fail
    refine HTB.out.mono ?_
    rintro e w9 hG9
    obtain ⟨B9, a9, n9, c9, q9, rfl, hT9, hB9, hb9⟩ := hG9
    have HO9 := Lib.hid (HKO9.out.after hb9)
    have c0 := HO9.out.cell 0
    have c1 := HO9.out.cell 1
    have z0 := HO9.out.frozen
    have y0 := HO9.out.shape
    simp at c0 c1 y0
    have HG9 := Lib.hid (show GotTab w3 _ (.returned (.agg #[.slice a9 n9 c9, .int .i64 q9])) w9 from ⟨B9, a9, n9, c9, q9, rfl, hT9, hB9, hb9⟩)
    clear hT9 hB9 hb9 m1
    go_wp2_with fail
    obtain ⟨r0, r1, hG⟩ := got_stored (w := w) HG9.out HKO9.out (by omega) HB9.out
    clear c0 c1 z0 y0
    generalize (w9.setCell ⟨w.heap.size + 1, 0, none⟩ (.slice a9 n9 c9)).setCell ⟨w.heap.size + 1, 1, none⟩ (.int .i64 q9) = W at r0 r1 hG ⊢
    exact bodyPost_ret (v := .agg #[.slice a9 n9 c9, .int .i64 q9]) (by simp [results, Try.results24, go_sem, r0, r1]) rfl (by rw [HQE.out]; exact hG)
  have hq : ageT ⟨rs, most⟩ now age = ⟨rs.filter (fun r => r.fixed || !decide (r.at_ < now - age)), most⟩ := by
    rw [age_eq HGOOD.out, decide_eq_true h1, decide_eq_true h2]
    congr 1
    refine List.filter_congr (fun x _ => ?_)
    have : (x.at_ + age < now) ↔ (x.at_ < now - age) := by omega
    simp only [this, Bool.true_and]
    cases x.fixed <;> simp
  rw [decide_eq_true h1] at HTN
  rw [decide_eq_true h2] at HTA
  have HQE := Lib.hid hq
  have hsub : IntKind.i64.wrap (now - age) = now - age := IntWalk.i64_in _ (by omega)
  have HBF := Lib.hid (before_impl HRM.out (by have := H64.out; omega) (now - age))
  clear hq
  go_wp2_with fail
  refine (HTN.out _).mono ?_
  rintro e w4 ⟨rfl, rfl⟩
  go_wp2_with fail
  refine (HTA.out _).mono ?_
  rintro e w4 ⟨rfl, rfl⟩
  go_wp2_with fail
  refine HBF.out.mono ?_
  rintro e w5 ⟨rfl, hR5, hT5⟩
  have HR5 := Lib.hid hR5
  have HA5 := Lib.hid (HA3.out.turned hT5 (by have := HBW.out; simp; omega))
  have HO5 := Lib.hid (HO3.out.turned hT5 (by have := HBW.out; simp; omega))
  have HB5 := Lib.hid (HB3.out.trans (hT5.below (n := w.heap.size) HB3.out.size (fun bb hb => by have := HBW.out; simp at hb; omega)))
  clear hR5 hT5
  have HTB := Lib.hid (table_impl HR5.out (by have := (HR5.out).len_le; have := H64.out; have := HN.out; omega) (S := rs.filter (fun r => r.fixed || !decide (r.at_ < now - age))) (List.Perm.refl _) (sub_sorted HGOOD.out _) HFT.out.2)
  have m1 := (HA5.out).cell 1
  simp at m1
  have HKO9 := Lib.hid (HO5.out); have HB9 := Lib.hid (HB5.out)
  go_wp2_with fail
  refine HTB.out.mono ?_
  rintro e w9 hG9
  obtain ⟨B9, a9, n9, c9, q9, rfl, hT9, hB9, hb9⟩ := hG9
  have HO9 := Lib.hid (HKO9.out.after hb9)
  have c0 := HO9.out.cell 0
  have c1 := HO9.out.cell 1
  have z0 := HO9.out.frozen
  have y0 := HO9.out.shape
  simp at c0 c1 y0
  have HG9 := Lib.hid (show GotTab w5 _ (.returned (.agg #[.slice a9 n9 c9, .int .i64 q9])) w9 from ⟨B9, a9, n9, c9, q9, rfl, hT9, hB9, hb9⟩)
  clear hT9 hB9 hb9 m1
  go_wp2_with fail
  obtain ⟨r0, r1, hG⟩ := got_stored (w := w) HG9.out HKO9.out (by omega) HB9.out
  clear c0 c1 z0 y0
  generalize (w9.setCell ⟨w.heap.size + 1, 0, none⟩ (.slice a9 n9 c9)).setCell ⟨w.heap.size + 1, 1, none⟩ (.int .i64 q9) = W at r0 r1 hG ⊢
  exact bodyPost_ret (v := .agg #[.slice a9 n9 c9, .int .i64 q9]) (by simp [results, Try.results24, go_sem, r0, r1]) rfl (by rw [HQE.out]; exact hG)
set_option linter.unusedSimpArgs false in
set_option maxRecDepth 100000 in
set_option maxHeartbeats 1000000 in
theorem fix_impl {w : World} {B : List Nat} {v : Value} {t : Tb} (h : TabIn w B v t) (vid mac port : Int) (hv : (Lit.int .i64 vid).wf = true) (hm : (Lit.int .i64 mac).wf = true) (hp : (Lit.int .i64 port).wf = true) : Calls Try.prog 21 #[v, .int .i64 vid, .int .i64 mac, .int .i64 port] w (GotTab w (fixT t vid mac port)) := by
  have HTI := Lib.hid h
  have HVF := Lib.hid (⟨hv, hm⟩ : (Lit.int .i64 vid).wf = true ∧ (Lit.int .i64 mac).wf = true)
  have HPF := Lib.hid hp
  clear hv hm hp
  obtain ⟨a, cap, rfl, hs, _, hl, hf⟩ := h
  obtain ⟨rs, most⟩ := t
  unfold tabVal at HTI ⊢
  simp only at HTI hs hl hf ⊢
  have hz : ∀ w : World, (zeroValue 26).run Try.prog w = .ok (.agg #[.slice none 0 0, .int .i64 0]) w := fun w => by kernel_rfl
  have hb1 : Below w.heap.size w ((w.alloc (.cells #[.slice a rs.length cap, .int .i64 most] 26)).alloc (.cells #[.slice none 0 0, .int .i64 0] 26)) := ((Below.refl _ _).alloc (Nat.le_refl _) _).alloc (by simp) _
  have kA : Blk ((w.alloc (.cells #[.slice a rs.length cap, .int .i64 most] 26)).alloc (.cells #[.slice none 0 0, .int .i64 0] 26)) w.heap.size #[.slice a rs.length cap, .int .i64 most] 26 := (blk_new _ _ rfl).alloc _
  have kO : Blk ((w.alloc (.cells #[.slice a rs.length cap, .int .i64 most] 26)).alloc (.cells #[.slice none 0 0, .int .i64 0] 26)) (w.heap.size + 1) #[.slice none 0 0, .int .i64 0] 26 := blk_new _ _ (by simp)
  have HT1 := Lib.hid (HTI.out.after hb1)
  have HOK := Lib.hid (tableOk_impl HT1.out)
  have HB1 := Lib.hid hb1; have HKA := Lib.hid kA; have HKO := Lib.hid kO; have HFT := Lib.hid hf
  clear hb1 kA kO hs hl hf
  obtain ⟨n, hn⟩ : ∃ n, rs.length = n := ⟨_, rfl⟩
  have HN := Lib.hid hn
  rw [hn] at HT1 HOK HB1 HKA HKO HTI ⊢
  clear hn
  by_cases hok : tabOk ⟨rs, most⟩
  case neg =>
    have hres : fixT ⟨rs, most⟩ vid mac port = ⟨[], 0⟩ := by unfold fixT; rw [if_neg hok]
    rw [hres]
    clear hres
    have HNO := Lib.hid hok
    clear hok
    go_enter Try.func21, Try.ntmps21
    go_wp2_with fail
    refine HOK.out.mono ?_
    rintro e w2 ⟨rfl, hb2⟩
    rw [decide_eq_false HNO.out]
    have HB2 := Lib.hid (HB1.out.trans (hb2.mono HB1.out.size)); have HK2 := Lib.hid (HKO.out.after hb2)
    have c0 := HK2.out.cell 0
    have c1 := HK2.out.cell 1
    have z0 := HK2.out.frozen
    have y0 := HK2.out.shape
    simp at c0 c1 y0
    clear hb2
    go_wp2_with fail
    obtain ⟨r0, r1, hG⟩ := tab_stored (w := w) (base := w.heap.size) (a := none) (n := 0) (cap := 0) (S := []) (most := 0) (World.ownsRow_nil _ _ _ _) rfl (by simp) ⟨fun x hx => absurd hx (by simp), by decide⟩ HK2.out (by omega) (Nat.le_refl _) HB2.out
    clear c0 c1 z0 y0
    generalize (w2.setCell ⟨w.heap.size + 1, 0, none⟩ (.slice none 0 0)).setCell ⟨w.heap.size + 1, 1, none⟩ (.int .i64 0) = W at r0 r1 hG ⊢
    exact bodyPost_ret (v := .agg #[.slice none 0 0, .int .i64 0]) (by simp [results, Try.results21, go_sem, r0, r1]) rfl hG
  have HGOOD := Lib.hid hok
  have hR : Rows rs := rows_of_ok hok HFT.out.1
  have hs64 : rs.length ≤ 64 := by have := hok.1.2; have := hok.2.1; simp only at *; omega
  have HRO := Lib.hid hR; have H64 := Lib.hid hs64
  clear hok hR hs64
  go_enter Try.func21, Try.ntmps21
  go_wp2_with fail
  refine HOK.out.mono ?_
  rintro e w2 ⟨rfl, hb2⟩
  rw [decide_eq_true HGOOD.out]
  have HB2 := Lib.hid (HB1.out.trans (hb2.mono HB1.out.size)); have HA2 := Lib.hid (HKA.out.after hb2); have HO2 := Lib.hid (HKO.out.after hb2)
  have HT2 := Lib.hid (HT1.out.after hb2)
  have a0 := HA2.out.cell 0
  have a1 := HA2.out.cell 1
  simp at a0 a1
  have HRS := Lib.hid (rowSetOf_impl HT2.out HRO.out H64.out)
  clear hb2
  go_wp2_with fail
  refine HRS.out.mono ?_
  rintro e w3 ⟨b, rfl, hRM, hwb, hb3⟩
  have HB3 := Lib.hid (HB2.out.trans (hb3.mono HB2.out.size)); have HA3 := Lib.hid (HA2.out.after hb3); have HO3 := Lib.hid (HO2.out.after hb3)
  have HRM := Lib.hid hRM
  have HBW := Lib.hid (show w.heap.size + 1 < b from Nat.lt_of_lt_of_le HO2.out.lt hwb)
  clear hb3 hRM hwb a0 a1 HT2 HRS HOK HT1 HB1 HKA HKO HB2 HA2 HO2
  have HROW := Lib.hid (blk_new (w := w3) (b := w3.heap.size) #[.int .i64 vid, .int .i64 mac, .int .i64 port, .int .i64 0, .bool true] 34 rfl)
  have hb4 := Below.alloc (Below.refl w3.heap.size w3) (Nat.le_refl _) (.cells #[.int .i64 vid, .int .i64 mac, .int .i64 port, .int .i64 0, .bool true] 34)
  have HB4 := Lib.hid (HB3.out.trans (hb4.mono HB3.out.size)); have HA4 := Lib.hid (HA3.out.after hb4); have HO4 := Lib.hid (HO3.out.after hb4); have HR4 := Lib.hid (HRM.out.after hb4)
  have hky := fun w' => key_any ⟨vid, mac, port, 0, true⟩ w'
  unfold Rw.val at hky
  simp only at hky
  have HKY := Lib.hid hky
  have HW3 := Lib.hid (show w.heap.size + 1 < w3.heap.size ∧ b < w3.heap.size from ⟨HO3.out.lt, HRM.out.lt⟩)
  obtain ⟨b3, hb3e⟩ : ∃ b3, w3.heap.size = b3 := ⟨_, rfl⟩
  clear hb4 hky
  go_upto_region 5 with fail
  generalize w3.alloc (.cells #[.int .i64 vid, .int .i64 mac, .int .i64 port, .int .i64 0, .bool true] 34) = w4 at HROW HB4 HA4 HO4 HR4 ⊢
  rw [hb3e] at HROW HW3
  try rw [hb3e]
  have r0 := HROW.out.cell 0
  have r1 := HROW.out.cell 1
  have r2 := HROW.out.cell 2
  have r3 := HROW.out.cell 3
  have r4 := HROW.out.cell 4
  simp at r0 r1 r2 r3 r4
  clear hb3e
  go_wp2_with fail
  refine (HKY.out _).mono ?_
  rintro e w5 ⟨rfl, hg5⟩
  have HB5 := Lib.hid (HB4.out.trans (hg5.below.mono HB4.out.size)); have HA5 := Lib.hid (HA4.out.after hg5.below); have HO5 := Lib.hid (HO4.out.after hg5.below); have HR5 := Lib.hid (HR4.out.after hg5.below); have HROW5 := Lib.hid (HROW.out.after hg5.below)
  have hlk := HR5.out.look HVF.out.1 HVF.out.2
  obtain ⟨kn, hkn⟩ : ∃ q, (tabFind rs vid mac).isSome = q := ⟨_, rfl⟩
  obtain ⟨kr, hkr⟩ : ∃ q, (tabFind rs vid mac).getD ⟨0, 0, 0, 0, false⟩ = q := ⟨_, rfl⟩
  rw [hkn, hkr] at hlk
  have HKN := Lib.hid hkn; have HKR := Lib.hid hkr
  obtain ⟨k0, k1, k2, k3, k4⟩ := kr
  unfold keyV Rw.val at hlk
  simp only at hlk
  clear hg5 hkn hkr r0 r1 r2 r3 r4
  have HLK := Lib.hid hlk
  have HKB := Lib.hid (blk_new (w := w5) (b := w5.heap.size) #[.int .i64 k0, .int .i64 k1, .int .i64 k2, .int .i64 k3, .bool k4] 34 rfl)
  have hb6 := Below.alloc (Below.refl w5.heap.size w5) (Nat.le_refl _) (.cells #[.int .i64 k0, .int .i64 k1, .int .i64 k2, .int .i64 k3, .bool k4] 34)
  have HB6 := Lib.hid (HB5.out.trans (hb6.mono HB5.out.size)); have HA6 := Lib.hid (HA5.out.after hb6); have HO6 := Lib.hid (HO5.out.after hb6); have HR6 := Lib.hid (HR5.out.after hb6); have HROW6 := Lib.hid (HROW5.out.after hb6)
  obtain ⟨b5, hb5e⟩ : ∃ b5, w5.heap.size = b5 := ⟨_, rfl⟩
  clear hb6
  go_upto_region 6 with fail
  clear hlk
  generalize w5.alloc (.cells #[.int .i64 k0, .int .i64 k1, .int .i64 k2, .int .i64 k3, .bool k4] 34) = w6 at HKB HB6 HA6 HO6 HR6 HROW6 ⊢
  rw [hb5e] at HKB
  try rw [hb5e]
  clear hb5e HLK
  have hro := rowOk_impl ⟨vid, mac, port, 0, true⟩ w6
  unfold Rw.val at hro
  simp only at hro
  have r0 := HROW6.out.cell 0
  have r1 := HROW6.out.cell 1
  have r2 := HROW6.out.cell 2
  have r3 := HROW6.out.cell 3
  have r4 := HROW6.out.cell 4
  simp at r0 r1 r2 r3 r4
  have HROK := Lib.hid hro
  clear hro
  go_wp2_with fail
  refine HROK.out.mono ?_
  rintro e w7 ⟨rfl, hb7⟩
  have HB7 := Lib.hid (HB6.out.trans (hb7.mono HB6.out.size)); have HA7 := Lib.hid (HA6.out.after hb7); have HO7 := Lib.hid (HO6.out.after hb7); have HR7 := Lib.hid (HR6.out.after hb7); have HROW7 := Lib.hid (HROW6.out.after hb7)
  clear hb7 r0 r1 r2 r3 r4
  by_cases hrk : rowOk ⟨vid, mac, port, 0, true⟩
  case neg =>
    have HQE := Lib.hid (show fixT ⟨rs, most⟩ vid mac port = ⟨rs, most⟩ by unfold fixT; rw [if_pos HGOOD.out, decide_eq_false hrk]; rfl)
    rw [decide_eq_false hrk]
    clear hrk
    have HTB := Lib.hid (table_impl HR7.out (by have := (HR7.out).len_le; have := H64.out; have := HN.out; omega) (S := rs) (List.Perm.refl _) (all_sorted HGOOD.out) HFT.out.2)
    have m1 := (HA7.out).cell 1
    simp at m1
    have HKO9 := Lib.hid (HO7.out); have HB9 := Lib.hid (HB7.out)
    go_wp2_with fail
    refine HTB.out.mono ?_
    rintro e w9 hG9
    obtain ⟨B9, a9, n9, c9, q9, rfl, hT9, hB9, hb9⟩ := hG9
    have HO9 := Lib.hid (HKO9.out.after hb9)
    have c0 := HO9.out.cell 0
    have c1 := HO9.out.cell 1
    have z0 := HO9.out.frozen
    have y0 := HO9.out.shape
    simp at c0 c1 y0
    have HG9 := Lib.hid (show GotTab w7 _ (.returned (.agg #[.slice a9 n9 c9, .int .i64 q9])) w9 from ⟨B9, a9, n9, c9, q9, rfl, hT9, hB9, hb9⟩)
    clear hT9 hB9 hb9 m1
    go_wp2_with fail
    obtain ⟨r0, r1, hG⟩ := got_stored (w := w) HG9.out HKO9.out (by omega) HB9.out
    clear c0 c1 z0 y0
    generalize (w9.setCell ⟨w.heap.size + 1, 0, none⟩ (.slice a9 n9 c9)).setCell ⟨w.heap.size + 1, 1, none⟩ (.int .i64 q9) = W at r0 r1 hG ⊢
    exact bodyPost_ret (v := .agg #[.slice a9 n9 c9, .int .i64 q9]) (by simp [results, Try.results21, go_sem, r0, r1]) rfl (by rw [HQE.out]; exact hG)
  rw [decide_eq_true hrk]
  have HRK := Lib.hid hrk
  clear hrk
  have hpl := put_len5 (r := ⟨vid, mac, port, 0, true⟩) HRK.out ((tabOk_iff _).1 HGOOD.out).2.2
  simp only at hpl
  have hlm := HGOOD.out.2.1
  simp only at hlm
  rw [HN.out] at hpl hlm
  have HPE5 := Lib.hid (put_perm (r := ⟨vid, mac, port, 0, true⟩) HRK.out ((tabOk_iff _).1 HGOOD.out).2.2)
  have HSO5 := Lib.hid (put_good (r := ⟨vid, mac, port, 0, true⟩) HRK.out ((tabOk_iff _).1 HGOOD.out).2.2).2
  have hknw := HKN.out
  have hlen := fun ty => HR7.out.len ty
  rw [HN.out] at hlen
  have m0 := HA7.out.cell 1
  simp at m0
  cases kn
  case true =>
    have HQE := Lib.hid (show fixT ⟨rs, most⟩ vid mac port = ⟨putRows ⟨vid, mac, port, 0, true⟩ rs, most⟩ by
      have e := hpl.2.1 hknw
      unfold fixT; rw [if_pos HGOOD.out, decide_eq_true HRK.out, decide_eq_false (by simp only; omega)]; rfl)
    clear hpl hlm hknw
    have HFITR := Lib.hid (show Rw.fits ⟨vid, mac, port, 0, true⟩ from ⟨HVF.out.1, HVF.out.2, HPF.out, (by decide : (Lit.int .i64 0).wf = true)⟩)
    have hnb : b3 ∉ [b] := by have := HW3.out; simp; omega
    have hKr : ∀ w', Turned [b] w7 w' → RowAt w' b3 0 ⟨vid, mac, port, 0, true⟩ := fun w' hb => ⟨(HROW7.out.turned hb hnb).cell 0, (HROW7.out.turned hb hnb).cell 1, (HROW7.out.turned hb hnb).cell 2, (HROW7.out.turned hb hnb).cell 3, (HROW7.out.turned hb hnb).cell 4⟩
    unfold RowAt at hKr
    simp only [Nat.zero_add] at hKr
    go_upto_region 7 with fail
    refine wp_region_held_drew (S := fun w' => Turned [b] w7 w') (by kernel_rfl) ((Turned.refl _ _).drew) (fun hHeld => ?_)
    refine wpAnyH_take (i := 0) (v := ?v1) rfl (by kernel_rfl) (by kernel_rfl) (by kernel_rfl) (fun _ _ _ h => h) (Or.inl ⟨by rfl, ?h1⟩) hHeld ?r1
    case h1 => intro wq hS; go_simp; with_reducible rfl
    try simp only [Act.put, List.getElem_toArray, List.getElem_cons_zero, List.getElem_cons_succ, List.setIfInBounds_toArray, List.set_cons_zero, List.set_cons_succ]
    refine wpAnyH_take (i := 1) (v := ?v2) rfl (by kernel_rfl) (by kernel_rfl) (by kernel_rfl) (fun _ _ _ h => h) (Or.inl ⟨by rfl, ?h2⟩) hHeld ?r2
    case h2 => intro wq hS; obtain ⟨c0, c1, c2, c3, c4⟩ := hKr wq hS; go_simp; with_reducible rfl
    try simp only [Act.put, List.getElem_toArray, List.getElem_cons_zero, List.getElem_cons_succ, List.setIfInBounds_toArray, List.set_cons_zero, List.set_cons_succ]
    refine wpAnyH_take (i := 3) (v := ?v3) rfl (by kernel_rfl) (by kernel_rfl) (by kernel_rfl) (fun _ _ _ h => h) (Or.inl ⟨by rfl, ?h3⟩) hHeld ?r3
    case h3 => intro wq hS; obtain ⟨c0, c1, c2, c3, c4⟩ := hKr wq hS; go_simp; with_reducible rfl
    try simp only [Act.put, List.getElem_toArray, List.getElem_cons_zero, List.getElem_cons_succ, List.setIfInBounds_toArray, List.set_cons_zero, List.set_cons_succ]
    refine wpAnyH_ready (rs := [2]) (by kernel_rfl) (by simp) ?_
    refine AllReadyH.cons rfl (fun K hK => ?_) AllReadyH.nil
    go_simp
    refine (HKY.out _).mono ?_
    rintro e wk ⟨rfl, hgk⟩
    have HBK := Lib.hid (Below.trans (Below.drew (Below.refl w7.heap.size w7)) hgk.below)
    have hbk := hgk.below
    refine hK.out _ _ (hHeld.trans1 (Turned.of_below hbk)) (fun hHeld => ?_)
    clear hK K
    try simp only [Act.put, List.getElem_toArray, List.getElem_cons_zero, List.getElem_cons_succ, List.setIfInBounds_toArray, List.set_cons_zero, List.set_cons_succ]
    refine wpAnyH_ready (rs := [4]) (by kernel_rfl) (by simp) ?_
    refine AllReadyH.cons rfl (fun K hK => ?_) AllReadyH.nil
    obtain ⟨ws, hrun, hRMs, hTs⟩ := (HR7.out.after HBK.out).store (r := ⟨vid, mac, port, 0, true⟩) HFITR.out (by have := H64.out; omega)
    unfold keyV Rw.val at hrun
    simp only at hrun
    have HRS2 := Lib.hid hRMs; have HTS := Lib.hid hTs
    clear hRMs hTs hbk hgk
    go_simp
    clear hrun
    refine hK.out _ _ (hHeld.trans1 HTS.out) (fun hHeld => ?_)
    clear hK K
    try simp only [Act.put, List.getElem_toArray, List.getElem_cons_zero, List.getElem_cons_succ, List.setIfInBounds_toArray, List.set_cons_zero, List.set_cons_succ]
    refine wpAnyH_done (by kernel_rfl) ?_ _
    have HAs := Lib.hid (HA7.out.turned hHeld (by have := HBW.out; simp; omega)); have HOs := Lib.hid (HO7.out.turned hHeld (by have := HBW.out; simp; omega))
    have HBs := Lib.hid (HB7.out.trans (hHeld.below (n := w.heap.size) HB7.out.size (fun bb hb => by have := HBW.out; simp at hb; omega)))
    clear hHeld hKr hlen m0
    have HTB := Lib.hid (table_impl HRS2.out (by have := (HRS2.out).len_le; have := H64.out; have := HN.out; omega) (S := putRows ⟨vid, mac, port, 0, true⟩ rs) HPE5.out HSO5.out HFT.out.2)
    have m1 := (HAs.out).cell 1
    simp at m1
    have HKO9 := Lib.hid (HOs.out); have HB9 := Lib.hid (HBs.out)
    go_wp2_with fail
    refine HTB.out.mono ?_
    rintro e w9 hG9
    obtain ⟨B9, a9, n9, c9, q9, rfl, hT9, hB9, hb9⟩ := hG9
    have HO9 := Lib.hid (HKO9.out.after hb9)
    have c0 := HO9.out.cell 0
    have c1 := HO9.out.cell 1
    have z0 := HO9.out.frozen
    have y0 := HO9.out.shape
    simp at c0 c1 y0
    have HG9 := Lib.hid (show GotTab ws _ (.returned (.agg #[.slice a9 n9 c9, .int .i64 q9])) w9 from ⟨B9, a9, n9, c9, q9, rfl, hT9, hB9, hb9⟩)
    clear hT9 hB9 hb9 m1
    go_wp2_with fail
    obtain ⟨r0, r1, hG⟩ := got_stored (w := w) HG9.out HKO9.out (by omega) HB9.out
    clear c0 c1 z0 y0
    generalize (w9.setCell ⟨w.heap.size + 1, 0, none⟩ (.slice a9 n9 c9)).setCell ⟨w.heap.size + 1, 1, none⟩ (.int .i64 q9) = W at r0 r1 hG ⊢
    exact bodyPost_ret (v := .agg #[.slice a9 n9 c9, .int .i64 q9]) (by simp [results, Try.results21, go_sem, r0, r1]) rfl (by rw [HQE.out]; exact hG)
  case false =>
    by_cases hroom : (n : Int) < most
    · have HQE := Lib.hid (show fixT ⟨rs, most⟩ vid mac port = ⟨putRows ⟨vid, mac, port, 0, true⟩ rs, most⟩ by
        have e := hpl.1
        unfold fixT; rw [if_pos HGOOD.out, decide_eq_true HRK.out, decide_eq_false (by simp only; omega)]; rfl)
      clear hpl hlm hknw
      have HFITR := Lib.hid (show Rw.fits ⟨vid, mac, port, 0, true⟩ from ⟨HVF.out.1, HVF.out.2, HPF.out, (by decide : (Lit.int .i64 0).wf = true)⟩)
      have hnb : b3 ∉ [b] := by have := HW3.out; simp; omega
      have hKr : ∀ w', Turned [b] w7 w' → RowAt w' b3 0 ⟨vid, mac, port, 0, true⟩ := fun w' hb => ⟨(HROW7.out.turned hb hnb).cell 0, (HROW7.out.turned hb hnb).cell 1, (HROW7.out.turned hb hnb).cell 2, (HROW7.out.turned hb hnb).cell 3, (HROW7.out.turned hb hnb).cell 4⟩
      unfold RowAt at hKr
      simp only [Nat.zero_add] at hKr
      go_upto_region 7 with fail
      refine wp_region_held_drew (S := fun w' => Turned [b] w7 w') (by kernel_rfl) ((Turned.refl _ _).drew) (fun hHeld => ?_)
      refine wpAnyH_take (i := 0) (v := ?v4) rfl (by kernel_rfl) (by kernel_rfl) (by kernel_rfl) (fun _ _ _ h => h) (Or.inl ⟨by rfl, ?h4⟩) hHeld ?r4
      case h4 => intro wq hS; go_simp; with_reducible rfl
      try simp only [Act.put, List.getElem_toArray, List.getElem_cons_zero, List.getElem_cons_succ, List.setIfInBounds_toArray, List.set_cons_zero, List.set_cons_succ]
      refine wpAnyH_take (i := 1) (v := ?v5) rfl (by kernel_rfl) (by kernel_rfl) (by kernel_rfl) (fun _ _ _ h => h) (Or.inl ⟨by rfl, ?h5⟩) hHeld ?r5
      case h5 => intro wq hS; obtain ⟨c0, c1, c2, c3, c4⟩ := hKr wq hS; go_simp; with_reducible rfl
      try simp only [Act.put, List.getElem_toArray, List.getElem_cons_zero, List.getElem_cons_succ, List.setIfInBounds_toArray, List.set_cons_zero, List.set_cons_succ]
      refine wpAnyH_take (i := 3) (v := ?v6) rfl (by kernel_rfl) (by kernel_rfl) (by kernel_rfl) (fun _ _ _ h => h) (Or.inl ⟨by rfl, ?h6⟩) hHeld ?r6
      case h6 => intro wq hS; obtain ⟨c0, c1, c2, c3, c4⟩ := hKr wq hS; go_simp; with_reducible rfl
      try simp only [Act.put, List.getElem_toArray, List.getElem_cons_zero, List.getElem_cons_succ, List.setIfInBounds_toArray, List.set_cons_zero, List.set_cons_succ]
      refine wpAnyH_ready (rs := [2]) (by kernel_rfl) (by simp) ?_
      refine AllReadyH.cons rfl (fun K hK => ?_) AllReadyH.nil
      go_simp
      refine (HKY.out _).mono ?_
      rintro e wk ⟨rfl, hgk⟩
      have HBK := Lib.hid (Below.trans (Below.drew (Below.refl w7.heap.size w7)) hgk.below)
      have hbk := hgk.below
      refine hK.out _ _ (hHeld.trans1 (Turned.of_below hbk)) (fun hHeld => ?_)
      clear hK K
      try simp only [Act.put, List.getElem_toArray, List.getElem_cons_zero, List.getElem_cons_succ, List.setIfInBounds_toArray, List.set_cons_zero, List.set_cons_succ]
      refine wpAnyH_ready (rs := [4]) (by kernel_rfl) (by simp) ?_
      refine AllReadyH.cons rfl (fun K hK => ?_) AllReadyH.nil
      obtain ⟨ws, hrun, hRMs, hTs⟩ := (HR7.out.after HBK.out).store (r := ⟨vid, mac, port, 0, true⟩) HFITR.out (by have := H64.out; omega)
      unfold keyV Rw.val at hrun
      simp only at hrun
      have HRS2 := Lib.hid hRMs; have HTS := Lib.hid hTs
      clear hRMs hTs hbk hgk
      go_simp
      clear hrun
      refine hK.out _ _ (hHeld.trans1 HTS.out) (fun hHeld => ?_)
      clear hK K
      try simp only [Act.put, List.getElem_toArray, List.getElem_cons_zero, List.getElem_cons_succ, List.setIfInBounds_toArray, List.set_cons_zero, List.set_cons_succ]
      refine wpAnyH_done (by kernel_rfl) ?_ _
      have HAs := Lib.hid (HA7.out.turned hHeld (by have := HBW.out; simp; omega)); have HOs := Lib.hid (HO7.out.turned hHeld (by have := HBW.out; simp; omega))
      have HBs := Lib.hid (HB7.out.trans (hHeld.below (n := w.heap.size) HB7.out.size (fun bb hb => by have := HBW.out; simp at hb; omega)))
      clear hHeld hKr hlen m0
      have HTB := Lib.hid (table_impl HRS2.out (by have := (HRS2.out).len_le; have := H64.out; have := HN.out; omega) (S := putRows ⟨vid, mac, port, 0, true⟩ rs) HPE5.out HSO5.out HFT.out.2)
      have m1 := (HAs.out).cell 1
      simp at m1
      have HKO9 := Lib.hid (HOs.out); have HB9 := Lib.hid (HBs.out)
      go_wp2_with fail
      refine HTB.out.mono ?_
      rintro e w9 hG9
      obtain ⟨B9, a9, n9, c9, q9, rfl, hT9, hB9, hb9⟩ := hG9
      have HO9 := Lib.hid (HKO9.out.after hb9)
      have c0 := HO9.out.cell 0
      have c1 := HO9.out.cell 1
      have z0 := HO9.out.frozen
      have y0 := HO9.out.shape
      simp at c0 c1 y0
      have HG9 := Lib.hid (show GotTab ws _ (.returned (.agg #[.slice a9 n9 c9, .int .i64 q9])) w9 from ⟨B9, a9, n9, c9, q9, rfl, hT9, hB9, hb9⟩)
      clear hT9 hB9 hb9 m1
      go_wp2_with fail
      obtain ⟨r0, r1, hG⟩ := got_stored (w := w) HG9.out HKO9.out (by omega) HB9.out
      clear c0 c1 z0 y0
      generalize (w9.setCell ⟨w.heap.size + 1, 0, none⟩ (.slice a9 n9 c9)).setCell ⟨w.heap.size + 1, 1, none⟩ (.int .i64 q9) = W at r0 r1 hG ⊢
      exact bodyPost_ret (v := .agg #[.slice a9 n9 c9, .int .i64 q9]) (by simp [results, Try.results21, go_sem, r0, r1]) rfl (by rw [HQE.out]; exact hG)
    · have HQE := Lib.hid (show fixT ⟨rs, most⟩ vid mac port = ⟨rs, most⟩ by
        have e := hpl.2.2 hknw
        unfold fixT; rw [if_pos HGOOD.out, decide_eq_true HRK.out, decide_eq_true (by simp only; omega)]; rfl)
      clear hpl hlm hknw
      have HTB := Lib.hid (table_impl HR7.out (by have := (HR7.out).len_le; have := H64.out; have := HN.out; omega) (S := rs) (List.Perm.refl _) (all_sorted HGOOD.out) HFT.out.2)
      have m1 := (HA7.out).cell 1
      simp at m1
      have HKO9 := Lib.hid (HO7.out); have HB9 := Lib.hid (HB7.out)
      go_wp2_with fail
      refine HTB.out.mono ?_
      rintro e w9 hG9
      obtain ⟨B9, a9, n9, c9, q9, rfl, hT9, hB9, hb9⟩ := hG9
      have HO9 := Lib.hid (HKO9.out.after hb9)
      have c0 := HO9.out.cell 0
      have c1 := HO9.out.cell 1
      have z0 := HO9.out.frozen
      have y0 := HO9.out.shape
      simp at c0 c1 y0
      have HG9 := Lib.hid (show GotTab w7 _ (.returned (.agg #[.slice a9 n9 c9, .int .i64 q9])) w9 from ⟨B9, a9, n9, c9, q9, rfl, hT9, hB9, hb9⟩)
      clear hT9 hB9 hb9 m1
      go_wp2_with fail
      obtain ⟨r0, r1, hG⟩ := got_stored (w := w) HG9.out HKO9.out (by omega) HB9.out
      clear c0 c1 z0 y0
      generalize (w9.setCell ⟨w.heap.size + 1, 0, none⟩ (.slice a9 n9 c9)).setCell ⟨w.heap.size + 1, 1, none⟩ (.int .i64 q9) = W at r0 r1 hG ⊢
      exact bodyPost_ret (v := .agg #[.slice a9 n9 c9, .int .i64 q9]) (by simp [results, Try.results21, go_sem, r0, r1]) rfl (by rw [HQE.out]; exact hG)
end Go.Proofs.Ytleebmbnjdoinaa
