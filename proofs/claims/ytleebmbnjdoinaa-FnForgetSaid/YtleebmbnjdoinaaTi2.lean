/- Flush, AgeOut, Fix, Learn of the program. -/
import Derived.Test.YtleebmbnjdoinaaTi1
import Derived.Test.YtleebmbnjdoinaaTbPl
namespace Go.Proofs.Ytleebmbnjdoinaa
open Go.RowKit Go.Maps

theorem least_none {rs : List Rw} (h : rs.filter (fun x => !x.fixed) = []) : leastAt rs rs.length < 0 := by
  have h1 := leastAt_lt rs rs.length
  have h2 := least_free rs rs.length
  by_cases h0 : 0 ≤ leastAt rs rs.length
  · have hlt : (leastAt rs rs.length).toNat < rs.length := by omega
    have e := h2 h0
    rw [getD_eq hlt] at e
    rw [List.filter_eq_nil_iff] at h
    have := h _ (List.getElem_mem hlt)
    simp [e] at this
  · omega
/-- of those that are not fixed none is older, and of one age none is ahead -/
theorem least_min (rs : List Rw) : ∀ k, k ≤ rs.length → (leastAt rs k < 0 → ∀ j (_ : j < k) (h : j < rs.length), (rs[j]'h).fixed = true) ∧
    (∀ m : Nat, leastAt rs k = (m : Int) → ∃ hm : m < rs.length, m < k ∧ (rs[m]'hm).fixed = false ∧ ∀ j (_ : j < k) (h : j < rs.length), (rs[j]'h).fixed = false → (rs[m]'hm).at_ ≤ (rs[j]'h).at_ ∧ ((rs[j]'h).at_ = (rs[m]'hm).at_ → m ≤ j))
  | 0, _ => ⟨fun _ j hj => absurd hj (by omega), fun m h => by simp [leastAt] at h⟩
  | k + 1, hk => by
    obtain ⟨ih1, ih2⟩ := least_min rs k (by omega)
    have hkl : k < rs.length := by omega
    have hlt := leastAt_lt rs k
    unfold leastAt
    rw [getD_eq hkl]
    by_cases hf : rs[k].fixed = true
    · rw [if_neg (by simp [hf])]
      refine ⟨fun h0 j hj hl => ?_, fun m hm => ?_⟩
      · by_cases e : j = k
        · subst e; exact hf
        · exact ih1 h0 j (by omega) hl
      · obtain ⟨h1, h2, h3, h4⟩ := ih2 m hm
        refine ⟨h1, by omega, h3, fun j hj hl hfj => ?_⟩
        by_cases e : j = k
        · subst e; rw [hf] at hfj; cases hfj
        · exact h4 j (by omega) hl hfj
    · have hf' : rs[k].fixed = false := by simpa using hf
      by_cases h0 : leastAt rs k < 0
      · rw [if_pos (by simp [hf', h0])]
        refine ⟨fun h => absurd h (by omega), fun m hm => ?_⟩
        obtain rfl : m = k := by omega
        refine ⟨hkl, by omega, hf', fun j hj hl hfj => ?_⟩
        by_cases e : j = m
        · subst e; exact ⟨Int.le_refl _, fun _ => Nat.le_refl _⟩
        · have := ih1 h0 j (by omega) hl
          rw [this] at hfj; cases hfj
      · obtain ⟨p, hp⟩ := Int.eq_ofNat_of_zero_le (show 0 ≤ leastAt rs k by omega)
        obtain ⟨h1, h2, h3, h4⟩ := ih2 p hp
        have hn0 : ¬ ((p : Int) < 0) := by omega
        rw [hp, Int.toNat_natCast, getD_eq h1]
        by_cases hl : rs[k].at_ < rs[p].at_
        · rw [if_pos (by simp [hf', hl])]
          refine ⟨fun h => absurd h (by omega), fun m hm => ?_⟩
          obtain rfl : m = k := by omega
          refine ⟨hkl, by omega, hf', fun j hj hjl hfj => ?_⟩
          by_cases e : j = m
          · subst e; exact ⟨Int.le_refl _, fun _ => Nat.le_refl _⟩
          · have := (h4 j (by omega) hjl hfj).1
            exact ⟨by omega, fun e2 => by omega⟩
        · rw [if_neg (by simp [hf', hl, hn0])]
          refine ⟨fun h => absurd h (by omega), fun m hm => ?_⟩
          obtain rfl : m = p := by omega
          refine ⟨h1, by omega, h3, fun j hj hjl hfj => ?_⟩
          by_cases e : j = k
          · subst e; exact ⟨by omega, fun _ => by omega⟩
          · exact h4 j (by omega) hjl hfj
theorem erase_filter {rs : List Rw} (hs : rs.Pairwise ahead) {k : Nat} (hk : k < rs.length) : rs.eraseIdx k = rs.filter (fun r => !hit rs[k].vid rs[k].mac r) := by
  have hn : rs.Nodup := List.Pairwise.imp (fun {a b} (h : ahead a b) => (fun e => by subst e; exact ahead_irr h h : a ≠ b)) hs
  refine sorted_one (hs.sublist (List.eraseIdx_sublist rs k)) (hs.filter _) ((List.perm_ext_iff_of_nodup (hn.sublist (List.eraseIdx_sublist rs k)) (hn.filter _)).2 (fun x => ?_))
  rw [List.mem_filter, List.mem_eraseIdx_iff_getElem]
  unfold hit
  rw [Bool.not_eq_true', decide_eq_false_iff_not]
  have hpw := List.pairwise_iff_getElem.1 hs
  constructor
  · rintro ⟨i, hi, hne, rfl⟩
    refine ⟨List.getElem_mem hi, fun e => ?_⟩
    rcases Nat.lt_or_gt_of_ne hne with h | h
    · exact ahead_key (hpw i k hi hk h) e
    · exact ahead_key (hpw k i hk hi h) ⟨e.1.symm, e.2.symm⟩
  · rintro ⟨hx, he⟩
    obtain ⟨i, hi, rfl⟩ := List.getElem_of_mem hx
    exact ⟨i, hi, fun e => by subst e; exact he ⟨rfl, rfl⟩, rfl⟩
theorem least_old {t : Tb} (hok : tabOk t) {x : Rw} (hx : x ∈ t.rows) (hf : x.fixed = false) (hl : ∀ y ∈ t.rows, y.fixed = false → ¬ older y x) : 0 ≤ leastAt t.rows t.rows.length ∧ t.rows.eraseIdx (leastAt t.rows t.rows.length).toNat = t.rows.filter (fun r => !hit x.vid x.mac r) := by
  have hs := ((tabOk_iff t).1 hok).2.2.2
  obtain ⟨h1, h2⟩ := least_min t.rows t.rows.length (Nat.le_refl _)
  obtain ⟨j, hj, rfl⟩ := List.getElem_of_mem hx
  by_cases h0 : leastAt t.rows t.rows.length < 0
  · have := h1 h0 j hj hj
    rw [hf] at this; cases this
  · obtain ⟨p, hp⟩ := Int.eq_ofNat_of_zero_le (show 0 ≤ leastAt t.rows t.rows.length by omega)
    obtain ⟨hpl, _, h3, h4⟩ := h2 p hp
    refine ⟨by omega, ?_⟩
    rw [hp, Int.toNat_natCast, erase_filter hs hpl]
    have hn := hl _ (List.getElem_mem hpl) h3
    obtain ⟨a1, a2⟩ := h4 j hj hj hf
    have e : p = j := by
      by_cases ea : t.rows[j].at_ = t.rows[p].at_
      · have hle := a2 ea
        by_cases e : p = j
        · exact e
        · exact absurd (.inr ⟨ea.symm, List.pairwise_iff_getElem.1 hs p j hpl hj (by omega)⟩) hn
      · exact absurd (.inl (by omega)) hn
    subst e
    rfl

set_option linter.unusedSimpArgs false in
set_option maxRecDepth 100000 in
set_option maxHeartbeats 1000000 in
theorem learn_impl {w : World} {B : List Nat} {v : Value} {t : Tb} (h : TabIn w B v t) (vid mac port now : Int) (hv : (Lit.int .i64 vid).wf = true) (hm : (Lit.int .i64 mac).wf = true) (hp : (Lit.int .i64 port).wf = true) (hw : (Lit.int .i64 now).wf = true) : Calls Try.prog 14 #[v, .int .i64 vid, .int .i64 mac, .int .i64 port, .int .i64 now] w (GotTab w (learnT t vid mac port now)) := by
  have HTI := Lib.hid h
  have HVF := Lib.hid (⟨hv, hm⟩ : (Lit.int .i64 vid).wf = true ∧ (Lit.int .i64 mac).wf = true)
  have HPF := Lib.hid (⟨hp, hw⟩ : (Lit.int .i64 port).wf = true ∧ (Lit.int .i64 now).wf = true)
  clear hv hm hp hw
  obtain ⟨a, cap, rfl, hs, _, hl, hf⟩ := h
  obtain ⟨rs, most⟩ := t
  unfold tabVal at HTI ⊢
  simp only at HTI hs hl hf ⊢
  have hz : ∀ w : World, (zeroValue 26).run Try.prog w = .ok (.agg #[.slice none 0 0, .int .i64 0]) w := fun w => by kernel_rfl
  have hb1 : Below w.heap.size w ((w.alloc (.cells #[.slice a rs.length cap, .int .i64 most] 26)).alloc (.cells #[.slice none 0 0, .int .i64 0] 26)) := ((Below.refl _ _).alloc (Nat.le_refl _) _).alloc (by simp) _
  have kA : Blk ((w.alloc (.cells #[.slice a rs.length cap, .int .i64 most] 26)).alloc (.cells #[.slice none 0 0, .int .i64 0] 26)) w.heap.size #[.slice a rs.length cap, .int .i64 most] 26 := (blk_new _ _ rfl).alloc _
  have kO : Blk ((w.alloc (.cells #[.slice a rs.length cap, .int .i64 most] 26)).alloc (.cells #[.slice none 0 0, .int .i64 0] 26)) (w.heap.size + 1) #[.slice none 0 0, .int .i64 0] 26 := blk_new _ _ (by simp)
  have HT1 := Lib.hid (HTI.out.after hb1)
  have HOK := Lib.hid (tableOk_impl HT1.out)
  have HB1 := Lib.hid hb1; have HKA := Lib.hid kA; have HKO := Lib.hid kO; have HFT := Lib.hid hf
  clear hb1 kA kO hs hl hf
  obtain ⟨n, hn⟩ : ∃ n, rs.length = n := ⟨_, rfl⟩
  have HN := Lib.hid hn
  rw [hn] at HT1 HOK HB1 HKA HKO HTI ⊢
  clear hn
  by_cases hok : tabOk ⟨rs, most⟩
  case neg =>
    have hres : learnT ⟨rs, most⟩ vid mac port now = ⟨[], 0⟩ := by unfold learnT; rw [if_neg hok]
    rw [hres]
    clear hres
    have HNO := Lib.hid hok
    clear hok
    go_enter Try.func14, Try.ntmps14
    go_wp2_with fail
    refine HOK.out.mono ?_
    rintro e w2 ⟨rfl, hb2⟩
    rw [decide_eq_false HNO.out]
    have HB2 := Lib.hid (HB1.out.trans (hb2.mono HB1.out.size)); have HK2 := Lib.hid (HKO.out.after hb2)
    have c0 := HK2.out.cell 0
    have c1 := HK2.out.cell 1
    have z0 := HK2.out.frozen
    have y0 := HK2.out.shape
    simp at c0 c1 y0
    clear hb2
    go_wp2_with fail
    obtain ⟨r0, r1, hG⟩ := tab_stored (w := w) (base := w.heap.size) (a := none) (n := 0) (cap := 0) (S := []) (most := 0) (World.ownsRow_nil _ _ _ _) rfl (by simp) ⟨fun x hx => absurd hx (by simp), by decide⟩ HK2.out (by omega) (Nat.le_refl _) HB2.out
    clear c0 c1 z0 y0
    generalize (w2.setCell ⟨w.heap.size + 1, 0, none⟩ (.slice none 0 0)).setCell ⟨w.heap.size + 1, 1, none⟩ (.int .i64 0) = W at r0 r1 hG ⊢
    exact bodyPost_ret (v := .agg #[.slice none 0 0, .int .i64 0]) (by simp [results, Try.results14, go_sem, r0, r1]) rfl hG
  have HGOOD := Lib.hid hok
  have hR : Rows rs := rows_of_ok hok HFT.out.1
  have hs64 : rs.length ≤ 64 := by have := hok.1.2; have := hok.2.1; simp only at *; omega
  have HRO := Lib.hid hR; have H64 := Lib.hid hs64
  clear hok hR hs64
  go_enter Try.func14, Try.ntmps14
  go_wp2_with fail
  refine HOK.out.mono ?_
  rintro e w2 ⟨rfl, hb2⟩
  rw [decide_eq_true HGOOD.out]
  have HB2 := Lib.hid (HB1.out.trans (hb2.mono HB1.out.size)); have HA2 := Lib.hid (HKA.out.after hb2); have HO2 := Lib.hid (HKO.out.after hb2)
  have HT2 := Lib.hid (HT1.out.after hb2)
  have a0 := HA2.out.cell 0
  have a1 := HA2.out.cell 1
  simp at a0 a1
  have HRS := Lib.hid (rowSetOf_impl HT2.out HRO.out H64.out)
  clear hb2
  go_wp2_with fail
  refine HRS.out.mono ?_
  rintro e w3 ⟨b, rfl, hRM, hwb, hb3⟩
  have HB3 := Lib.hid (HB2.out.trans (hb3.mono HB2.out.size)); have HA3 := Lib.hid (HA2.out.after hb3); have HO3 := Lib.hid (HO2.out.after hb3)
  have HRM := Lib.hid hRM
  have HBW := Lib.hid (show w.heap.size + 1 < b from Nat.lt_of_lt_of_le HO2.out.lt hwb)
  clear hb3 hRM hwb a0 a1 HT2 HRS HOK HT1 HB1 HKA HKO HB2 HA2 HO2
  have HROW := Lib.hid (blk_new (w := w3) (b := w3.heap.size) #[.int .i64 vid, .int .i64 mac, .int .i64 port, .int .i64 now, .bool false] 34 rfl)
  have hb4 := Below.alloc (Below.refl w3.heap.size w3) (Nat.le_refl _) (.cells #[.int .i64 vid, .int .i64 mac, .int .i64 port, .int .i64 now, .bool false] 34)
  have HB4 := Lib.hid (HB3.out.trans (hb4.mono HB3.out.size)); have HA4 := Lib.hid (HA3.out.after hb4); have HO4 := Lib.hid (HO3.out.after hb4); have HR4 := Lib.hid (HRM.out.after hb4)
  have hky := fun w' => key_any ⟨vid, mac, port, now, false⟩ w'
  unfold Rw.val at hky
  simp only at hky
  have HKY := Lib.hid hky
  have HW3 := Lib.hid (show w.heap.size + 1 < w3.heap.size ∧ b < w3.heap.size from ⟨HO3.out.lt, HRM.out.lt⟩)
  obtain ⟨b3, hb3e⟩ : ∃ b3, w3.heap.size = b3 := ⟨_, rfl⟩
  clear hb4 hky
  go_upto_region 5 with fail
  generalize w3.alloc (.cells #[.int .i64 vid, .int .i64 mac, .int .i64 port, .int .i64 now, .bool false] 34) = w4 at HROW HB4 HA4 HO4 HR4 ⊢
  rw [hb3e] at HROW HW3
  try rw [hb3e]
  have r0 := HROW.out.cell 0
  have r1 := HROW.out.cell 1
  have r2 := HROW.out.cell 2
  have r3 := HROW.out.cell 3
  have r4 := HROW.out.cell 4
  simp at r0 r1 r2 r3 r4
  clear hb3e
  go_wp2_with fail
  refine (HKY.out _).mono ?_
  rintro e w5 ⟨rfl, hg5⟩
  have HB5 := Lib.hid (HB4.out.trans (hg5.below.mono HB4.out.size)); have HA5 := Lib.hid (HA4.out.after hg5.below); have HO5 := Lib.hid (HO4.out.after hg5.below); have HR5 := Lib.hid (HR4.out.after hg5.below); have HROW5 := Lib.hid (HROW.out.after hg5.below)
  have hlk := HR5.out.look HVF.out.1 HVF.out.2
  obtain ⟨kn, hkn⟩ : ∃ q, (tabFind rs vid mac).isSome = q := ⟨_, rfl⟩
  obtain ⟨kr, hkr⟩ : ∃ q, (tabFind rs vid mac).getD ⟨0, 0, 0, 0, false⟩ = q := ⟨_, rfl⟩
  rw [hkn, hkr] at hlk
  have HKN := Lib.hid hkn; have HKR := Lib.hid hkr
  obtain ⟨k0, k1, k2, k3, k4⟩ := kr
  unfold keyV Rw.val at hlk
  simp only at hlk
  clear hg5 hkn hkr r0 r1 r2 r3 r4
  have HLK := Lib.hid hlk
  have HKB := Lib.hid (blk_new (w := w5) (b := w5.heap.size) #[.int .i64 k0, .int .i64 k1, .int .i64 k2, .int .i64 k3, .bool k4] 34 rfl)
  have hb6 := Below.alloc (Below.refl w5.heap.size w5) (Nat.le_refl _) (.cells #[.int .i64 k0, .int .i64 k1, .int .i64 k2, .int .i64 k3, .bool k4] 34)
  have HB6 := Lib.hid (HB5.out.trans (hb6.mono HB5.out.size)); have HA6 := Lib.hid (HA5.out.after hb6); have HO6 := Lib.hid (HO5.out.after hb6); have HR6 := Lib.hid (HR5.out.after hb6); have HROW6 := Lib.hid (HROW5.out.after hb6)
  obtain ⟨b5, hb5e⟩ : ∃ b5, w5.heap.size = b5 := ⟨_, rfl⟩
  clear hb6
  go_upto_region 6 with fail
  clear hlk
  generalize w5.alloc (.cells #[.int .i64 k0, .int .i64 k1, .int .i64 k2, .int .i64 k3, .bool k4] 34) = w6 at HKB HB6 HA6 HO6 HR6 HROW6 ⊢
  rw [hb5e] at HKB
  try rw [hb5e]
  clear hb5e HLK
  have hro := rowOk_impl ⟨vid, mac, port, now, false⟩ w6
  unfold Rw.val at hro
  simp only at hro
  have r0 := HROW6.out.cell 0
  have r1 := HROW6.out.cell 1
  have r2 := HROW6.out.cell 2
  have r3 := HROW6.out.cell 3
  have r4 := HROW6.out.cell 4
  simp at r0 r1 r2 r3 r4
  have HROK := Lib.hid hro
  clear hro
  go_wp2_with fail
  refine HROK.out.mono ?_
  rintro e w7 ⟨rfl, hb7⟩
  have HB7 := Lib.hid (HB6.out.trans (hb7.mono HB6.out.size)); have HA7 := Lib.hid (HA6.out.after hb7); have HO7 := Lib.hid (HO6.out.after hb7); have HR7 := Lib.hid (HR6.out.after hb7); have HROW7 := Lib.hid (HROW6.out.after hb7); have HKB7 := Lib.hid (HKB.out.after hb7)
  clear hb7 r0 r1 r2 r3 r4
  by_cases hrk : rowOk ⟨vid, mac, port, now, false⟩
  case neg =>
    have HQE := Lib.hid (show learnT ⟨rs, most⟩ vid mac port now = ⟨rs, most⟩ by unfold learnT; rw [if_pos HGOOD.out, decide_eq_false hrk]; rfl)
    rw [decide_eq_false hrk]
    clear hrk
    have HTB := Lib.hid (table_impl HR7.out (by have := (HR7.out).len_le; have := H64.out; have := HN.out; omega) (S := rs) (List.Perm.refl _) (all_sorted HGOOD.out) HFT.out.2)
    have m1 := (HA7.out).cell 1
    simp at m1
    have HKO9 := Lib.hid (HO7.out); have HB9 := Lib.hid (HB7.out)
    go_wp2_with fail
    refine HTB.out.mono ?_
    rintro e w9 hG9
    obtain ⟨B9, a9, n9, c9, q9, rfl, hT9, hB9, hb9⟩ := hG9
    have HO9 := Lib.hid (HKO9.out.after hb9)
    have c0 := HO9.out.cell 0
    have c1 := HO9.out.cell 1
    have z0 := HO9.out.frozen
    have y0 := HO9.out.shape
    simp at c0 c1 y0
    have HG9 := Lib.hid (show GotTab w7 _ (.returned (.agg #[.slice a9 n9 c9, .int .i64 q9])) w9 from ⟨B9, a9, n9, c9, q9, rfl, hT9, hB9, hb9⟩)
    clear hT9 hB9 hb9 m1
    go_wp2_with fail
    obtain ⟨r0, r1, hG⟩ := got_stored (w := w) HG9.out HKO9.out (by omega) HB9.out
    clear c0 c1 z0 y0
    generalize (w9.setCell ⟨w.heap.size + 1, 0, none⟩ (.slice a9 n9 c9)).setCell ⟨w.heap.size + 1, 1, none⟩ (.int .i64 q9) = W at r0 r1 hG ⊢
    exact bodyPost_ret (v := .agg #[.slice a9 n9 c9, .int .i64 q9]) (by simp [results, Try.results14, go_sem, r0, r1]) rfl (by rw [HQE.out]; exact hG)
  rw [decide_eq_true hrk]
  have HRK := Lib.hid hrk
  clear hrk
  have q4 := HKB7.out.cell 4
  simp at q4
  have hfx : fixedAt rs vid mac = k4 := by
    have e := congrArg Rw.fixed HKR.out
    simp only at e
    rw [← e]
    unfold fixedAt
    cases tabFind rs vid mac <;> rfl
  have HFX := Lib.hid hfx
  clear hfx
  cases k4
  case true =>
    have HQE := Lib.hid (show learnT ⟨rs, most⟩ vid mac port now = ⟨rs, most⟩ by unfold learnT; rw [if_pos HGOOD.out, decide_eq_true HRK.out]; simp only; rw [HFX.out]; simp)
    have HTB := Lib.hid (table_impl HR7.out (by have := (HR7.out).len_le; have := H64.out; have := HN.out; omega) (S := rs) (List.Perm.refl _) (all_sorted HGOOD.out) HFT.out.2)
    have m1 := (HA7.out).cell 1
    simp at m1
    have HKO9 := Lib.hid (HO7.out); have HB9 := Lib.hid (HB7.out)
    go_wp2_with fail
    refine HTB.out.mono ?_
    rintro e w9 hG9
    obtain ⟨B9, a9, n9, c9, q9, rfl, hT9, hB9, hb9⟩ := hG9
    have HO9 := Lib.hid (HKO9.out.after hb9)
    have c0 := HO9.out.cell 0
    have c1 := HO9.out.cell 1
    have z0 := HO9.out.frozen
    have y0 := HO9.out.shape
    simp at c0 c1 y0
    have HG9 := Lib.hid (show GotTab w7 _ (.returned (.agg #[.slice a9 n9 c9, .int .i64 q9])) w9 from ⟨B9, a9, n9, c9, q9, rfl, hT9, hB9, hb9⟩)
    clear hT9 hB9 hb9 m1
    go_wp2_with fail
    obtain ⟨r0, r1, hG⟩ := got_stored (w := w) HG9.out HKO9.out (by omega) HB9.out
    clear c0 c1 z0 y0
    generalize (w9.setCell ⟨w.heap.size + 1, 0, none⟩ (.slice a9 n9 c9)).setCell ⟨w.heap.size + 1, 1, none⟩ (.int .i64 q9) = W at r0 r1 hG ⊢
    exact bodyPost_ret (v := .agg #[.slice a9 n9 c9, .int .i64 q9]) (by simp [results, Try.results14, go_sem, r0, r1]) rfl (by rw [HQE.out]; exact hG)
  case false =>
    have hlm := HGOOD.out.2.1
    simp only at hlm
    rw [HN.out] at hlm
    have hknw := HKN.out
    have hlen := fun ty => HR7.out.len ty
    rw [HN.out] at hlen
    have m0 := HA7.out.cell 1
    simp at m0
    cases kn
    case true =>
      have hpos : most ≠ 0 := by
        obtain ⟨y, hy⟩ := Option.isSome_iff_exists.1 hknw
        have := List.length_pos_of_mem (List.mem_of_find?_eq_some hy)
        have := HN.out
        omega
      have HQE := Lib.hid (show learnT ⟨rs, most⟩ vid mac port now = ⟨putRows ⟨vid, mac, port, now, false⟩ rs, most⟩ by
        have hnn : (tabFind rs vid mac).isNone = false := by rw [← Option.not_isSome, hknw]; rfl
        unfold learnT; rw [if_pos HGOOD.out, decide_eq_true HRK.out]; simp only; rw [HFX.out, hnn]; simp [hpos])
      have HPE5 := Lib.hid (put_perm (r := ⟨vid, mac, port, now, false⟩) HRK.out ((tabOk_iff _).1 HGOOD.out).2.2)
      have HSO5 := Lib.hid (put_good (r := ⟨vid, mac, port, now, false⟩) HRK.out ((tabOk_iff _).1 HGOOD.out).2.2).2
      clear hlm hknw hpos
      have HFITR := Lib.hid (show Rw.fits ⟨vid, mac, port, now, false⟩ from ⟨HVF.out.1, HVF.out.2, HPF.out.1, HPF.out.2⟩)
      have hnb : b3 ∉ [b] := by have := HW3.out; simp; omega
      have hKr : ∀ w', Turned [b] w7 w' → RowAt w' b3 0 ⟨vid, mac, port, now, false⟩ := fun w' hb => ⟨(HROW7.out.turned hb hnb).cell 0, (HROW7.out.turned hb hnb).cell 1, (HROW7.out.turned hb hnb).cell 2, (HROW7.out.turned hb hnb).cell 3, (HROW7.out.turned hb hnb).cell 4⟩
      unfold RowAt at hKr
      simp only [Nat.zero_add] at hKr
      go_upto_region 10 with fail
      refine wp_region_held_drew (S := fun w' => Turned [b] w7 w') (by kernel_rfl) ((Turned.refl _ _).drew) (fun hHeld => ?_)
      refine wpAnyH_take (i := 0) (v := ?v7) rfl (by kernel_rfl) (by kernel_rfl) (by kernel_rfl) (fun _ _ _ h => h) (Or.inl ⟨by rfl, ?h7⟩) hHeld ?r7
      case h7 => intro wq hS; go_simp; with_reducible rfl
      try simp only [Act.put, List.getElem_toArray, List.getElem_cons_zero, List.getElem_cons_succ, List.setIfInBounds_toArray, List.set_cons_zero, List.set_cons_succ]
      refine wpAnyH_take (i := 1) (v := ?v8) rfl (by kernel_rfl) (by kernel_rfl) (by kernel_rfl) (fun _ _ _ h => h) (Or.inl ⟨by rfl, ?h8⟩) hHeld ?r8
      case h8 => intro wq hS; obtain ⟨c0, c1, c2, c3, c4⟩ := hKr wq hS; go_simp; with_reducible rfl
      try simp only [Act.put, List.getElem_toArray, List.getElem_cons_zero, List.getElem_cons_succ, List.setIfInBounds_toArray, List.set_cons_zero, List.set_cons_succ]
      refine wpAnyH_take (i := 3) (v := ?v9) rfl (by kernel_rfl) (by kernel_rfl) (by kernel_rfl) (fun _ _ _ h => h) (Or.inl ⟨by rfl, ?h9⟩) hHeld ?r9
      case h9 => intro wq hS; obtain ⟨c0, c1, c2, c3, c4⟩ := hKr wq hS; go_simp; with_reducible rfl
      try simp only [Act.put, List.getElem_toArray, List.getElem_cons_zero, List.getElem_cons_succ, List.setIfInBounds_toArray, List.set_cons_zero, List.set_cons_succ]
      refine wpAnyH_ready (rs := [2]) (by kernel_rfl) (by simp) ?_
      refine AllReadyH.cons rfl (fun K hK => ?_) AllReadyH.nil
      go_simp
      refine (HKY.out _).mono ?_
      rintro e wk ⟨rfl, hgk⟩
      have HBK := Lib.hid (Below.trans (Below.drew (Below.refl w7.heap.size w7)) hgk.below)
      have hbk := hgk.below
      refine hK.out _ _ (hHeld.trans1 (Turned.of_below hbk)) (fun hHeld => ?_)
      clear hK K
      try simp only [Act.put, List.getElem_toArray, List.getElem_cons_zero, List.getElem_cons_succ, List.setIfInBounds_toArray, List.set_cons_zero, List.set_cons_succ]
      refine wpAnyH_ready (rs := [4]) (by kernel_rfl) (by simp) ?_
      refine AllReadyH.cons rfl (fun K hK => ?_) AllReadyH.nil
      obtain ⟨ws, hrun, hRMs, hTs⟩ := (HR7.out.after HBK.out).store (r := ⟨vid, mac, port, now, false⟩) HFITR.out (by have := H64.out; omega)
      unfold keyV Rw.val at hrun
      simp only at hrun
      have HRS2 := Lib.hid hRMs; have HTS := Lib.hid hTs
      clear hRMs hTs hbk hgk
      go_simp
      clear hrun
      refine hK.out _ _ (hHeld.trans1 HTS.out) (fun hHeld => ?_)
      clear hK K
      try simp only [Act.put, List.getElem_toArray, List.getElem_cons_zero, List.getElem_cons_succ, List.setIfInBounds_toArray, List.set_cons_zero, List.set_cons_succ]
      refine wpAnyH_done (by kernel_rfl) ?_ _
      have HAs := Lib.hid (HA7.out.turned hHeld (by have := HBW.out; simp; omega)); have HOs := Lib.hid (HO7.out.turned hHeld (by have := HBW.out; simp; omega))
      have HBs := Lib.hid (HB7.out.trans (hHeld.below (n := w.heap.size) HB7.out.size (fun bb hb => by have := HBW.out; simp at hb; omega)))
      clear hHeld hKr hlen m0 q4
      have HTB := Lib.hid (table_impl HRS2.out (by have := (HRS2.out).len_le; have := H64.out; have := HN.out; omega) (S := putRows ⟨vid, mac, port, now, false⟩ rs) HPE5.out HSO5.out HFT.out.2)
      have m1 := (HAs.out).cell 1
      simp at m1
      have HKO9 := Lib.hid (HOs.out); have HB9 := Lib.hid (HBs.out)
      go_wp2_with fail
      refine HTB.out.mono ?_
      rintro e w9 hG9
      obtain ⟨B9, a9, n9, c9, q9, rfl, hT9, hB9, hb9⟩ := hG9
      have HO9 := Lib.hid (HKO9.out.after hb9)
      have c0 := HO9.out.cell 0
      have c1 := HO9.out.cell 1
      have z0 := HO9.out.frozen
      have y0 := HO9.out.shape
      simp at c0 c1 y0
      have HG9 := Lib.hid (show GotTab ws _ (.returned (.agg #[.slice a9 n9 c9, .int .i64 q9])) w9 from ⟨B9, a9, n9, c9, q9, rfl, hT9, hB9, hb9⟩)
      clear hT9 hB9 hb9 m1
      go_wp2_with fail
      obtain ⟨r0, r1, hG⟩ := got_stored (w := w) HG9.out HKO9.out (by omega) HB9.out
      clear c0 c1 z0 y0
      generalize (w9.setCell ⟨w.heap.size + 1, 0, none⟩ (.slice a9 n9 c9)).setCell ⟨w.heap.size + 1, 1, none⟩ (.int .i64 q9) = W at r0 r1 hG ⊢
      exact bodyPost_ret (v := .agg #[.slice a9 n9 c9, .int .i64 q9]) (by simp [results, Try.results14, go_sem, r0, r1]) rfl (by rw [HQE.out]; exact hG)
    case false =>
      have hnn : (tabFind rs vid mac).isNone = true := by rw [← Option.not_isSome, hknw]; rfl
      by_cases hroom : (n : Int) = most
      · have HOL := Lib.hid (oldest_impl HR7.out (by have := H64.out; omega))
        have hroom' : ((n : Int) == most) = true := by simp [hroom]
        clear hknw
        go_wp2_with fail
        refine HOL.out.mono ?_
        rintro e w8 (⟨rfl, hnone, hR8, hT8⟩ | ⟨x, rfl, hxm, hxf, hxl, hR8, hT8⟩)
        · have HA8 := Lib.hid (HA7.out.turned hT8 (by have := HBW.out; simp; omega)); have HO8 := Lib.hid (HO7.out.turned hT8 (by have := HBW.out; simp; omega))
          have HB8 := Lib.hid (HB7.out.trans (hT8.below (n := w.heap.size) HB7.out.size (fun bb hb => by have := HBW.out; simp at hb; omega)))
          have HR8 := Lib.hid hR8
          have HQE := Lib.hid (show learnT ⟨rs, most⟩ vid mac port now = ⟨rs, most⟩ by
            have hl := least_none hnone
            rw [HN.out] at hl
            unfold learnT; rw [if_pos HGOOD.out, decide_eq_true HRK.out]; simp only; rw [HFX.out, hnn, HN.out, decide_eq_true hroom]; simp [hl])
          clear hnone hR8 hT8 hlen m0 q4 hnn hlm
          have HTB := Lib.hid (table_impl HR8.out (by have := (HR8.out).len_le; have := H64.out; have := HN.out; omega) (S := rs) (List.Perm.refl _) (all_sorted HGOOD.out) HFT.out.2)
          have m1 := (HA8.out).cell 1
          simp at m1
          have HKO9 := Lib.hid (HO8.out); have HB9 := Lib.hid (HB8.out)
          go_wp2_with fail
          refine HTB.out.mono ?_
          rintro e w9 hG9
          obtain ⟨B9, a9, n9, c9, q9, rfl, hT9, hB9, hb9⟩ := hG9
          have HO9 := Lib.hid (HKO9.out.after hb9)
          have c0 := HO9.out.cell 0
          have c1 := HO9.out.cell 1
          have z0 := HO9.out.frozen
          have y0 := HO9.out.shape
          simp at c0 c1 y0
          have HG9 := Lib.hid (show GotTab w8 _ (.returned (.agg #[.slice a9 n9 c9, .int .i64 q9])) w9 from ⟨B9, a9, n9, c9, q9, rfl, hT9, hB9, hb9⟩)
          clear hT9 hB9 hb9 m1
          go_wp2_with fail
          obtain ⟨r0, r1, hG⟩ := got_stored (w := w) HG9.out HKO9.out (by omega) HB9.out
          clear c0 c1 z0 y0
          generalize (w9.setCell ⟨w.heap.size + 1, 0, none⟩ (.slice a9 n9 c9)).setCell ⟨w.heap.size + 1, 1, none⟩ (.int .i64 q9) = W at r0 r1 hG ⊢
          exact bodyPost_ret (v := .agg #[.slice a9 n9 c9, .int .i64 q9]) (by simp [results, Try.results14, go_sem, r0, r1]) rfl (by rw [HQE.out]; exact hG)
        · have HA8 := Lib.hid (HA7.out.turned hT8 (by have := HBW.out; simp; omega)); have HO8 := Lib.hid (HO7.out.turned hT8 (by have := HBW.out; simp; omega))
          have HROW8 := Lib.hid (HROW7.out.turned hT8 (by have := HW3.out; simp; omega))
          have HB8 := Lib.hid (HB7.out.trans (hT8.below (n := w.heap.size) HB7.out.size (fun bb hb => by have := HBW.out; simp at hb; omega)))
          have HR8 := Lib.hid hR8
          obtain ⟨hl0, hle⟩ := least_old HGOOD.out hxm hxf hxl
          simp only at hl0 hle
          rw [HN.out] at hl0 hle
          have hl1 : ¬ (leastAt rs n < 0) := by omega
          have hpos : most ≠ 0 := by
            have := List.length_pos_of_mem hxm
            have := HN.out
            omega
          have HQE := Lib.hid (show learnT ⟨rs, most⟩ vid mac port now = ⟨putRows ⟨vid, mac, port, now, false⟩ (rs.filter (fun r => !hit x.vid x.mac r)), most⟩ by
            rw [← hle]
            unfold learnT; rw [if_pos HGOOD.out, decide_eq_true HRK.out]; simp only; rw [HFX.out, hnn, HN.out, decide_eq_true hroom]; simp [hpos, hl1])
          have HGF := good_filter ((tabOk_iff _).1 HGOOD.out).2.2 (fun r => !hit x.vid x.mac r)
          have HPE5 := Lib.hid (put_perm (r := ⟨vid, mac, port, now, false⟩) HRK.out HGF)
          have HSO5 := Lib.hid (put_good (r := ⟨vid, mac, port, now, false⟩) HRK.out HGF).2
          clear HGF hxm hxf hxl hR8 hT8 hl0 hl1 hle hpos hlen m0 q4 hnn hlm
          have HFITR := Lib.hid (show Rw.fits ⟨vid, mac, port, now, false⟩ from ⟨HVF.out.1, HVF.out.2, HPF.out.1, HPF.out.2⟩)
          have hnb : b3 ∉ [b] := by have := HW3.out; simp; omega
          have hKr : ∀ w', Turned [b] w8 w' → RowAt w' b3 0 ⟨vid, mac, port, now, false⟩ := fun w' hb => ⟨(HROW8.out.turned hb hnb).cell 0, (HROW8.out.turned hb hnb).cell 1, (HROW8.out.turned hb hnb).cell 2, (HROW8.out.turned hb hnb).cell 3, (HROW8.out.turned hb hnb).cell 4⟩
          unfold RowAt at hKr
          simp only [Nat.zero_add] at hKr
          go_upto_region 10 with fail
          refine wp_region_held_drew (S := fun w' => Turned [b] w8 w') (by kernel_rfl) ((Turned.refl _ _).drew) (fun hHeld => ?_)
          refine wpAnyH_take (i := 0) (v := ?v10) rfl (by kernel_rfl) (by kernel_rfl) (by kernel_rfl) (fun _ _ _ h => h) (Or.inl ⟨by rfl, ?h10⟩) hHeld ?r10
          case h10 => intro wq hS; go_simp; with_reducible rfl
          try simp only [Act.put, List.getElem_toArray, List.getElem_cons_zero, List.getElem_cons_succ, List.setIfInBounds_toArray, List.set_cons_zero, List.set_cons_succ]
          refine wpAnyH_take (i := 1) (v := ?v11) rfl (by kernel_rfl) (by kernel_rfl) (by kernel_rfl) (fun _ _ _ h => h) (Or.inl ⟨by rfl, ?h11⟩) hHeld ?r11
          case h11 => intro wq hS; obtain ⟨c0, c1, c2, c3, c4⟩ := hKr wq hS; go_simp; with_reducible rfl
          try simp only [Act.put, List.getElem_toArray, List.getElem_cons_zero, List.getElem_cons_succ, List.setIfInBounds_toArray, List.set_cons_zero, List.set_cons_succ]
          refine wpAnyH_take (i := 3) (v := ?v12) rfl (by kernel_rfl) (by kernel_rfl) (by kernel_rfl) (fun _ _ _ h => h) (Or.inl ⟨by rfl, ?h12⟩) hHeld ?r12
          case h12 => intro wq hS; obtain ⟨c0, c1, c2, c3, c4⟩ := hKr wq hS; go_simp; with_reducible rfl
          try simp only [Act.put, List.getElem_toArray, List.getElem_cons_zero, List.getElem_cons_succ, List.setIfInBounds_toArray, List.set_cons_zero, List.set_cons_succ]
          refine wpAnyH_ready (rs := [2]) (by kernel_rfl) (by simp) ?_
          refine AllReadyH.cons rfl (fun K hK => ?_) AllReadyH.nil
          go_simp
          refine (HKY.out _).mono ?_
          rintro e wk ⟨rfl, hgk⟩
          have HBK := Lib.hid (Below.trans (Below.drew (Below.refl w8.heap.size w8)) hgk.below)
          have hbk := hgk.below
          refine hK.out _ _ (hHeld.trans1 (Turned.of_below hbk)) (fun hHeld => ?_)
          clear hK K
          try simp only [Act.put, List.getElem_toArray, List.getElem_cons_zero, List.getElem_cons_succ, List.setIfInBounds_toArray, List.set_cons_zero, List.set_cons_succ]
          refine wpAnyH_ready (rs := [4]) (by kernel_rfl) (by simp) ?_
          refine AllReadyH.cons rfl (fun K hK => ?_) AllReadyH.nil
          obtain ⟨ws, hrun, hRMs, hTs⟩ := (HR8.out.after HBK.out).store (r := ⟨vid, mac, port, now, false⟩) HFITR.out (by have := H64.out; omega)
          unfold keyV Rw.val at hrun
          simp only at hrun
          have HRS2 := Lib.hid hRMs; have HTS := Lib.hid hTs
          clear hRMs hTs hbk hgk
          go_simp
          clear hrun
          refine hK.out _ _ (hHeld.trans1 HTS.out) (fun hHeld => ?_)
          clear hK K
          try simp only [Act.put, List.getElem_toArray, List.getElem_cons_zero, List.getElem_cons_succ, List.setIfInBounds_toArray, List.set_cons_zero, List.set_cons_succ]
          refine wpAnyH_done (by kernel_rfl) ?_ _
          have HAs := Lib.hid (HA8.out.turned hHeld (by have := HBW.out; simp; omega)); have HOs := Lib.hid (HO8.out.turned hHeld (by have := HBW.out; simp; omega))
          have HBs := Lib.hid (HB8.out.trans (hHeld.below (n := w.heap.size) HB8.out.size (fun bb hb => by have := HBW.out; simp at hb; omega)))
          clear hHeld hKr
          have HTB := Lib.hid (table_impl HRS2.out (by have := (HRS2.out).len_le; have := H64.out; have := HN.out; omega) (S := putRows ⟨vid, mac, port, now, false⟩ (rs.filter (fun r => !hit x.vid x.mac r))) HPE5.out HSO5.out HFT.out.2)
          have m1 := (HAs.out).cell 1
          simp at m1
          have HKO9 := Lib.hid (HOs.out); have HB9 := Lib.hid (HBs.out)
          go_wp2_with fail
          refine HTB.out.mono ?_
          rintro e w9 hG9
          obtain ⟨B9, a9, n9, c9, q9, rfl, hT9, hB9, hb9⟩ := hG9
          have HO9 := Lib.hid (HKO9.out.after hb9)
          have c0 := HO9.out.cell 0
          have c1 := HO9.out.cell 1
          have z0 := HO9.out.frozen
          have y0 := HO9.out.shape
          simp at c0 c1 y0
          have HG9 := Lib.hid (show GotTab ws _ (.returned (.agg #[.slice a9 n9 c9, .int .i64 q9])) w9 from ⟨B9, a9, n9, c9, q9, rfl, hT9, hB9, hb9⟩)
          clear hT9 hB9 hb9 m1
          go_wp2_with fail
          obtain ⟨r0, r1, hG⟩ := got_stored (w := w) HG9.out HKO9.out (by omega) HB9.out
          clear c0 c1 z0 y0
          generalize (w9.setCell ⟨w.heap.size + 1, 0, none⟩ (.slice a9 n9 c9)).setCell ⟨w.heap.size + 1, 1, none⟩ (.int .i64 q9) = W at r0 r1 hG ⊢
          exact bodyPost_ret (v := .agg #[.slice a9 n9 c9, .int .i64 q9]) (by simp [results, Try.results14, go_sem, r0, r1]) rfl (by rw [HQE.out]; exact hG)
      · have hroom' : ((n : Int) == most) = false := by rw [beq_eq_false_iff_ne]; exact hroom
        have HQE := Lib.hid (show learnT ⟨rs, most⟩ vid mac port now = ⟨putRows ⟨vid, mac, port, now, false⟩ rs, most⟩ by
          have hpos : most ≠ 0 := by omega
          unfold learnT; rw [if_pos HGOOD.out, decide_eq_true HRK.out]; simp only; rw [HFX.out, hnn, HN.out, decide_eq_false hroom]; simp [hpos])
        have HPE5 := Lib.hid (put_perm (r := ⟨vid, mac, port, now, false⟩) HRK.out ((tabOk_iff _).1 HGOOD.out).2.2)
        have HSO5 := Lib.hid (put_good (r := ⟨vid, mac, port, now, false⟩) HRK.out ((tabOk_iff _).1 HGOOD.out).2.2).2
        clear hlm hknw hnn
        have HFITR := Lib.hid (show Rw.fits ⟨vid, mac, port, now, false⟩ from ⟨HVF.out.1, HVF.out.2, HPF.out.1, HPF.out.2⟩)
        have hnb : b3 ∉ [b] := by have := HW3.out; simp; omega
        have hKr : ∀ w', Turned [b] w7 w' → RowAt w' b3 0 ⟨vid, mac, port, now, false⟩ := fun w' hb => ⟨(HROW7.out.turned hb hnb).cell 0, (HROW7.out.turned hb hnb).cell 1, (HROW7.out.turned hb hnb).cell 2, (HROW7.out.turned hb hnb).cell 3, (HROW7.out.turned hb hnb).cell 4⟩
        unfold RowAt at hKr
        simp only [Nat.zero_add] at hKr
        go_upto_region 10 with fail
        refine wp_region_held_drew (S := fun w' => Turned [b] w7 w') (by kernel_rfl) ((Turned.refl _ _).drew) (fun hHeld => ?_)
        refine wpAnyH_take (i := 0) (v := ?v13) rfl (by kernel_rfl) (by kernel_rfl) (by kernel_rfl) (fun _ _ _ h => h) (Or.inl ⟨by rfl, ?h13⟩) hHeld ?r13
        case h13 => intro wq hS; go_simp; with_reducible rfl
        try simp only [Act.put, List.getElem_toArray, List.getElem_cons_zero, List.getElem_cons_succ, List.setIfInBounds_toArray, List.set_cons_zero, List.set_cons_succ]
        refine wpAnyH_take (i := 1) (v := ?v14) rfl (by kernel_rfl) (by kernel_rfl) (by kernel_rfl) (fun _ _ _ h => h) (Or.inl ⟨by rfl, ?h14⟩) hHeld ?r14
        case h14 => intro wq hS; obtain ⟨c0, c1, c2, c3, c4⟩ := hKr wq hS; go_simp; with_reducible rfl
        try simp only [Act.put, List.getElem_toArray, List.getElem_cons_zero, List.getElem_cons_succ, List.setIfInBounds_toArray, List.set_cons_zero, List.set_cons_succ]
        refine wpAnyH_take (i := 3) (v := ?v15) rfl (by kernel_rfl) (by kernel_rfl) (by kernel_rfl) (fun _ _ _ h => h) (Or.inl ⟨by rfl, ?h15⟩) hHeld ?r15
        case h15 => intro wq hS; obtain ⟨c0, c1, c2, c3, c4⟩ := hKr wq hS; go_simp; with_reducible rfl
        try simp only [Act.put, List.getElem_toArray, List.getElem_cons_zero, List.getElem_cons_succ, List.setIfInBounds_toArray, List.set_cons_zero, List.set_cons_succ]
        refine wpAnyH_ready (rs := [2]) (by kernel_rfl) (by simp) ?_
        refine AllReadyH.cons rfl (fun K hK => ?_) AllReadyH.nil
        go_simp
        refine (HKY.out _).mono ?_
        rintro e wk ⟨rfl, hgk⟩
        have HBK := Lib.hid (Below.trans (Below.drew (Below.refl w7.heap.size w7)) hgk.below)
        have hbk := hgk.below
        refine hK.out _ _ (hHeld.trans1 (Turned.of_below hbk)) (fun hHeld => ?_)
        clear hK K
        try simp only [Act.put, List.getElem_toArray, List.getElem_cons_zero, List.getElem_cons_succ, List.setIfInBounds_toArray, List.set_cons_zero, List.set_cons_succ]
        refine wpAnyH_ready (rs := [4]) (by kernel_rfl) (by simp) ?_
        refine AllReadyH.cons rfl (fun K hK => ?_) AllReadyH.nil
        obtain ⟨ws, hrun, hRMs, hTs⟩ := (HR7.out.after HBK.out).store (r := ⟨vid, mac, port, now, false⟩) HFITR.out (by have := H64.out; omega)
        unfold keyV Rw.val at hrun
        simp only at hrun
        have HRS2 := Lib.hid hRMs; have HTS := Lib.hid hTs
        clear hRMs hTs hbk hgk
        go_simp
        clear hrun
        refine hK.out _ _ (hHeld.trans1 HTS.out) (fun hHeld => ?_)
        clear hK K
        try simp only [Act.put, List.getElem_toArray, List.getElem_cons_zero, List.getElem_cons_succ, List.setIfInBounds_toArray, List.set_cons_zero, List.set_cons_succ]
        refine wpAnyH_done (by kernel_rfl) ?_ _
        have HAs := Lib.hid (HA7.out.turned hHeld (by have := HBW.out; simp; omega)); have HOs := Lib.hid (HO7.out.turned hHeld (by have := HBW.out; simp; omega))
        have HBs := Lib.hid (HB7.out.trans (hHeld.below (n := w.heap.size) HB7.out.size (fun bb hb => by have := HBW.out; simp at hb; omega)))
        clear hHeld hKr hlen m0 q4
        have HTB := Lib.hid (table_impl HRS2.out (by have := (HRS2.out).len_le; have := H64.out; have := HN.out; omega) (S := putRows ⟨vid, mac, port, now, false⟩ rs) HPE5.out HSO5.out HFT.out.2)
        have m1 := (HAs.out).cell 1
        simp at m1
        have HKO9 := Lib.hid (HOs.out); have HB9 := Lib.hid (HBs.out)
        go_wp2_with fail
        refine HTB.out.mono ?_
        rintro e w9 hG9
        obtain ⟨B9, a9, n9, c9, q9, rfl, hT9, hB9, hb9⟩ := hG9
        have HO9 := Lib.hid (HKO9.out.after hb9)
        have c0 := HO9.out.cell 0
        have c1 := HO9.out.cell 1
        have z0 := HO9.out.frozen
        have y0 := HO9.out.shape
        simp at c0 c1 y0
        have HG9 := Lib.hid (show GotTab ws _ (.returned (.agg #[.slice a9 n9 c9, .int .i64 q9])) w9 from ⟨B9, a9, n9, c9, q9, rfl, hT9, hB9, hb9⟩)
        clear hT9 hB9 hb9 m1
        go_wp2_with fail
        obtain ⟨r0, r1, hG⟩ := got_stored (w := w) HG9.out HKO9.out (by omega) HB9.out
        clear c0 c1 z0 y0
        generalize (w9.setCell ⟨w.heap.size + 1, 0, none⟩ (.slice a9 n9 c9)).setCell ⟨w.heap.size + 1, 1, none⟩ (.int .i64 q9) = W at r0 r1 hG ⊢
        exact bodyPost_ret (v := .agg #[.slice a9 n9 c9, .int .i64 q9]) (by simp [results, Try.results14, go_sem, r0, r1]) rfl (by rw [HQE.out]; exact hG)
end Go.Proofs.Ytleebmbnjdoinaa
