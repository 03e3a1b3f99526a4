/- Plain lemmas of tables: what is kept, found, sorted. -/
import Derived.Test.YtleebmbnjdoinaaTbF
namespace Go.Proofs.Ytleebmbnjdoinaa

theorem ahead_trans {a b c : Rw} (h : ahead a b) (k : ahead b c) : ahead a c := by unfold ahead at *; omega
theorem ahead_irr {a b : Rw} (h : ahead a b) (k : ahead b a) : False := by unfold ahead at *; omega
theorem ahead_key {a b : Rw} (h : ahead a b) : ¬ (a.vid = b.vid ∧ a.mac = b.mac) := by unfold ahead at h; omega
theorem ahead_tot {a b : Rw} (h : ¬ ahead a b) (k : ¬ (a.vid = b.vid ∧ a.mac = b.mac)) : ahead b a := by unfold ahead at *; omega

/-- a table is right, in words of lists -/
def Good (rs : List Rw) : Prop := (∀ r ∈ rs, rowOk r) ∧ rs.Pairwise ahead
theorem tabOk_iff (t : Tb) : tabOk t ↔ (0 ≤ t.most ∧ t.most ≤ 64) ∧ (t.rows.length : Int) ≤ t.most ∧ Good t.rows := by
  unfold tabOk Good
  refine ⟨fun h => ⟨h.1, h.2.1, ?_, ?_⟩, fun h => ⟨h.1, h.2.1, fun k hk => ⟨h.2.2.1 _ (List.getElem_mem hk), fun h0 => ?_⟩⟩⟩
  · intro r hr
    obtain ⟨k, hk, rfl⟩ := List.getElem_of_mem hr
    exact (h.2.2 k hk).1
  · rw [List.pairwise_iff_getElem]
    intro i j hi hj hij
    have key : ∀ d (h1 : i + 1 + d < t.rows.length), ahead t.rows[i] (t.rows[i + 1 + d]'h1) := by
      intro d
      induction d with
      | zero => intro h1; exact (h.2.2 (i + 1) h1).2 (by omega)
      | succ d ih => intro h1; exact ahead_trans (ih (by omega)) ((h.2.2 (i + 1 + (d + 1)) h1).2 (by omega))
    have e := key (j - i - 1) (by omega)
    have e2 : i + 1 + (j - i - 1) = j := by omega
    simp only [e2] at e
    exact e
  · exact (List.pairwise_iff_getElem.1 h.2.2.2) (k - 1) k (by omega) hk (by omega)

theorem find_in {rs : List Rw} (hs : rs.Pairwise ahead) {x : Rw} (hx : x ∈ rs) : tabFind rs x.vid x.mac = some x := by
  induction rs with
  | nil => cases hx
  | cons y l ih =>
    unfold tabFind
    rw [List.find?_cons]
    rcases List.mem_cons.1 hx with rfl | hx
    · have : hit x.vid x.mac x = true := by unfold hit; simp
      rw [this]
    · have hyx := (List.pairwise_cons.1 hs).1 x hx
      have : hit x.vid x.mac y = false := by unfold hit; exact decide_eq_false (ahead_key hyx)
      rw [this]
      exact ih (List.pairwise_cons.1 hs).2 hx
theorem find_mem {rs : List Rw} {v m : Int} {x : Rw} (h : tabFind rs v m = some x) : x ∈ rs ∧ x.vid = v ∧ x.mac = m := by
  unfold tabFind at h
  have h1 := List.mem_of_find?_eq_some h
  have h2 := List.find?_some h
  unfold hit at h2
  exact ⟨h1, of_decide_eq_true h2⟩

theorem wo_filter (f : Rw → Bool) (rs : List Rw) : ∀ k, k ≤ rs.length → woAt rs (rs.map f) k = (rs.take k).filter (fun x => !f x || x.fixed)
  | 0, _ => by simp [woAt]
  | k + 1, h => by
    have ih := wo_filter f rs k (by omega)
    have hk : k < rs.length := by omega
    have e1 : (rs.map f).getD k false = f rs[k] := by rw [List.getD_eq_getElem?_getD, List.getElem?_map, List.getElem?_eq_getElem hk]; rfl
    have e2 : rs.getD k default = rs[k] := by rw [List.getD_eq_getElem?_getD, List.getElem?_eq_getElem hk]; rfl
    unfold woAt
    rw [ih, e1, e2, List.take_succ_eq_append_getElem hk, List.filter_append]
    by_cases hq : (!f rs[k] || rs[k].fixed) = true
    · rw [if_pos hq]; simp [hq]
    · rw [if_neg hq]; simp [hq]
theorem wo_all (f : Rw → Bool) (rs : List Rw) : woAt rs (rs.map f) rs.length = rs.filter (fun x => !f x || x.fixed) := by
  rw [wo_filter f rs _ (Nat.le_refl _), List.take_length]

theorem good_filter {rs : List Rw} (h : Good rs) (p : Rw → Bool) : Good (rs.filter p) :=
  ⟨fun r hr => h.1 r (List.mem_filter.1 hr).1, h.2.filter p⟩
theorem good_erase {rs : List Rw} (h : Good rs) (k : Nat) : Good (rs.eraseIdx k) :=
  ⟨fun r hr => h.1 r (List.mem_of_mem_eraseIdx hr), h.2.sublist (List.eraseIdx_sublist rs k)⟩

theorem putStep_done (r : Rw) : ∀ (l acc : List Rw), l.foldl (putStep r) (true, acc) = (true, acc ++ l.filter (fun x => !decide (x.vid = r.vid ∧ x.mac = r.mac)))
  | [], acc => by simp
  | x :: l, acc => by
    have e1 : putOne r (true, acc) x = (true, acc) := by unfold putOne; simp
    by_cases hx : x.vid = r.vid ∧ x.mac = r.mac
    · have e : putStep r (true, acc) x = (true, acc) := by unfold putStep; rw [e1]; unfold putTwo; rw [decide_eq_true hx]; rfl
      rw [List.foldl_cons, e, putStep_done r l acc]
      simp [hx]
    · have e : putStep r (true, acc) x = (true, acc ++ [x]) := by unfold putStep; rw [e1]; unfold putTwo; rw [decide_eq_false hx]; rfl
      rw [List.foldl_cons, e, putStep_done r l (acc ++ [x]), List.filter_cons, decide_eq_false hx]
      simp
theorem putStep_all (r : Rw) : ∀ (l acc : List Rw), l.Pairwise ahead →
    (if (l.foldl (putStep r) (false, acc)).1 then (l.foldl (putStep r) (false, acc)).2 else (l.foldl (putStep r) (false, acc)).2 ++ [r]) = acc ++ l.filter (fun x => decide (ahead x r)) ++ r :: l.filter (fun x => decide (ahead r x))
  | [], acc, _ => by simp
  | x :: l, acc, h => by
    obtain ⟨h1, h2⟩ := List.pairwise_cons.1 h
    by_cases hx : ahead x r
    · have e : putStep r (false, acc) x = (false, acc ++ [x]) := by unfold putStep putOne; rw [decide_eq_true hx]; unfold putTwo; rw [decide_eq_false (ahead_key hx)]; rfl
      rw [List.foldl_cons, e, putStep_all r l (acc ++ [x]) h2, List.filter_cons, List.filter_cons, if_pos (by simpa using hx), if_neg (by simpa using fun k => ahead_irr hx k)]
      simp
    · have hl : ∀ y ∈ l, ¬ ahead y r := fun y hy k => hx (ahead_trans (h1 y hy) k)
      have f1 : l.filter (fun x => decide (ahead x r)) = [] := List.filter_eq_nil_iff.2 (fun y hy => by simpa using hl y hy)
      have f2 : l.filter (fun x => !decide (x.vid = r.vid ∧ x.mac = r.mac)) = l.filter (fun x => decide (ahead r x)) := by
        refine List.filter_congr (fun y hy => ?_)
        by_cases hk : y.vid = r.vid ∧ y.mac = r.mac
        · rw [decide_eq_true hk, decide_eq_false (fun k => ahead_key k ⟨hk.1.symm, hk.2.symm⟩)]; rfl
        · rw [decide_eq_false hk, decide_eq_true (ahead_tot (hl y hy) hk)]; rfl
      rw [List.foldl_cons]
      by_cases hk : x.vid = r.vid ∧ x.mac = r.mac
      · have e : putStep r (false, acc) x = (true, acc ++ [r]) := by unfold putStep putOne; rw [decide_eq_false hx]; unfold putTwo; rw [decide_eq_true hk]; rfl
        have g1 : (x :: l).filter (fun x => decide (ahead x r)) = [] := by rw [List.filter_cons, if_neg (by simpa using hx), f1]
        have g2 : (x :: l).filter (fun x => decide (ahead r x)) = l.filter (fun x => decide (ahead r x)) := by rw [List.filter_cons, if_neg (by simpa using fun k => ahead_key k ⟨hk.1.symm, hk.2.symm⟩)]
        rw [e, putStep_done, g1, g2, f2]
        simp
      · have e : putStep r (false, acc) x = (true, acc ++ [r] ++ [x]) := by unfold putStep putOne; rw [decide_eq_false hx]; unfold putTwo; rw [decide_eq_false hk]; rfl
        have g1 : (x :: l).filter (fun x => decide (ahead x r)) = [] := by rw [List.filter_cons, if_neg (by simpa using hx), f1]
        have g2 : (x :: l).filter (fun x => decide (ahead r x)) = x :: l.filter (fun x => decide (ahead r x)) := by rw [List.filter_cons, if_pos (by simpa using ahead_tot hx hk)]
        rw [e, putStep_done, g1, g2, f2]
        simp
/-- the rows with a row in its place, in words of lists -/
theorem put_eq (r : Rw) {rs : List Rw} (h : rs.Pairwise ahead) : putRows r rs = rs.filter (fun x => decide (ahead x r)) ++ r :: rs.filter (fun x => decide (ahead r x)) := by
  have e := putStep_all r rs [] h
  unfold putRows putAt
  rw [List.take_length, e]
  rfl

theorem put_mem {r : Rw} {rs : List Rw} (h : rs.Pairwise ahead) {x : Rw} : x ∈ putRows r rs ↔ x = r ∨ (x ∈ rs ∧ ¬ (x.vid = r.vid ∧ x.mac = r.mac)) := by
  rw [put_eq r h]
  simp only [List.mem_append, List.mem_cons, List.mem_filter, decide_eq_true_eq]
  constructor
  · rintro (⟨h1, h2⟩ | rfl | ⟨h1, h2⟩)
    · exact .inr ⟨h1, ahead_key h2⟩
    · exact .inl rfl
    · exact .inr ⟨h1, fun k => ahead_key h2 ⟨k.1.symm, k.2.symm⟩⟩
  · rintro (rfl | ⟨h1, h2⟩)
    · exact .inr (.inl rfl)
    · by_cases hx : ahead x r
      · exact .inl ⟨h1, hx⟩
      · exact .inr (.inr ⟨h1, ahead_tot hx h2⟩)
theorem put_good {r : Rw} {rs : List Rw} (hr : rowOk r) (h : Good rs) : Good (putRows r rs) := by
  refine ⟨fun x hx => ?_, ?_⟩
  · rcases (put_mem h.2).1 hx with rfl | ⟨hx, _⟩
    · exact hr
    · exact h.1 x hx
  · rw [put_eq r h.2, List.pairwise_append, List.pairwise_cons]
    refine ⟨h.2.filter _, ⟨fun y hy => of_decide_eq_true (List.mem_filter.1 hy).2, h.2.filter _⟩, fun x hx y hy => ?_⟩
    have h1 := of_decide_eq_true (List.mem_filter.1 hx).2
    rcases List.mem_cons.1 hy with rfl | hy
    · exact h1
    · exact ahead_trans h1 (of_decide_eq_true (List.mem_filter.1 hy).2)
theorem filters_len (p q : Rw → Bool) : ∀ (rs : List Rw), (∀ x ∈ rs, p x = true → q x = false) → (rs.filter p).length + (rs.filter q).length ≤ rs.length ∧ ((∃ x ∈ rs, p x = false ∧ q x = false) → (rs.filter p).length + (rs.filter q).length < rs.length)
  | [], _ => ⟨by simp, by simp⟩
  | x :: l, h => by
    obtain ⟨i1, i2⟩ := filters_len p q l (fun y hy => h y (List.mem_cons_of_mem _ hy))
    have hx := h x (List.mem_cons_self ..)
    rw [List.filter_cons, List.filter_cons, List.length_cons]
    cases hp : p x <;> cases hq : q x
    · simp only [Bool.false_eq_true, if_false]
      exact ⟨by omega, fun _ => by omega⟩
    · simp only [Bool.false_eq_true, if_false, if_true, List.length_cons]
      refine ⟨by omega, fun ⟨y, hy, h1, h2⟩ => ?_⟩
      rcases List.mem_cons.1 hy with rfl | hy
      · rw [hq] at h2; cases h2
      · have := i2 ⟨y, hy, h1, h2⟩; omega
    · simp only [Bool.false_eq_true, if_false, if_true, List.length_cons]
      refine ⟨by omega, fun ⟨y, hy, h1, h2⟩ => ?_⟩
      rcases List.mem_cons.1 hy with rfl | hy
      · rw [hp] at h1; cases h1
      · have := i2 ⟨y, hy, h1, h2⟩; omega
    · have := hx hp; rw [hq] at this; cases this
theorem put_len {r : Rw} {rs : List Rw} (h : rs.Pairwise ahead) : (putRows r rs).length ≤ rs.length + 1 ∧ ((tabFind rs r.vid r.mac).isSome = true → (putRows r rs).length ≤ rs.length) := by
  rw [put_eq r h, List.length_append, List.length_cons]
  have hk := filters_len (fun x => decide (ahead x r)) (fun x => decide (ahead r x)) rs (fun x _ h1 => decide_eq_false (fun k => ahead_irr (of_decide_eq_true h1) k))
  refine ⟨by have := hk.1; omega, fun hs => ?_⟩
  obtain ⟨x, hx⟩ := Option.isSome_iff_exists.1 hs
  obtain ⟨h1, h2, h3⟩ := find_mem hx
  have := hk.2 ⟨x, h1, decide_eq_false (fun k => ahead_key k ⟨h2, h3⟩), decide_eq_false (fun k => ahead_key k ⟨h2.symm, h3.symm⟩)⟩
  omega

theorem least_free (rs : List Rw) : ∀ k, 0 ≤ leastAt rs k → (rs.getD (leastAt rs k).toNat default).fixed = false
  | 0, h => by simp [leastAt] at h
  | k + 1, h => by
    unfold leastAt at h ⊢
    by_cases hc : (!(rs.getD k default).fixed && (decide (leastAt rs k < 0) || decide ((rs.getD k default).at_ < (rs.getD (leastAt rs k).toNat default).at_))) = true
    · rw [if_pos hc]
      simp only [Bool.and_eq_true, Bool.not_eq_true'] at hc
      exact hc.1
    · rw [if_neg hc] at h ⊢
      exact least_free rs k h

theorem erase_other {rs : List Rw} {k : Nat} {x : Rw} (hx : x ∈ rs) (hk : k < rs.length) (hne : x ≠ rs[k]) : x ∈ rs.eraseIdx k := by
  rw [List.mem_eraseIdx_iff_getElem]
  obtain ⟨i, hi, rfl⟩ := List.getElem_of_mem hx
  exact ⟨i, hi, fun e => hne (by subst e; rfl), rfl⟩

theorem learn_cases {t : Tb} (h : tabOk t) (v m p n : Int) : learnT t v m p n = t ∨ ∃ rs', learnT t v m p n = ⟨putRows ⟨v, m, p, n, false⟩ rs', t.most⟩ ∧ Good rs' ∧ rowOk ⟨v, m, p, n, false⟩ ∧ ((putRows ⟨v, m, p, n, false⟩ rs').length : Int) ≤ t.most ∧ rs'.length ≤ t.rows.length ∧
    ∀ x ∈ t.rows, x.fixed = true → x ∈ rs' ∧ ¬ (x.vid = v ∧ x.mac = m) := by
  obtain ⟨hm, hl, hg⟩ := (tabOk_iff t).1 h
  unfold learnT
  rw [if_pos h]
  by_cases h1 : (!decide (rowOk ⟨v, m, p, n, false⟩) || (decide (t.most = 0) || fixedAt t.rows v m)) = true
  · rw [if_pos h1]; exact .inl rfl
  rw [if_neg h1]
  simp only [Bool.or_eq_true, Bool.not_eq_true', decide_eq_false_iff_not, decide_eq_true_eq, not_or, Classical.not_not, Bool.not_eq_true] at h1
  obtain ⟨hr, h0, hf⟩ := h1
  have hfx : ∀ x ∈ t.rows, x.fixed = true → ¬ (x.vid = v ∧ x.mac = m) := by
    rintro x hx hxf ⟨rfl, rfl⟩
    unfold fixedAt at hf
    rw [find_in hg.2 hx] at hf
    have hf' : x.fixed = false := hf
    rw [hxf] at hf'
    cases hf'
  by_cases h2 : ((tabFind t.rows v m).isNone && decide ((t.rows.length : Int) = t.most)) = true
  · rw [if_pos h2]
    by_cases h3 : leastAt t.rows t.rows.length < 0
    · rw [if_pos h3]; exact .inl rfl
    · rw [if_neg h3]
      have hlt := leastAt_lt t.rows t.rows.length
      have hk : (leastAt t.rows t.rows.length).toNat < t.rows.length := by omega
      have hfree := least_free t.rows t.rows.length (by omega)
      rw [List.getD_eq_getElem?_getD, List.getElem?_eq_getElem hk] at hfree
      have hge := good_erase hg (leastAt t.rows t.rows.length).toNat
      have hel : (t.rows.eraseIdx (leastAt t.rows t.rows.length).toNat).length = t.rows.length - 1 := by rw [List.length_eraseIdx, if_pos hk]
      refine .inr ⟨_, rfl, hge, hr, ?_, by omega, fun x hx hxf => ⟨erase_other hx hk (fun e => ?_), hfx x hx hxf⟩⟩
      · have := (put_len (r := ⟨v, m, p, n, false⟩) hge.2).1
        rw [hel] at this
        omega
      · rw [e] at hxf
        have h4 : (t.rows[(leastAt t.rows t.rows.length).toNat]'hk).fixed = false := hfree
        rw [h4] at hxf
        cases hxf
  · rw [if_neg h2]
    refine .inr ⟨_, rfl, hg, hr, ?_, Nat.le_refl _, fun x hx hxf => ⟨hx, hfx x hx hxf⟩⟩
    have hpl := put_len (r := ⟨v, m, p, n, false⟩) hg.2
    cases hs : (tabFind t.rows v m).isSome
    · have hn : (tabFind t.rows v m).isNone = true := by cases hq : tabFind t.rows v m with | none => rfl | some y => rw [hq] at hs; cases hs
      rw [hn] at h2
      simp at h2
      have := hpl.1
      omega
    · have := hpl.2 hs
      omega

theorem look_in {t : Tb} (h : tabOk t) {x : Rw} (hx : x ∈ t.rows) : look t x.vid x.mac = x.port := by
  unfold look
  rw [if_pos h, find_in ((tabOk_iff t).1 h).2.2.2 hx]
  rfl

theorem learn_ok {t : Tb} (h : tabOk t) (v m p n : Int) : tabOk (learnT t v m p n) := by
  rcases learn_cases h v m p n with e | ⟨rs', e, hg, hr, hl, _, _⟩
  · rw [e]; exact h
  · rw [e]; exact (tabOk_iff _).2 ⟨((tabOk_iff t).1 h).1, hl, put_good hr hg⟩
theorem learn_found {t : Tb} (h : tabOk t) {v m p n : Int} (hne : learnT t v m p n ≠ t) : look (learnT t v m p n) v m = p := by
  have hok := learn_ok h v m p n
  rcases learn_cases h v m p n with e | ⟨rs', e, hg, hr, hl, _, _⟩
  · exact absurd e hne
  · rw [e] at hok ⊢
    exact look_in hok (x := ⟨v, m, p, n, false⟩) ((put_mem hg.2).2 (.inl rfl))
theorem learn_kept {t : Tb} (h : tabOk t) {v m p n : Int} {x : Rw} (hx : x ∈ t.rows) (hf : x.fixed = true) : look (learnT t v m p n) x.vid x.mac = x.port := by
  have hok := learn_ok h v m p n
  rcases learn_cases h v m p n with e | ⟨rs', e, hg, hr, hl, _, hk⟩
  · rw [e]; exact look_in h hx
  · rw [e] at hok ⊢
    exact look_in hok ((put_mem hg.2).2 (.inr (hk x hx hf)))
theorem learn_len {t : Tb} (h : tabOk t) (v m p n : Int) : (learnT t v m p n).rows.length ≤ t.rows.length + 1 := by
  rcases learn_cases h v m p n with e | ⟨rs', e, hg, hr, hl, hl', _⟩
  · rw [e]; omega
  · rw [e]
    have := (put_len (r := ⟨v, m, p, n, false⟩) hg.2).1
    simp only
    omega

theorem fix_cases {t : Tb} (h : tabOk t) (v m p : Int) : fixT t v m p = t ∨ (fixT t v m p = ⟨putRows ⟨v, m, p, 0, true⟩ t.rows, t.most⟩ ∧ rowOk ⟨v, m, p, 0, true⟩ ∧ ((putRows ⟨v, m, p, 0, true⟩ t.rows).length : Int) ≤ t.most) := by
  unfold fixT
  rw [if_pos h]
  by_cases h1 : (!decide (rowOk ⟨v, m, p, 0, true⟩) || decide (t.most < ((putRows ⟨v, m, p, 0, true⟩ t.rows).length : Int))) = true
  · rw [if_pos h1]; exact .inl rfl
  · rw [if_neg h1]
    simp only [Bool.or_eq_true, Bool.not_eq_true', decide_eq_false_iff_not, decide_eq_true_eq, not_or, Classical.not_not] at h1
    exact .inr ⟨rfl, h1.1, by omega⟩
theorem fix_ok {t : Tb} (h : tabOk t) (v m p : Int) : tabOk (fixT t v m p) := by
  rcases fix_cases h v m p with e | ⟨e, hr, hl⟩
  · rw [e]; exact h
  · rw [e]; exact (tabOk_iff _).2 ⟨((tabOk_iff t).1 h).1, hl, put_good hr ((tabOk_iff t).1 h).2.2⟩
theorem fix_row {t : Tb} (h : tabOk t) {v m p : Int} (hne : fixT t v m p ≠ t) : (⟨v, m, p, 0, true⟩ : Rw) ∈ (fixT t v m p).rows := by
  rcases fix_cases h v m p with e | ⟨e, hr, hl⟩
  · exact absurd e hne
  · rw [e]
    exact (put_mem ((tabOk_iff t).1 h).2.2.2).2 (.inl rfl)
/-- what is fixed is not learned over -/
theorem learn_fixed {t : Tb} (h : tabOk t) {x : Rw} (hx : x ∈ t.rows) (hf : x.fixed = true) (p n : Int) : learnT t x.vid x.mac p n = t := by
  rcases learn_cases h x.vid x.mac p n with e | ⟨rs', e, hg, hr, hl, _, hk⟩
  · exact e
  · exact absurd ⟨rfl, rfl⟩ (hk x hx hf).2

theorem wo_ok {t : Tb} (h : tabOk t) (f : Rw → Bool) : tabOk ⟨t.rows.filter f, t.most⟩ := by
  obtain ⟨hm, hl, hg⟩ := (tabOk_iff t).1 h
  refine (tabOk_iff _).2 ⟨hm, ?_, good_filter hg f⟩
  have := List.length_filter_le f t.rows
  simp only
  omega
theorem flush_eq {t : Tb} (h : tabOk t) (p : Int) : flushT t p = ⟨t.rows.filter (fun x => !decide (x.port = p) || x.fixed), t.most⟩ := by
  unfold flushT flushTGone
  rw [if_pos h, wo_all]
theorem age_eq {t : Tb} (h : tabOk t) (now age : Int) : ageT t now age = ⟨t.rows.filter (fun x => !(decide (0 ≤ now ∧ now ≤ 1000000000) && (decide (0 ≤ age ∧ age ≤ 1000000000) && decide (x.at_ + age < now))) || x.fixed), t.most⟩ := by
  unfold ageT ageTGone
  rw [if_pos h, wo_all]
theorem flush_ok {t : Tb} (h : tabOk t) (p : Int) : tabOk (flushT t p) := by rw [flush_eq h]; exact wo_ok h _
theorem age_ok {t : Tb} (h : tabOk t) (now age : Int) : tabOk (ageT t now age) := by rw [age_eq h]; exact wo_ok h _
theorem flush_idem {t : Tb} (h : tabOk t) (p : Int) : flushT (flushT t p) p = flushT t p := by
  have h2 := flush_ok h p
  rw [flush_eq h2, flush_eq h, List.filter_filter]
  simp only [Bool.and_self]
theorem flush_left {t : Tb} (h : tabOk t) {p : Int} {x : Rw} (hx : x ∈ (flushT t p).rows) : x.port ≠ p ∨ x.fixed = true := by
  rw [flush_eq h] at hx
  have := (List.mem_filter.1 hx).2
  simp only [Bool.or_eq_true, Bool.not_eq_true', decide_eq_false_iff_not] at this
  exact this
theorem flush_fixed {t : Tb} (h : tabOk t) (p : Int) {x : Rw} (hx : x ∈ t.rows) (hf : x.fixed = true) : x ∈ (flushT t p).rows := by
  rw [flush_eq h]
  exact List.mem_filter.2 ⟨hx, by rw [hf]; simp⟩
theorem age_fixed {t : Tb} (h : tabOk t) (now age : Int) {x : Rw} (hx : x ∈ t.rows) (hf : x.fixed = true) : x ∈ (ageT t now age).rows := by
  rw [age_eq h]
  exact List.mem_filter.2 ⟨hx, by rw [hf]; simp⟩
theorem age_young {t : Tb} (h : tabOk t) {now age : Int} {x : Rw} (hx : x ∈ t.rows) (hy : now ≤ x.at_ + age) : x ∈ (ageT t now age).rows := by
  rw [age_eq h]
  exact List.mem_filter.2 ⟨hx, by rw [decide_eq_false (show ¬ x.at_ + age < now by omega)]; simp⟩
end Go.Proofs.Ytleebmbnjdoinaa
