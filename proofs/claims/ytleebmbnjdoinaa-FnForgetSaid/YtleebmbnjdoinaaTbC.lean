/- l05Copy and l05Without of the model. -/
import Derived.Test.YtleebmbnjdoinaaTbP
import Derived.Test.YtleebmbnjdoinaaSlA
import Derived.Deep.Onto
namespace Go.Proofs.Ytleebmbnjdoinaa
open Go.RowKit

/-- append at a step of a region that draws, from whatever source -/
theorem step_append_src {P : Program} (w : World) {ops : Array Oper} {o : Oper} {a : Act} {K : Act → World → Prop} {Q : Exit → Act → World → Prop} {E : Prop} (hgd : o.guard = none) (s x : Operand) (t tx : TypeId)
    (ho : o.op = .call { callee := .builtin .append, args := #[s, x], argTypes := #[t, tx] })
    (base : Nat) (e : TypeId) (i : TypeInfo) (z : Value) (size bytes : Nat) (ht : P.underlying t = some (.slice e)) (hi : P.info? e = some i) (hz : i.zero = some z)
    (hsize : i.size = size) (hby : i.bytes = bytes) (hzs : z.cells.size = size)
    (v : Value) (n : Nat) (xs : List Value) (hs : a.eval s = v) (hown : w.ownsRow base e size v n xs)
    (y : Value) (m : Nat) (news : List Value) (hx : a.eval x = y) (hsrc : Src P size tx y m news w)
    (h63 : n + m ≤ maxLen) (hbytes : (n + m) * bytes ≤ 140737488355328) (hbase : base ≤ w.heap.size)
    (h : ∀ a' c' w', w'.ownsRow base e size (.slice a' (n + m) c') (n + m) (xs ++ news) → w.grownBy w' v.ownBlock → K (a.put o.dst (.slice a' (n + m) c')) w') :
    if Region.wanted o (yielded ops a.tmps) = true then Oper.wp P o a w K Q else E := by
  have hw : Region.wanted o (yielded ops a.tmps) = true := by simp [Region.wanted, hgd]
  rw [if_pos hw]
  obtain ⟨v', w', hr, h2, h3, _⟩ := run_append_own_src (P := P) w base t tx o.type e i z size bytes ht hi hz hsize hby hzs v n xs hown y m news hsrc h63 hbytes hbase
  obtain ⟨a', c', rfl⟩ := own_form h2
  unfold Oper.wp execOp
  simp only [ho, resolve, invoke, builtin, Sem.run_bind, Sem.run_pure, Result.andThen_ok, List.map_toArray, List.map_cons, List.map_nil, hs, hx, hr]
  exact h a' c' w' h2 h3

/-- a slice in memory is a source -/
theorem src_of_sl {w : World} {a : Option Addr} {rs : List Rw} {n cap : Nat} (h : SlIn kdRw w a rs) (hn : rs.length = n) (hcap : a = none → cap = 0 ∧ n = 0 ∨ rs = []) : Src Try.prog 5 24 (.slice a n cap) n (rs.flatMap Rw.cs) w := by
  subst hn
  have h1 : ∀ u ∈ rs.flatMap Rw.cs, u.oneCell' = true := by
    intro u hu
    obtain ⟨r, _, hr⟩ := List.mem_flatMap.1 hu
    simp only [Rw.cs, List.mem_cons, List.not_mem_nil, or_false] at hr
    rcases hr with rfl | rfl | rfl | rfl | rfl <;> rfl
  cases a with
  | none =>
    by_cases h0 : rs = []
    · subst h0
      exact Src.ofNil w Try.underlying24 cap
    · obtain ⟨g, o, e, _⟩ := h.at 0 (List.length_pos_iff.2 h0)
      cases e
  | some x =>
    refine Src.ofSlice w Try.underlying24 x rs.length cap _ (flat_len kdRw rs) ?_ h1
    intro j u hu
    have hjl : j < rs.length * 5 := by
      have := (List.getElem?_eq_some_iff.1 hu).1
      rw [show (rs.flatMap Rw.cs).length = rs.length * 5 from flat_len kdRw rs] at this
      exact this
    have hk : j / 5 < rs.length := by omega
    obtain ⟨g, o, e, _, hc⟩ := h.at (j / 5) hk
    cases e
    have e1 := (hc w (Below.refl _ _)).1 (j % 5) (by show j % 5 < 5; omega)
    have e2 := flat_get kdRw rs (j / 5) hk (j % 5) (by show j % 5 < 5; omega)
    rw [← e2] at e1
    have e3 : j / 5 * kdRw.sz + j % 5 = j := by show j / 5 * 5 + j % 5 = j; omega
    have e4 : o + j / 5 * kdRw.sz + j % 5 = o + j := by rw [Nat.add_assoc, e3]
    rw [e3, e4] at e1
    rw [Addr.add_lit]
    exact e1.trans hu

theorem Blk.turned0 {w w' : World} {b : Nat} {cs : Array Value} {t : TypeId} (h : Blk w b cs t) {B : List Nat} (hT : Turned B w w') (hb : b ∉ B) : Blk w' b cs t := h.turned hT hb

theorem own_empty (w : World) : ((w.drew).alloc (.cells #[] 34)).ownsRow w.heap.size 34 5 (.slice (some ⟨w.heap.size, 0, none⟩) 0 0) 0 [] :=
  ⟨rfl, .inr ⟨w.heap.size, 0, #[], rfl, Nat.le_refl _, by show (w.heap.push _)[w.heap.size]? = _; simp, Nat.le_refl _, by decide, rfl, rfl⟩⟩

/-- a table of rows that the call owns comes back -/
theorem got_own {w W : World} {base : Nat} {a : Option Addr} {cap : Nat} {t : Tb} (h : OwnRw W base (.slice a t.rows.length cap) t.rows) (hb : w.heap.size ≤ base) (hl : t.rows.length ≤ 2097152) (hf : t.fits) (hB : Below w.heap.size w W) :
    GotTab w t (.returned (.agg #[.slice a t.rows.length cap, .int .i64 t.most])) W := by
  obtain ⟨a', cap', e', hs', hbase', _, hcap'⟩ := SlIn.of_owns (K := kdRw) h rfl
  cases e'
  refine ⟨blkN a t.rows.length, a, _, cap, _, rfl, ⟨a, cap, rfl, hs', ⟨rfl, hcap'⟩, hl, hf⟩, fun b hb' => ?_, hB⟩
  unfold blkN at hb'
  by_cases h0 : t.rows.length = 0
  · rw [if_pos h0] at hb'; cases hb'
  · rw [if_neg h0] at hb'
    cases a with
    | none => cases hb'
    | some y =>
      simp [blkOf] at hb'
      have := hbase' y rfl
      omega

set_option linter.unusedSimpArgs false in
set_option maxHeartbeats 1000000 in
theorem copy5_own {w : World} {B : List Nat} {v : Value} {t : Tb} (h : TabIn w B v t) : Calls Try.prog 44 #[v] w fun e w' => ∃ a' c', e = .returned (.agg #[.slice a' t.rows.length c', .int .i64 t.most]) ∧ OwnRw w' w.heap.size (.slice a' t.rows.length c') t.rows ∧ Below w.heap.size w w' := by
  obtain ⟨a, cap, rfl, hs, _, hl, hfit⟩ := h
  obtain ⟨rs, most⟩ := t
  simp only at hs hl ⊢
  obtain ⟨i0, hi, hz0, hz1, hz2⟩ := info_parts infoRow
  obtain ⟨n, hn⟩ : ∃ n, rs.length = n := ⟨_, rfl⟩
  unfold tabVal
  rw [hn] at hl ⊢
  have hb2 : Below w.heap.size w ((w.alloc (.cells #[.slice a n cap, .int .i64 most] 26)).alloc (.cells #[.slice none 0 0, .int .i64 0] 26)) := ((Below.refl _ _).alloc (Nat.le_refl _) _).alloc (by simp) _
  have g0 : Blk ((w.alloc (.cells #[.slice a n cap, .int .i64 most] 26)).alloc (.cells #[.slice none 0 0, .int .i64 0] 26)) w.heap.size #[.slice a n cap, .int .i64 most] 26 := (blk_new _ _ rfl).alloc _
  have g1 : Blk ((w.alloc (.cells #[.slice a n cap, .int .i64 most] 26)).alloc (.cells #[.slice none 0 0, .int .i64 0] 26)) (w.heap.size + 1) #[.slice none 0 0, .int .i64 0] 26 := blk_new _ _ (by simp)
  have HS := Lib.hid hs; have HN := Lib.hid hn; have HB2 := Lib.hid hb2; have G0 := Lib.hid g0; have G1 := Lib.hid g1; have HFIT := Lib.hid hfit
  have HLT := Lib.hid hs.lt
  clear hs hn hb2 g0 g1 hfit
  go_enter Try.func44, Try.ntmps44
  go_wp2_with fail
  have hz := HB2.out.size
  have HSRC := Lib.hid (fun w' (hT : Turned [w.heap.size + 1] ((w.alloc (.cells #[.slice a n cap, .int .i64 most] 26)).alloc (.cells #[.slice none 0 0, .int .i64 0] 26)) w') => src_of_sl (n := n) (cap := cap) (((HS.out.after HB2.out).turned hT (fun y hy hne => by have := HLT.out y hy hne; simp only [List.mem_singleton]; omega))) HN.out (fun _ => by by_cases h0 : rs = []; exact .inr h0; exact .inr (by rename_i e; subst e; obtain ⟨_, _, e, _⟩ := HS.out.at 0 (List.length_pos_iff.2 h0); cases e)))
  have hF0 : ∀ w', Turned [w.heap.size + 1] ((w.alloc (.cells #[.slice a n cap, .int .i64 most] 26)).alloc (.cells #[.slice none 0 0, .int .i64 0] 26)) w' → w'.cell? ⟨w.heap.size, 0, none⟩ = some (.slice a n cap) ∧ w'.cell? ⟨w.heap.size, 1, none⟩ = some (.int .i64 most) := fun w' hT => by
    have g := G0.out.turned hT (by simp only [List.mem_singleton]; omega)
    exact ⟨g.cell 0, g.cell 1⟩
  have hlt2 := G1.out.lt
  generalize ((w.alloc (.cells #[.slice a n cap, .int .i64 most] 26)).alloc (.cells #[.slice none 0 0, .int .i64 0] 26)) = w2 at HSRC hF0 HB2 G0 G1 hlt2 hz ⊢
  have hF := hF0
  clear hF0
  have z1 := G1.out.frozen
  have y1 := G1.out.shape
  refine wp_region_held_drew (S := fun w' => Turned [w.heap.size + 1] w2 w') (by kernel_rfl) ((Turned.refl _ _).drew) (fun hHeld => ?_)
  refine wpAnyH_take (i := 1) (v := ?v1) rfl (by kernel_rfl) (by kernel_rfl) (by kernel_rfl) (fun _ _ _ h => h) (Or.inl ⟨by rfl, ?h1⟩) hHeld ?r1
  case h1 => intro wq hS; go_simp; with_reducible rfl
  try simp only [Act.put, List.getElem_toArray, List.getElem_cons_zero, List.getElem_cons_succ, List.setIfInBounds_toArray, List.set_cons_zero, List.set_cons_succ]
  refine wpAnyH_take (i := 2) (v := ?v2) rfl (by kernel_rfl) (by kernel_rfl) (by kernel_rfl) (fun _ _ _ h => h) (Or.inl ⟨by rfl, ?h2⟩) hHeld ?r2
  case h2 => intro wq hS; have q0 := (hF wq hS).1; go_simp; with_reducible rfl
  try simp only [Act.put, List.getElem_toArray, List.getElem_cons_zero, List.getElem_cons_succ, List.setIfInBounds_toArray, List.set_cons_zero, List.set_cons_succ]
  refine wpAnyH_take (i := 4) (v := ?v3) rfl (by kernel_rfl) (by kernel_rfl) (by kernel_rfl) (fun _ _ _ h => h) (Or.inl ⟨by rfl, ?h3⟩) hHeld ?r3
  case h3 => intro wq hS; go_simp; with_reducible rfl
  try simp only [Act.put, List.getElem_toArray, List.getElem_cons_zero, List.getElem_cons_succ, List.setIfInBounds_toArray, List.set_cons_zero, List.set_cons_succ]
  refine wpAnyH_take (i := 5) (v := ?v4) rfl (by kernel_rfl) (by kernel_rfl) (by kernel_rfl) (fun _ _ _ h => h) (Or.inl ⟨by rfl, ?h4⟩) hHeld ?r4
  case h4 => intro wq hS; have q1 := (hF wq hS).2; go_simp; with_reducible rfl
  try simp only [Act.put, List.getElem_toArray, List.getElem_cons_zero, List.getElem_cons_succ, List.setIfInBounds_toArray, List.set_cons_zero, List.set_cons_succ]
  refine wpAnyH_ready (rs := [0]) (by kernel_rfl) (by simp) ?_
  refine AllReadyH.cons rfl (fun K hK => ?_) AllReadyH.nil
  go_simp
  refine hK.out _ _ (hHeld.alloc _) (fun hHeld => ?_)
  clear hK K
  try simp only [Act.put, List.getElem_toArray, List.getElem_cons_zero, List.getElem_cons_succ, List.setIfInBounds_toArray, List.set_cons_zero, List.set_cons_succ]
  refine wpAnyH_ready (rs := [3]) (by kernel_rfl) (by simp) ?_
  refine AllReadyH.cons rfl (fun K hK => ?_) AllReadyH.nil
  refine step_append_src _ rfl (.tmp 3) (.tmp 5) 24 24 rfl w2.heap.size 34 i0 (.agg #[.int .i64 0, .int .i64 0, .int .i64 0, .int .i64 0, .bool false]) 5 40 Try.underlying24 hi hz0 hz1 hz2 rfl (.slice (some ⟨w2.heap.size, 0, none⟩) 0 0) 0 [] rfl (own_empty w2) (.slice a n cap) n (rs.flatMap Rw.cs) rfl (HSRC.out _ ((Turned.refl _ w2).drew.alloc _)) (by unfold maxLen; omega) (by omega) (by simp) ?_
  intro va vc w5 hown5 hgrow5
  rw [Nat.zero_add] at hown5 ⊢
  rw [List.nil_append] at hown5
  refine hK.out _ _ (turned_grown hHeld hgrow5 (fun b hb => by cases hb; exact Nat.le_refl _)) (fun hHeld => ?_)
  clear hK K
  try simp only [Act.put, List.getElem_toArray, List.getElem_cons_zero, List.getElem_cons_succ, List.setIfInBounds_toArray, List.set_cons_zero, List.set_cons_succ]
  have hT5 := hHeld
  have f5 : Blk w5 (w.heap.size + 1) #[.slice none 0 0, .int .i64 0] 26 := (hgrow5.block _ (by simp; omega) (fun e => by have e1 : w.heap.size + 1 = w2.heap.size := Option.some.inj e; omega)).trans ((G1.out.drew).alloc _)
  have z5 := f5.frozen
  have y5 := f5.shape
  have e5 : w5.cell? ⟨w.heap.size + 1, 0, none⟩ = some (.slice none 0 0) := f5.cell 0
  have e6 : w5.cell? ⟨w.heap.size + 1, 1, none⟩ = some (.int .i64 0) := f5.cell 1
  refine wpAnyH_take (i := 6) (v := ?v5) rfl (by kernel_rfl) (by kernel_rfl) (by kernel_rfl) (fun _ _ _ h => h) (Or.inl ⟨by rfl, ?h5⟩) hHeld ?r5
  case h5 => intro wq hS; go_simp; with_reducible rfl
  try simp only [Act.put, List.getElem_toArray, List.getElem_cons_zero, List.getElem_cons_succ, List.setIfInBounds_toArray, List.set_cons_zero, List.set_cons_succ]
  refine wpAnyH_ready (rs := [7]) (by kernel_rfl) (by simp) ?_
  refine AllReadyH.cons rfl (fun K hK => ?_) AllReadyH.nil
  go_simp
  refine hK.out _ _ ((hHeld.setCell (p := ⟨w.heap.size + 1, 0, none⟩) (by simp) _).setCell (p := ⟨w.heap.size + 1, 1, none⟩) (by simp) _) (fun hHeld => ?_)
  clear hK K
  try simp only [Act.put, List.getElem_toArray, List.getElem_cons_zero, List.getElem_cons_succ, List.setIfInBounds_toArray, List.set_cons_zero, List.set_cons_succ]
  refine wpAnyH_done (by kernel_rfl) ?_ _
  have hO5 : OwnRw w5 w2.heap.size (.slice va n vc) rs := by unfold OwnRw; rw [HN.out]; exact hown5
  have r0 : ((w5.setCell ⟨w.heap.size + 1, 0, none⟩ (.slice va n vc)).setCell ⟨w.heap.size + 1, 1, none⟩ (.int .i64 most)).cell? ⟨w.heap.size + 1, 0, none⟩ = some (.slice va n vc) := ((f5.set 0 (.slice va n vc)).set 1 (.int .i64 most)).cell 0
  have r1 : ((w5.setCell ⟨w.heap.size + 1, 0, none⟩ (.slice va n vc)).setCell ⟨w.heap.size + 1, 1, none⟩ (.int .i64 most)).cell? ⟨w.heap.size + 1, 1, none⟩ = some (.int .i64 most) := ((f5.set 0 (.slice va n vc)).set 1 (.int .i64 most)).cell 1
  have hB := HB2.out.trans (hHeld.below HB2.out.size (fun b hb => by simp at hb; omega))
  have hW := own_setCell (j := 1) (own_setCell (j := 0) (b := w.heap.size + 1) hO5 G1.out.lt (.slice va n vc)) G1.out.lt (.int .i64 most)
  go_wp2_with fail
  generalize (w5.setCell ⟨w.heap.size + 1, 0, none⟩ (.slice va n vc)).setCell ⟨w.heap.size + 1, 1, none⟩ (.int .i64 most) = W at r0 r1 hB hW ⊢
  refine bodyPost_ret (v := .agg #[.slice va n vc, .int .i64 most]) (by simp [results, Try.results44, go_sem, r0, r1]) rfl ?_
  exact ⟨va, vc, rfl, World.ownsRow.mono hW hz, hB⟩

theorem copy5_spec {w : World} {B : List Nat} {v : Value} {t : Tb} (h : TabIn w B v t) : Calls Try.prog 44 #[v] w (GotTab w t) := by
  refine (copy5_own h).mono ?_
  rintro e w' ⟨a', c', rfl, ho, hb⟩
  obtain ⟨_, _, _, _, _, hl, hf⟩ := h
  exact got_own ho (Nat.le_refl _) hl hf hb
end Go.Proofs.Ytleebmbnjdoinaa
