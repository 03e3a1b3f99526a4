/- l06Copy, SetMember and DropMember of the model. -/
import Derived.Test.YtfkpecildcejkaaPo
import Derived.Test.YtfkpecildcejkaaSlA
import Derived.Deep.Onto
namespace Go.Proofs.Ytfkpecildcejkaa
open Go.RowKit

/-- a slice of numbers in memory is a source -/
theorem src_of_ints {w : World} {a : Option Addr} {xs : List Int} {n cap : Nat} (h : SlIn kdI w a xs) (hn : xs.length = n) : Src Try.prog 1 24 (.slice a n cap) n (xs.map (Value.int .i64)) w := by
  subst hn
  have h1 : ∀ u ∈ xs.map (Value.int .i64), u.oneCell' = true := by
    intro u hu
    obtain ⟨r, _, rfl⟩ := List.mem_map.1 hu
    rfl
  cases a with
  | none =>
    by_cases h0 : xs = []
    · subst h0
      exact Src.ofNil w Try.underlying24 cap
    · obtain ⟨g, o, e, _⟩ := h.at 0 (List.length_pos_iff.2 h0)
      cases e
  | some x =>
    refine Src.ofSlice w Try.underlying24 x xs.length cap _ (by simp) ?_ h1
    intro j u hu
    have hk : j < xs.length := by
      have := (List.getElem?_eq_some_iff.1 hu).1
      simpa using this
    obtain ⟨g, o, e, _, hc⟩ := intAt h j hk
    cases e
    have e1 := (hc w (Below.refl _ _)).1
    rw [Addr.add_lit]
    rw [List.getElem?_map, List.getElem?_eq_getElem hk] at hu
    exact e1.trans hu

theorem own_emptyI' (w : World) : ((w.drew).alloc (.cells #[] 3)).ownsRow w.heap.size 3 1 (.slice (some ⟨w.heap.size, 0, none⟩) 0 0) 0 [] :=
  ⟨rfl, .inr ⟨w.heap.size, 0, #[], rfl, Nat.le_refl _, by show (w.heap.push _)[w.heap.size]? = _; simp, Nat.le_refl _, by decide, rfl, rfl⟩⟩

theorem mem_blkN {a : Option Addr} {n b : Nat} (h : b ∈ blkN a n) : ∃ x, a = some x ∧ x.block = b := by
  unfold blkN at h
  split at h
  · cases h
  · cases a with
    | none => cases h
    | some x => simp [blkOf] at h; exact ⟨x, rfl, h.symm⟩

set_option linter.unusedSimpArgs false in
set_option maxHeartbeats 1000000 in
theorem copy6_own {w : World} {B C : List Nat} {v : Value} {p : Pt} (h : PortIn w B C v p) : Calls Try.prog 61 #[v] w (GotPort w p) := by
  obtain ⟨a, ca, b, cb, rfl, hi, hp, _, _, hli, hlp, hf⟩ := h
  obtain ⟨pv, ins, plain, ac⟩ := p
  simp only at hi hp hli hlp ⊢
  obtain ⟨i0, hI, hz0, hz1, hz2⟩ := info_parts infoI
  obtain ⟨n, hn⟩ : ∃ n, ins.length = n := ⟨_, rfl⟩
  obtain ⟨m, hm⟩ : ∃ m, plain.length = m := ⟨_, rfl⟩
  have hS1 := fun w' (hb : Below w.heap.size w w') => src_of_ints (cap := ca) (hi.after hb) hn
  have hS2 := fun w' (hb : Below w.heap.size w w') => src_of_ints (cap := cb) (hp.after hb) hm
  rw [hn] at hli
  rw [hm] at hlp
  unfold ptVal
  rw [hn, hm]
  have hb2 : Below w.heap.size w ((w.alloc (.cells #[.int .i64 pv, .slice a n ca, .slice b m cb, .int .i64 ac] 26)).alloc (.cells #[.int .i64 0, .slice none 0 0, .slice none 0 0, .int .i64 0] 26)) := ((Below.refl _ _).alloc (Nat.le_refl _) _).alloc (by simp) _
  have g0 : Blk ((w.alloc (.cells #[.int .i64 pv, .slice a n ca, .slice b m cb, .int .i64 ac] 26)).alloc (.cells #[.int .i64 0, .slice none 0 0, .slice none 0 0, .int .i64 0] 26)) w.heap.size #[.int .i64 pv, .slice a n ca, .slice b m cb, .int .i64 ac] 26 := (blk_new _ _ rfl).alloc _
  have g1 : Blk ((w.alloc (.cells #[.int .i64 pv, .slice a n ca, .slice b m cb, .int .i64 ac] 26)).alloc (.cells #[.int .i64 0, .slice none 0 0, .slice none 0 0, .int .i64 0] 26)) (w.heap.size + 1) #[.int .i64 0, .slice none 0 0, .slice none 0 0, .int .i64 0] 26 := blk_new _ _ (by simp)
  have HB2 := Lib.hid hb2; have G0 := Lib.hid g0; have G1 := Lib.hid g1; have HF := Lib.hid hf; have HN := Lib.hid hn; have HM := Lib.hid hm; have HS1 := Lib.hid hS1; have HS2 := Lib.hid hS2
  clear hi hp hb2 g0 g1 hf hn hm hS1 hS2
  go_enter Try.func61, Try.ntmps61
  go_wp2_with (at_builtin; apply halt_here)
  refine halt_go ?_
  have hsz2 : ((w.alloc (.cells #[.int .i64 pv, .slice a n ca, .slice b m cb, .int .i64 ac] 26)).alloc (.cells #[.int .i64 0, .slice none 0 0, .slice none 0 0, .int .i64 0] 26)).heap.size = w.heap.size + 2 := by simp
  generalize ((w.alloc (.cells #[.int .i64 pv, .slice a n ca, .slice b m cb, .int .i64 ac] 26)).alloc (.cells #[.int .i64 0, .slice none 0 0, .slice none 0 0, .int .i64 0] 26)) = w2 at HB2 G0 G1 hsz2 ⊢
  have hown0 : OwnI (w2.alloc (.cells #[] 3)) w2.heap.size (.slice (some ⟨w2.heap.size, 0, none⟩) 0 0) [] := own_emptyI w2
  rw [hsz2] at hown0
  refine list_append_src _ rfl (.tmp 3) (.tmp 5) 24 24 rfl (w.heap.size + 2) 3 i0 (.int .i64 0) 1 8 Try.underlying24 hI hz0 hz1 hz2 rfl (.slice (some ⟨w.heap.size + 1 + 1, 0, none⟩) 0 0) 0 [] rfl hown0 (.slice a n ca) n (ins.map (Value.int .i64)) rfl (HS1.out _ (HB2.out.alloc HB2.out.size _)) (by unfold maxLen; omega) (by omega) (by simp; omega) ?_
  intro va vc w5 hown5 hgrow5
  rw [Nat.zero_add] at hown5 ⊢
  rw [List.nil_append] at hown5
  have hB5 : Below w.heap.size w w5 := (HB2.out.alloc HB2.out.size _).grown hgrow5 (by have := HB2.out.size; simp; omega) (fun g e => by have := (World.ownsRow.lt hown0 g e).1; omega)
  have hl5 : w.heap.size + 2 < w5.heap.size := by have := hgrow5.size; simp at this; omega
  have f0 : Blk w5 w.heap.size _ _ := (hgrow5.block _ (by simp; omega) (fun e => by have e1 : w.heap.size = w.heap.size + 1 + 1 := Option.some.inj e; omega)).trans (G0.out.alloc _)
  have f1 : Blk w5 (w.heap.size + 1) _ _ := (hgrow5.block _ (by simp; omega) (fun e => by have e1 : w.heap.size + 1 = w.heap.size + 1 + 1 := Option.some.inj e; omega)).trans (G1.out.alloc _)
  have k1 : w5.cell? ⟨w.heap.size, 1, none⟩ = some (.slice a n ca) := f0.cell 1
  have k2 : w5.cell? ⟨w.heap.size, 2, none⟩ = some (.slice b m cb) := f0.cell 2
  have z0 := f0.frozen
  have y0 := f0.shape
  have hl5' : w.heap.size < w5.heap.size := by omega
  have F0 := Lib.hid (f0.set 1 (.slice va n vc)); have F1 := Lib.hid (f1.other (j := 1) (g := w.heap.size) (by omega) (.slice va n vc))
  have hown6 := own_setCell (b := w.heap.size) (j := 1) hown5 (by omega) (.slice va n vc)
  have hB6 := hB5.setCell (p := ⟨w.heap.size, 1, none⟩) (by simp) (.slice va n vc)
  have hsz6 : (w5.setCell ⟨w.heap.size, 1, none⟩ (.slice va n vc)).heap.size = w5.heap.size := by simp [World.setCell]
  have HLS := Lib.hid (fun g e => (World.ownsRow.lt hown5 g e).2)
  have HO6 := Lib.hid hown6; have HB6 := Lib.hid hB6; have HSZ6 := Lib.hid hsz6
  clear hown5 hgrow5 hB5 f0 f1 hown6 hB6 hsz6 hown0 HB2 G0 G1
  go_wp2_with (at_builtin; apply halt_here)
  refine halt_go ?_
  generalize w5.setCell ⟨w.heap.size, 1, none⟩ (.slice va n vc) = w6 at F0 F1 HO6 HB6 HSZ6 ⊢
  have hown7 : OwnI (w6.alloc (.cells #[] 3)) w6.heap.size (.slice (some ⟨w6.heap.size, 0, none⟩) 0 0) [] := own_emptyI w6
  rw [HSZ6.out] at hown7
  refine list_append_src _ rfl (.tmp 8) (.tmp 10) 24 24 rfl w5.heap.size 3 i0 (.int .i64 0) 1 8 Try.underlying24 hI hz0 hz1 hz2 rfl (.slice (some ⟨w5.heap.size, 0, none⟩) 0 0) 0 [] rfl hown7 (.slice b m cb) m (plain.map (Value.int .i64)) rfl (HS2.out _ (HB6.out.alloc HB6.out.size _)) (by unfold maxLen; omega) (by omega) (by have := HSZ6.out; simp; omega) ?_
  intro vb vd w7 hown8 hgrow8
  rw [Nat.zero_add] at hown8 ⊢
  rw [List.nil_append] at hown8
  have hs6 := HSZ6.out
  have hB7 : Below w.heap.size w w7 := (HB6.out.alloc HB6.out.size _).grown hgrow8 (by have := HB6.out.size; simp; omega) (fun g e => by have := (World.ownsRow.lt hown7 g e).1; omega)
  have f0 : Blk w7 w.heap.size #[.int .i64 pv, .slice va n vc, .slice b m cb, .int .i64 ac] 26 := (hgrow8.block _ (by simp; omega) (fun e => by have e1 : w.heap.size = w5.heap.size := Option.some.inj e; omega)).trans (F0.out.alloc _)
  have f1 : Blk w7 (w.heap.size + 1) _ _ := (hgrow8.block _ (by simp; omega) (fun e => by have e1 : w.heap.size + 1 = w5.heap.size := Option.some.inj e; omega)).trans (F1.out.alloc _)
  have hown1 := World.ownsRow.kept (row := some w5.heap.size) (World.ownsRow.alloc HO6.out (.cells #[] 3)) hgrow8 (by
    cases hv : (Value.slice va n vc).ownBlock with
    | none => exact .inl rfl
    | some g => exact .inr (fun e => by cases e; have := (World.ownsRow.lt HO6.out _ hv).2; omega))
  obtain ⟨_, _, ea, _, hga, hla, _⟩ := SlIn.of_owns (K := kdI) (xs := ins) (n := n) (by rw [flat_int]; exact HO6.out) HN.out
  cases ea
  obtain ⟨_, _, ea, hsa, _, _, hca⟩ := SlIn.of_owns (K := kdI) (xs := ins) (n := n) (by rw [flat_int]; exact hown1) HN.out
  cases ea
  obtain ⟨_, _, ea, hsb, hgb, _, hcb⟩ := SlIn.of_owns (K := kdI) (xs := plain) (n := m) (by rw [flat_int]; exact hown8) HM.out
  cases ea
  have z0 := f0.frozen
  have z1 := f1.frozen
  have y0 := f0.shape
  have y1 := f1.shape
  have k0 : w7.cell? ⟨w.heap.size, 0, none⟩ = some (.int .i64 pv) := f0.cell 0
  have k1 : w7.cell? ⟨w.heap.size, 1, none⟩ = some (.slice va n vc) := f0.cell 1
  have k2 : w7.cell? ⟨w.heap.size, 2, none⟩ = some (.slice b m cb) := f0.cell 2
  have k3 : w7.cell? ⟨w.heap.size, 3, none⟩ = some (.int .i64 ac) := f0.cell 3
  have q0 : w7.cell? ⟨w.heap.size + 1, 0, none⟩ = some (.int .i64 0) := f1.cell 0
  have q1 : w7.cell? ⟨w.heap.size + 1, 1, none⟩ = some (.slice none 0 0) := f1.cell 1
  have q2 : w7.cell? ⟨w.heap.size + 1, 2, none⟩ = some (.slice none 0 0) := f1.cell 2
  have q3 : w7.cell? ⟨w.heap.size + 1, 3, none⟩ = some (.int .i64 0) := f1.cell 3
  have hT := ((((((Turned.refl [w.heap.size, w.heap.size + 1] w7).setCell (p := ⟨w.heap.size, 2, none⟩) (by simp) (.slice vb m vd)).setCell (p := ⟨w.heap.size + 1, 0, none⟩) (by simp) (.int .i64 pv)).setCell (p := ⟨w.heap.size + 1, 1, none⟩) (by simp) (.slice va n vc)).setCell (p := ⟨w.heap.size + 1, 2, none⟩) (by simp) (.slice vb m vd)).setCell (p := ⟨w.heap.size + 1, 3, none⟩) (by simp) (.int .i64 ac))
  have g2 := (((((f1.other (j := 2) (g := w.heap.size) (by omega) (.slice vb m vd)).set 0 (.int .i64 pv)).set 1 (.slice va n vc)).set 2 (.slice vb m vd)).set 3 (.int .i64 ac))
  have HT := Lib.hid hT; have G2 := Lib.hid g2
  have HSA := Lib.hid hsa; have HSB := Lib.hid hsb; have HGA := Lib.hid hga; have HLA := Lib.hid hla; have HGB := Lib.hid hgb; have HB7 := Lib.hid hB7
  have HO1 := Lib.hid hown1; have HO8 := Lib.hid hown8
  clear hT g2 hsa hsb hga hla hgb hB7 f0 f1 hown1 hown7 hown8 hgrow8 HO6 F0 F1
  go_wp2_with fail
  have r0 := G2.out.cell 0
  have r1 := G2.out.cell 1
  have r2 := G2.out.cell 2
  have r3 := G2.out.cell 3
  have hT := HT.out
  generalize (((((w7.setCell ⟨w.heap.size, 2, none⟩ (.slice vb m vd)).setCell ⟨w.heap.size + 1, 0, none⟩ (.int .i64 pv)).setCell ⟨w.heap.size + 1, 1, none⟩ (.slice va n vc)).setCell ⟨w.heap.size + 1, 2, none⟩ (.slice vb m vd)).setCell ⟨w.heap.size + 1, 3, none⟩ (.int .i64 ac)) = W at r0 r1 r2 r3 hT ⊢
  have r0 : W.cell? ⟨w.heap.size + 1, 0, none⟩ = some (.int .i64 pv) := r0
  have r1 : W.cell? ⟨w.heap.size + 1, 1, none⟩ = some (.slice va n vc) := r1
  have r2 : W.cell? ⟨w.heap.size + 1, 2, none⟩ = some (.slice vb m vd) := r2
  have r3 : W.cell? ⟨w.heap.size + 1, 3, none⟩ = some (.int .i64 ac) := r3
  refine bodyPost_ret (v := .agg #[.int .i64 pv, .slice va n vc, .slice vb m vd, .int .i64 ac]) (by simp [results, Try.results61, go_sem, r0, r1, r2, r3]) rfl ?_
  have hA : ∀ b ∈ blkN va ins.length, w.heap.size + 2 ≤ b ∧ b < w5.heap.size := fun b hb => by
    obtain ⟨x, hx, rfl⟩ := mem_blkN hb
    exact ⟨HGA.out x hx, by have := HLA.out x hx; omega⟩
  have hB : ∀ b ∈ blkN vb plain.length, w5.heap.size ≤ b := fun b hb => by
    obtain ⟨x, hx, rfl⟩ := mem_blkN hb
    exact HGB.out x hx
  refine ⟨blkN va ins.length, blkN vb plain.length, va, n, vc, vb, m, vd, pv, ac, rfl, ⟨va, vc, vb, vd, ?_, ?_, ?_, ⟨rfl, ?_⟩, ⟨rfl, ?_⟩, ?_, ?_, HF.out⟩, fun b hb => ?_, fun b hb => ?_, fun b hb hc => ?_, ?_, ?_, ?_, ?_⟩
  · show ptVal pv va n vc vb m vd ac = ptVal pv va ins.length vc vb plain.length vd ac
    rw [HN.out, HM.out]
  · refine HSA.out.keep_blk fun b hb => hT.block b (HSA.out.lt_blk b hb) ?_
    have := hA b hb
    simp; omega
  · refine HSB.out.keep_blk fun b hb => hT.block b (HSB.out.lt_blk b hb) ?_
    have := hB b hb
    simp; omega
  · show ins.length ≤ vc; rw [HN.out]; omega
  · show plain.length ≤ vd; rw [HM.out]; omega
  · show ins.length ≤ 2097152; rw [HN.out]; exact hli
  · show plain.length ≤ 2097152; rw [HM.out]; exact hlp
  · have := hA b hb; omega
  · have := hB b hb; omega
  · have := hA b hb; have := hB b hc; omega
  · have h1 := hT.below HB7.out.size (fun b hb => by simp at hb; omega)
    exact HB7.out.trans h1
  · have k := own_lower (own_turned HO1.out hT (fun b hb => by simp at hb; omega)) (base' := w.heap.size) (by omega)
    simp only [HN.out]; exact k
  · have k := own_lower (own_turned HO8.out hT (fun b hb => by simp at hb; omega)) (base' := w.heap.size) (by omega)
    simp only [HM.out]; exact k
  · intro g h e1 e2
    have k1 : g < w5.heap.size := HLS.out g e1
    have k2 := (World.ownsRow.lt HO8.out h e2).1
    omega
end Go.Proofs.Ytfkpecildcejkaa
