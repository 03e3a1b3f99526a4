/- Learn of the model. -/
import Derived.Test.YtleebmbnjdoinaaTbG
import Derived.IntWalk
namespace Go.Proofs.Ytleebmbnjdoinaa
open Go.RowKit

theorem tab_of_own {W : World} {base : Nat} {a : Option Addr} {n cap : Nat} {rs : List Rw} {most : Int} (h : OwnRw W base (.slice a n cap) rs) (hn : rs.length = n) (hl : rs.length ≤ 2097152) (hf : Tb.fits ⟨rs, most⟩) :
    TabIn W (blkN a n) (.agg #[.slice a n cap, .int .i64 most]) ⟨rs, most⟩ := by
  subst hn
  obtain ⟨a', cap', e', hs', _, _, hc⟩ := SlIn.of_owns (K := kdRw) h rfl
  cases e'
  exact ⟨a, cap, rfl, hs', ⟨rfl, hc⟩, hl, hf⟩

theorem own_prefix {W : World} {base g n cap k : Nat} {rs : List Rw} (h : OwnRw W base (.slice (some ⟨g, 0, none⟩) n cap) rs) (hk : k ≤ rs.length) : OwnRw W base (.slice (some ⟨g, 0, none⟩) k cap) (rs.take k) := by
  obtain ⟨hx, h' | ⟨g', cap', cur, h', hb, hg, hnc, hcm, hcs, htake⟩⟩ := h
  · simp at h'
  simp only [Value.slice.injEq, Option.some.injEq, Addr.mk.injEq, and_true] at h'
  obtain ⟨rfl, rfl, rfl⟩ := h'
  have hl : (rs.take k).length = k := by rw [List.length_take]; omega
  unfold OwnRw
  rw [hl]
  refine ⟨by rw [show ((rs.take k).flatMap Rw.cs).length = (rs.take k).length * 5 from flat_len kdRw _, hl], .inr ⟨g, cap, cur, rfl, hb, hg, by omega, hcm, hcs, ?_⟩⟩
  have e : (cur.toList.take (rs.length * 5)).take (k * 5) = cur.toList.take (k * 5) := by rw [List.take_take, Nat.min_eq_left (by omega)]
  rw [← e, htake]
  have e2 : rs.flatMap Rw.cs = (rs.take k).flatMap Rw.cs ++ (rs.drop k).flatMap Rw.cs := by rw [← List.flatMap_append, List.take_append_drop]
  rw [e2]
  exact List.take_left' (by rw [show ((rs.take k).flatMap Rw.cs).length = (rs.take k).length * 5 from flat_len kdRw _, hl])

theorem src_tail {W : World} {base g n cap k : Nat} {rs : List Rw} (h : OwnRw W base (.slice (some ⟨g, 0, none⟩) n cap) rs) (hn : rs.length = n) (hk : k < n) (hc : n ≤ cap) :
    Src Try.prog 5 24 (.slice (if cap = k + 1 then some ⟨g, 0, none⟩ else some ⟨g, (k + 1) * 5, none⟩) (n - (k + 1)) (cap - (k + 1))) (n - (k + 1)) ((rs.drop (k + 1)).flatMap Rw.cs) W := by
  subst hn
  have hlen : ((rs.drop (k + 1)).flatMap Rw.cs).length = (rs.length - (k + 1)) * 5 := by rw [show ((rs.drop (k + 1)).flatMap Rw.cs).length = (rs.drop (k + 1)).length * 5 from flat_len kdRw _, List.length_drop]
  have h1 : ∀ u ∈ (rs.drop (k + 1)).flatMap Rw.cs, u.oneCell' = true := by
    intro u hu
    obtain ⟨r, _, hr⟩ := List.mem_flatMap.1 hu
    simp only [Rw.cs, List.mem_cons, List.not_mem_nil, or_false] at hr
    rcases hr with rfl | rfl | rfl | rfl | rfl <;> rfl
  by_cases hcap : cap = k + 1
  · rw [if_pos hcap]
    have h0 : rs.length - (k + 1) = 0 := by omega
    have hnil : (rs.drop (k + 1)).flatMap Rw.cs = [] := List.eq_nil_of_length_eq_zero (by rw [hlen, h0])
    rw [hnil, h0]
    exact Src.ofSlice W Try.underlying24 ⟨g, 0, none⟩ 0 _ [] rfl (fun j u hu => by simp at hu) (fun u hu => by cases hu)
  · rw [if_neg hcap]
    refine Src.ofSlice W Try.underlying24 ⟨g, (k + 1) * 5, none⟩ _ _ _ hlen ?_ h1
    intro j u hu
    have hjl : j < (rs.length - (k + 1)) * 5 := by rw [← hlen]; exact (List.getElem?_eq_some_iff.1 hu).1
    have e2 : rs.flatMap Rw.cs = (rs.take (k + 1)).flatMap Rw.cs ++ (rs.drop (k + 1)).flatMap Rw.cs := by rw [← List.flatMap_append, List.take_append_drop]
    have e3 : ((rs.take (k + 1)).flatMap Rw.cs).length = (k + 1) * 5 := by rw [show ((rs.take (k + 1)).flatMap Rw.cs).length = (rs.take (k + 1)).length * 5 from flat_len kdRw _, List.length_take, Nat.min_eq_left (by omega)]
    have hc2 := World.ownsRow.cellAt h ((k + 1) * 5 + j) (by omega)
    rw [e2, List.getElem?_append_right (by omega), e3, show (k + 1) * 5 + j - (k + 1) * 5 = j by omega, hu] at hc2
    rw [Addr.add_lit]
    exact hc2

theorem own_setOther {w : World} {base b j n : Nat} {v : Value} {e t : TypeId} {sz : Nat} {xs : List Value} {cs : Array Value} (h : w.ownsRow base e sz v n xs) (hB : Blk w b cs t) (ht : t ≠ e) (u : Value) : (w.setCell ⟨b, j, none⟩ u).ownsRow base e sz v n xs :=
  World.ownsRow.kept (row := some b) h ⟨rfl, rfl, rfl, by simp [World.setCell], fun k _ hk => Below.heap_setCell w ⟨b, j, none⟩ u k (fun e => hk (by rw [e]))⟩ (by
    rcases h.2 with ⟨rfl, _⟩ | ⟨g, cap, cur, rfl, _, hg, _⟩
    · exact .inl rfl
    · refine .inr (fun e2 => ?_)
      have e3 : g = b := Option.some.inj e2
      subst e3
      have h4 := hB.symm.trans hg
      simp only [Option.some.injEq, Obj.cells.injEq] at h4
      exact ht h4.2.1)

theorem own_erase {W : World} {base n k : Nat} {v : Value} {rs : List Rw} (h : W.ownsRow base 34 5 v (n - 1) ((rs.take k).flatMap Rw.cs ++ (rs.drop (k + 1)).flatMap Rw.cs)) (hn : rs.length = n) (hk : k < n) : OwnRw W base v (rs.eraseIdx k) := by
  have hl : (rs.eraseIdx k).length = n - 1 := by rw [List.length_eraseIdx, if_pos (by omega)]; omega
  unfold OwnRw
  rw [hl, List.eraseIdx_eq_take_drop_succ, List.flatMap_append]
  exact h

theorem below_grown {w w1 w2 : World} {row : Option Nat} (h : Below w.heap.size w w1) (hg : w1.grownBy w2 row) (hr : ∀ b, row = some b → w.heap.size ≤ b) : Below w.heap.size w w2 :=
  ⟨hg.os.trans h.os, hg.tape.trans h.tape, hg.output.trans h.output, Nat.le_trans h.size hg.size, fun k hk => (hg.block k (Nat.lt_of_lt_of_le hk h.size) (fun e => by have := hr k e.symm; omega)).trans (h.block k hk)⟩

theorem fits_erase {rs : List Rw} {most : Int} (k : Nat) (h : Tb.fits ⟨rs, most⟩) : Tb.fits ⟨rs.eraseIdx k, most⟩ :=
  ⟨fun x hx => h.1 x (List.mem_of_mem_eraseIdx hx), h.2⟩

def fixedAt (rs : List Rw) (v m : Int) : Bool := match tabFind rs v m with | some x => x.fixed | none => false
noncomputable def learnT (t : Tb) (vid mac port now : Int) : Tb :=
  if tabOk t then
    if (!decide (rowOk ⟨vid, mac, port, now, false⟩) || (decide (t.most = 0) || fixedAt t.rows vid mac)) = true then t
    else if ((tabFind t.rows vid mac).isNone && decide ((t.rows.length : Int) = t.most)) = true then
      if leastAt t.rows t.rows.length < 0 then t else ⟨putRows ⟨vid, mac, port, now, false⟩ (t.rows.eraseIdx (leastAt t.rows t.rows.length).toNat), t.most⟩
    else ⟨putRows ⟨vid, mac, port, now, false⟩ t.rows, t.most⟩
  else ⟨[], 0⟩

set_option linter.unusedSimpArgs false in
set_option maxHeartbeats 4000000 in
theorem learn5_spec {w : World} {B : List Nat} {v : Value} {t : Tb} (h : TabIn w B v t) (vid mac port now : Int) (hrf : Rw.fits ⟨vid, mac, port, now, false⟩) :
    Calls Try.prog 16 #[v, .int .i64 vid, .int .i64 mac, .int .i64 port, .int .i64 now] w (GotTab w (learnT t vid mac port now)) := by
  have hO := fun w' (hb : Below w.heap.size w w') => tableOk_spec (h.after hb)
  have hC := fun w' (hb : Below w.heap.size w w') => copy5_own (h.after hb)
  obtain ⟨a, cap, rfl, hs, _, hl, hfit⟩ := h
  obtain ⟨rs, most⟩ := t
  unfold tabVal at hO hC ⊢
  simp only at hO hC hs hl ⊢
  obtain ⟨n, hn⟩ : ∃ n, rs.length = n := ⟨_, rfl⟩
  rw [hn] at hO hC hl ⊢
  have hb2 : Below w.heap.size w ((w.alloc (.cells #[.slice a n cap, .int .i64 most] 26)).alloc (.cells #[.slice none 0 0, .int .i64 0] 26)) := ((Below.refl _ _).alloc (Nat.le_refl _) _).alloc (by simp) _
  have g0 : Blk ((w.alloc (.cells #[.slice a n cap, .int .i64 most] 26)).alloc (.cells #[.slice none 0 0, .int .i64 0] 26)) w.heap.size #[.slice a n cap, .int .i64 most] 26 := (blk_new _ _ rfl).alloc _
  have g1 : Blk ((w.alloc (.cells #[.slice a n cap, .int .i64 most] 26)).alloc (.cells #[.slice none 0 0, .int .i64 0] 26)) (w.heap.size + 1) #[.slice none 0 0, .int .i64 0] 26 := blk_new _ _ (by simp)
  have HN0 := Lib.hid hn; have HB2 := Lib.hid hb2; have G0 := Lib.hid g0; have G1 := Lib.hid g1; have HFIT := Lib.hid hfit; have HO := Lib.hid hO; have HC := Lib.hid hC; have HRF := Lib.hid hrf
  clear hs hn hb2 g0 g1 hfit hO hC hrf
  by_cases hok : tabOk ⟨rs, most⟩
  case neg =>
    have hm : learnT ⟨rs, most⟩ vid mac port now = ⟨[], 0⟩ := by unfold learnT; rw [if_neg hok]
    rw [hm]
    clear hm
    go_enter Try.func16, Try.ntmps16
    go_wp2_with fail
    refine (HO.out _ HB2.out).mono ?_
    rintro e w4 ⟨rfl, hb4⟩
    rw [decide_eq_false hok]
    have g1 := G1.out.after hb4
    have z1 := g1.frozen
    have y1 := g1.shape
    have c0 : w4.cell? ⟨w.heap.size + 1, 0, none⟩ = some (.slice none 0 0) := g1.cell 0
    have c1 : w4.cell? ⟨w.heap.size + 1, 1, none⟩ = some (.int .i64 0) := g1.cell 1
    have g2 := (g1.set 0 (.slice none 0 0)).set 1 (.int .i64 0)
    have hB := ((HB2.out.trans (hb4.mono HB2.out.size)).setCell (p := ⟨w.heap.size + 1, 0, none⟩) (by simp only; omega) (.slice none 0 0)).setCell (p := ⟨w.heap.size + 1, 1, none⟩) (by simp only; omega) (.int .i64 0)
    have hz := HB2.out.size
    clear hb4
    go_wp2_with fail
    have r0 : ((w4.setCell ⟨w.heap.size + 1, 0, none⟩ (.slice none 0 0)).setCell ⟨w.heap.size + 1, 1, none⟩ (.int .i64 0)).cell? ⟨w.heap.size + 1, 0, none⟩ = some (.slice none 0 0) := g2.cell 0
    have r1 : ((w4.setCell ⟨w.heap.size + 1, 0, none⟩ (.slice none 0 0)).setCell ⟨w.heap.size + 1, 1, none⟩ (.int .i64 0)).cell? ⟨w.heap.size + 1, 1, none⟩ = some (.int .i64 0) := g2.cell 1
    clear g1 g2 z1 y1 c0 c1
    generalize (w4.setCell ⟨w.heap.size + 1, 0, none⟩ (.slice none 0 0)).setCell ⟨w.heap.size + 1, 1, none⟩ (.int .i64 0) = W at r0 r1 hB ⊢
    refine bodyPost_ret (v := .agg #[.slice none 0 0, .int .i64 0]) (by simp [results, Try.results16, go_sem, r0, r1]) rfl ?_
    exact got_own (t := ⟨[], 0⟩) (base := w.heap.size) (World.ownsRow_nil _ _ _ _) (Nat.le_refl _) (by simp) ⟨fun x hx => absurd hx (by simp), by decide⟩ hB
  obtain ⟨res, hres⟩ : ∃ q, learnT ⟨rs, most⟩ vid mac port now = q := ⟨_, rfl⟩
  rw [hres]
  have HM := Lib.hid (show ∀ q, learnT ⟨rs, most⟩ vid mac port now = q → res = q from fun q h => hres.symm.trans h)
  have hn64 : n ≤ 64 := by have h1 := hok.1.2; have h2 := hok.2.1; simp only at h1 h2; rw [HN0.out] at h2; omega
  have hnm : (n : Int) ≤ most := by have h2 := hok.2.1; simp only at h2; rw [HN0.out] at h2; exact h2
  have HU := Lib.hid (show learnT ⟨rs, most⟩ vid mac port now = if (!decide (rowOk ⟨vid, mac, port, now, false⟩) || (decide (most = 0) || fixedAt rs vid mac)) = true then ⟨rs, most⟩
    else if ((tabFind rs vid mac).isNone && decide ((n : Int) = most)) = true then
      if leastAt rs n < 0 then ⟨rs, most⟩ else ⟨putRows ⟨vid, mac, port, now, false⟩ (rs.eraseIdx (leastAt rs n).toNat), most⟩
    else ⟨putRows ⟨vid, mac, port, now, false⟩ rs, most⟩ by unfold learnT; rw [if_pos hok]; simp only [HN0.out])
  clear hl hres
  go_enter Try.func16, Try.ntmps16
  go_wp2_with fail
  refine (HO.out _ HB2.out).mono ?_
  rintro e w3 ⟨rfl, hb3⟩
  rw [decide_eq_true hok]
  clear hok
  have g0 := G0.out.after hb3
  have c0 : w3.cell? ⟨w.heap.size, 0, none⟩ = some (.slice a n cap) := g0.cell 0
  have c1 : w3.cell? ⟨w.heap.size, 1, none⟩ = some (.int .i64 most) := g0.cell 1
  have HB3 := Lib.hid hb3
  clear hb3 g0
  go_wp2_with fail
  have hB3 := HB2.out.trans (HB3.out.mono HB2.out.size)
  refine (HC.out _ hB3).mono ?_
  rintro e w4 ⟨oa, oc, rfl, how, hb4⟩
  clear c0 c1 hB3
  have hb24 := HB3.out.trans (hb4.mono HB3.out.size)
  have g14 := G1.out.after hb24
  have hz34 : w.heap.size + 1 < w3.heap.size := (G1.out.after HB3.out).lt
  have hr := row5_spec ⟨vid, mac, port, now, false⟩
  obtain ⟨rok, hrok⟩ : ∃ q, decide (rowOk ⟨vid, mac, port, now, false⟩) = q := ⟨_, rfl⟩
  rw [hrok] at hr HU
  unfold Rw.val at hr
  simp only at hr
  have HR := Lib.hid hr; have HROK := Lib.hid hrok
  clear hr hrok
  have HB24 := Lib.hid hb24; have HOW4 := Lib.hid how
  have hW6 : Below w4.heap.size w4 ((w4.alloc (.cells #[.slice oa n oc, .int .i64 most] 26)).alloc (.cells #[.int .i64 vid, .int .i64 mac, .int .i64 port, .int .i64 now, .bool false] 34)) := ((Below.refl _ _).alloc (Nat.le_refl _) _).alloc (by simp) _
  have f2 : Blk ((w4.alloc (.cells #[.slice oa n oc, .int .i64 most] 26)).alloc (.cells #[.int .i64 vid, .int .i64 mac, .int .i64 port, .int .i64 now, .bool false] 34)) w4.heap.size #[.slice oa n oc, .int .i64 most] 26 := (blk_new _ _ rfl).alloc _
  have f3 : Blk ((w4.alloc (.cells #[.slice oa n oc, .int .i64 most] 26)).alloc (.cells #[.int .i64 vid, .int .i64 mac, .int .i64 port, .int .i64 now, .bool false] 34)) (w4.heap.size + 1) #[.int .i64 vid, .int .i64 mac, .int .i64 port, .int .i64 now, .bool false] 34 := blk_new _ _ (by simp)
  have how6 := own_below how hW6
  have hB26 := hb24.trans (hW6.mono hb24.size)
  have F2 := Lib.hid f2; have F3 := Lib.hid f3; have HOW := Lib.hid how6; have HB26 := Lib.hid hB26
  have HZ6 := Lib.hid hB26.size
  have HBZ := Lib.hid (show w.heap.size ≤ w3.heap.size by omega)
  have HBS := Lib.hid hz34
  have HGB4 := Lib.hid (show ∀ g c', Value.slice oa n oc = .slice (some ⟨g, 0, none⟩) n c' → g < w4.heap.size from fun g c' e => (World.ownsRow.lt how g (by rw [e]; rfl)).2)
  clear how hb4 hb24 g14 f2 f3 how6 hB26 hW6 hz34
  go_wp2_with fail
  generalize (w4.alloc (.cells #[.slice oa n oc, .int .i64 most] 26)).alloc (.cells #[.int .i64 vid, .int .i64 mac, .int .i64 port, .int .i64 now, .bool false] 34) = w6 at F2 F3 HOW HB26 HZ6 ⊢
  generalize hB2n : w4.heap.size = B2 at F2 F3 HGB4 ⊢
  have hti := tab_of_own (most := most) HOW.out HN0.out (by rw [HN0.out]; omega) HFIT.out
  refine (at5_spec hti vid mac).mono ?_
  rintro e w7 ⟨⟨i, rfl, hi⟩, hb7⟩
  have f3 := F3.out.after hb7
  have d0 : w7.cell? ⟨B2 + 1, 0, none⟩ = some (.int .i64 vid) := f3.cell 0
  have d1 : w7.cell? ⟨B2 + 1, 1, none⟩ = some (.int .i64 mac) := f3.cell 1
  have d2 : w7.cell? ⟨B2 + 1, 2, none⟩ = some (.int .i64 port) := f3.cell 2
  have d3 : w7.cell? ⟨B2 + 1, 3, none⟩ = some (.int .i64 now) := f3.cell 3
  have d4 : w7.cell? ⟨B2 + 1, 4, none⟩ = some (.bool false) := f3.cell 4
  have HB7 := Lib.hid hb7
  clear hti f3 hb7
  simp only at hi
  have HI := Lib.hid hi
  clear hi
  go_wp2_with fail
  refine (HR.out _).mono ?_
  rintro e w8 ⟨rfl, hb8⟩
  clear d0 d1 d2 d3 d4
  have H68 := Lib.hid (HB7.out.trans (hb8.mono HB7.out.size))
  have hT8 := (G0.out.after HB3.out)
  have G08 := Lib.hid (((G0.out.after HB3.out).below (n := w3.heap.size) (by
    have h1 := HB24.out
    exact Below.refl _ _) (G0.out.after HB3.out).lt))
  clear hb8 hT8 G08
  have hA0 : Blk w8 w.heap.size #[.slice a n cap, .int .i64 most] 26 := (G0.out.after HB26.out).after H68.out
  have cm : w8.cell? ⟨w.heap.size, 1, none⟩ = some (.int .i64 most) := hA0.cell 1
  have cr : w8.cell? ⟨B2, 0, none⟩ = some (.slice oa n oc) := (F2.out.after H68.out).cell 0
  clear hA0
  rcases HI.out with ⟨rfl, hnone⟩ | ⟨j, hj, rfl, hh, hbe⟩
  · have hf0 : tabFind rs vid mac = none := find_none hnone
    have hfx : fixedAt rs vid mac = false := by unfold fixedAt; rw [hf0]
    have hU := HU.out
    rw [hfx, hf0] at hU
    have HU2 := Lib.hid hU
    clear hU hnone hf0 hfx
    cases rok
    · clear cm cr
      have f2 := F2.out.after H68.out
      have hg1 := (G1.out.after HB26.out).after H68.out
      have ho := own_below HOW.out H68.out
      have c0 : w8.cell? ⟨B2, 0, none⟩ = some (.slice oa n oc) := f2.cell 0
      have c1 : w8.cell? ⟨B2, 1, none⟩ = some (.int .i64 most) := f2.cell 1
      have z1 := hg1.frozen
      have y1 := hg1.shape
      have e0 : w8.cell? ⟨w.heap.size + 1, 0, none⟩ = some (.slice none 0 0) := hg1.cell 0
      have e1 : w8.cell? ⟨w.heap.size + 1, 1, none⟩ = some (.int .i64 0) := hg1.cell 1
      have g2 := (hg1.set 0 (.slice oa n oc)).set 1 (.int .i64 most)
      have hB := ((HB2.out.trans ((HB26.out.trans (H68.out.mono HB26.out.size)).mono HB2.out.size)).setCell (p := ⟨w.heap.size + 1, 0, none⟩) (by simp only; omega) (.slice oa n oc)).setCell (p := ⟨w.heap.size + 1, 1, none⟩) (by simp only; omega) (.int .i64 most)
      have hO := own_setCell (j := 1) (own_setCell (j := 0) (b := w.heap.size + 1) ho HBS.out (.slice oa n oc)) HBS.out (.int .i64 most)
      have G2 := Lib.hid g2; have HBF := Lib.hid hB; have HOF := Lib.hid hO
      clear g2 hB hO f2 hg1 ho
      go_wp2_with fail
      have r0 : ((w8.setCell ⟨w.heap.size + 1, 0, none⟩ (.slice oa n oc)).setCell ⟨w.heap.size + 1, 1, none⟩ (.int .i64 most)).cell? ⟨w.heap.size + 1, 0, none⟩ = some (.slice oa n oc) := G2.out.cell 0
      have r1 : ((w8.setCell ⟨w.heap.size + 1, 0, none⟩ (.slice oa n oc)).setCell ⟨w.heap.size + 1, 1, none⟩ (.int .i64 most)).cell? ⟨w.heap.size + 1, 1, none⟩ = some (.int .i64 most) := G2.out.cell 1
      have hB := HBF.out; have hO := HOF.out
      clear G2 HBF HOF c0 c1 z1 y1 e0 e1
      generalize (w8.setCell ⟨w.heap.size + 1, 0, none⟩ (.slice oa n oc)).setCell ⟨w.heap.size + 1, 1, none⟩ (.int .i64 most) = W at r0 r1 hB hO ⊢
      refine bodyPost_ret (v := .agg #[.slice oa n oc, .int .i64 most]) (by simp [results, Try.results16, go_sem, r0, r1]) rfl ?_
      rw [HM.out _ (HU2.out.trans (if_pos rfl))]
      have hn' : n = (⟨rs, most⟩ : Tb).rows.length := HN0.out.symm
      rw [hn'] at hO ⊢
      exact got_own (t := ⟨rs, most⟩) hO HBZ.out (by simp only; rw [HN0.out]; omega) HFIT.out hB
    by_cases hm0 : most = 0
    · have hq0 : (most == 0) = true := by simp [hm0]
      have HM0 := Lib.hid hm0
      clear cr hm0
      have f2 := F2.out.after H68.out
      have hg1 := (G1.out.after HB26.out).after H68.out
      have ho := own_below HOW.out H68.out
      have c0 : w8.cell? ⟨B2, 0, none⟩ = some (.slice oa n oc) := f2.cell 0
      have c1 : w8.cell? ⟨B2, 1, none⟩ = some (.int .i64 most) := f2.cell 1
      have z1 := hg1.frozen
      have y1 := hg1.shape
      have e0 : w8.cell? ⟨w.heap.size + 1, 0, none⟩ = some (.slice none 0 0) := hg1.cell 0
      have e1 : w8.cell? ⟨w.heap.size + 1, 1, none⟩ = some (.int .i64 0) := hg1.cell 1
      have g2 := (hg1.set 0 (.slice oa n oc)).set 1 (.int .i64 most)
      have hB := ((HB2.out.trans ((HB26.out.trans (H68.out.mono HB26.out.size)).mono HB2.out.size)).setCell (p := ⟨w.heap.size + 1, 0, none⟩) (by simp only; omega) (.slice oa n oc)).setCell (p := ⟨w.heap.size + 1, 1, none⟩) (by simp only; omega) (.int .i64 most)
      have hO := own_setCell (j := 1) (own_setCell (j := 0) (b := w.heap.size + 1) ho HBS.out (.slice oa n oc)) HBS.out (.int .i64 most)
      have G2 := Lib.hid g2; have HBF := Lib.hid hB; have HOF := Lib.hid hO
      clear g2 hB hO f2 hg1 ho
      go_wp2_with fail
      have r0 : ((w8.setCell ⟨w.heap.size + 1, 0, none⟩ (.slice oa n oc)).setCell ⟨w.heap.size + 1, 1, none⟩ (.int .i64 most)).cell? ⟨w.heap.size + 1, 0, none⟩ = some (.slice oa n oc) := G2.out.cell 0
      have r1 : ((w8.setCell ⟨w.heap.size + 1, 0, none⟩ (.slice oa n oc)).setCell ⟨w.heap.size + 1, 1, none⟩ (.int .i64 most)).cell? ⟨w.heap.size + 1, 1, none⟩ = some (.int .i64 most) := G2.out.cell 1
      have hB := HBF.out; have hO := HOF.out
      clear G2 HBF HOF c0 c1 z1 y1 e0 e1
      generalize (w8.setCell ⟨w.heap.size + 1, 0, none⟩ (.slice oa n oc)).setCell ⟨w.heap.size + 1, 1, none⟩ (.int .i64 most) = W at r0 r1 hB hO ⊢
      refine bodyPost_ret (v := .agg #[.slice oa n oc, .int .i64 most]) (by simp [results, Try.results16, go_sem, r0, r1]) rfl ?_
      rw [HM.out _ (HU2.out.trans (if_pos (by rw [decide_eq_true HM0.out]; rfl)))]
      have hn' : n = (⟨rs, most⟩ : Tb).rows.length := HN0.out.symm
      rw [hn'] at hO ⊢
      exact got_own (t := ⟨rs, most⟩) hO HBZ.out (by simp only; rw [HN0.out]; omega) HFIT.out hB
    have hq0 : (most == 0) = false := by simp [hm0]
    by_cases hfull : (n : Int) = most
    · have hqf : ((n : Int) == most) = true := by simp [hfull]
      have HFULL := Lib.hid hfull; have HM0 := Lib.hid hm0
      clear hfull hm0
      have f2 := F2.out.after H68.out
      have c1 : w8.cell? ⟨B2, 1, none⟩ = some (.int .i64 most) := f2.cell 1
      have htl := tab_of_own (most := most) (own_below HOW.out H68.out) HN0.out (by rw [HN0.out]; omega) HFIT.out
      have HTL := Lib.hid htl
      clear f2 htl
      go_wp2_with fail
      refine (least5_spec HTL.out).mono ?_
      rintro e w9 ⟨rfl, hb9⟩
      rw [HN0.out]
      have H69 := Lib.hid (H68.out.trans (hb9.mono H68.out.size))
      clear hb9 c1 cm cr
      have hlk := leastAt_lt rs n
      obtain ⟨lk, hlkq⟩ : ∃ q, leastAt rs n = q := ⟨_, rfl⟩
      rw [hlkq] at hlk
      have hU3 := HU2.out
      rw [hlkq] at hU3
      have HU3 := Lib.hid hU3
      simp only [hlkq]
      clear hU3 hlkq
      by_cases hk0 : lk < 0
      · have HK0 := Lib.hid hk0
        have f2 := F2.out.after H69.out
        have hg1 := (G1.out.after HB26.out).after H69.out
        have ho := own_below HOW.out H69.out
        have c0 : w9.cell? ⟨B2, 0, none⟩ = some (.slice oa n oc) := f2.cell 0
        have c1 : w9.cell? ⟨B2, 1, none⟩ = some (.int .i64 most) := f2.cell 1
        have z1 := hg1.frozen
        have y1 := hg1.shape
        have e0 : w9.cell? ⟨w.heap.size + 1, 0, none⟩ = some (.slice none 0 0) := hg1.cell 0
        have e1 : w9.cell? ⟨w.heap.size + 1, 1, none⟩ = some (.int .i64 0) := hg1.cell 1
        have g2 := (hg1.set 0 (.slice oa n oc)).set 1 (.int .i64 most)
        have hB := ((HB2.out.trans ((HB26.out.trans (H69.out.mono HB26.out.size)).mono HB2.out.size)).setCell (p := ⟨w.heap.size + 1, 0, none⟩) (by simp only; omega) (.slice oa n oc)).setCell (p := ⟨w.heap.size + 1, 1, none⟩) (by simp only; omega) (.int .i64 most)
        have hO := own_setCell (j := 1) (own_setCell (j := 0) (b := w.heap.size + 1) ho HBS.out (.slice oa n oc)) HBS.out (.int .i64 most)
        have G2 := Lib.hid g2; have HBF := Lib.hid hB; have HOF := Lib.hid hO
        clear g2 hB hO f2 hg1 ho
        go_wp2_with fail
        have r0 : ((w9.setCell ⟨w.heap.size + 1, 0, none⟩ (.slice oa n oc)).setCell ⟨w.heap.size + 1, 1, none⟩ (.int .i64 most)).cell? ⟨w.heap.size + 1, 0, none⟩ = some (.slice oa n oc) := G2.out.cell 0
        have r1 : ((w9.setCell ⟨w.heap.size + 1, 0, none⟩ (.slice oa n oc)).setCell ⟨w.heap.size + 1, 1, none⟩ (.int .i64 most)).cell? ⟨w.heap.size + 1, 1, none⟩ = some (.int .i64 most) := G2.out.cell 1
        have hB := HBF.out; have hO := HOF.out
        clear G2 HBF HOF c0 c1 z1 y1 e0 e1
        generalize (w9.setCell ⟨w.heap.size + 1, 0, none⟩ (.slice oa n oc)).setCell ⟨w.heap.size + 1, 1, none⟩ (.int .i64 most) = W at r0 r1 hB hO ⊢
        refine bodyPost_ret (v := .agg #[.slice oa n oc, .int .i64 most]) (by simp [results, Try.results16, go_sem, r0, r1]) rfl ?_
        rw [HM.out _ (HU3.out.trans ((if_neg (by rw [decide_eq_false HM0.out]; decide)).trans ((if_pos (by rw [decide_eq_true HFULL.out]; rfl)).trans (if_pos HK0.out))))]
        have hn' : n = (⟨rs, most⟩ : Tb).rows.length := HN0.out.symm
        rw [hn'] at hO ⊢
        exact got_own (t := ⟨rs, most⟩) hO HBZ.out (by simp only; rw [HN0.out]; omega) HFIT.out hB
      · obtain ⟨k, rfl⟩ := Int.eq_ofNat_of_zero_le (show 0 ≤ lk by omega)
        have hkn : k < n := by omega
        have hk1 : ¬ ((k : Int) < 0) := by omega
        have HK0 := Lib.hid hk1
        have how9 := own_below HOW.out H69.out
        obtain ⟨gg, c', hform, hg0, hglt⟩ := World.ownsRow.form how9 (by rw [HN0.out]; omega)
        have hform' : ∃ c', (Value.slice oa n oc) = .slice (some ⟨gg, 0, none⟩) n c' ∧ w3.heap.size ≤ gg ∧ gg < w9.heap.size := by
          rw [HN0.out] at hform
          exact ⟨c', hform, hg0, hglt⟩
        clear hform hg0 hglt
        obtain ⟨c', hsl, hgl, hgu⟩ := hform'
        simp only [Value.slice.injEq] at hsl
        obtain ⟨rfl, _, rfl⟩ := hsl
        have hcap : n ≤ oc := by
          obtain ⟨_, _, e, _, _, _, hc⟩ := SlIn.of_owns (K := kdRw) how9 rfl
          cases e
          rw [HN0.out] at hc
          exact hc
        have hpre : OwnRw w9 w3.heap.size (.slice (some ⟨gg, 0, none⟩) k oc) (rs.take k) := own_prefix how9 (by rw [HN0.out]; omega)
        have hsrc : ∀ w', Below w9.heap.size w9 w' → Src Try.prog 5 24 (.slice (if oc = k + 1 then some ⟨gg, 0, none⟩ else some ⟨gg, (k + 1) * 5, none⟩) (n - (k + 1)) (oc - (k + 1))) (n - (k + 1)) ((rs.drop (k + 1)).flatMap Rw.cs) w' := fun w' hb => src_tail (own_below how9 hb) HN0.out hkn hcap
        obtain ⟨Q, hQ⟩ : ∃ q, (if oc = k + 1 then some (⟨gg, 0, none⟩ : Addr) else some ⟨gg, (k + 1) * 5, none⟩) = q := ⟨_, rfl⟩
        rw [hQ] at hsrc
        have HSRC := Lib.hid hsrc; have HPRE := Lib.hid hpre; have HCAP := Lib.hid hcap
        have f29 := F2.out.after H69.out
        have q5 : w9.cell? ⟨B2, 0, none⟩ = some (.slice (some ⟨gg, 0, none⟩) n oc) := f29.cell 0
        have F29 := Lib.hid f29
        have hkc : (k : Int) ≤ (oc : Int) := by omega
        have hk1n : (k : Int) + 1 ≤ (n : Int) := by omega
        have hk0 : 0 ≤ (k : Int) := by omega
        have hk2 : 0 ≤ (k : Int) + 1 := by omega
        have hw1 : IntKind.i64.wrap ((k : Int) + 1) = (k : Int) + 1 := IntWalk.i64_in _ (by omega)
        have HGB := Lib.hid (show gg < B2 from HGB4.out gg oc rfl)
        have HGL := Lib.hid hgl
        have hgl' := HBS.out
        clear how9 hsrc hpre hcap f29
        obtain ⟨i0, hi, hz0, hz1, hz2⟩ := info_parts infoRow
        go_upto_region 12 with fail
        refine wp_region_held_drew (S := fun _ => True) (by kernel_rfl) (trivial) (fun hHeld => ?_)
        refine wpAnyH_take (i := 0) (v := ?v1) rfl (by kernel_rfl) (by kernel_rfl) (by kernel_rfl) (fun _ _ _ h => h) (Or.inl ⟨by rfl, ?h1⟩) hHeld ?r1
        case h1 => intro wq hS; go_simp; with_reducible rfl
        try simp only [Act.put, List.getElem_toArray, List.getElem_cons_zero, List.getElem_cons_succ, List.setIfInBounds_toArray, List.set_cons_zero, List.set_cons_succ]
        refine wpAnyH_take (i := 2) (v := ?v2) rfl (by kernel_rfl) (by kernel_rfl) (by kernel_rfl) (fun _ _ _ h => h) (Or.inl ⟨by rfl, ?h2⟩) hHeld ?r2
        case h2 => intro wq hS; go_simp; with_reducible rfl
        try simp only [Act.put, List.getElem_toArray, List.getElem_cons_zero, List.getElem_cons_succ, List.setIfInBounds_toArray, List.set_cons_zero, List.set_cons_succ]
        refine wpAnyH_take (i := 4) (v := ?v3) rfl (by kernel_rfl) (by kernel_rfl) (by kernel_rfl) (fun _ _ _ h => h) (Or.inl ⟨by rfl, ?h3⟩) hHeld ?r3
        case h3 => intro wq hS; go_simp; with_reducible rfl
        try simp only [Act.put, List.getElem_toArray, List.getElem_cons_zero, List.getElem_cons_succ, List.setIfInBounds_toArray, List.set_cons_zero, List.set_cons_succ]
        refine wpAnyH_take (i := 6) (v := ?v4) rfl (by kernel_rfl) (by kernel_rfl) (by kernel_rfl) (fun _ _ _ h => h) (Or.inl ⟨by rfl, ?h4⟩) hHeld ?r4
        case h4 => intro wq hS; go_simp; with_reducible rfl
        try simp only [Act.put, List.getElem_toArray, List.getElem_cons_zero, List.getElem_cons_succ, List.setIfInBounds_toArray, List.set_cons_zero, List.set_cons_succ]
        refine wpAnyH_take (i := 7) (v := ?v5) rfl (by kernel_rfl) (by kernel_rfl) (by kernel_rfl) (fun _ _ _ h => h) (Or.inl ⟨by rfl, ?h5⟩) hHeld ?r5
        case h5 => intro wq hS; go_simp; with_reducible rfl
        try simp only [Act.put, List.getElem_toArray, List.getElem_cons_zero, List.getElem_cons_succ, List.setIfInBounds_toArray, List.set_cons_zero, List.set_cons_succ]
        refine wpAnyH_ready (rs := [1, 5]) (by kernel_rfl) (by simp) ?_
        refine AllReadyH.cons rfl (fun K hK => ?_) ?_
        · go_simp
          refine hK.out _ _ (trivial) (fun hHeld => ?_)
          clear hK K
          try simp only [Act.put, List.getElem_toArray, List.getElem_cons_zero, List.getElem_cons_succ, List.setIfInBounds_toArray, List.set_cons_zero, List.set_cons_succ]
          refine wpAnyH_take (i := 3) (v := ?v6) rfl (by kernel_rfl) (by kernel_rfl) (by kernel_rfl) (fun _ _ _ h => h) (Or.inl ⟨by rfl, ?h6⟩) hHeld ?r6
          case h6 => intro wq hS; go_simp; with_reducible rfl
          try simp only [Act.put, List.getElem_toArray, List.getElem_cons_zero, List.getElem_cons_succ, List.setIfInBounds_toArray, List.set_cons_zero, List.set_cons_succ]
          refine wpAnyH_ready (rs := [5]) (by kernel_rfl) (by simp) ?_
          refine AllReadyH.cons rfl (fun K hK => ?_) AllReadyH.nil
          go_simp
          refine hK.out _ _ (trivial) (fun hHeld => ?_)
          clear hK K
          try simp only [Act.put, List.getElem_toArray, List.getElem_cons_zero, List.getElem_cons_succ, List.setIfInBounds_toArray, List.set_cons_zero, List.set_cons_succ]
          refine wpAnyH_take (i := 8) (v := ?v7) rfl (by kernel_rfl) (by kernel_rfl) (by kernel_rfl) (fun _ _ _ h => h) (Or.inl ⟨by rfl, ?h7⟩) hHeld ?r7
          case h7 => intro wq hS; go_simp; with_reducible rfl
          try simp only [Act.put, List.getElem_toArray, List.getElem_cons_zero, List.getElem_cons_succ, List.setIfInBounds_toArray, List.set_cons_zero, List.set_cons_succ]
          refine wpAnyH_ready (rs := [9]) (by kernel_rfl) (by simp) ?_
          refine AllReadyH.cons rfl (fun K hK => ?_) AllReadyH.nil
          refine step_append_src _ rfl (.tmp 69) (.tmp 74) 24 24 rfl w3.heap.size 34 i0 (.agg #[.int .i64 0, .int .i64 0, .int .i64 0, .int .i64 0, .bool false]) 5 40 Try.underlying24 hi hz0 hz1 hz2 rfl (.slice (some ⟨gg, 0, none⟩) k oc) k _ rfl (by have e := World.ownsRow.drew HPRE.out; rw [List.length_take, HN0.out, Nat.min_eq_left (by omega)] at e; exact e) _ (n - (k + 1)) _ rfl (HSRC.out _ (Below.refl _ _).drew) (by unfold maxLen; omega) (by omega) (by simp; omega) ?_
          intro va vc w5 hown5 hgrow5
          refine hK.out _ _ (trivial) (fun hHeld => ?_)
          clear hK K
          try simp only [Act.put, List.getElem_toArray, List.getElem_cons_zero, List.getElem_cons_succ, List.setIfInBounds_toArray, List.set_cons_zero, List.set_cons_succ]
          refine wpAnyH_take (i := 10) (v := ?v8) rfl (by kernel_rfl) (by kernel_rfl) (by kernel_rfl) (fun _ _ _ h => h) (Or.inl ⟨by rfl, ?h8⟩) hHeld ?r8
          case h8 => intro wq hS; go_simp; with_reducible rfl
          try simp only [Act.put, List.getElem_toArray, List.getElem_cons_zero, List.getElem_cons_succ, List.setIfInBounds_toArray, List.set_cons_zero, List.set_cons_succ]
          refine wpAnyH_ready (rs := [11]) (by kernel_rfl) (by simp) ?_
          refine AllReadyH.cons rfl (fun K hK => ?_) AllReadyH.nil
          have hO5 : Blk w5 B2 #[.slice (some ⟨gg, 0, none⟩) n oc, .int .i64 most] 26 := (hgrow5.block _ (F29.out.lt) (fun e => by have e1 : B2 = gg := Option.some.inj e; have := HGB.out; omega)).trans F29.out
          have z5 : w5.frozen? ⟨B2, 0, none⟩ = false := hO5.frozen 0
          have c5 : w5.cell? ⟨B2, 0, none⟩ = some (.slice (some ⟨gg, 0, none⟩) n oc) := hO5.cell 0
          go_simp
          refine hK.out _ _ (trivial) (fun hHeld => ?_)
          clear hK K
          try simp only [Act.put, List.getElem_toArray, List.getElem_cons_zero, List.getElem_cons_succ, List.setIfInBounds_toArray, List.set_cons_zero, List.set_cons_succ]
          refine wpAnyH_done (by kernel_rfl) ?_ _
          have hkk : k + (n - (k + 1)) = n - 1 := by omega
          rw [hkk] at hown5 ⊢
          have hgl := HGL.out; have hbs := HBS.out; have hgb := HGB.out
          have hsrow : ∀ b, (Value.slice (some ⟨gg, 0, none⟩) k oc).ownBlock = some b → w3.heap.size ≤ b := fun b hb => by have e1 : gg = b := Option.some.inj hb; omega
          have f39 := F3.out.after H69.out
          have f35 : Blk w5 (B2 + 1) #[.int .i64 vid, .int .i64 mac, .int .i64 port, .int .i64 now, .bool false] 34 := (hgrow5.block _ f39.lt (fun e => by have e1 : B2 + 1 = gg := Option.some.inj e; omega)).trans f39
          have f3 : Blk (w5.setCell ⟨B2, 0, none⟩ (.slice va (n - 1) vc)) (B2 + 1) #[.int .i64 vid, .int .i64 mac, .int .i64 port, .int .i64 now, .bool false] 34 := f35.other (by omega) _
          have f2 : Blk (w5.setCell ⟨B2, 0, none⟩ (.slice va (n - 1) vc)) B2 #[.slice va (n - 1) vc, .int .i64 most] 26 := hO5.set 0 _
          have hoq : OwnRw (w5.setCell ⟨B2, 0, none⟩ (.slice va (n - 1) vc)) w3.heap.size (.slice va (n - 1) vc) (rs.eraseIdx k) := own_setOther (own_erase hown5 HN0.out hkn) hO5 (by decide) _
          have hg19 := (G1.out.after HB26.out).after H69.out
          have hg15 : Blk w5 (w.heap.size + 1) #[.slice none 0 0, .int .i64 0] 26 := (hgrow5.block _ hg19.lt (fun e => by have e1 : w.heap.size + 1 = gg := Option.some.inj e; omega)).trans hg19
          have hg1 : Blk (w5.setCell ⟨B2, 0, none⟩ (.slice va (n - 1) vc)) (w.heap.size + 1) #[.slice none 0 0, .int .i64 0] 26 := hg15.other (by omega) _
          have hBN : Below w.heap.size w (w5.setCell ⟨B2, 0, none⟩ (.slice va (n - 1) vc)) := (below_grown ((HB2.out.trans ((HB26.out.trans (H69.out.mono HB26.out.size)).mono HB2.out.size)).drew) hgrow5 (fun b hb => by have := hsrow b hb; omega)).setCell (p := ⟨B2, 0, none⟩) (by simp only; omega) _
          have HQL := Lib.hid (show (rs.eraseIdx k).length = n - 1 by rw [List.length_eraseIdx, if_pos (by rw [HN0.out]; exact hkn), HN0.out])
          have HQF := Lib.hid (fits_erase k HFIT.out)
          clear hsrow hg19 hg15 f39 f35 hown5 hgrow5 hO5 z5 c5 hkk
          generalize (w5.setCell ⟨B2, 0, none⟩ (.slice va (n - 1) vc)) = w10 at f2 f3 hoq hg1 hBN ⊢
          have c0 : w10.cell? ⟨B2, 0, none⟩ = some (.slice va (n - 1) vc) := f2.cell 0
          have c1 : w10.cell? ⟨B2, 1, none⟩ = some (.int .i64 most) := f2.cell 1
          have d0 : w10.cell? ⟨B2 + 1, 0, none⟩ = some (.int .i64 vid) := f3.cell 0
          have d1 : w10.cell? ⟨B2 + 1, 1, none⟩ = some (.int .i64 mac) := f3.cell 1
          have d2 : w10.cell? ⟨B2 + 1, 2, none⟩ = some (.int .i64 port) := f3.cell 2
          have d3 : w10.cell? ⟨B2 + 1, 3, none⟩ = some (.int .i64 now) := f3.cell 3
          have d4 : w10.cell? ⟨B2 + 1, 4, none⟩ = some (.bool false) := f3.cell 4
          have hp := put5_spec (w := w10) (B := blkN va (n - 1)) (v := .agg #[.slice va (n - 1) vc, .int .i64 most]) (t := ⟨(rs.eraseIdx k), most⟩) (tab_of_own hoq HQL.out (by show ((rs.eraseIdx k)).length ≤ _; rw [HQL.out]; omega) HQF.out) ⟨vid, mac, port, now, false⟩ HRF.out (by show ((rs.eraseIdx k)).length ≤ _; rw [HQL.out]; omega)
          unfold Rw.val at hp
          simp only at hp
          have HPUT := Lib.hid hp; have HG1N := Lib.hid hg1; have HBN := Lib.hid hBN
          clear hp f2 f3 hoq hg1 hBN
          go_wp2_with fail
          refine HPUT.out.mono ?_
          rintro e wp ⟨Bp, pa, pn, pc, pm, rfl, hTp, hfp, hbp⟩
          have g1 := HG1N.out.after hbp
          have z1 := g1.frozen
          have y1 := g1.shape
          have e0 : wp.cell? ⟨w.heap.size + 1, 0, none⟩ = some (.slice none 0 0) := g1.cell 0
          have e1 : wp.cell? ⟨w.heap.size + 1, 1, none⟩ = some (.int .i64 0) := g1.cell 1
          have g2 := (g1.set 0 (.slice pa pn pc)).set 1 (.int .i64 pm)
          have hB := ((HBN.out.trans (hbp.mono HBN.out.size)).setCell (p := ⟨w.heap.size + 1, 0, none⟩) (by simp only; omega) (.slice pa pn pc)).setCell (p := ⟨w.heap.size + 1, 1, none⟩) (by simp only; omega) (.int .i64 pm)
          have hl1 := HG1N.out.lt
          have hT7 := hTp.turned (C := [w.heap.size + 1]) (((Turned.refl _ wp).setCell (p := ⟨w.heap.size + 1, 0, none⟩) (by simp) (.slice pa pn pc)).setCell (p := ⟨w.heap.size + 1, 1, none⟩) (by simp) (.int .i64 pm)) (fun b hb hm => by have := hfp b hb; simp at hm; omega)
          have hzz := HBN.out.size
          have G2 := Lib.hid g2; have HBF := Lib.hid hB; have HT7 := Lib.hid hT7; have HFP := Lib.hid hfp
          clear hbp c0 c1 d0 d1 d2 d3 d4 g1 g2 hB hT7 hTp hfp
          go_wp2_with fail
          have r0 : ((wp.setCell ⟨w.heap.size + 1, 0, none⟩ (.slice pa pn pc)).setCell ⟨w.heap.size + 1, 1, none⟩ (.int .i64 pm)).cell? ⟨w.heap.size + 1, 0, none⟩ = some (.slice pa pn pc) := G2.out.cell 0
          have r1 : ((wp.setCell ⟨w.heap.size + 1, 0, none⟩ (.slice pa pn pc)).setCell ⟨w.heap.size + 1, 1, none⟩ (.int .i64 pm)).cell? ⟨w.heap.size + 1, 1, none⟩ = some (.int .i64 pm) := G2.out.cell 1
          have hB := HBF.out; have hT7 := HT7.out
          clear G2 HBF HT7 z1 y1 e0 e1
          generalize (wp.setCell ⟨w.heap.size + 1, 0, none⟩ (.slice pa pn pc)).setCell ⟨w.heap.size + 1, 1, none⟩ (.int .i64 pm) = W at r0 r1 hB hT7 ⊢
          refine bodyPost_ret (v := .agg #[.slice pa pn pc, .int .i64 pm]) (by simp [results, Try.results16, go_sem, r0, r1]) rfl ?_
          rw [HM.out _ (HU3.out.trans ((if_neg (by rw [decide_eq_false HM0.out]; decide)).trans ((if_pos (by rw [decide_eq_true HFULL.out]; rfl)).trans (if_neg (by omega)))))]
          exact ⟨Bp, pa, pn, pc, pm, rfl, hT7, fun b hb => Nat.le_trans hzz (HFP.out b hb), hB⟩
        refine AllReadyH.cons rfl (fun K hK => ?_) AllReadyH.nil
        · go_simp
          refine hK.out _ _ (trivial) (fun hHeld => ?_)
          clear hK K
          try simp only [Act.put, List.getElem_toArray, List.getElem_cons_zero, List.getElem_cons_succ, List.setIfInBounds_toArray, List.set_cons_zero, List.set_cons_succ]
          refine wpAnyH_take (i := 8) (v := ?v9) rfl (by kernel_rfl) (by kernel_rfl) (by kernel_rfl) (fun _ _ _ h => h) (Or.inl ⟨by rfl, ?h9⟩) hHeld ?r9
          case h9 => intro wq hS; go_simp; with_reducible rfl
          try simp only [Act.put, List.getElem_toArray, List.getElem_cons_zero, List.getElem_cons_succ, List.setIfInBounds_toArray, List.set_cons_zero, List.set_cons_succ]
          refine wpAnyH_ready (rs := [1]) (by kernel_rfl) (by simp) ?_
          refine AllReadyH.cons rfl (fun K hK => ?_) AllReadyH.nil
          go_simp
          refine hK.out _ _ (trivial) (fun hHeld => ?_)
          clear hK K
          try simp only [Act.put, List.getElem_toArray, List.getElem_cons_zero, List.getElem_cons_succ, List.setIfInBounds_toArray, List.set_cons_zero, List.set_cons_succ]
          refine wpAnyH_take (i := 3) (v := ?v10) rfl (by kernel_rfl) (by kernel_rfl) (by kernel_rfl) (fun _ _ _ h => h) (Or.inl ⟨by rfl, ?h10⟩) hHeld ?r10
          case h10 => intro wq hS; go_simp; with_reducible rfl
          try simp only [Act.put, List.getElem_toArray, List.getElem_cons_zero, List.getElem_cons_succ, List.setIfInBounds_toArray, List.set_cons_zero, List.set_cons_succ]
          refine wpAnyH_ready (rs := [9]) (by kernel_rfl) (by simp) ?_
          refine AllReadyH.cons rfl (fun K hK => ?_) AllReadyH.nil
          refine step_append_src _ rfl (.tmp 69) (.tmp 74) 24 24 rfl w3.heap.size 34 i0 (.agg #[.int .i64 0, .int .i64 0, .int .i64 0, .int .i64 0, .bool false]) 5 40 Try.underlying24 hi hz0 hz1 hz2 rfl (.slice (some ⟨gg, 0, none⟩) k oc) k _ rfl (by have e := World.ownsRow.drew HPRE.out; rw [List.length_take, HN0.out, Nat.min_eq_left (by omega)] at e; exact e) _ (n - (k + 1)) _ rfl (HSRC.out _ (Below.refl _ _).drew) (by unfold maxLen; omega) (by omega) (by simp; omega) ?_
          intro va vc w5 hown5 hgrow5
          refine hK.out _ _ (trivial) (fun hHeld => ?_)
          clear hK K
          try simp only [Act.put, List.getElem_toArray, List.getElem_cons_zero, List.getElem_cons_succ, List.setIfInBounds_toArray, List.set_cons_zero, List.set_cons_succ]
          refine wpAnyH_take (i := 10) (v := ?v11) rfl (by kernel_rfl) (by kernel_rfl) (by kernel_rfl) (fun _ _ _ h => h) (Or.inl ⟨by rfl, ?h11⟩) hHeld ?r11
          case h11 => intro wq hS; go_simp; with_reducible rfl
          try simp only [Act.put, List.getElem_toArray, List.getElem_cons_zero, List.getElem_cons_succ, List.setIfInBounds_toArray, List.set_cons_zero, List.set_cons_succ]
          refine wpAnyH_ready (rs := [11]) (by kernel_rfl) (by simp) ?_
          refine AllReadyH.cons rfl (fun K hK => ?_) AllReadyH.nil
          have hO5 : Blk w5 B2 #[.slice (some ⟨gg, 0, none⟩) n oc, .int .i64 most] 26 := (hgrow5.block _ (F29.out.lt) (fun e => by have e1 : B2 = gg := Option.some.inj e; have := HGB.out; omega)).trans F29.out
          have z5 : w5.frozen? ⟨B2, 0, none⟩ = false := hO5.frozen 0
          have c5 : w5.cell? ⟨B2, 0, none⟩ = some (.slice (some ⟨gg, 0, none⟩) n oc) := hO5.cell 0
          go_simp
          refine hK.out _ _ (trivial) (fun hHeld => ?_)
          clear hK K
          try simp only [Act.put, List.getElem_toArray, List.getElem_cons_zero, List.getElem_cons_succ, List.setIfInBounds_toArray, List.set_cons_zero, List.set_cons_succ]
          refine wpAnyH_done (by kernel_rfl) ?_ _
          have hkk : k + (n - (k + 1)) = n - 1 := by omega
          rw [hkk] at hown5 ⊢
          have hgl := HGL.out; have hbs := HBS.out; have hgb := HGB.out
          have hsrow : ∀ b, (Value.slice (some ⟨gg, 0, none⟩) k oc).ownBlock = some b → w3.heap.size ≤ b := fun b hb => by have e1 : gg = b := Option.some.inj hb; omega
          have f39 := F3.out.after H69.out
          have f35 : Blk w5 (B2 + 1) #[.int .i64 vid, .int .i64 mac, .int .i64 port, .int .i64 now, .bool false] 34 := (hgrow5.block _ f39.lt (fun e => by have e1 : B2 + 1 = gg := Option.some.inj e; omega)).trans f39
          have f3 : Blk (w5.setCell ⟨B2, 0, none⟩ (.slice va (n - 1) vc)) (B2 + 1) #[.int .i64 vid, .int .i64 mac, .int .i64 port, .int .i64 now, .bool false] 34 := f35.other (by omega) _
          have f2 : Blk (w5.setCell ⟨B2, 0, none⟩ (.slice va (n - 1) vc)) B2 #[.slice va (n - 1) vc, .int .i64 most] 26 := hO5.set 0 _
          have hoq : OwnRw (w5.setCell ⟨B2, 0, none⟩ (.slice va (n - 1) vc)) w3.heap.size (.slice va (n - 1) vc) (rs.eraseIdx k) := own_setOther (own_erase hown5 HN0.out hkn) hO5 (by decide) _
          have hg19 := (G1.out.after HB26.out).after H69.out
          have hg15 : Blk w5 (w.heap.size + 1) #[.slice none 0 0, .int .i64 0] 26 := (hgrow5.block _ hg19.lt (fun e => by have e1 : w.heap.size + 1 = gg := Option.some.inj e; omega)).trans hg19
          have hg1 : Blk (w5.setCell ⟨B2, 0, none⟩ (.slice va (n - 1) vc)) (w.heap.size + 1) #[.slice none 0 0, .int .i64 0] 26 := hg15.other (by omega) _
          have hBN : Below w.heap.size w (w5.setCell ⟨B2, 0, none⟩ (.slice va (n - 1) vc)) := (below_grown ((HB2.out.trans ((HB26.out.trans (H69.out.mono HB26.out.size)).mono HB2.out.size)).drew) hgrow5 (fun b hb => by have := hsrow b hb; omega)).setCell (p := ⟨B2, 0, none⟩) (by simp only; omega) _
          have HQL := Lib.hid (show (rs.eraseIdx k).length = n - 1 by rw [List.length_eraseIdx, if_pos (by rw [HN0.out]; exact hkn), HN0.out])
          have HQF := Lib.hid (fits_erase k HFIT.out)
          clear hsrow hg19 hg15 f39 f35 hown5 hgrow5 hO5 z5 c5 hkk
          generalize (w5.setCell ⟨B2, 0, none⟩ (.slice va (n - 1) vc)) = w10 at f2 f3 hoq hg1 hBN ⊢
          have c0 : w10.cell? ⟨B2, 0, none⟩ = some (.slice va (n - 1) vc) := f2.cell 0
          have c1 : w10.cell? ⟨B2, 1, none⟩ = some (.int .i64 most) := f2.cell 1
          have d0 : w10.cell? ⟨B2 + 1, 0, none⟩ = some (.int .i64 vid) := f3.cell 0
          have d1 : w10.cell? ⟨B2 + 1, 1, none⟩ = some (.int .i64 mac) := f3.cell 1
          have d2 : w10.cell? ⟨B2 + 1, 2, none⟩ = some (.int .i64 port) := f3.cell 2
          have d3 : w10.cell? ⟨B2 + 1, 3, none⟩ = some (.int .i64 now) := f3.cell 3
          have d4 : w10.cell? ⟨B2 + 1, 4, none⟩ = some (.bool false) := f3.cell 4
          have hp := put5_spec (w := w10) (B := blkN va (n - 1)) (v := .agg #[.slice va (n - 1) vc, .int .i64 most]) (t := ⟨(rs.eraseIdx k), most⟩) (tab_of_own hoq HQL.out (by show ((rs.eraseIdx k)).length ≤ _; rw [HQL.out]; omega) HQF.out) ⟨vid, mac, port, now, false⟩ HRF.out (by show ((rs.eraseIdx k)).length ≤ _; rw [HQL.out]; omega)
          unfold Rw.val at hp
          simp only at hp
          have HPUT := Lib.hid hp; have HG1N := Lib.hid hg1; have HBN := Lib.hid hBN
          clear hp f2 f3 hoq hg1 hBN
          go_wp2_with fail
          refine HPUT.out.mono ?_
          rintro e wp ⟨Bp, pa, pn, pc, pm, rfl, hTp, hfp, hbp⟩
          have g1 := HG1N.out.after hbp
          have z1 := g1.frozen
          have y1 := g1.shape
          have e0 : wp.cell? ⟨w.heap.size + 1, 0, none⟩ = some (.slice none 0 0) := g1.cell 0
          have e1 : wp.cell? ⟨w.heap.size + 1, 1, none⟩ = some (.int .i64 0) := g1.cell 1
          have g2 := (g1.set 0 (.slice pa pn pc)).set 1 (.int .i64 pm)
          have hB := ((HBN.out.trans (hbp.mono HBN.out.size)).setCell (p := ⟨w.heap.size + 1, 0, none⟩) (by simp only; omega) (.slice pa pn pc)).setCell (p := ⟨w.heap.size + 1, 1, none⟩) (by simp only; omega) (.int .i64 pm)
          have hl1 := HG1N.out.lt
          have hT7 := hTp.turned (C := [w.heap.size + 1]) (((Turned.refl _ wp).setCell (p := ⟨w.heap.size + 1, 0, none⟩) (by simp) (.slice pa pn pc)).setCell (p := ⟨w.heap.size + 1, 1, none⟩) (by simp) (.int .i64 pm)) (fun b hb hm => by have := hfp b hb; simp at hm; omega)
          have hzz := HBN.out.size
          have G2 := Lib.hid g2; have HBF := Lib.hid hB; have HT7 := Lib.hid hT7; have HFP := Lib.hid hfp
          clear hbp c0 c1 d0 d1 d2 d3 d4 g1 g2 hB hT7 hTp hfp
          go_wp2_with fail
          have r0 : ((wp.setCell ⟨w.heap.size + 1, 0, none⟩ (.slice pa pn pc)).setCell ⟨w.heap.size + 1, 1, none⟩ (.int .i64 pm)).cell? ⟨w.heap.size + 1, 0, none⟩ = some (.slice pa pn pc) := G2.out.cell 0
          have r1 : ((wp.setCell ⟨w.heap.size + 1, 0, none⟩ (.slice pa pn pc)).setCell ⟨w.heap.size + 1, 1, none⟩ (.int .i64 pm)).cell? ⟨w.heap.size + 1, 1, none⟩ = some (.int .i64 pm) := G2.out.cell 1
          have hB := HBF.out; have hT7 := HT7.out
          clear G2 HBF HT7 z1 y1 e0 e1
          generalize (wp.setCell ⟨w.heap.size + 1, 0, none⟩ (.slice pa pn pc)).setCell ⟨w.heap.size + 1, 1, none⟩ (.int .i64 pm) = W at r0 r1 hB hT7 ⊢
          refine bodyPost_ret (v := .agg #[.slice pa pn pc, .int .i64 pm]) (by simp [results, Try.results16, go_sem, r0, r1]) rfl ?_
          rw [HM.out _ (HU3.out.trans ((if_neg (by rw [decide_eq_false HM0.out]; decide)).trans ((if_pos (by rw [decide_eq_true HFULL.out]; rfl)).trans (if_neg (by omega)))))]
          exact ⟨Bp, pa, pn, pc, pm, rfl, hT7, fun b hb => Nat.le_trans hzz (HFP.out b hb), hB⟩
    · have hqf : ((n : Int) == most) = false := by simp [hfull]
      have HFULL := Lib.hid hfull; have HM0 := Lib.hid hm0
      clear hfull hm0
      have f2 := F2.out.after H68.out
      have f3 := F3.out.after H68.out
      have hoq := own_below HOW.out H68.out
      have hg1 := (G1.out.after HB26.out).after H68.out
      have hBN := HB2.out.trans ((HB26.out.trans (H68.out.mono HB26.out.size)).mono HB2.out.size)
      have HQL := HN0; have HQF := HFIT
      have c0 : w8.cell? ⟨B2, 0, none⟩ = some (.slice oa n oc) := f2.cell 0
      have c1 : w8.cell? ⟨B2, 1, none⟩ = some (.int .i64 most) := f2.cell 1
      have d0 : w8.cell? ⟨B2 + 1, 0, none⟩ = some (.int .i64 vid) := f3.cell 0
      have d1 : w8.cell? ⟨B2 + 1, 1, none⟩ = some (.int .i64 mac) := f3.cell 1
      have d2 : w8.cell? ⟨B2 + 1, 2, none⟩ = some (.int .i64 port) := f3.cell 2
      have d3 : w8.cell? ⟨B2 + 1, 3, none⟩ = some (.int .i64 now) := f3.cell 3
      have d4 : w8.cell? ⟨B2 + 1, 4, none⟩ = some (.bool false) := f3.cell 4
      have hp := put5_spec (w := w8) (B := blkN oa n) (v := .agg #[.slice oa n oc, .int .i64 most]) (t := ⟨rs, most⟩) (tab_of_own hoq HQL.out (by show (rs).length ≤ _; rw [HQL.out]; omega) HQF.out) ⟨vid, mac, port, now, false⟩ HRF.out (by show (rs).length ≤ _; rw [HQL.out]; omega)
      unfold Rw.val at hp
      simp only at hp
      have HPUT := Lib.hid hp; have HG1N := Lib.hid hg1; have HBN := Lib.hid hBN
      clear hp f2 f3 hoq hg1 hBN
      go_wp2_with fail
      refine HPUT.out.mono ?_
      rintro e wp ⟨Bp, pa, pn, pc, pm, rfl, hTp, hfp, hbp⟩
      have g1 := HG1N.out.after hbp
      have z1 := g1.frozen
      have y1 := g1.shape
      have e0 : wp.cell? ⟨w.heap.size + 1, 0, none⟩ = some (.slice none 0 0) := g1.cell 0
      have e1 : wp.cell? ⟨w.heap.size + 1, 1, none⟩ = some (.int .i64 0) := g1.cell 1
      have g2 := (g1.set 0 (.slice pa pn pc)).set 1 (.int .i64 pm)
      have hB := ((HBN.out.trans (hbp.mono HBN.out.size)).setCell (p := ⟨w.heap.size + 1, 0, none⟩) (by simp only; omega) (.slice pa pn pc)).setCell (p := ⟨w.heap.size + 1, 1, none⟩) (by simp only; omega) (.int .i64 pm)
      have hl1 := HG1N.out.lt
      have hT7 := hTp.turned (C := [w.heap.size + 1]) (((Turned.refl _ wp).setCell (p := ⟨w.heap.size + 1, 0, none⟩) (by simp) (.slice pa pn pc)).setCell (p := ⟨w.heap.size + 1, 1, none⟩) (by simp) (.int .i64 pm)) (fun b hb hm => by have := hfp b hb; simp at hm; omega)
      have hzz := HBN.out.size
      have G2 := Lib.hid g2; have HBF := Lib.hid hB; have HT7 := Lib.hid hT7; have HFP := Lib.hid hfp
      clear hbp c0 c1 d0 d1 d2 d3 d4 g1 g2 hB hT7 hTp hfp
      go_wp2_with fail
      have r0 : ((wp.setCell ⟨w.heap.size + 1, 0, none⟩ (.slice pa pn pc)).setCell ⟨w.heap.size + 1, 1, none⟩ (.int .i64 pm)).cell? ⟨w.heap.size + 1, 0, none⟩ = some (.slice pa pn pc) := G2.out.cell 0
      have r1 : ((wp.setCell ⟨w.heap.size + 1, 0, none⟩ (.slice pa pn pc)).setCell ⟨w.heap.size + 1, 1, none⟩ (.int .i64 pm)).cell? ⟨w.heap.size + 1, 1, none⟩ = some (.int .i64 pm) := G2.out.cell 1
      have hB := HBF.out; have hT7 := HT7.out
      clear G2 HBF HT7 z1 y1 e0 e1
      generalize (wp.setCell ⟨w.heap.size + 1, 0, none⟩ (.slice pa pn pc)).setCell ⟨w.heap.size + 1, 1, none⟩ (.int .i64 pm) = W at r0 r1 hB hT7 ⊢
      refine bodyPost_ret (v := .agg #[.slice pa pn pc, .int .i64 pm]) (by simp [results, Try.results16, go_sem, r0, r1]) rfl ?_
      rw [HM.out _ (HU2.out.trans ((if_neg (by rw [decide_eq_false HM0.out]; decide)).trans (if_neg (by rw [decide_eq_false HFULL.out]; decide))))]
      exact ⟨Bp, pa, pn, pc, pm, rfl, hT7, fun b hb => Nat.le_trans hzz (HFP.out b hb), hB⟩
  · have hf0 : tabFind rs vid mac = some rs[j] := find_some j hj hh hbe
    have hfx : fixedAt rs vid mac = rs[j].fixed := by unfold fixedAt; rw [hf0]
    obtain ⟨fx, hfxq⟩ : ∃ q, rs[j].fixed = q := ⟨_, rfl⟩
    have hU := HU.out
    have hfn : (tabFind rs vid mac).isNone = false := by rw [hf0]; rfl
    rw [hfx, hfxq, hfn] at hU
    have HU2 := Lib.hid hU
    have hso : SlIn kdRw w8 oa rs := by
      obtain ⟨oa', oc', hoe, hso, _⟩ := SlIn.of_owns (K := kdRw) (own_below HOW.out H68.out) rfl
      cases hoe
      exact hso
    obtain ⟨g, o, hoa, _, hK'⟩ := rowAt hso j hj
    obtain ⟨k0, k1, k2, k3, k4⟩ := (hK' w8 (Below.refl _ _)).1
    rw [hfxq] at k4
    subst hoa
    have hj1 : (j : Int) < (n : Int) := by have := HN0.out; omega
    clear hU hf0 hfn hfx hfxq hh hbe hso hK' k0 k1 k2 k3 hj
    cases rok
    · clear cm cr k4
      have f2 := F2.out.after H68.out
      have hg1 := (G1.out.after HB26.out).after H68.out
      have ho := own_below HOW.out H68.out
      have c0 : w8.cell? ⟨B2, 0, none⟩ = some (.slice (some ⟨g, o, none⟩) n oc) := f2.cell 0
      have c1 : w8.cell? ⟨B2, 1, none⟩ = some (.int .i64 most) := f2.cell 1
      have z1 := hg1.frozen
      have y1 := hg1.shape
      have e0 : w8.cell? ⟨w.heap.size + 1, 0, none⟩ = some (.slice none 0 0) := hg1.cell 0
      have e1 : w8.cell? ⟨w.heap.size + 1, 1, none⟩ = some (.int .i64 0) := hg1.cell 1
      have g2 := (hg1.set 0 (.slice (some ⟨g, o, none⟩) n oc)).set 1 (.int .i64 most)
      have hB := ((HB2.out.trans ((HB26.out.trans (H68.out.mono HB26.out.size)).mono HB2.out.size)).setCell (p := ⟨w.heap.size + 1, 0, none⟩) (by simp only; omega) (.slice (some ⟨g, o, none⟩) n oc)).setCell (p := ⟨w.heap.size + 1, 1, none⟩) (by simp only; omega) (.int .i64 most)
      have hO := own_setCell (j := 1) (own_setCell (j := 0) (b := w.heap.size + 1) ho HBS.out (.slice (some ⟨g, o, none⟩) n oc)) HBS.out (.int .i64 most)
      have G2 := Lib.hid g2; have HBF := Lib.hid hB; have HOF := Lib.hid hO
      clear g2 hB hO f2 hg1 ho
      go_wp2_with fail
      have r0 : ((w8.setCell ⟨w.heap.size + 1, 0, none⟩ (.slice (some ⟨g, o, none⟩) n oc)).setCell ⟨w.heap.size + 1, 1, none⟩ (.int .i64 most)).cell? ⟨w.heap.size + 1, 0, none⟩ = some (.slice (some ⟨g, o, none⟩) n oc) := G2.out.cell 0
      have r1 : ((w8.setCell ⟨w.heap.size + 1, 0, none⟩ (.slice (some ⟨g, o, none⟩) n oc)).setCell ⟨w.heap.size + 1, 1, none⟩ (.int .i64 most)).cell? ⟨w.heap.size + 1, 1, none⟩ = some (.int .i64 most) := G2.out.cell 1
      have hB := HBF.out; have hO := HOF.out
      clear G2 HBF HOF c0 c1 z1 y1 e0 e1
      generalize (w8.setCell ⟨w.heap.size + 1, 0, none⟩ (.slice (some ⟨g, o, none⟩) n oc)).setCell ⟨w.heap.size + 1, 1, none⟩ (.int .i64 most) = W at r0 r1 hB hO ⊢
      refine bodyPost_ret (v := .agg #[.slice (some ⟨g, o, none⟩) n oc, .int .i64 most]) (by simp [results, Try.results16, go_sem, r0, r1]) rfl ?_
      rw [HM.out _ (HU2.out.trans (if_pos rfl))]
      have hn' : n = (⟨rs, most⟩ : Tb).rows.length := HN0.out.symm
      rw [hn'] at hO ⊢
      exact got_own (t := ⟨rs, most⟩) hO HBZ.out (by simp only; rw [HN0.out]; omega) HFIT.out hB
    by_cases hm0 : most = 0
    · have hq0 : (most == 0) = true := by simp [hm0]
      have HM0 := Lib.hid hm0
      clear cr k4 hm0
      have f2 := F2.out.after H68.out
      have hg1 := (G1.out.after HB26.out).after H68.out
      have ho := own_below HOW.out H68.out
      have c0 : w8.cell? ⟨B2, 0, none⟩ = some (.slice (some ⟨g, o, none⟩) n oc) := f2.cell 0
      have c1 : w8.cell? ⟨B2, 1, none⟩ = some (.int .i64 most) := f2.cell 1
      have z1 := hg1.frozen
      have y1 := hg1.shape
      have e0 : w8.cell? ⟨w.heap.size + 1, 0, none⟩ = some (.slice none 0 0) := hg1.cell 0
      have e1 : w8.cell? ⟨w.heap.size + 1, 1, none⟩ = some (.int .i64 0) := hg1.cell 1
      have g2 := (hg1.set 0 (.slice (some ⟨g, o, none⟩) n oc)).set 1 (.int .i64 most)
      have hB := ((HB2.out.trans ((HB26.out.trans (H68.out.mono HB26.out.size)).mono HB2.out.size)).setCell (p := ⟨w.heap.size + 1, 0, none⟩) (by simp only; omega) (.slice (some ⟨g, o, none⟩) n oc)).setCell (p := ⟨w.heap.size + 1, 1, none⟩) (by simp only; omega) (.int .i64 most)
      have hO := own_setCell (j := 1) (own_setCell (j := 0) (b := w.heap.size + 1) ho HBS.out (.slice (some ⟨g, o, none⟩) n oc)) HBS.out (.int .i64 most)
      have G2 := Lib.hid g2; have HBF := Lib.hid hB; have HOF := Lib.hid hO
      clear g2 hB hO f2 hg1 ho
      go_wp2_with fail
      have r0 : ((w8.setCell ⟨w.heap.size + 1, 0, none⟩ (.slice (some ⟨g, o, none⟩) n oc)).setCell ⟨w.heap.size + 1, 1, none⟩ (.int .i64 most)).cell? ⟨w.heap.size + 1, 0, none⟩ = some (.slice (some ⟨g, o, none⟩) n oc) := G2.out.cell 0
      have r1 : ((w8.setCell ⟨w.heap.size + 1, 0, none⟩ (.slice (some ⟨g, o, none⟩) n oc)).setCell ⟨w.heap.size + 1, 1, none⟩ (.int .i64 most)).cell? ⟨w.heap.size + 1, 1, none⟩ = some (.int .i64 most) := G2.out.cell 1
      have hB := HBF.out; have hO := HOF.out
      clear G2 HBF HOF c0 c1 z1 y1 e0 e1
      generalize (w8.setCell ⟨w.heap.size + 1, 0, none⟩ (.slice (some ⟨g, o, none⟩) n oc)).setCell ⟨w.heap.size + 1, 1, none⟩ (.int .i64 most) = W at r0 r1 hB hO ⊢
      refine bodyPost_ret (v := .agg #[.slice (some ⟨g, o, none⟩) n oc, .int .i64 most]) (by simp [results, Try.results16, go_sem, r0, r1]) rfl ?_
      rw [HM.out _ (HU2.out.trans (if_pos (by rw [decide_eq_true HM0.out]; rfl)))]
      have hn' : n = (⟨rs, most⟩ : Tb).rows.length := HN0.out.symm
      rw [hn'] at hO ⊢
      exact got_own (t := ⟨rs, most⟩) hO HBZ.out (by simp only; rw [HN0.out]; omega) HFIT.out hB
    have hq0 : (most == 0) = false := by simp [hm0]
    have HM0 := Lib.hid hm0
    clear hm0
    cases fx
    case true =>
      have f2 := F2.out.after H68.out
      have hg1 := (G1.out.after HB26.out).after H68.out
      have ho := own_below HOW.out H68.out
      have c0 : w8.cell? ⟨B2, 0, none⟩ = some (.slice (some ⟨g, o, none⟩) n oc) := f2.cell 0
      have c1 : w8.cell? ⟨B2, 1, none⟩ = some (.int .i64 most) := f2.cell 1
      have z1 := hg1.frozen
      have y1 := hg1.shape
      have e0 : w8.cell? ⟨w.heap.size + 1, 0, none⟩ = some (.slice none 0 0) := hg1.cell 0
      have e1 : w8.cell? ⟨w.heap.size + 1, 1, none⟩ = some (.int .i64 0) := hg1.cell 1
      have g2 := (hg1.set 0 (.slice (some ⟨g, o, none⟩) n oc)).set 1 (.int .i64 most)
      have hB := ((HB2.out.trans ((HB26.out.trans (H68.out.mono HB26.out.size)).mono HB2.out.size)).setCell (p := ⟨w.heap.size + 1, 0, none⟩) (by simp only; omega) (.slice (some ⟨g, o, none⟩) n oc)).setCell (p := ⟨w.heap.size + 1, 1, none⟩) (by simp only; omega) (.int .i64 most)
      have hO := own_setCell (j := 1) (own_setCell (j := 0) (b := w.heap.size + 1) ho HBS.out (.slice (some ⟨g, o, none⟩) n oc)) HBS.out (.int .i64 most)
      have G2 := Lib.hid g2; have HBF := Lib.hid hB; have HOF := Lib.hid hO
      clear g2 hB hO f2 hg1 ho
      go_wp2_with fail
      have r0 : ((w8.setCell ⟨w.heap.size + 1, 0, none⟩ (.slice (some ⟨g, o, none⟩) n oc)).setCell ⟨w.heap.size + 1, 1, none⟩ (.int .i64 most)).cell? ⟨w.heap.size + 1, 0, none⟩ = some (.slice (some ⟨g, o, none⟩) n oc) := G2.out.cell 0
      have r1 : ((w8.setCell ⟨w.heap.size + 1, 0, none⟩ (.slice (some ⟨g, o, none⟩) n oc)).setCell ⟨w.heap.size + 1, 1, none⟩ (.int .i64 most)).cell? ⟨w.heap.size + 1, 1, none⟩ = some (.int .i64 most) := G2.out.cell 1
      have hB := HBF.out; have hO := HOF.out
      clear G2 HBF HOF c0 c1 z1 y1 e0 e1
      generalize (w8.setCell ⟨w.heap.size + 1, 0, none⟩ (.slice (some ⟨g, o, none⟩) n oc)).setCell ⟨w.heap.size + 1, 1, none⟩ (.int .i64 most) = W at r0 r1 hB hO ⊢
      refine bodyPost_ret (v := .agg #[.slice (some ⟨g, o, none⟩) n oc, .int .i64 most]) (by simp [results, Try.results16, go_sem, r0, r1]) rfl ?_
      rw [HM.out _ (HU2.out.trans (if_pos (by rw [decide_eq_false HM0.out]; rfl)))]
      have hn' : n = (⟨rs, most⟩ : Tb).rows.length := HN0.out.symm
      rw [hn'] at hO ⊢
      exact got_own (t := ⟨rs, most⟩) hO HBZ.out (by simp only; rw [HN0.out]; omega) HFIT.out hB
    have f2 := F2.out.after H68.out
    have f3 := F3.out.after H68.out
    have hoq := own_below HOW.out H68.out
    have hg1 := (G1.out.after HB26.out).after H68.out
    have hBN := HB2.out.trans ((HB26.out.trans (H68.out.mono HB26.out.size)).mono HB2.out.size)
    have HQL := HN0; have HQF := HFIT
    have c0 : w8.cell? ⟨B2, 0, none⟩ = some (.slice (some ⟨g, o, none⟩) n oc) := f2.cell 0
    have c1 : w8.cell? ⟨B2, 1, none⟩ = some (.int .i64 most) := f2.cell 1
    have d0 : w8.cell? ⟨B2 + 1, 0, none⟩ = some (.int .i64 vid) := f3.cell 0
    have d1 : w8.cell? ⟨B2 + 1, 1, none⟩ = some (.int .i64 mac) := f3.cell 1
    have d2 : w8.cell? ⟨B2 + 1, 2, none⟩ = some (.int .i64 port) := f3.cell 2
    have d3 : w8.cell? ⟨B2 + 1, 3, none⟩ = some (.int .i64 now) := f3.cell 3
    have d4 : w8.cell? ⟨B2 + 1, 4, none⟩ = some (.bool false) := f3.cell 4
    have hp := put5_spec (w := w8) (B := blkN (some ⟨g, o, none⟩) n) (v := .agg #[.slice (some ⟨g, o, none⟩) n oc, .int .i64 most]) (t := ⟨rs, most⟩) (tab_of_own hoq HQL.out (by show (rs).length ≤ _; rw [HQL.out]; omega) HQF.out) ⟨vid, mac, port, now, false⟩ HRF.out (by show (rs).length ≤ _; rw [HQL.out]; omega)
    unfold Rw.val at hp
    simp only at hp
    have HPUT := Lib.hid hp; have HG1N := Lib.hid hg1; have HBN := Lib.hid hBN
    clear hp f2 f3 hoq hg1 hBN
    go_wp2_with fail
    refine HPUT.out.mono ?_
    rintro e wp ⟨Bp, pa, pn, pc, pm, rfl, hTp, hfp, hbp⟩
    have g1 := HG1N.out.after hbp
    have z1 := g1.frozen
    have y1 := g1.shape
    have e0 : wp.cell? ⟨w.heap.size + 1, 0, none⟩ = some (.slice none 0 0) := g1.cell 0
    have e1 : wp.cell? ⟨w.heap.size + 1, 1, none⟩ = some (.int .i64 0) := g1.cell 1
    have g2 := (g1.set 0 (.slice pa pn pc)).set 1 (.int .i64 pm)
    have hB := ((HBN.out.trans (hbp.mono HBN.out.size)).setCell (p := ⟨w.heap.size + 1, 0, none⟩) (by simp only; omega) (.slice pa pn pc)).setCell (p := ⟨w.heap.size + 1, 1, none⟩) (by simp only; omega) (.int .i64 pm)
    have hl1 := HG1N.out.lt
    have hT7 := hTp.turned (C := [w.heap.size + 1]) (((Turned.refl _ wp).setCell (p := ⟨w.heap.size + 1, 0, none⟩) (by simp) (.slice pa pn pc)).setCell (p := ⟨w.heap.size + 1, 1, none⟩) (by simp) (.int .i64 pm)) (fun b hb hm => by have := hfp b hb; simp at hm; omega)
    have hzz := HBN.out.size
    have G2 := Lib.hid g2; have HBF := Lib.hid hB; have HT7 := Lib.hid hT7; have HFP := Lib.hid hfp
    clear hbp c0 c1 d0 d1 d2 d3 d4 g1 g2 hB hT7 hTp hfp
    go_wp2_with fail
    have r0 : ((wp.setCell ⟨w.heap.size + 1, 0, none⟩ (.slice pa pn pc)).setCell ⟨w.heap.size + 1, 1, none⟩ (.int .i64 pm)).cell? ⟨w.heap.size + 1, 0, none⟩ = some (.slice pa pn pc) := G2.out.cell 0
    have r1 : ((wp.setCell ⟨w.heap.size + 1, 0, none⟩ (.slice pa pn pc)).setCell ⟨w.heap.size + 1, 1, none⟩ (.int .i64 pm)).cell? ⟨w.heap.size + 1, 1, none⟩ = some (.int .i64 pm) := G2.out.cell 1
    have hB := HBF.out; have hT7 := HT7.out
    clear G2 HBF HT7 z1 y1 e0 e1
    generalize (wp.setCell ⟨w.heap.size + 1, 0, none⟩ (.slice pa pn pc)).setCell ⟨w.heap.size + 1, 1, none⟩ (.int .i64 pm) = W at r0 r1 hB hT7 ⊢
    refine bodyPost_ret (v := .agg #[.slice pa pn pc, .int .i64 pm]) (by simp [results, Try.results16, go_sem, r0, r1]) rfl ?_
    rw [HM.out _ (HU2.out.trans ((if_neg (by rw [decide_eq_false HM0.out]; decide)).trans (if_neg (by simp))))]
    exact ⟨Bp, pa, pn, pc, pm, rfl, hT7, fun b hb => Nat.le_trans hzz (HFP.out b hb), hB⟩
end Go.Proofs.Ytleebmbnjdoinaa
