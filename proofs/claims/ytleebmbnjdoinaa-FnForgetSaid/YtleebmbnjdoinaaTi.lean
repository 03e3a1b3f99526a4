/- Flush of the program. -/
import Derived.Test.YtleebmbnjdoinaaTi2
namespace Go.Proofs.Ytleebmbnjdoinaa
open Go.RowKit Go.Maps

theorem has_kl {L : List Rw} {z : Lit} (h : has (dOf L) z = true) : ∃ y ∈ L, y.kl = z := by
  unfold dOf at h
  rw [has_eq, List.any_eq_true] at h
  obtain ⟨p, hp, hs⟩ := h
  obtain ⟨r, hr, rfl⟩ := List.mem_map.1 ((WideShapes.sorted_perm _).mem_iff.1 hp)
  exact ⟨r, hr, WideAt.sameKey_eq hs⟩
theorem kl_has {L : List Rw} (h : Rows L) {y : Rw} (hy : y ∈ L) : has (dOf L) y.kl = true := by
  unfold Rw.kl
  rw [dOf_has h (h.2 y hy).1 (h.2 y hy).2.1]
  unfold tabFind
  rw [List.find?_isSome]
  exact ⟨y, hy, by unfold hit; simp⟩
/-- not of the port, or fixed -/
def stays (p : Int) (x : Rw) : Bool := !decide (x.port = p) || x.fixed
/-- still to come, or to stay -/
def Still (rs : List Rw) (p : Int) (left : Lit → Bool) : List Rw := rs.filter (fun x => left x.kl || stays p x)
theorem still_start {rs : List Rw} (h : Rows rs) (p : Int) : Still rs p (has (dOf rs)) = rs := by
  unfold Still
  exact List.filter_eq_self.2 (fun x hx => by rw [kl_has h hx]; rfl)
theorem still_end (rs : List Rw) (p : Int) {left : Lit → Bool} (hl : ∀ kl, left kl = false) : Still rs p left = rs.filter (stays p) := by
  unfold Still
  exact List.filter_congr (fun x _ => by rw [hl]; rfl)
theorem still_keep {rs : List Rw} (h : Rows rs) {p : Int} {left : Lit → Bool} {c : Rw} (hc : c ∈ rs) (hs : stays p c = true) : Still rs p (fun z => left z && !z.sameKey c.kl) = Still rs p left := by
  unfold Still
  refine List.filter_congr (fun x hx => ?_)
  simp only [same_kl h hx hc]
  by_cases e : x = c
  · subst e; simp [hs]
  · simp [e]
theorem still_drop {rs : List Rw} (h : Rows rs) {p : Int} {left : Lit → Bool} {c : Rw} (hc : c ∈ rs) (hs : stays p c = false) : (Still rs p left).filter (fun x => !hit c.vid c.mac x) = Still rs p (fun z => left z && !z.sameKey c.kl) := by
  unfold Still
  rw [List.filter_filter]
  refine List.filter_congr (fun x hx => ?_)
  simp only [same_kl h hx hc]
  by_cases e : x = c
  · subst e; simp [hs, hit]
  · have hh : hit c.vid c.mac x = false := by
      unfold hit
      exact decide_eq_false (fun hk => e (h.one hx hc hk))
    simp [e, hh]
theorem still_sub {rs : List Rw} (h : Rows rs) {p : Int} {left : Lit → Bool} (hs : ∀ z, left z = true → ∃ y ∈ rs, y.kl = z) : ∀ z, left z = true → has (dOf (Still rs p left)) z = true := by
  intro z hz
  obtain ⟨y, hy, rfl⟩ := hs z hz
  exact kl_has (h.filter _) (List.mem_filter.2 ⟨hy, by rw [hz]; rfl⟩)

set_option linter.unusedSimpArgs false in
set_option maxRecDepth 100000 in
set_option maxHeartbeats 1000000 in
theorem flush_impl {w : World} {B : List Nat} {v : Value} {t : Tb} (h : TabIn w B v t) (p : Int) : Calls Try.prog 23 #[v, .int .i64 p] w (GotTab w (flushT t p)) := by
  have HTI := Lib.hid h
  obtain ⟨a, cap, rfl, hs, _, hl, hf⟩ := h
  obtain ⟨rs, most⟩ := t
  unfold tabVal at HTI ⊢
  simp only at HTI hs hl hf ⊢
  have hz : ∀ w : World, (zeroValue 26).run Try.prog w = .ok (.agg #[.slice none 0 0, .int .i64 0]) w := fun w => by kernel_rfl
  have hb1 : Below w.heap.size w ((w.alloc (.cells #[.slice a rs.length cap, .int .i64 most] 26)).alloc (.cells #[.slice none 0 0, .int .i64 0] 26)) := ((Below.refl _ _).alloc (Nat.le_refl _) _).alloc (by simp) _
  have kA : Blk ((w.alloc (.cells #[.slice a rs.length cap, .int .i64 most] 26)).alloc (.cells #[.slice none 0 0, .int .i64 0] 26)) w.heap.size #[.slice a rs.length cap, .int .i64 most] 26 := (blk_new _ _ rfl).alloc _
  have kO : Blk ((w.alloc (.cells #[.slice a rs.length cap, .int .i64 most] 26)).alloc (.cells #[.slice none 0 0, .int .i64 0] 26)) (w.heap.size + 1) #[.slice none 0 0, .int .i64 0] 26 := blk_new _ _ (by simp)
  have HT1 := Lib.hid (HTI.out.after hb1)
  have HOK := Lib.hid (tableOk_impl HT1.out)
  have HB1 := Lib.hid hb1; have HKA := Lib.hid kA; have HKO := Lib.hid kO; have HFT := Lib.hid hf
  clear hb1 kA kO hs hl hf
  obtain ⟨n, hn⟩ : ∃ n, rs.length = n := ⟨_, rfl⟩
  have HN := Lib.hid hn
  rw [hn] at HT1 HOK HB1 HKA HKO HTI ⊢
  clear hn
  by_cases hok : tabOk ⟨rs, most⟩
  case neg =>
    have hres : flushT ⟨rs, most⟩ p = ⟨[], 0⟩ := by unfold flushT; rw [if_neg hok]
    rw [hres]
    clear hres
    have HNO := Lib.hid hok
    clear hok
    go_enter Try.func23, Try.ntmps23
    go_wp2_with fail
    refine HOK.out.mono ?_
    rintro e w2 ⟨rfl, hb2⟩
    rw [decide_eq_false HNO.out]
    have HB2 := Lib.hid (HB1.out.trans (hb2.mono HB1.out.size)); have HK2 := Lib.hid (HKO.out.after hb2)
    have c0 := HK2.out.cell 0
    have c1 := HK2.out.cell 1
    have z0 := HK2.out.frozen
    have y0 := HK2.out.shape
    simp at c0 c1 y0
    clear hb2
    go_wp2_with fail
    obtain ⟨r0, r1, hG⟩ := tab_stored (w := w) (base := w.heap.size) (a := none) (n := 0) (cap := 0) (S := []) (most := 0) (World.ownsRow_nil _ _ _ _) rfl (by simp) ⟨fun x hx => absurd hx (by simp), by decide⟩ HK2.out (by omega) (Nat.le_refl _) HB2.out
    clear c0 c1 z0 y0
    generalize (w2.setCell ⟨w.heap.size + 1, 0, none⟩ (.slice none 0 0)).setCell ⟨w.heap.size + 1, 1, none⟩ (.int .i64 0) = W at r0 r1 hG ⊢
    exact bodyPost_ret (v := .agg #[.slice none 0 0, .int .i64 0]) (by simp [results, Try.results23, go_sem, r0, r1]) rfl hG
  have HGOOD := Lib.hid hok
  have hR : Rows rs := rows_of_ok hok HFT.out.1
  have hs64 : rs.length ≤ 64 := by have := hok.1.2; have := hok.2.1; simp only at *; omega
  have HRO := Lib.hid hR; have H64 := Lib.hid hs64
  clear hok hR hs64
  go_enter Try.func23, Try.ntmps23
  go_wp2_with fail
  refine HOK.out.mono ?_
  rintro e w2 ⟨rfl, hb2⟩
  rw [decide_eq_true HGOOD.out]
  have HB2 := Lib.hid (HB1.out.trans (hb2.mono HB1.out.size)); have HA2 := Lib.hid (HKA.out.after hb2); have HO2 := Lib.hid (HKO.out.after hb2)
  have HT2 := Lib.hid (HT1.out.after hb2)
  have a0 := HA2.out.cell 0
  have a1 := HA2.out.cell 1
  simp at a0 a1
  have HRS := Lib.hid (rowSetOf_impl HT2.out HRO.out H64.out)
  clear hb2
  go_wp2_with fail
  refine HRS.out.mono ?_
  rintro e w3 ⟨b, rfl, hRM, hwb, hb3⟩
  have HB3 := Lib.hid (HB2.out.trans (hb3.mono HB2.out.size)); have HA3 := Lib.hid (HA2.out.after hb3); have HO3 := Lib.hid (HO2.out.after hb3)
  have HRM := Lib.hid hRM
  have HBW := Lib.hid (show w.heap.size + 1 < b from Nat.lt_of_lt_of_le HO2.out.lt hwb)
  clear hb3 hRM hwb a0 a1 HT2 HRS HOK HT1 HB1 HKA HKO HB2 HA2 HO2
  have HQE := Lib.hid (show flushT ⟨rs, most⟩ p = ⟨rs.filter (stays p), most⟩ from flush_eq HGOOD.out p)
  have HW3 := Lib.hid (show w.heap.size + 1 < w3.heap.size ∧ b < w3.heap.size from ⟨HO3.out.lt, HRM.out.lt⟩)
  go_wp2_with (at_range; apply stop_here)
  refine stop_go ?_
  refine wpList_range_own _ rfl _ 62 rfl 66 34 lawK Try.underlying62 _ b rs.length _ rfl HRM.out.1 ?_
  intro w0 hrg0 hg0 hs0
  have HG0 := Lib.hid hg0; have HRG0 := Lib.hid hrg0
  clear hg0 hs0 hrg0
  go_wp2_with fail
  go_frame
  go_loopw [6] (fun _ wr => ∃ (left : Lit → Bool) (cnt : Nat), Hid (wr.ranges Try.prog 66 rowElem b w3.heap.size rs.length (dOf (Still rs p left)) left cnt) ∧ Hid (∀ z, left z = true → ∃ y ∈ rs, y.kl = z) ∧ Hid (Turned [b, w3.heap.size] w3 wr))
    (fun _ wr => wr.rangeLeft b w3.heap.size)
  case atStart =>
    refine ⟨_, _, Lib.hid (by rw [still_start HRO.out]; exact HRG0.out), Lib.hid (fun z hz => has_kl hz), Lib.hid ⟨HG0.out.os, HG0.out.tape, HG0.out.output, HG0.out.size, fun k hk _ => HG0.out.block k hk (by simp)⟩⟩
  case round =>
    obtain ⟨left, cnt, HRG, HSUB, HT⟩ := hrel
    go_wp2_with (at_next; apply stop_here)
    refine stop_go ?_
    have HM := Lib.hid (show Rows (Still rs p left) from HRO.out.filter _)
    refine wpList_next_ranges _ rfl _ rfl 66 lawK rowElem (fun p : Int × Int => keyV p.1 p.2) Rw.val (fun key kl hk => by obtain ⟨x, y, hx, _⟩ := keyOf_inv hk; exact ⟨(x, y), hx⟩) (fun v y hv => by obtain ⟨c, hc, _⟩ := rowElem_inv hv; exact ⟨c, hc⟩) b w3.heap.size rs.length _ _ _ rfl HRG.out ?_ ?_
    · intro hc0 hl0
      have HR4 := Lib.hid (show RM wr b rs.length (rs.filter (stays p)) from ⟨by have e := HRG.out.owns; rwa [still_end rs p hl0] at e, HRO.out.filter _⟩)
      have HA4 := Lib.hid (HA3.out.turned HT.out (by have := HBW.out; have := HW3.out; simp; omega))
      have HO4 := Lib.hid (HO3.out.turned HT.out (by have := HBW.out; have := HW3.out; simp; omega))
      have HB4 := Lib.hid (HB3.out.trans (HT.out.below (n := w.heap.size) HB3.out.size (fun bb hb => by have := HBW.out; have := HW3.out; simp at hb; omega)))
      clear hc0 hl0
      have HTB := Lib.hid (table_impl HR4.out (by have := (HR4.out).len_le; have := H64.out; have := HN.out; omega) (S := rs.filter (stays p)) (List.Perm.refl _) (sub_sorted HGOOD.out _) HFT.out.2)
      have m1 := (HA4.out).cell 1
      simp at m1
      have HKO9 := Lib.hid (HO4.out); have HB9 := Lib.hid (HB4.out)
      go_wp2_with fail
      refine HTB.out.mono ?_
      rintro e w9 hG9
      obtain ⟨B9, a9, n9, c9, q9, rfl, hT9, hB9, hb9⟩ := hG9
      have HO9 := Lib.hid (HKO9.out.after hb9)
      have c0 := HO9.out.cell 0
      have c1 := HO9.out.cell 1
      have z0 := HO9.out.frozen
      have y0 := HO9.out.shape
      simp at c0 c1 y0
      have HG9 := Lib.hid (show GotTab wr _ (.returned (.agg #[.slice a9 n9 c9, .int .i64 q9])) w9 from ⟨B9, a9, n9, c9, q9, rfl, hT9, hB9, hb9⟩)
      clear hT9 hB9 hb9 m1
      go_wp2_with fail
      obtain ⟨r0, r1, hG⟩ := got_stored (w := w) HG9.out HKO9.out (by omega) HB9.out
      clear c0 c1 z0 y0
      generalize (w9.setCell ⟨w.heap.size + 1, 0, none⟩ (.slice a9 n9 c9)).setCell ⟨w.heap.size + 1, 1, none⟩ (.int .i64 q9) = W at r0 r1 hG ⊢
      exact bodyPost_ret (v := .agg #[.slice a9 n9 c9, .int .i64 q9]) (by simp [results, Try.results23, go_sem, r0, r1]) rfl (by rw [HQE.out]; exact hG)
    · rintro ⟨x1, x2⟩ c kl ⟨yd, yp⟩ w4 cnt2 hkey hlk hv hat hrg2 hlt hg2 hs2 hen
      obtain ⟨hcM, rfl, rfl, rfl⟩ := row_of_step HM.out hkey hlk (still_sub HRO.out HSUB.out) hv hat
      clear hkey hv hat hs2
      have hcL := (List.mem_filter.1 hcM).1
      have hT4 : Turned [b, w3.heap.size] w3 w4 := HT.out.trans1 ⟨hg2.os, hg2.tape, hg2.output, hg2.size, fun k hk hn => hg2.block k hk (fun e => hn (by cases e; simp))⟩
      have HFIT := Lib.hid (HRO.out.2 c hcL)
      have HRG2 := Lib.hid hrg2; have HLT := Lib.hid hlt; have HT4 := Lib.hid hT4; have HCL := Lib.hid hcL
      have HSUB2 := Lib.hid (show ∀ z, (left z && !z.sameKey c.kl) = true → ∃ y ∈ rs, y.kl = z from fun z hz => HSUB.out z (by simp at hz; exact hz.1))
      have HRL := Lib.hid HRG.out.left_eq
      clear hrg2 hlt hT4 hg2 hlk hcM hcL
      obtain ⟨c0, c1, c2, c3, c4⟩ := c
      unfold Rw.val at hen ⊢
      unfold keyV at hen ⊢
      simp only at hen ⊢
      have HRG3 := Lib.hid ((HRG2.out.alloc (.cells #[.int .i64 c0, .int .i64 c1] 66)).alloc (.cells #[.int .i64 c0, .int .i64 c1, .int .i64 c2, .int .i64 c3, .bool c4] 34))
      have HT5 := Lib.hid ((HT4.out.alloc (.cells #[.int .i64 c0, .int .i64 c1] 66)).alloc (.cells #[.int .i64 c0, .int .i64 c1, .int .i64 c2, .int .i64 c3, .bool c4] 34))
      have HKB := Lib.hid (show Blk ((w4.alloc (.cells #[.int .i64 c0, .int .i64 c1] 66)).alloc (.cells #[.int .i64 c0, .int .i64 c1, .int .i64 c2, .int .i64 c3, .bool c4] 34)) w4.heap.size #[.int .i64 c0, .int .i64 c1] 66 from (blk_new _ _ rfl).alloc _)
      have HRB := Lib.hid (show Blk ((w4.alloc (.cells #[.int .i64 c0, .int .i64 c1] 66)).alloc (.cells #[.int .i64 c0, .int .i64 c1, .int .i64 c2, .int .i64 c3, .bool c4] 34)) (w4.heap.size + 1) #[.int .i64 c0, .int .i64 c1, .int .i64 c2, .int .i64 c3, .bool c4] 34 from blk_new _ _ (by simp))
      obtain ⟨b4, hb4e⟩ : ∃ b4, w4.heap.size = b4 := ⟨_, rfl⟩
      go_upto_region 7 with fail
      generalize (w4.alloc (.cells #[.int .i64 c0, .int .i64 c1] 66)).alloc (.cells #[.int .i64 c0, .int .i64 c1, .int .i64 c2, .int .i64 c3, .bool c4] 34) = w5 at HRG3 HT5 HKB HRB ⊢
      rw [hb4e] at HKB HRB
      try rw [hb4e]
      clear hen hb4e
      have q2 := HRB.out.cell 2
      have q4 := HRB.out.cell 4
      have p0 := HKB.out.cell 0
      have p1 := HKB.out.cell 1
      simp at q2 q4 p0 p1
      by_cases hgo : c2 = p ∧ c4 = false
      case neg =>
        have hst : stays p ⟨c0, c1, c2, c3, c4⟩ = true := by
          unfold stays
          simp only
          by_cases h1 : c2 = p
          · have : c4 = true := by cases c4; exact absurd ⟨h1, rfl⟩ hgo; rfl
            simp [this]
          · simp [h1]
        have HRG5 := Lib.hid (show w5.ranges Try.prog 66 rowElem b w3.heap.size rs.length (dOf (Still rs p (fun z => left z && !z.sameKey (Rw.kl ⟨c0, c1, c2, c3, c4⟩)))) (fun z => left z && !z.sameKey (Rw.kl ⟨c0, c1, c2, c3, c4⟩)) cnt2 by
          rw [still_keep HRO.out HCL.out hst]; exact HRG3.out)
        clear hst
        by_cases h1 : c2 = p
        · obtain rfl : c4 = true := by cases c4; exact absurd ⟨h1, rfl⟩ hgo; rfl
          have h1' : (c2 == p) = true := by simp [h1]
          clear hgo
          go_wp2_with fail
          go_roundw
          case rel => exact ⟨_, cnt2, HRG5, HSUB2, HT5⟩
          case measure => rw [HRG5.out.left_eq, HRL.out]; exact HLT.out
        · have h1' : (c2 == p) = false := by simp [h1]
          clear hgo
          go_wp2_with fail
          go_roundw
          case rel => exact ⟨_, cnt2, HRG5, HSUB2, HT5⟩
          case measure => rw [HRG5.out.left_eq, HRL.out]; exact HLT.out
      case pos =>
        obtain ⟨rfl, rfl⟩ := hgo
        have hst : stays c2 ⟨c0, c1, c2, c3, false⟩ = false := by unfold stays; simp
        have HST := Lib.hid hst
        clear hst
        go_wp2_with (at_delete; apply stop_here)
        refine stop_go ?_
        refine wpList_delete_ranges _ rfl _ _ 62 66 rfl 34 lawK Try.underlying62 rowElem b w3.heap.size rs.length _ _ _ rfl HRG3.out _ (keyL c0 c1) rfl (keyOf_mk HFIT.out.1 HFIT.out.2.1) ?_
        intro w6 cnt3 hrg6 hle6 hmt6
        rw [dOf_del HM.out HFIT.out.1 HFIT.out.2.1] at hrg6
        have HRG6 := Lib.hid (show w6.ranges Try.prog 66 rowElem b w3.heap.size rs.length (dOf (Still rs c2 (fun z => left z && !z.sameKey (Rw.kl ⟨c0, c1, c2, c3, false⟩)))) (fun z => left z && !z.sameKey (Rw.kl ⟨c0, c1, c2, c3, false⟩)) cnt3 by
          rw [← still_drop HRO.out HCL.out HST.out]
          rw [show (fun z : Lit => left z && !z.sameKey (Rw.kl ⟨c0, c1, c2, c3, false⟩)) = (fun z => (left z && !z.sameKey (Rw.kl ⟨c0, c1, c2, c3, false⟩)) && !z.sameKey (Rw.kl ⟨c0, c1, c2, c3, false⟩)) from (Maps.strike_twice left _).symm]
          exact hrg6)
        have hT6 := HT5.out.trans1 (show Turned [b, w3.heap.size] w5 w6 from ⟨(turned_of_map hmt6).os, (turned_of_map hmt6).tape, (turned_of_map hmt6).output, (turned_of_map hmt6).size, fun k hk hn => (turned_of_map hmt6).block k hk (by simp at hn; simp [hn.1])⟩)
        have HT6 := Lib.hid hT6
        have HLE := Lib.hid hle6
        clear hrg6 hle6 hmt6 hT6 q2 q4 p0 p1
        go_frame
        go_wp2_with fail
        go_roundw
        case rel => exact ⟨_, cnt3, HRG6, HSUB2, HT6⟩
        case measure => rw [HRG6.out.left_eq, HRL.out]; exact Nat.lt_of_le_of_lt HLE.out HLT.out
end Go.Proofs.Ytleebmbnjdoinaa
