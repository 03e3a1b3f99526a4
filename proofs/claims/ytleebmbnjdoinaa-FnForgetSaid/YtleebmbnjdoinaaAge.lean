/- byAge, forgetFront, forgetOldest, forgetBefore of the program. -/
import Derived.Test.YtleebmbnjdoinaaHeap2
namespace Go.Proofs.Ytleebmbnjdoinaa
open Go.RowKit Go.Maps

/-- the rows that are not fixed, and not still to come -/
def Loose (L : List Rw) (left : Lit → Bool) : List Rw := L.filter (fun x => !left x.kl && !x.fixed)
theorem loose_start {L : List Rw} (h : Rows L) : Loose L (has (dOf L)) = [] := by
  unfold Loose
  rw [List.filter_eq_nil_iff]
  intro x hx
  unfold Rw.kl
  rw [dOf_has h (h.2 x hx).1 (h.2 x hx).2.1]
  have : (tabFind L x.vid x.mac).isSome = true := by
    unfold tabFind
    rw [List.find?_isSome]
    exact ⟨x, hx, by unfold hit; simp⟩
  rw [this]
  simp
theorem loose_end {L : List Rw} {left : Lit → Bool} (hl : ∀ kl, left kl = false) : Loose L left = L.filter (fun x => !x.fixed) := by
  unfold Loose
  refine List.filter_congr (fun x _ => ?_)
  rw [hl]
  simp
theorem filter_add {L : List Rw} (hn : L.Nodup) {p q : Rw → Bool} {r : Rw} (hr : r ∈ L) (hp : p r = false) (hq : ∀ x ∈ L, q x = (p x || decide (x = r))) : (L.filter q).Perm (r :: L.filter p) := by
  refine (List.perm_ext_iff_of_nodup (hn.filter _) (List.nodup_cons.2 ⟨fun hm => ?_, hn.filter _⟩)).2 (fun x => ?_)
  · have := (List.mem_filter.1 hm).2
    rw [hp] at this
    cases this
  · rw [List.mem_filter, List.mem_cons, List.mem_filter]
    constructor
    · rintro ⟨h1, h2⟩
      rw [hq x h1, Bool.or_eq_true, decide_eq_true_eq] at h2
      rcases h2 with h2 | h2
      · exact .inr ⟨h1, h2⟩
      · exact .inl h2
    · rintro (rfl | ⟨h1, h2⟩)
      · exact ⟨hr, by rw [hq x hr]; simp⟩
      · exact ⟨h1, by rw [hq x h1, h2]; rfl⟩
theorem loose_add {L : List Rw} (h : Rows L) {left : Lit → Bool} {r : Rw} (hr : r ∈ L) (hl : left r.kl = true) (hf : r.fixed = false) : (Loose L (fun z => left z && !z.sameKey r.kl)).Perm (r :: Loose L left) := by
  refine filter_add h.nodup hr (by rw [hl]; rfl) (fun x hx => ?_)
  simp only [same_kl h hx hr]
  by_cases e : x = r
  · subst e; simp [hl, hf]
  · simp [e]
theorem loose_same {L : List Rw} (h : Rows L) {left : Lit → Bool} {r : Rw} (hr : r ∈ L) (hf : r.fixed = true) : Loose L (fun z => left z && !z.sameKey r.kl) = Loose L left := by
  unfold Loose
  refine List.filter_congr (fun x hx => ?_)
  simp only [same_kl h hx hr]
  by_cases e : x = r
  · subst e; simp [hf]
  · simp [e]

theorem ranges_turned {w w' : World} {b r n cnt : Nat} {D : DataW Unit} {left : Lit → Bool} {B : List Nat} (h : w.ranges Try.prog 66 rowElem b r n D left cnt) (hT : Turned B w w') (h1 : b ∉ B) (h2 : r ∉ B) : w'.ranges Try.prog 66 rowElem b r n D left cnt := by
  have hb := h.owns.lt
  have hr := h.lt
  obtain ⟨es, clock, since, seen, c0, hb', F, hs, hD, hr', rest⟩ := h
  exact ⟨es, clock, since, seen, c0, (hT.block b hb h1).trans hb', F, hs, hD, (hT.block r hr h2).trans hr', rest⟩
theorem iter_not {w : World} {b r n cnt bq base : Nat} {D : DataW Unit} {left : Lit → Bool} {a : Option Addr} {d : List Rw} (h : w.ranges Try.prog 66 rowElem b r n D left cnt) (hQ : QAt w bq base a d) : r ∉ bq :: blkOf a := by
  obtain ⟨es, clock, since, seen, c0, _, _, _, _, hr, _⟩ := h
  obtain ⟨cap, hK, hO⟩ := hQ
  intro hm
  rcases List.mem_cons.1 hm with e | hm
  · subst e
    unfold Blk at hK
    rw [hr] at hK
    cases hK
  · cases a with
    | none => cases hm
    | some x =>
      obtain ⟨xb, xo, xs⟩ := x
      simp [blkOf] at hm
      subst hm
      obtain ⟨_, h' | ⟨g', c', cur, h', _, hg, _⟩⟩ := hO
      · simp at h'
      · simp at h'
        obtain ⟨⟨rfl, _, _⟩, _⟩ := h'
        rw [hr] at hg
        cases hg

set_option maxRecDepth 100000 in
set_option maxHeartbeats 1000000 in
theorem byAge_impl {w : World} {b nn : Nat} {L : List Rw} (h : RM w b nn L) (hN : L.length ≤ 1000) :
    Calls Try.prog 73 #[.map (some b)] w fun e w' => ∃ bq a d, e = .returned (.pointer (some ⟨bq, 0, none⟩)) ∧ w.heap.size ≤ bq ∧ QAt w' bq w.heap.size a d ∧ d.Perm (L.filter (fun x => !x.fixed)) ∧ Hp ltR (fn d) d.length ∧ Below w.heap.size w w' := by
  have HRM := Lib.hid h
  clear h
  go_enter Try.func73, Try.ntmps73
  go_wp2_with (at_range; apply stop_here)
  refine stop_go ?_
  have hb1 : Below w.heap.size w ((w.alloc (.cells #[] 34)).alloc (.cells #[.slice (some ⟨w.heap.size, 0, none⟩) 0 0] 105)) := ((Below.refl _ _).alloc (Nat.le_refl _) _).alloc (by simp) _
  have kQ : Blk ((w.alloc (.cells #[] 34)).alloc (.cells #[.slice (some ⟨w.heap.size, 0, none⟩) 0 0] 105)) (w.heap.size + 1) #[.slice (some ⟨w.heap.size, 0, none⟩) 0 0] 105 := blk_new _ _ (by simp)
  have kO : OwnRw ((w.alloc (.cells #[] 34)).alloc (.cells #[.slice (some ⟨w.heap.size, 0, none⟩) 0 0] 105)) w.heap.size (.slice (some ⟨w.heap.size, 0, none⟩) 0 0) [] :=
    World.ownsRow.alloc ⟨rfl, .inr ⟨w.heap.size, 0, #[], rfl, Nat.le_refl _, by show (w.heap.push _)[w.heap.size]? = _; simp, Nat.le_refl _, by decide, rfl, rfl⟩⟩ _
  have HQ0 := Lib.hid (show QAt _ (w.heap.size + 1) w.heap.size (some ⟨w.heap.size, 0, none⟩) [] from ⟨0, kQ, kO⟩)
  have HB1 := Lib.hid hb1
  have HRM1 := Lib.hid (HRM.out.after hb1)
  have hsz : ((w.alloc (.cells #[] 34)).alloc (.cells #[.slice (some ⟨w.heap.size, 0, none⟩) 0 0] 105)).heap.size = w.heap.size + 2 := by simp
  have HSZ := Lib.hid hsz
  clear hb1 kQ kO hsz
  generalize (w.alloc (.cells #[] 34)).alloc (.cells #[.slice (some ⟨w.heap.size, 0, none⟩) 0 0] 105) = w1 at HQ0 HB1 HRM1 HSZ ⊢
  refine wpList_range_own _ rfl _ 62 rfl 66 34 lawK Try.underlying62 _ b nn _ rfl HRM1.out.1 ?_
  intro w0 hrg0 hg0 hs0
  have HG0 := Lib.hid hg0; have HRG0 := Lib.hid hrg0
  clear hg0 hs0 hrg0
  go_wp2_with fail
  go_frame
  go_loopw [5] (fun _ wr => ∃ (left : Lit → Bool) (cnt : Nat) (a : Option Addr) (d : List Rw), Hid (wr.ranges Try.prog 66 rowElem b w1.heap.size nn (dOf L) left cnt) ∧ Hid (∀ z, left z = true → has (dOf L) z = true) ∧ Hid (QAt wr (w.heap.size + 1) w.heap.size a d) ∧ Hid (d.Perm (Loose L left)) ∧ Hid (Hp ltR (fn d) d.length) ∧ Hid (Below w.heap.size w wr))
    (fun _ wr => wr.rangeLeft b w1.heap.size)
  case atStart =>
    have hb0 : Below w.heap.size w w0 := HB1.out.grown HG0.out HB1.out.size (fun k e => by cases e)
    exact ⟨_, _, some ⟨w.heap.size, 0, none⟩, [], HRG0, Lib.hid (fun _ h => h), Lib.hid (HQ0.out.after ((Below.refl w1.heap.size w1).grown HG0.out (Nat.le_refl _) (fun k e => by cases e))), Lib.hid (by rw [loose_start HRM.out.2]), Lib.hid (fun i _ h1 => by simp at h1), Lib.hid hb0⟩
  case round =>
    obtain ⟨left, cnt, a, d, HRG, HSUB, HQ, HP, HH, HB⟩ := hrel
    go_wp2_with (at_next; apply stop_here)
    refine stop_go ?_
    refine wpList_next_ranges _ rfl _ rfl 66 lawK rowElem (fun p : Int × Int => keyV p.1 p.2) Rw.val (fun key kl hk => by obtain ⟨x, y, hx, _⟩ := keyOf_inv hk; exact ⟨(x, y), hx⟩) (fun v y hv => by obtain ⟨c, hc, _⟩ := rowElem_inv hv; exact ⟨c, hc⟩) b w1.heap.size nn _ _ _ rfl HRG.out ?_ ?_
    · intro hc0 hl0
      have HP2 := Lib.hid (show d.Perm (L.filter (fun x => !x.fixed)) from by have e := HP.out; rwa [loose_end hl0] at e)
      clear hc0 hl0
      go_wp2_with fail
      go_ret
      exact ⟨w.heap.size + 1, a, d, rfl, by omega, HQ.out, HP2.out, HH.out, HB.out⟩
    · rintro ⟨x1, x2⟩ c kl ⟨yd, yp⟩ w2 cnt2 hkey hlk hv hat hrg2 hlt hg2 hs2 hen
      obtain ⟨hcL, rfl, rfl, rfl⟩ := row_of_step HRM.out.2 hkey hlk HSUB.out hv hat
      clear hkey hv hat hs2
      have HRG2 := Lib.hid hrg2; have HCL := Lib.hid hcL; have HLK := Lib.hid hlk; have HLT := Lib.hid hlt
      have hno := iter_not HRG.out HQ.out
      have hT2 : Turned [w1.heap.size] wr w2 := ⟨hg2.os, hg2.tape, hg2.output, hg2.size, fun k hk hn => hg2.block k hk (fun e => hn (by cases e; simp))⟩
      have HQ2 := Lib.hid (HQ.out.keep hT2 (fun e => by simp at e; exact hno (by simp [e])) (fun bb hb e => by simp at e; subst e; exact hno (List.mem_cons_of_mem _ hb)))
      have HB2 := Lib.hid ((HB.out).trans (hT2.below (n := w.heap.size) HB.out.size (fun bb hb => by simp at hb; have := HSZ.out; omega)))
      have HSUB2 := Lib.hid (show ∀ z, (left z && !z.sameKey c.kl) = true → has (dOf L) z = true from fun z hz => HSUB.out z (by simp at hz; exact hz.1))
      clear hrg2 hcL hlk hlt hg2 hno hT2
      have hdl : d.length ≤ 1000 := by
        have e := HP.out.length_eq
        have := List.length_filter_le (fun x => !left x.kl && !x.fixed) L
        unfold Loose at e
        omega
      have HDL := Lib.hid hdl
      obtain ⟨c0, c1, c2, c3, c4⟩ := c
      unfold Rw.val at hen ⊢
      unfold keyV at hen ⊢
      simp only at hen ⊢
      have HQ3 := Lib.hid (HQ2.out.after ((Below.refl _ _).alloc (Nat.le_refl _) (.cells #[.int .i64 c0, .int .i64 c1, .int .i64 c2, .int .i64 c3, .bool c4] 34)))
      have HB3 := Lib.hid (HB2.out.alloc HB2.out.size (.cells #[.int .i64 c0, .int .i64 c1, .int .i64 c2, .int .i64 c3, .bool c4] 34))
      have HRG3 := Lib.hid (HRG2.out.alloc (.cells #[.int .i64 c0, .int .i64 c1, .int .i64 c2, .int .i64 c3, .bool c4] 34))
      have HRL := Lib.hid HRG.out.left_eq
      cases c4
      case true =>
        have HP3 := Lib.hid (show d.Perm (Loose L (fun z => left z && !z.sameKey (Rw.kl ⟨c0, c1, c2, c3, true⟩))) by rw [loose_same HRM.out.2 HCL.out rfl]; exact HP.out)
        clear hdl
        go_wp2_with fail
        go_roundw
        case rel => exact ⟨_, cnt2, a, d, HRG3, HSUB2, HQ3, HP3, HH, HB3⟩
        case measure => rw [HRG3.out.left_eq, HRL.out]; exact HLT.out
      case false =>
        have hpu := hpush_any HQ3.out (by omega) (HB3.out.size) ⟨c0, c1, c2, c3, false⟩ HH.out
        unfold Rw.val at hpu
        simp only at hpu
        have HPU := Lib.hid hpu
        have HADD := Lib.hid (loose_add HRM.out.2 HCL.out HLK.out rfl)
        clear hpu hdl
        go_wp2_with fail
        refine HPU.out.mono ?_
        rintro e w4 ⟨rfl, a', d', hQ4, hp4, hH4, hT4, hn4⟩
        have hno3 := iter_not HRG3.out HQ3.out
        have hbl := HQ3.out.base_le
        have hbn : b ∉ (w.heap.size + 1) :: blkOf a := by
          intro hm
          have := HRM.out.lt
          rcases List.mem_cons.1 hm with e | hm
          · omega
          · have := (hbl b hm).1; omega
        have HRG4 := Lib.hid (ranges_turned HRG3.out hT4 hbn hno3)
        have HQ4 := Lib.hid hQ4
        have HP4 := Lib.hid (hp4.trans ((HP.out.cons (⟨c0, c1, c2, c3, false⟩ : Rw)).trans HADD.out.symm))
        have HH4 := Lib.hid hH4
        have HB4 := Lib.hid (HB3.out.trans (hT4.below (n := w.heap.size) HB3.out.size (fun bb hm => by
          rcases List.mem_cons.1 hm with e | hm
          · omega
          · exact (hbl bb hm).1)))
        clear hQ4 hp4 hH4 hT4 hn4 hno3 hbl hbn hen
        go_wp2_with fail
        go_roundw
        case rel => exact ⟨_, cnt2, a', d', HRG4, HSUB2, HQ4, HP4, HH4, HB4⟩
        case measure => rw [HRG4.out.left_eq, HRL.out]; exact HLT.out
end Go.Proofs.Ytleebmbnjdoinaa
