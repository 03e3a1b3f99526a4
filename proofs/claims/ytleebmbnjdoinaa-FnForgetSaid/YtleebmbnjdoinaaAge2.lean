/- forgetFront, forgetOldest, forgetBefore of the program. -/
import Derived.Test.YtleebmbnjdoinaaAge
namespace Go.Proofs.Ytleebmbnjdoinaa
open Go.RowKit Go.Maps

set_option maxRecDepth 100000 in
set_option maxHeartbeats 1000000 in
theorem front_impl {w : World} {b nn bq base : Nat} {a : Option Addr} {L d : List Rw} (h : RM w b nn L) (hb : b < base) (hbq : base ≤ bq) (hQ : QAt w bq base a d) (k : Nat) (hk : d.length = k + 1) (hk6 : k ≤ 100000) (hH : Hp ltR (fn d) (k + 1)) (hf : (fn d 0).fits) :
    Calls Try.prog 75 #[.map (some b), .pointer (some ⟨bq, 0, none⟩)] w fun e w' => e = .returned (.tuple #[]) ∧ RM w' b nn (L.filter (fun r => !hit (fn d 0).vid (fn d 0).mac r)) ∧ ∃ d', QAt w' bq base a d' ∧ d'.Perm d.tail ∧ Hp ltR (fn d') d'.length ∧ Turned (b :: bq :: blkOf a) w w' := by
  have hQ0 := hQ
  obtain ⟨cap, hK, hO⟩ := hQ0
  rw [hk] at hK hO
  have c0 := hK.cell 0
  simp at c0
  have hfr := front_q (own_sl hO hk) hk (cap := cap) (by omega)
  have e0 : d[0]'(by omega) = fn d 0 := (fn_get (by omega)).symm
  rw [e0] at hfr
  have hky := fun w' => key_any (fn d 0) w'
  obtain ⟨x, hx⟩ : ∃ x, fn d 0 = x := ⟨_, rfl⟩
  rw [hx] at hfr hky hf ⊢
  obtain ⟨x0, x1, x2, x3, x4⟩ := x
  unfold Rw.val at hky
  simp only at hfr hky ⊢
  have hblk := hQ.base_le
  have HFR := Lib.hid hfr; have HKY := Lib.hid hky; have HRM := Lib.hid h; have HQ := Lib.hid hQ; have HF := Lib.hid hf; have HH := Lib.hid hH; have HL := Lib.hid hk; have HBL := Lib.hid hblk
  clear hfr hky h hQ hf hH hk hK hO e0 hblk hx
  go_enter Try.func75, Try.ntmps75
  go_wp2_with fail
  refine HFR.out.mono ?_
  rintro e w1 ⟨rfl, hb1⟩
  have HB1 := Lib.hid hb1
  clear hb1 c0
  go_wp2_with fail
  refine (HKY.out _).mono ?_
  rintro e w2 ⟨rfl, hg2⟩
  have HB2 := Lib.hid (HB1.out.trans (hg2.below.mono HB1.out.size))
  clear hg2
  go_wp2_with (at_delete; apply stop_here)
  refine stop_go ?_
  have hr2 := HRM.out.after HB2.out
  refine wpList_delete_own _ rfl _ _ 62 66 rfl 34 lawK Try.underlying62 rowElem b nn _ rfl hr2.1 _ (keyL x0 x1) rfl (keyOf_mk HF.out.1 HF.out.2.1) ?_
  intro w3 hown3 hmt3
  rw [dOf_del hr2.2 HF.out.1 HF.out.2.1] at hown3
  have HR3 := Lib.hid (show RM w3 b nn (L.filter (fun r => !hit x0 x1 r)) from ⟨hown3, hr2.2.filter _⟩)
  have hT3 := (Turned.of_below (B := [b]) HB2.out).trans1 (turned_of_map hmt3)
  have HT3 := Lib.hid hT3
  have hbn : b ∉ blkOf a := fun hm => by have := (HBL.out b hm).1; omega
  have HQ3 := Lib.hid (HQ.out.keep hT3 (by simp; omega) (fun bb hm e => by simp at e; subst e; exact hbn hm))
  have hpo := hpop_any HQ3.out k HL.out hk6 HH.out
  have HPO := Lib.hid hpo; have HBN := Lib.hid hbn
  clear hr2 hown3 hmt3 hT3 hpo hbn
  go_frame
  go_wp2_with fail
  refine HPO.out.mono ?_
  rintro e w4 ⟨⟨v4, rfl⟩, d', hQ4, hp4, hH4, hT4⟩
  have HR4 := Lib.hid (HR3.out.turned hT4 (by intro hm; rcases List.mem_cons.1 hm with e | e; omega; exact HBN.out e))
  have HT4 := Lib.hid (show Turned (b :: bq :: blkOf a) w w4 from ⟨hT4.os.trans HT3.out.os, hT4.tape.trans HT3.out.tape, hT4.output.trans HT3.out.output, Nat.le_trans HT3.out.size hT4.size, fun i hi hn => (hT4.block i (Nat.lt_of_lt_of_le hi HT3.out.size) (fun hm => hn (List.mem_cons_of_mem _ hm))).trans (HT3.out.block i hi (by simp at hn; simp [hn.1]))⟩)
  have HQ4 := Lib.hid hQ4; have HP4 := Lib.hid hp4; have HH4 := Lib.hid hH4
  clear hQ4 hp4 hH4 hT4
  go_wp2_with fail
  go_end0
  exact ⟨rfl, HR4.out, d', HQ4.out, HP4.out, HH4.out, HT4.out⟩

theorem top_of {d L : List Rw} (hp : d.Perm (L.filter (fun x => !x.fixed))) (hH : Hp ltR (fn d) d.length) (h0 : 0 < d.length) : fn d 0 ∈ L ∧ (fn d 0).fixed = false ∧ ∀ y ∈ L, y.fixed = false → ¬ older y (fn d 0) := by
  have e0 := fn_get (d := d) h0
  have hm := hp.mem_iff.1 (List.getElem_mem h0)
  rw [← e0] at hm
  obtain ⟨h1, h2⟩ := List.mem_filter.1 hm
  refine ⟨h1, by simpa using h2, fun y hy hf => ?_⟩
  have hyd := hp.mem_iff.2 (List.mem_filter.2 ⟨hy, by simp [hf]⟩)
  obtain ⟨i, hi, rfl⟩ := List.getElem_of_mem hyd
  have hl := hH.least ordR i hi
  rw [fn_get hi] at hl
  exact of_decide_eq_false hl

set_option maxRecDepth 100000 in
set_option maxHeartbeats 1000000 in
theorem oldest_impl {w : World} {b nn : Nat} {L : List Rw} (h : RM w b nn L) (hN : L.length ≤ 1000) :
    Calls Try.prog 43 #[.map (some b)] w fun e w' =>
      (e = .returned (.bool false) ∧ L.filter (fun x => !x.fixed) = [] ∧ RM w' b nn L ∧ Turned [b] w w') ∨
      ∃ x, e = .returned (.bool true) ∧ x ∈ L ∧ x.fixed = false ∧ (∀ y ∈ L, y.fixed = false → ¬ older y x) ∧ RM w' b nn (L.filter (fun r => !hit x.vid x.mac r)) ∧ Turned [b] w w' := by
  have hby := byAge_impl h hN
  have HBY := Lib.hid hby; have HRM := Lib.hid h; have HLT := Lib.hid h.lt
  clear hby h
  go_enter Try.func43, Try.ntmps43
  go_wp2_with fail
  refine HBY.out.mono ?_
  rintro e w1 ⟨bq, a, d, rfl, hbq, hQ, hp, hH, hB⟩
  obtain ⟨cap, hK, hO⟩ := id hQ
  have c0 := hK.cell 0
  simp at c0
  have hle := len_q a d.length cap
  have HLE := Lib.hid hle; have HQ := Lib.hid hQ; have HP := Lib.hid hp; have HH := Lib.hid hH; have HB := Lib.hid hB; have HBQ := Lib.hid hbq
  clear hle hQ hp hH hB hbq hK hO
  by_cases h0 : d.length = 0
  · have h0' : ((d.length : Int) == 0) = true := by simp [h0]
    have HE := Lib.hid (show L.filter (fun x => !x.fixed) = [] from by
      have e := HP.out.length_eq
      exact List.eq_nil_of_length_eq_zero (by omega))
    clear h0
    go_wp2_with fail
    refine (HLE.out _).mono ?_
    rintro e w2 ⟨rfl, rfl⟩
    go_wp2_with fail
    go_ret
    exact .inl ⟨rfl, HE.out, HRM.out.after HB.out, Turned.of_below HB.out⟩
  · obtain ⟨k, hk⟩ : ∃ k, d.length = k + 1 := ⟨d.length - 1, by omega⟩
    have h0' : ((d.length : Int) == 0) = false := by rw [beq_eq_false_iff_ne]; omega
    have h0'' : ¬ ((d.length : Int) = 0) := by omega
    have hdl : d.length ≤ 1000 := by
      have e := HP.out.length_eq
      have := List.length_filter_le (fun x => !x.fixed) L
      omega
    have HTOP := Lib.hid (top_of HP.out HH.out (by omega))
    have hfr := front_impl (HRM.out.after HB.out) HLT.out HBQ.out HQ.out k hk (by omega) (by have e := HH.out; rwa [hk] at e) (HRM.out.2.2 _ HTOP.out.1)
    have HFR := Lib.hid hfr; have HBL := Lib.hid HQ.out.base_le
    clear hfr hk hdl h0
    go_wp2_with fail
    refine (HLE.out _).mono ?_
    rintro e w2 ⟨rfl, rfl⟩
    go_wp2_with fail
    refine HFR.out.mono ?_
    rintro e w3 ⟨rfl, hR3, d', hQ3, hp3, hH3, hT3⟩
    have HR3 := Lib.hid hR3
    have HT3 := Lib.hid ((Turned.of_below (B := [b]) HB.out).trans_new hT3 (fun c hc => by
      rcases List.mem_cons.1 hc with e | hc
      · exact .inl (by simp [e])
      · rcases List.mem_cons.1 hc with e | hc
        · exact .inr (by have := HBQ.out; omega)
        · exact .inr (HBL.out c hc).1))
    clear hR3 hQ3 hp3 hH3 hT3
    go_wp2_with fail
    go_ret
    exact .inr ⟨fn d 0, rfl, HTOP.out.1, HTOP.out.2.1, HTOP.out.2.2, HR3.out, HT3.out⟩

theorem tail_perm {d M : List Rw} (hM : Rows M) (hp : d.Perm (M.filter (fun x => !x.fixed))) (h0 : 0 < d.length) : d.tail.Perm ((M.filter (fun r => !hit (fn d 0).vid (fn d 0).mac r)).filter (fun x => !x.fixed)) := by
  have hn : d.Nodup := hp.symm.nodup (hM.nodup.filter _)
  rw [fn_get h0]
  have hR : Rows (M.filter (fun x => !x.fixed)) := hM.filter _
  obtain ⟨x, t, rfl⟩ : ∃ x t, d = x :: t := by cases d with | nil => simp at h0 | cons x t => exact ⟨x, t, rfl⟩
  simp only [List.getElem_cons_zero, List.tail_cons]
  obtain ⟨n1, n2⟩ := List.nodup_cons.1 hn
  refine (List.perm_ext_iff_of_nodup n2 ((hM.nodup.filter _).filter _)).2 (fun y => ?_)
  rw [List.mem_filter, List.mem_filter]
  have hx := List.mem_filter.1 (hp.mem_iff.1 (List.mem_cons_self))
  constructor
  · intro hy
    have hy2 := List.mem_filter.1 (hp.mem_iff.1 (List.mem_cons_of_mem x hy))
    refine ⟨⟨hy2.1, ?_⟩, hy2.2⟩
    unfold hit
    rw [Bool.not_eq_true', decide_eq_false_iff_not]
    intro e
    have := hM.one hy2.1 hx.1 e
    subst this
    exact n1 hy
  · rintro ⟨⟨h1, h2⟩, h3⟩
    have := hp.mem_iff.2 (List.mem_filter.2 ⟨h1, h3⟩)
    rcases List.mem_cons.1 this with e | e
    · subst e
      unfold hit at h2
      simp at h2
    · exact e

def lenAt (w : World) (bq : Nat) : Nat := match w.cell? ⟨bq, 0, none⟩ with | some (.slice _ n _) => n | _ => 0
theorem QAt.lenAt {w : World} {bq base : Nat} {a : Option Addr} {d : List Rw} (h : QAt w bq base a d) : lenAt w bq = d.length := by
  obtain ⟨cap, hK, _⟩ := h
  have := hK.cell 0
  simp at this
  unfold Go.Proofs.Ytleebmbnjdoinaa.lenAt
  rw [this]

theorem kept_perm {L M d : List Rw} {t : Int} (hL : Rows L) (hM : Rows M) (h1 : ∀ x ∈ M, x ∈ L) (h2 : ∀ x ∈ L, x ∉ M → x.fixed = false ∧ x.at_ < t) (hp : d.Perm (M.filter (fun x => !x.fixed))) (hH : Hp ltR (fn d) d.length) (he : d.length = 0 ∨ ¬ ((fn d 0).at_ < t)) :
    M.Perm (L.filter (fun r => r.fixed || !decide (r.at_ < t))) := by
  refine (List.perm_ext_iff_of_nodup hM.nodup (hL.nodup.filter _)).2 (fun x => ?_)
  rw [List.mem_filter]
  constructor
  · intro hx
    refine ⟨h1 x hx, ?_⟩
    cases hf : x.fixed
    · have hxd := hp.mem_iff.2 (List.mem_filter.2 ⟨hx, by simp [hf]⟩)
      have h0 : 0 < d.length := List.length_pos_of_mem hxd
      rcases he with he | he
      · omega
      · have := (top_of hp hH h0).2.2 x hx hf
        have hna : ¬ (x.at_ < t) := fun hlt => this (.inl (by omega))
        simp [hna]
    · rfl
  · rintro ⟨hx, hk⟩
    by_cases hm : x ∈ M
    · exact hm
    · obtain ⟨k1, k2⟩ := h2 x hx hm
      rw [k1] at hk
      simp at hk
      omega

theorem fieldAt3 (x0 x1 x2 x3 x4 : Value) (w : World) : (Instr.field 34 (.agg #[x0, x1, x2, x3, x4]) 3).run Try.prog w = .ok x3 w := by kernel_rfl

set_option maxRecDepth 100000 in
set_option maxHeartbeats 1000000 in
theorem before_impl {w : World} {b nn : Nat} {L : List Rw} (h : RM w b nn L) (hN : L.length ≤ 1000) (t : Int) :
    Calls Try.prog 53 #[.map (some b), .int .i64 t] w fun e w' => e = .returned (.tuple #[]) ∧ RM w' b nn (L.filter (fun r => r.fixed || !decide (r.at_ < t))) ∧ Turned [b] w w' := by
  have hby := byAge_impl h hN
  have hfl := fieldAt3
  have HBY := Lib.hid hby; have HRM := Lib.hid h; have HLT := Lib.hid h.lt
  clear hby h
  go_enter Try.func53, Try.ntmps53
  go_wp2_with fail
  refine HBY.out.mono ?_
  rintro e w1 ⟨bq, a, d, rfl, hbq, hQ, hp, hH, hB⟩
  have HQ := Lib.hid hQ; have HP := Lib.hid hp; have HH := Lib.hid hH; have HB := Lib.hid hB; have HBQ := Lib.hid hbq
  clear hQ hp hH hB hbq
  go_wp2_with fail
  go_loopw [7] (fun _ wr => ∃ (M : List Rw) (a : Option Addr) (d : List Rw), Hid (RM wr b nn M) ∧ Hid (∀ x ∈ M, x ∈ L) ∧ Hid (∀ x ∈ L, x ∉ M → x.fixed = false ∧ x.at_ < t) ∧ Hid (QAt wr bq w.heap.size a d) ∧ Hid (d.Perm (M.filter (fun x => !x.fixed))) ∧ Hid (Hp ltR (fn d) d.length) ∧ Hid (Turned [b] w wr) ∧ M.length ≤ 1000) (fun _ wr => lenAt wr bq)
  case atStart => exact ⟨L, a, d, Lib.hid (HRM.out.after HB.out), Lib.hid (fun _ h => h), Lib.hid (fun x hx hn => absurd hx hn), HQ, HP, HH, Lib.hid (Turned.of_below HB.out), hN⟩
  case round =>
    clear HQ HP HH
    have HRML := Lib.hid HRM.out.2
    clear HRM
    obtain ⟨M, a, d, HRM, HS, HR, HQ, HP, HH, HT, hM⟩ := hrel
    obtain ⟨cap, hK, hO⟩ := id HQ.out
    have c0 := hK.cell 0
    simp at c0
    have hle := len_q a d.length cap
    have HLE := Lib.hid hle
    have hdl : d.length ≤ 1000 := by
      have e := HP.out.length_eq
      have := List.length_filter_le (fun x => !x.fixed) M
      omega
    have HLEN := Lib.hid HQ.out.lenAt
    clear hle
    by_cases h0 : d.length = 0
    · have h0' : ¬ (0 < (d.length : Int)) := by omega
      have HF := Lib.hid (HRM.out.perm (kept_perm HRML.out HRM.out.2 HS.out HR.out HP.out HH.out (.inl h0)))
      clear hK hO h0 hdl
      go_wp2_with fail
      refine (HLE.out _).mono ?_
      rintro e w2 ⟨rfl, rfl⟩
      go_wp2_with fail
      go_end0
      exact ⟨rfl, HF.out, HT.out⟩
    · have h0' : 0 < (d.length : Int) := by omega
      obtain ⟨k, hk⟩ : ∃ k, d.length = k + 1 := ⟨d.length - 1, by omega⟩
      have hfr := front_q (own_sl hO rfl) rfl (cap := cap) (by omega)
      have e0 : d[0]'(by omega) = fn d 0 := (fn_get (by omega)).symm
      rw [e0] at hfr
      have HFR := Lib.hid hfr; have HKK := Lib.hid hk; have HK := Lib.hid hK
      clear hfr hK hO h0 e0
      by_cases ht : (fn d 0).at_ < t
      · have HTOP := Lib.hid (top_of HP.out HH.out (by omega))
        have HTL := Lib.hid (tail_perm HRM.out.2 HP.out (by omega))
        have HAT := Lib.hid ht
        have hff := fun (w2 : World) (hb : Below wr.heap.size wr w2) => front_impl (HRM.out.after hb) HLT.out HBQ.out (HQ.out.after hb) k HKK.out (by omega) (by have e := HH.out; rwa [HKK.out] at e) (HRM.out.2.2 _ HTOP.out.1)
        have HFF := Lib.hid hff; have HBL := Lib.hid HQ.out.base_le
        have hdec : decide ((fn d 0).at_ < t) = true := decide_eq_true ht
        clear hff hdl hk
        go_wp2_with fail
        refine (HLE.out _).mono ?_
        rintro e w2 ⟨rfl, rfl⟩
        go_wp2_with fail
        refine HFR.out.mono ?_
        rintro e w3 ⟨rfl, hb3⟩
        have hff3 := HFF.out w3 hb3
        have HFF3 := Lib.hid hff3; have HB3 := Lib.hid hb3
        clear hff3 hb3 c0
        go_wp2_with fail
        refine HFF3.out.mono ?_
        rintro e w4 ⟨rfl, hR4, d', hQ4, hp4, hH4, hT4⟩
        have HR4 := Lib.hid hR4; have HQ4 := Lib.hid hQ4; have HH4 := Lib.hid hH4
        have HP4 := Lib.hid (hp4.trans HTL.out)
        have HT4 := Lib.hid (((HT.out.trans1 (Turned.of_below HB3.out))).trans_new hT4 (fun c hc => by
          rcases List.mem_cons.1 hc with e | hc
          · exact .inl (by simp [e])
          · rcases List.mem_cons.1 hc with e | hc
            · exact .inr (by have := HBQ.out; omega)
            · exact .inr (HBL.out c hc).1))
        have HL4 := Lib.hid (show d'.length = k by rw [hp4.length_eq, List.length_tail, HKK.out]; rfl)
        have HS4 := Lib.hid (show ∀ x ∈ M.filter (fun r => !hit (fn d 0).vid (fn d 0).mac r), x ∈ L from fun x hx => HS.out x (List.mem_filter.1 hx).1)
        have HR5 := Lib.hid (show ∀ x ∈ L, x ∉ M.filter (fun r => !hit (fn d 0).vid (fn d 0).mac r) → x.fixed = false ∧ x.at_ < t from fun x hx hn => by
          by_cases hm : x ∈ M
          · have hh : hit (fn d 0).vid (fn d 0).mac x = true := by
              cases hq : hit (fn d 0).vid (fn d 0).mac x
              · exact absurd (List.mem_filter.2 ⟨hm, by rw [hq]; rfl⟩) hn
              · rfl
            unfold hit at hh
            obtain rfl := HRM.out.2.one hm HTOP.out.1 (of_decide_eq_true hh)
            exact ⟨HTOP.out.2.1, HAT.out⟩
          · exact HR.out x hx hm)
        have HM4 := Lib.hid (Nat.le_trans (List.length_filter_le (fun r => !hit (fn d 0).vid (fn d 0).mac r) M) hM)
        clear hR4 hQ4 hp4 hH4 hT4
        go_wp2_with fail
        go_roundw
        case rel => exact ⟨_, a, d', HR4, HS4, HR5, HQ4, HP4, HH4, HT4, HM4.out⟩
        case measure => rw [HQ4.out.lenAt, HLEN.out, HL4.out, HKK.out]; omega
      · have HF := Lib.hid (HRM.out.perm (kept_perm HRML.out HRM.out.2 HS.out HR.out HP.out HH.out (.inr ht)))
        have hdec : decide ((fn d 0).at_ < t) = false := decide_eq_false ht
        clear hdl hk
        go_wp2_with fail
        refine (HLE.out _).mono ?_
        rintro e w2 ⟨rfl, rfl⟩
        go_wp2_with fail
        refine HFR.out.mono ?_
        rintro e w3 ⟨rfl, hb3⟩
        have HR3 := Lib.hid (HF.out.after hb3)
        have HT3 := Lib.hid (HT.out.trans1 (Turned.of_below hb3))
        clear hb3
        go_wp2_with fail
        go_end0
        exact ⟨rfl, HR3.out, HT3.out⟩
end Go.Proofs.Ytleebmbnjdoinaa
