/- The walk of the exact law of Egress. -/
import Derived.Test.YtfkpecildcejkaaPa
import Derived.Test.YtfkpecildcejkaaEgS
import Derived.Test.YtfkpecildcejkaaEgI
import Derived.Test.YtfkpecildcejkaaFrL
import Derived.Deep.RegionHeld3
import Derived.Deep.RegionWith
import Derived.Deep.DeepCutAuto
namespace Go.Proofs.Ytfkpecildcejkaa
open Go.RowKit

set_option linter.unusedVariables false in
set_option linter.unusedSimpArgs false in
set_option maxRecDepth 20000 in
set_option maxHeartbeats 2000000 in
theorem walk_FnExactEgress (x : PtA) (vid : Int) (hvid : (Lit.int .i64 vid).wf = true) (f : Fr) (hf : f.fits) (pri : Int) (hpri : (Lit.int .i64 pri).wf = true) (w : World) (hA : x.ok w) :
    Calls Try.prog 9 #[x.val, .int .i64 vid, f.val, .int .i64 pri] w fun e w' => e = .returned (.bool true) ∧ Below w.heap.size w w' := by
  obtain ⟨hA, hlen⟩ := hA
  have hfm := hf.2.2.2.2.2
  have hbr : ∀ (l : Int), 0 ≤ l → l ≤ 1048576 → ∀ w, Calls Try.prog 31 #[f.val, .int .i64 l] w _ := fun l h0 h1 w => szFrame_left f l w hfm h0 h1
  have hto := fun w => toFrame_any f w
  obtain ⟨p, hp⟩ : ∃ p, x.p = p := ⟨_, rfl⟩
  have hw := fun (w : World) (D : List Nat) (v : Value) (h : PIn w D v p) (hs : f.body.size ≤ 1048576) => show Calls Try.prog 15 #[v, .int .i64 vid, f.val, .int .i64 pri] w _ from by obtain ⟨_, _, hq⟩ := h.port; exact egress_spec hq vid f pri hs
  have hi := fun (w : World) (D : List Nat) (v : Value) (h : PIn w D v p) (hs : f.body.size ≤ 1048576) => show Calls Try.prog 14 #[v, .int .i64 vid, f.val, .int .i64 pri] w _ from by obtain ⟨_, _, hq⟩ := h.port; exact egress_impl hq vid f pri hs
  obtain ⟨r, hr⟩ : ∃ r, decide (mayOut p vid f pri) = r := ⟨_, rfl⟩
  obtain ⟨z, hz⟩ : ∃ z, (if mayOut p vid f pri then outFr p vid f pri else Fr.zero) = z := ⟨_, rfl⟩
  simp only [hp, hr, hz] at hw hi
  clear hr hz
  have heq := fun w => eqFrame_same z w
  obtain ⟨zdst, zsrc, ztg, zfv, zfp, zty, zbody⟩ := z
  rw [hp] at hA hlen
  obtain ⟨ua, uca, ub, ucb, up⟩ := x
  simp only at hp
  subst hp
  have hv : (⟨ua, uca, ub, ucb, up⟩ : PtA).val = ptVal up.pvid ua up.ins.length uca ub up.plain.length ucb up.acc := rfl
  rw [hv] at hA ⊢
  obtain ⟨sq, hsq⟩ : ∃ s, up.ins.length + up.plain.length = s := ⟨_, rfl⟩
  have hz := fun w (h : PortArg w (ptVal up.pvid ua up.ins.length uca ub up.plain.length ucb up.acc) up) => szPort_in h hlen 1048576 (by decide) (by decide)
  simp only [hsq] at hz
  have ht := fun w (h : PortArg w (ptVal up.pvid ua up.ins.length uca ub up.plain.length ucb up.acc) up) (hs : sq ≤ 1048576) => toPort_in h (by rw [hsq]; exact hs)
  clear hsq
  obtain ⟨sb, hsb⟩ : ∃ s, f.body.size = s := ⟨_, rfl⟩
  simp only [hsb] at hbr hw hi
  clear hsb hf hfm hlen hv
  obtain ⟨udst, usrc, utg, ufv, ufp, uty, ubody⟩ := f
  generalize up = p at *
  have hpin : ∀ w D v, PIn w D v p → PIn w D v p := fun _ _ _ h => h
  obtain ⟨upv, uins, uplain, uac⟩ := p
  unfold ptVal Fr.val at *
  have hA0 := hA
  have hb : Below w.heap.size w ((w.alloc (.cells #[.int .i64 upv, .slice ua uins.length uca, .slice ub uplain.length ucb, .int .i64 uac] 44)).alloc (.cells #[.int .i64 udst, .int .i64 usrc, .bool utg, .int .i64 ufv, .int .i64 ufp, .int .i64 uty, .string ubody] 50)) := ((Below.refl _ _).alloc (Nat.le_refl _) _).alloc (by simp) _
  have gA : Blk ((w.alloc (.cells #[.int .i64 upv, .slice ua uins.length uca, .slice ub uplain.length ucb, .int .i64 uac] 44)).alloc (.cells #[.int .i64 udst, .int .i64 usrc, .bool utg, .int .i64 ufv, .int .i64 ufp, .int .i64 uty, .string ubody] 50)) w.heap.size #[.int .i64 upv, .slice ua uins.length uca, .slice ub uplain.length ucb, .int .i64 uac] 44 := (blk_new _ _ rfl).alloc _
  have gF : Blk ((w.alloc (.cells #[.int .i64 upv, .slice ua uins.length uca, .slice ub uplain.length ucb, .int .i64 uac] 44)).alloc (.cells #[.int .i64 udst, .int .i64 usrc, .bool utg, .int .i64 ufv, .int .i64 ufp, .int .i64 uty, .string ubody] 50)) (w.heap.size + 1) #[.int .i64 udst, .int .i64 usrc, .bool utg, .int .i64 ufv, .int .i64 ufp, .int .i64 uty, .string ubody] 50 := blk_new _ _ (by simp)
  have HA := Lib.hid hA; have HB := Lib.hid hb; have KA := Lib.hid gA; have KF := Lib.hid gF; have HZ := Lib.hid hz; have HT := Lib.hid ht; have HBR := Lib.hid hbr; have HTO := Lib.hid hto; have HW := Lib.hid hw; have HI := Lib.hid hi; have HEQ := Lib.hid heq
  clear heq hA hA0 hb gA gF hz ht hbr hto hw hi hpin
  go_enter Try.func9, Try.ntmps9
  go_wp2_with fail
  generalize ((w.alloc (.cells #[.int .i64 upv, .slice ua uins.length uca, .slice ub uplain.length ucb, .int .i64 uac] 44)).alloc (.cells #[.int .i64 udst, .int .i64 usrc, .bool utg, .int .i64 ufv, .int .i64 ufp, .int .i64 uty, .string ubody] 50)) = x0 at HB KA KF ⊢
  refine (HZ.out _ (HA.out.after HB.out)).mono ?_
  rintro e x1 ⟨rfl, hbq⟩
  have KA := Lib.hid (KA.out.after hbq)
  have KF := Lib.hid (KF.out.after hbq)
  have HB := Lib.hid (HB.out.trans (hbq.mono HB.out.size))
  clear hbq
  by_cases hsz : (sq : Int) ≤ 1048576
  case neg =>
    rw [if_neg hsz]
    have ka0 : x1.cell? ⟨w.heap.size, 0, none⟩ = some (.int .i64 upv) := KA.out.cell 0
    have ka1 : x1.cell? ⟨w.heap.size, 1, none⟩ = some (.slice ua uins.length uca) := KA.out.cell 1
    have ka2 : x1.cell? ⟨w.heap.size, 2, none⟩ = some (.slice ub uplain.length ucb) := KA.out.cell 2
    have ka3 : x1.cell? ⟨w.heap.size, 3, none⟩ = some (.int .i64 uac) := KA.out.cell 3
    have kal : w.heap.size < x1.heap.size := KA.out.lt
    have kf0 : x1.cell? ⟨w.heap.size + 1, 0, none⟩ = some (.int .i64 udst) := KF.out.cell 0
    have kf1 : x1.cell? ⟨w.heap.size + 1, 1, none⟩ = some (.int .i64 usrc) := KF.out.cell 1
    have kf2 : x1.cell? ⟨w.heap.size + 1, 2, none⟩ = some (.bool utg) := KF.out.cell 2
    have kf3 : x1.cell? ⟨w.heap.size + 1, 3, none⟩ = some (.int .i64 ufv) := KF.out.cell 3
    have kf4 : x1.cell? ⟨w.heap.size + 1, 4, none⟩ = some (.int .i64 ufp) := KF.out.cell 4
    have kf5 : x1.cell? ⟨w.heap.size + 1, 5, none⟩ = some (.int .i64 uty) := KF.out.cell 5
    have kf6 : x1.cell? ⟨w.heap.size + 1, 6, none⟩ = some (.string ubody) := KF.out.cell 6
    have kfl : w.heap.size + 1 < x1.heap.size := KF.out.lt
    go_wp2_with fail
    go_ret
    exact ⟨rfl, HB.out⟩
  rw [if_pos hsz]
  have hq : ¬ (1048576 - (sq : Int) < 0) := by omega
  have ka0 : x1.cell? ⟨w.heap.size, 0, none⟩ = some (.int .i64 upv) := KA.out.cell 0
  have ka1 : x1.cell? ⟨w.heap.size, 1, none⟩ = some (.slice ua uins.length uca) := KA.out.cell 1
  have ka2 : x1.cell? ⟨w.heap.size, 2, none⟩ = some (.slice ub uplain.length ucb) := KA.out.cell 2
  have ka3 : x1.cell? ⟨w.heap.size, 3, none⟩ = some (.int .i64 uac) := KA.out.cell 3
  have kal : w.heap.size < x1.heap.size := KA.out.lt
  have kf0 : x1.cell? ⟨w.heap.size + 1, 0, none⟩ = some (.int .i64 udst) := KF.out.cell 0
  have kf1 : x1.cell? ⟨w.heap.size + 1, 1, none⟩ = some (.int .i64 usrc) := KF.out.cell 1
  have kf2 : x1.cell? ⟨w.heap.size + 1, 2, none⟩ = some (.bool utg) := KF.out.cell 2
  have kf3 : x1.cell? ⟨w.heap.size + 1, 3, none⟩ = some (.int .i64 ufv) := KF.out.cell 3
  have kf4 : x1.cell? ⟨w.heap.size + 1, 4, none⟩ = some (.int .i64 ufp) := KF.out.cell 4
  have kf5 : x1.cell? ⟨w.heap.size + 1, 5, none⟩ = some (.int .i64 uty) := KF.out.cell 5
  have kf6 : x1.cell? ⟨w.heap.size + 1, 6, none⟩ = some (.string ubody) := KF.out.cell 6
  have kfl : w.heap.size + 1 < x1.heap.size := KF.out.lt
  go_wp2_with fail
  clear hq
  refine (HBR.out (1048576 - (sq : Int)) (by omega) (by omega) _).mono ?_
  rintro e x2 ⟨rfl, hbq⟩
  clear ka0 ka1 ka2 ka3 kal kf0 kf1 kf2 kf3 kf4 kf5 kf6 kfl
  have KA := Lib.hid (KA.out.after hbq)
  have KF := Lib.hid (KF.out.after hbq)
  have HB := Lib.hid (HB.out.trans (hbq.mono HB.out.size))
  clear hbq
  by_cases hsz2 : (sb : Int) ≤ 1048576 - (sq : Int)
  case neg =>
    rw [if_neg hsz2]
    have ka0 : x2.cell? ⟨w.heap.size, 0, none⟩ = some (.int .i64 upv) := KA.out.cell 0
    have ka1 : x2.cell? ⟨w.heap.size, 1, none⟩ = some (.slice ua uins.length uca) := KA.out.cell 1
    have ka2 : x2.cell? ⟨w.heap.size, 2, none⟩ = some (.slice ub uplain.length ucb) := KA.out.cell 2
    have ka3 : x2.cell? ⟨w.heap.size, 3, none⟩ = some (.int .i64 uac) := KA.out.cell 3
    have kal : w.heap.size < x2.heap.size := KA.out.lt
    have kf0 : x2.cell? ⟨w.heap.size + 1, 0, none⟩ = some (.int .i64 udst) := KF.out.cell 0
    have kf1 : x2.cell? ⟨w.heap.size + 1, 1, none⟩ = some (.int .i64 usrc) := KF.out.cell 1
    have kf2 : x2.cell? ⟨w.heap.size + 1, 2, none⟩ = some (.bool utg) := KF.out.cell 2
    have kf3 : x2.cell? ⟨w.heap.size + 1, 3, none⟩ = some (.int .i64 ufv) := KF.out.cell 3
    have kf4 : x2.cell? ⟨w.heap.size + 1, 4, none⟩ = some (.int .i64 ufp) := KF.out.cell 4
    have kf5 : x2.cell? ⟨w.heap.size + 1, 5, none⟩ = some (.int .i64 uty) := KF.out.cell 5
    have kf6 : x2.cell? ⟨w.heap.size + 1, 6, none⟩ = some (.string ubody) := KF.out.cell 6
    have kfl : w.heap.size + 1 < x2.heap.size := KF.out.lt
    go_wp2_with fail
    go_ret
    exact ⟨rfl, HB.out⟩
  rw [if_pos hsz2]
  have hq : ¬ (1048576 - (sq : Int) - (sb : Int) < 0) := by omega
  have ka0 : x2.cell? ⟨w.heap.size, 0, none⟩ = some (.int .i64 upv) := KA.out.cell 0
  have ka1 : x2.cell? ⟨w.heap.size, 1, none⟩ = some (.slice ua uins.length uca) := KA.out.cell 1
  have ka2 : x2.cell? ⟨w.heap.size, 2, none⟩ = some (.slice ub uplain.length ucb) := KA.out.cell 2
  have ka3 : x2.cell? ⟨w.heap.size, 3, none⟩ = some (.int .i64 uac) := KA.out.cell 3
  have kal : w.heap.size < x2.heap.size := KA.out.lt
  have kf0 : x2.cell? ⟨w.heap.size + 1, 0, none⟩ = some (.int .i64 udst) := KF.out.cell 0
  have kf1 : x2.cell? ⟨w.heap.size + 1, 1, none⟩ = some (.int .i64 usrc) := KF.out.cell 1
  have kf2 : x2.cell? ⟨w.heap.size + 1, 2, none⟩ = some (.bool utg) := KF.out.cell 2
  have kf3 : x2.cell? ⟨w.heap.size + 1, 3, none⟩ = some (.int .i64 ufv) := KF.out.cell 3
  have kf4 : x2.cell? ⟨w.heap.size + 1, 4, none⟩ = some (.int .i64 ufp) := KF.out.cell 4
  have kf5 : x2.cell? ⟨w.heap.size + 1, 5, none⟩ = some (.int .i64 uty) := KF.out.cell 5
  have kf6 : x2.cell? ⟨w.heap.size + 1, 6, none⟩ = some (.string ubody) := KF.out.cell 6
  have kfl : w.heap.size + 1 < x2.heap.size := KF.out.lt
  go_wp2_with fail
  clear hq
  have hs1 : sq ≤ 1048576 := by omega
  have hs2 : sb ≤ 1048576 := by omega
  have HS1 := Lib.hid hs1; have HS2 := Lib.hid hs2
  clear hs1 hs2 hsz hsz2
  clear ka0 ka1 ka2 ka3 kal kf0 kf1 kf2 kf3 kf4 kf5 kf6 kfl
  go_upto_region 8 with fail
  go_cut [10, 11] (fun sp sb wx => ∃ e, sp = .pointer (some ⟨e, 0, none⟩) ∧ sb = .bool r ∧ Hid (Blk wx e #[.int .i64 zdst, .int .i64 zsrc, .bool ztg, .int .i64 zfv, .int .i64 zfp, .int .i64 zty, .string zbody] 28) ∧ Hid (Below x2.heap.size x2 wx) ∧ x2.heap.size ≤ e)
  case first =>
    refine wp_region_held_drew (S := fun w' => Below x2.heap.size x2 w') (by kernel_rfl) (Below.drew (Below.refl _ _)) (fun hHeld => ?_)
    refine wpAnyH_take (i := 0) (v := ?v18) rfl (by kernel_rfl) (by kernel_rfl) (by kernel_rfl) (fun _ _ _ h => h) (Or.inl ⟨by rfl, ?h18⟩) hHeld ?r18
    case h18 => intro wq hS; have c0 : wq.cell? ⟨w.heap.size, 0, none⟩ = some (.int .i64 upv) := (KA.out.after hS).cell 0; have c1 : wq.cell? ⟨w.heap.size, 1, none⟩ = some (.slice ua uins.length uca) := (KA.out.after hS).cell 1; have c2 : wq.cell? ⟨w.heap.size, 2, none⟩ = some (.slice ub uplain.length ucb) := (KA.out.after hS).cell 2; have c3 : wq.cell? ⟨w.heap.size, 3, none⟩ = some (.int .i64 uac) := (KA.out.after hS).cell 3; go_simp; with_reducible rfl
    try simp only [Act.put, List.getElem_toArray, List.getElem_cons_zero, List.getElem_cons_succ, List.setIfInBounds_toArray, List.set_cons_zero, List.set_cons_succ]
    refine wpAnyH_take (i := 2) (v := ?v19) rfl (by kernel_rfl) (by kernel_rfl) (by kernel_rfl) (fun _ _ _ h => h) (Or.inl ⟨by rfl, ?h19⟩) hHeld ?r19
    case h19 => intro wq hS; go_simp; with_reducible rfl
    try simp only [Act.put, List.getElem_toArray, List.getElem_cons_zero, List.getElem_cons_succ, List.setIfInBounds_toArray, List.set_cons_zero, List.set_cons_succ]
    refine wpAnyH_take (i := 3) (v := ?v20) rfl (by kernel_rfl) (by kernel_rfl) (by kernel_rfl) (fun _ _ _ h => h) (Or.inl ⟨by rfl, ?h20⟩) hHeld ?r20
    case h20 => intro wq hS; have c0 : wq.cell? ⟨w.heap.size + 1, 0, none⟩ = some (.int .i64 udst) := (KF.out.after hS).cell 0; have c1 : wq.cell? ⟨w.heap.size + 1, 1, none⟩ = some (.int .i64 usrc) := (KF.out.after hS).cell 1; have c2 : wq.cell? ⟨w.heap.size + 1, 2, none⟩ = some (.bool utg) := (KF.out.after hS).cell 2; have c3 : wq.cell? ⟨w.heap.size + 1, 3, none⟩ = some (.int .i64 ufv) := (KF.out.after hS).cell 3; have c4 : wq.cell? ⟨w.heap.size + 1, 4, none⟩ = some (.int .i64 ufp) := (KF.out.after hS).cell 4; have c5 : wq.cell? ⟨w.heap.size + 1, 5, none⟩ = some (.int .i64 uty) := (KF.out.after hS).cell 5; have c6 : wq.cell? ⟨w.heap.size + 1, 6, none⟩ = some (.string ubody) := (KF.out.after hS).cell 6; go_simp; with_reducible rfl
    try simp only [Act.put, List.getElem_toArray, List.getElem_cons_zero, List.getElem_cons_succ, List.setIfInBounds_toArray, List.set_cons_zero, List.set_cons_succ]
    refine wpAnyH_take (i := 5) (v := ?v21) rfl (by kernel_rfl) (by kernel_rfl) (by kernel_rfl) (fun _ _ _ h => h) (Or.inl ⟨by rfl, ?h21⟩) hHeld ?r21
    case h21 => intro wq hS; go_simp; with_reducible rfl
    try simp only [Act.put, List.getElem_toArray, List.getElem_cons_zero, List.getElem_cons_succ, List.setIfInBounds_toArray, List.set_cons_zero, List.set_cons_succ]
    refine wpAnyH_ready (rs := [1, 10]) (by kernel_rfl) (by simp) ?_
    refine AllReadyH.cons rfl (fun K hK => ?_) ?_
    · go_simp
      refine (HT.out _ (HA.out.after (HB.out.trans (hHeld.mono HB.out.size))) HS1.out).mono ?_
      rintro e wt ⟨Dt, tv, ta, tn, tc, tb, tm, td, tk, rfl, hTp, _, hbt⟩
      refine hK.out _ _ (hHeld.trans (hbt.mono hHeld.size)) (fun hHeld => ?_)
      clear hK K
      try simp only [Act.put, List.getElem_toArray, List.getElem_cons_zero, List.getElem_cons_succ, List.setIfInBounds_toArray, List.set_cons_zero, List.set_cons_succ]
      refine wpAnyH_ready (rs := [4, 10]) (by kernel_rfl) (by simp) ?_
      refine AllReadyH.cons rfl (fun K hK => ?_) ?_
      · go_simp
        refine (HTO.out _).mono ?_
        rintro e wf ⟨rfl, hbf⟩
        replace hTp := hTp.after hbf
        refine hK.out _ _ (hHeld.trans (hbf.mono hHeld.size)) (fun hHeld => ?_)
        clear hK K
        try simp only [Act.put, List.getElem_toArray, List.getElem_cons_zero, List.getElem_cons_succ, List.setIfInBounds_toArray, List.set_cons_zero, List.set_cons_succ]
        refine wpAnyH_ready (rs := [6, 10]) (by kernel_rfl) (by simp) ?_
        refine AllReadyH.cons rfl (fun K hK => ?_) ?_
        · go_simp
          refine (HW.out _ _ _ hTp HS2.out).mono ?_
          rintro e ws ⟨rfl, hbs⟩
          replace hTp := hTp.after hbs
          refine hK.out _ _ (hHeld.trans (hbs.mono hHeld.size)) (fun hHeld => ?_)
          clear hK K
          try simp only [Act.put, List.getElem_toArray, List.getElem_cons_zero, List.getElem_cons_succ, List.setIfInBounds_toArray, List.set_cons_zero, List.set_cons_succ]
          refine wpAnyH_take (i := 7) (v := ?v22) rfl (by kernel_rfl) (by kernel_rfl) (by kernel_rfl) (fun _ _ _ h => h) (Or.inl ⟨by rfl, ?h22⟩) hHeld ?r22
          case h22 => intro wq hS; go_simp; with_reducible rfl
          try simp only [Act.put, List.getElem_toArray, List.getElem_cons_zero, List.getElem_cons_succ, List.setIfInBounds_toArray, List.set_cons_zero, List.set_cons_succ]
          refine wpAnyH_take (i := 8) (v := ?v23) rfl (by kernel_rfl) (by kernel_rfl) (by kernel_rfl) (fun _ _ _ h => h) (Or.inl ⟨by rfl, ?h23⟩) hHeld ?r23
          case h23 => intro wq hS; go_simp; with_reducible rfl
          try simp only [Act.put, List.getElem_toArray, List.getElem_cons_zero, List.getElem_cons_succ, List.setIfInBounds_toArray, List.set_cons_zero, List.set_cons_succ]
          refine wpAnyH_take (i := 9) (v := ?v24) rfl (by kernel_rfl) (by kernel_rfl) (by kernel_rfl) (fun _ _ _ h => h) (Or.inl ⟨by rfl, ?h24⟩) hHeld ?r24
          case h24 => intro wq hS; go_simp; with_reducible rfl
          try simp only [Act.put, List.getElem_toArray, List.getElem_cons_zero, List.getElem_cons_succ, List.setIfInBounds_toArray, List.set_cons_zero, List.set_cons_succ]
          refine wpAnyH_ready (rs := [10]) (by kernel_rfl) (by simp) ?_
          refine AllReadyH.cons rfl (fun K hK => ?_) AllReadyH.nil
          go_simp
          have hEl := hHeld.size
          refine hK.out _ _ (hHeld.alloc hHeld.size _) (fun hHeld => ?_)
          clear hK K
          try simp only [Act.put, List.getElem_toArray, List.getElem_cons_zero, List.getElem_cons_succ, List.setIfInBounds_toArray, List.set_cons_zero, List.set_cons_succ]
          have hE : Blk (ws.alloc (.cells #[.int .i64 0, .int .i64 0, .bool false, .int .i64 0, .int .i64 0, .int .i64 0, .string ⟨#[]⟩] 28)) (ws.heap.size) #[.int .i64 0, .int .i64 0, .bool false, .int .i64 0, .int .i64 0, .int .i64 0, .string ⟨#[]⟩] 28 := blk_new _ _ rfl
          replace hTp := hTp.alloc (.cells #[.int .i64 0, .int .i64 0, .bool false, .int .i64 0, .int .i64 0, .int .i64 0, .string ⟨#[]⟩] 28)
          generalize ws.alloc (.cells #[.int .i64 0, .int .i64 0, .bool false, .int .i64 0, .int .i64 0, .int .i64 0, .string ⟨#[]⟩] 28) = wa1 at hE hTp hHeld ⊢
          refine wpAnyH_ready (rs := [11]) (by kernel_rfl) (by simp) ?_
          refine AllReadyH.cons rfl (fun K hK => ?_) AllReadyH.nil
          refine step_store_row rfl 28 (.tmp 10) (.tmp 33) rfl (ws.heap.size) #[.int .i64 zdst, .int .i64 zsrc, .bool ztg, .int .i64 zfv, .int .i64 zfp, .int .i64 zty, .string zbody] rfl rfl 28 #[.int .i64 0, .int .i64 0, .bool false, .int .i64 0, .int .i64 0, .int .i64 0, .string ⟨#[]⟩] hE sizeFr rfl (by simp [Value.oneCell']) ?_
          have hF := Blk.row (cs := #[.int .i64 zdst, .int .i64 zsrc, .bool ztg, .int .i64 zfv, .int .i64 zfp, .int .i64 zty, .string zbody]) hE
          have hHq := Below.row hHeld hEl #[.int .i64 zdst, .int .i64 zsrc, .bool ztg, .int .i64 zfv, .int .i64 zfp, .int .i64 zty, .string zbody]
          refine hK.out _ _ (hHq) (fun hHeld => ?_)
          clear hK K
          try simp only [Act.put, List.getElem_toArray, List.getElem_cons_zero, List.getElem_cons_succ, List.setIfInBounds_toArray, List.set_cons_zero, List.set_cons_succ]
          refine wpAnyH_take (i := 12) (v := ?v25) rfl (by kernel_rfl) (by kernel_rfl) (by kernel_rfl) (fun _ _ _ h => h) (Or.inl ⟨by rfl, ?h25⟩) hHeld ?r25
          case h25 => intro wq hS; go_simp; with_reducible rfl
          try simp only [Act.put, List.getElem_toArray, List.getElem_cons_zero, List.getElem_cons_succ, List.setIfInBounds_toArray, List.set_cons_zero, List.set_cons_succ]
          refine wpAnyH_done (by kernel_rfl) ?_ _
          have HHE := Lib.hid hHeld; have HFF := Lib.hid hF; have HEL := Lib.hid hEl
          clear hHeld hF hEl hHq hE
          go_wp2_with fail
          go_meet
          exact ⟨_, rfl, rfl, HFF, HHE, HEL.out⟩
        refine AllReadyH.cons rfl (fun K hK => ?_) AllReadyH.nil
        · go_simp
          have hEl := hHeld.size
          refine hK.out _ _ (hHeld.alloc hHeld.size _) (fun hHeld => ?_)
          clear hK K
          try simp only [Act.put, List.getElem_toArray, List.getElem_cons_zero, List.getElem_cons_succ, List.setIfInBounds_toArray, List.set_cons_zero, List.set_cons_succ]
          have hE : Blk (wf.alloc (.cells #[.int .i64 0, .int .i64 0, .bool false, .int .i64 0, .int .i64 0, .int .i64 0, .string ⟨#[]⟩] 28)) (wf.heap.size) #[.int .i64 0, .int .i64 0, .bool false, .int .i64 0, .int .i64 0, .int .i64 0, .string ⟨#[]⟩] 28 := blk_new _ _ rfl
          replace hTp := hTp.alloc (.cells #[.int .i64 0, .int .i64 0, .bool false, .int .i64 0, .int .i64 0, .int .i64 0, .string ⟨#[]⟩] 28)
          generalize wf.alloc (.cells #[.int .i64 0, .int .i64 0, .bool false, .int .i64 0, .int .i64 0, .int .i64 0, .string ⟨#[]⟩] 28) = wa2 at hE hTp hHeld ⊢
          refine wpAnyH_ready (rs := [6]) (by kernel_rfl) (by simp) ?_
          refine AllReadyH.cons rfl (fun K hK => ?_) AllReadyH.nil
          go_simp
          refine (HW.out _ _ _ hTp HS2.out).mono ?_
          rintro e ws ⟨rfl, hbs⟩
          replace hE := hE.after hbs
          replace hTp := hTp.after hbs
          refine hK.out _ _ (hHeld.trans (hbs.mono hHeld.size)) (fun hHeld => ?_)
          clear hK K
          try simp only [Act.put, List.getElem_toArray, List.getElem_cons_zero, List.getElem_cons_succ, List.setIfInBounds_toArray, List.set_cons_zero, List.set_cons_succ]
          refine wpAnyH_take (i := 7) (v := ?v26) rfl (by kernel_rfl) (by kernel_rfl) (by kernel_rfl) (fun _ _ _ h => h) (Or.inl ⟨by rfl, ?h26⟩) hHeld ?r26
          case h26 => intro wq hS; go_simp; with_reducible rfl
          try simp only [Act.put, List.getElem_toArray, List.getElem_cons_zero, List.getElem_cons_succ, List.setIfInBounds_toArray, List.set_cons_zero, List.set_cons_succ]
          refine wpAnyH_take (i := 8) (v := ?v27) rfl (by kernel_rfl) (by kernel_rfl) (by kernel_rfl) (fun _ _ _ h => h) (Or.inl ⟨by rfl, ?h27⟩) hHeld ?r27
          case h27 => intro wq hS; go_simp; with_reducible rfl
          try simp only [Act.put, List.getElem_toArray, List.getElem_cons_zero, List.getElem_cons_succ, List.setIfInBounds_toArray, List.set_cons_zero, List.set_cons_succ]
          refine wpAnyH_take (i := 9) (v := ?v28) rfl (by kernel_rfl) (by kernel_rfl) (by kernel_rfl) (fun _ _ _ h => h) (Or.inl ⟨by rfl, ?h28⟩) hHeld ?r28
          case h28 => intro wq hS; go_simp; with_reducible rfl
          try simp only [Act.put, List.getElem_toArray, List.getElem_cons_zero, List.getElem_cons_succ, List.setIfInBounds_toArray, List.set_cons_zero, List.set_cons_succ]
          refine wpAnyH_ready (rs := [11]) (by kernel_rfl) (by simp) ?_
          refine AllReadyH.cons rfl (fun K hK => ?_) AllReadyH.nil
          refine step_store_row rfl 28 (.tmp 10) (.tmp 33) rfl (wf.heap.size) #[.int .i64 zdst, .int .i64 zsrc, .bool ztg, .int .i64 zfv, .int .i64 zfp, .int .i64 zty, .string zbody] rfl rfl 28 #[.int .i64 0, .int .i64 0, .bool false, .int .i64 0, .int .i64 0, .int .i64 0, .string ⟨#[]⟩] hE sizeFr rfl (by simp [Value.oneCell']) ?_
          have hF := Blk.row (cs := #[.int .i64 zdst, .int .i64 zsrc, .bool ztg, .int .i64 zfv, .int .i64 zfp, .int .i64 zty, .string zbody]) hE
          have hHq := Below.row hHeld hEl #[.int .i64 zdst, .int .i64 zsrc, .bool ztg, .int .i64 zfv, .int .i64 zfp, .int .i64 zty, .string zbody]
          refine hK.out _ _ (hHq) (fun hHeld => ?_)
          clear hK K
          try simp only [Act.put, List.getElem_toArray, List.getElem_cons_zero, List.getElem_cons_succ, List.setIfInBounds_toArray, List.set_cons_zero, List.set_cons_succ]
          refine wpAnyH_take (i := 12) (v := ?v29) rfl (by kernel_rfl) (by kernel_rfl) (by kernel_rfl) (fun _ _ _ h => h) (Or.inl ⟨by rfl, ?h29⟩) hHeld ?r29
          case h29 => intro wq hS; go_simp; with_reducible rfl
          try simp only [Act.put, List.getElem_toArray, List.getElem_cons_zero, List.getElem_cons_succ, List.setIfInBounds_toArray, List.set_cons_zero, List.set_cons_succ]
          refine wpAnyH_done (by kernel_rfl) ?_ _
          have HHE := Lib.hid hHeld; have HFF := Lib.hid hF; have HEL := Lib.hid hEl
          clear hHeld hF hEl hHq hE
          go_wp2_with fail
          go_meet
          exact ⟨_, rfl, rfl, HFF, HHE, HEL.out⟩
      refine AllReadyH.cons rfl (fun K hK => ?_) AllReadyH.nil
      · go_simp
        have hEl := hHeld.size
        refine hK.out _ _ (hHeld.alloc hHeld.size _) (fun hHeld => ?_)
        clear hK K
        try simp only [Act.put, List.getElem_toArray, List.getElem_cons_zero, List.getElem_cons_succ, List.setIfInBounds_toArray, List.set_cons_zero, List.set_cons_succ]
        have hE : Blk (wt.alloc (.cells #[.int .i64 0, .int .i64 0, .bool false, .int .i64 0, .int .i64 0, .int .i64 0, .string ⟨#[]⟩] 28)) (wt.heap.size) #[.int .i64 0, .int .i64 0, .bool false, .int .i64 0, .int .i64 0, .int .i64 0, .string ⟨#[]⟩] 28 := blk_new _ _ rfl
        replace hTp := hTp.alloc (.cells #[.int .i64 0, .int .i64 0, .bool false, .int .i64 0, .int .i64 0, .int .i64 0, .string ⟨#[]⟩] 28)
        generalize wt.alloc (.cells #[.int .i64 0, .int .i64 0, .bool false, .int .i64 0, .int .i64 0, .int .i64 0, .string ⟨#[]⟩] 28) = wa3 at hE hTp hHeld ⊢
        refine wpAnyH_ready (rs := [4]) (by kernel_rfl) (by simp) ?_
        refine AllReadyH.cons rfl (fun K hK => ?_) AllReadyH.nil
        go_simp
        refine (HTO.out _).mono ?_
        rintro e wf ⟨rfl, hbf⟩
        replace hE := hE.after hbf
        replace hTp := hTp.after hbf
        refine hK.out _ _ (hHeld.trans (hbf.mono hHeld.size)) (fun hHeld => ?_)
        clear hK K
        try simp only [Act.put, List.getElem_toArray, List.getElem_cons_zero, List.getElem_cons_succ, List.setIfInBounds_toArray, List.set_cons_zero, List.set_cons_succ]
        refine wpAnyH_ready (rs := [6]) (by kernel_rfl) (by simp) ?_
        refine AllReadyH.cons rfl (fun K hK => ?_) AllReadyH.nil
        go_simp
        refine (HW.out _ _ _ hTp HS2.out).mono ?_
        rintro e ws ⟨rfl, hbs⟩
        replace hE := hE.after hbs
        replace hTp := hTp.after hbs
        refine hK.out _ _ (hHeld.trans (hbs.mono hHeld.size)) (fun hHeld => ?_)
        clear hK K
        try simp only [Act.put, List.getElem_toArray, List.getElem_cons_zero, List.getElem_cons_succ, List.setIfInBounds_toArray, List.set_cons_zero, List.set_cons_succ]
        refine wpAnyH_take (i := 7) (v := ?v30) rfl (by kernel_rfl) (by kernel_rfl) (by kernel_rfl) (fun _ _ _ h => h) (Or.inl ⟨by rfl, ?h30⟩) hHeld ?r30
        case h30 => intro wq hS; go_simp; with_reducible rfl
        try simp only [Act.put, List.getElem_toArray, List.getElem_cons_zero, List.getElem_cons_succ, List.setIfInBounds_toArray, List.set_cons_zero, List.set_cons_succ]
        refine wpAnyH_take (i := 8) (v := ?v31) rfl (by kernel_rfl) (by kernel_rfl) (by kernel_rfl) (fun _ _ _ h => h) (Or.inl ⟨by rfl, ?h31⟩) hHeld ?r31
        case h31 => intro wq hS; go_simp; with_reducible rfl
        try simp only [Act.put, List.getElem_toArray, List.getElem_cons_zero, List.getElem_cons_succ, List.setIfInBounds_toArray, List.set_cons_zero, List.set_cons_succ]
        refine wpAnyH_take (i := 9) (v := ?v32) rfl (by kernel_rfl) (by kernel_rfl) (by kernel_rfl) (fun _ _ _ h => h) (Or.inl ⟨by rfl, ?h32⟩) hHeld ?r32
        case h32 => intro wq hS; go_simp; with_reducible rfl
        try simp only [Act.put, List.getElem_toArray, List.getElem_cons_zero, List.getElem_cons_succ, List.setIfInBounds_toArray, List.set_cons_zero, List.set_cons_succ]
        refine wpAnyH_ready (rs := [11]) (by kernel_rfl) (by simp) ?_
        refine AllReadyH.cons rfl (fun K hK => ?_) AllReadyH.nil
        refine step_store_row rfl 28 (.tmp 10) (.tmp 33) rfl (wt.heap.size) #[.int .i64 zdst, .int .i64 zsrc, .bool ztg, .int .i64 zfv, .int .i64 zfp, .int .i64 zty, .string zbody] rfl rfl 28 #[.int .i64 0, .int .i64 0, .bool false, .int .i64 0, .int .i64 0, .int .i64 0, .string ⟨#[]⟩] hE sizeFr rfl (by simp [Value.oneCell']) ?_
        have hF := Blk.row (cs := #[.int .i64 zdst, .int .i64 zsrc, .bool ztg, .int .i64 zfv, .int .i64 zfp, .int .i64 zty, .string zbody]) hE
        have hHq := Below.row hHeld hEl #[.int .i64 zdst, .int .i64 zsrc, .bool ztg, .int .i64 zfv, .int .i64 zfp, .int .i64 zty, .string zbody]
        refine hK.out _ _ (hHq) (fun hHeld => ?_)
        clear hK K
        try simp only [Act.put, List.getElem_toArray, List.getElem_cons_zero, List.getElem_cons_succ, List.setIfInBounds_toArray, List.set_cons_zero, List.set_cons_succ]
        refine wpAnyH_take (i := 12) (v := ?v33) rfl (by kernel_rfl) (by kernel_rfl) (by kernel_rfl) (fun _ _ _ h => h) (Or.inl ⟨by rfl, ?h33⟩) hHeld ?r33
        case h33 => intro wq hS; go_simp; with_reducible rfl
        try simp only [Act.put, List.getElem_toArray, List.getElem_cons_zero, List.getElem_cons_succ, List.setIfInBounds_toArray, List.set_cons_zero, List.set_cons_succ]
        refine wpAnyH_done (by kernel_rfl) ?_ _
        have HHE := Lib.hid hHeld; have HFF := Lib.hid hF; have HEL := Lib.hid hEl
        clear hHeld hF hEl hHq hE
        go_wp2_with fail
        go_meet
        exact ⟨_, rfl, rfl, HFF, HHE, HEL.out⟩
    refine AllReadyH.cons rfl (fun K hK => ?_) AllReadyH.nil
    · go_simp
      have hEl := Nat.le_refl x2.heap.size
      refine hK.out _ _ (((Below.refl _ _).alloc (Nat.le_refl _) _).drew) (fun hHeld => ?_)
      clear hK K
      try simp only [Act.put, List.getElem_toArray, List.getElem_cons_zero, List.getElem_cons_succ, List.setIfInBounds_toArray, List.set_cons_zero, List.set_cons_succ]
      have hE : Blk ((x2.alloc (.cells #[.int .i64 0, .int .i64 0, .bool false, .int .i64 0, .int .i64 0, .int .i64 0, .string ⟨#[]⟩] 28)).drew) (x2.heap.size) #[.int .i64 0, .int .i64 0, .bool false, .int .i64 0, .int .i64 0, .int .i64 0, .string ⟨#[]⟩] 28 := (blk_new _ _ rfl).drew
      generalize (x2.alloc (.cells #[.int .i64 0, .int .i64 0, .bool false, .int .i64 0, .int .i64 0, .int .i64 0, .string ⟨#[]⟩] 28)).drew = wa4 at hE hHeld ⊢
      refine wpAnyH_ready (rs := [1]) (by kernel_rfl) (by simp) ?_
      refine AllReadyH.cons rfl (fun K hK => ?_) AllReadyH.nil
      go_simp
      refine (HT.out _ (HA.out.after (HB.out.trans (hHeld.mono HB.out.size))) HS1.out).mono ?_
      rintro e wt ⟨Dt, tv, ta, tn, tc, tb, tm, td, tk, rfl, hTp, _, hbt⟩
      replace hE := hE.after hbt
      refine hK.out _ _ (hHeld.trans (hbt.mono hHeld.size)) (fun hHeld => ?_)
      clear hK K
      try simp only [Act.put, List.getElem_toArray, List.getElem_cons_zero, List.getElem_cons_succ, List.setIfInBounds_toArray, List.set_cons_zero, List.set_cons_succ]
      refine wpAnyH_ready (rs := [4]) (by kernel_rfl) (by simp) ?_
      refine AllReadyH.cons rfl (fun K hK => ?_) AllReadyH.nil
      go_simp
      refine (HTO.out _).mono ?_
      rintro e wf ⟨rfl, hbf⟩
      replace hE := hE.after hbf
      replace hTp := hTp.after hbf
      refine hK.out _ _ (hHeld.trans (hbf.mono hHeld.size)) (fun hHeld => ?_)
      clear hK K
      try simp only [Act.put, List.getElem_toArray, List.getElem_cons_zero, List.getElem_cons_succ, List.setIfInBounds_toArray, List.set_cons_zero, List.set_cons_succ]
      refine wpAnyH_ready (rs := [6]) (by kernel_rfl) (by simp) ?_
      refine AllReadyH.cons rfl (fun K hK => ?_) AllReadyH.nil
      go_simp
      refine (HW.out _ _ _ hTp HS2.out).mono ?_
      rintro e ws ⟨rfl, hbs⟩
      replace hE := hE.after hbs
      replace hTp := hTp.after hbs
      refine hK.out _ _ (hHeld.trans (hbs.mono hHeld.size)) (fun hHeld => ?_)
      clear hK K
      try simp only [Act.put, List.getElem_toArray, List.getElem_cons_zero, List.getElem_cons_succ, List.setIfInBounds_toArray, List.set_cons_zero, List.set_cons_succ]
      refine wpAnyH_take (i := 7) (v := ?v34) rfl (by kernel_rfl) (by kernel_rfl) (by kernel_rfl) (fun _ _ _ h => h) (Or.inl ⟨by rfl, ?h34⟩) hHeld ?r34
      case h34 => intro wq hS; go_simp; with_reducible rfl
      try simp only [Act.put, List.getElem_toArray, List.getElem_cons_zero, List.getElem_cons_succ, List.setIfInBounds_toArray, List.set_cons_zero, List.set_cons_succ]
      refine wpAnyH_take (i := 8) (v := ?v35) rfl (by kernel_rfl) (by kernel_rfl) (by kernel_rfl) (fun _ _ _ h => h) (Or.inl ⟨by rfl, ?h35⟩) hHeld ?r35
      case h35 => intro wq hS; go_simp; with_reducible rfl
      try simp only [Act.put, List.getElem_toArray, List.getElem_cons_zero, List.getElem_cons_succ, List.setIfInBounds_toArray, List.set_cons_zero, List.set_cons_succ]
      refine wpAnyH_take (i := 9) (v := ?v36) rfl (by kernel_rfl) (by kernel_rfl) (by kernel_rfl) (fun _ _ _ h => h) (Or.inl ⟨by rfl, ?h36⟩) hHeld ?r36
      case h36 => intro wq hS; go_simp; with_reducible rfl
      try simp only [Act.put, List.getElem_toArray, List.getElem_cons_zero, List.getElem_cons_succ, List.setIfInBounds_toArray, List.set_cons_zero, List.set_cons_succ]
      refine wpAnyH_ready (rs := [11]) (by kernel_rfl) (by simp) ?_
      refine AllReadyH.cons rfl (fun K hK => ?_) AllReadyH.nil
      refine step_store_row rfl 28 (.tmp 10) (.tmp 33) rfl (x2.heap.size) #[.int .i64 zdst, .int .i64 zsrc, .bool ztg, .int .i64 zfv, .int .i64 zfp, .int .i64 zty, .string zbody] rfl rfl 28 #[.int .i64 0, .int .i64 0, .bool false, .int .i64 0, .int .i64 0, .int .i64 0, .string ⟨#[]⟩] hE sizeFr rfl (by simp [Value.oneCell']) ?_
      have hF := Blk.row (cs := #[.int .i64 zdst, .int .i64 zsrc, .bool ztg, .int .i64 zfv, .int .i64 zfp, .int .i64 zty, .string zbody]) hE
      have hHq := Below.row hHeld hEl #[.int .i64 zdst, .int .i64 zsrc, .bool ztg, .int .i64 zfv, .int .i64 zfp, .int .i64 zty, .string zbody]
      refine hK.out _ _ (hHq) (fun hHeld => ?_)
      clear hK K
      try simp only [Act.put, List.getElem_toArray, List.getElem_cons_zero, List.getElem_cons_succ, List.setIfInBounds_toArray, List.set_cons_zero, List.set_cons_succ]
      refine wpAnyH_take (i := 12) (v := ?v37) rfl (by kernel_rfl) (by kernel_rfl) (by kernel_rfl) (fun _ _ _ h => h) (Or.inl ⟨by rfl, ?h37⟩) hHeld ?r37
      case h37 => intro wq hS; go_simp; with_reducible rfl
      try simp only [Act.put, List.getElem_toArray, List.getElem_cons_zero, List.getElem_cons_succ, List.setIfInBounds_toArray, List.set_cons_zero, List.set_cons_succ]
      refine wpAnyH_done (by kernel_rfl) ?_ _
      have HHE := Lib.hid hHeld; have HFF := Lib.hid hF; have HEL := Lib.hid hEl
      clear hHeld hF hEl hHq hE
      go_wp2_with fail
      go_meet
      exact ⟨_, rfl, rfl, HFF, HHE, HEL.out⟩
  case rest =>
    obtain ⟨e8, rfl, rfl, HKN, HBN, hle⟩ := hcut
    have hbq := HBN.out
    have KA := Lib.hid (KA.out.after hbq)
    have KF := Lib.hid (KF.out.after hbq)
    have HB := Lib.hid (HB.out.trans (hbq.mono HB.out.size))
    clear hbq hle HBN
    generalize wc = y8 at *
    have KW := HKN
    clear HKN
    have ka0 : y8.cell? ⟨w.heap.size, 0, none⟩ = some (.int .i64 upv) := KA.out.cell 0
    have ka1 : y8.cell? ⟨w.heap.size, 1, none⟩ = some (.slice ua uins.length uca) := KA.out.cell 1
    have ka2 : y8.cell? ⟨w.heap.size, 2, none⟩ = some (.slice ub uplain.length ucb) := KA.out.cell 2
    have ka3 : y8.cell? ⟨w.heap.size, 3, none⟩ = some (.int .i64 uac) := KA.out.cell 3
    have kal : w.heap.size < y8.heap.size := KA.out.lt
    go_wp2_with fail
    refine (HT.out _ (HA.out.after HB.out) HS1.out).mono ?_
    rintro e x3 ⟨D3, v3, a3, n3, c3, b3, m3, d3, k3, rfl, hTq, hCq, hbq⟩
    clear ka0 ka1 ka2 ka3 kal
    have KA := Lib.hid (KA.out.after hbq)
    have KF := Lib.hid (KF.out.after hbq)
    have KW := Lib.hid (KW.out.after hbq)
    have HB := Lib.hid (HB.out.trans (hbq.mono HB.out.size))
    have TX := Lib.hid hTq
    clear hTq hCq hbq
    have hbq : Below x3.heap.size x3 (x3.alloc (.cells #[.int .i64 v3, .slice a3 n3 c3, .slice b3 m3 d3, .int .i64 k3] 26)) := (Below.refl _ _).alloc (Nat.le_refl _) _
    have hnq : Blk (x3.alloc (.cells #[.int .i64 v3, .slice a3 n3 c3, .slice b3 m3 d3, .int .i64 k3] 26)) x3.heap.size #[.int .i64 v3, .slice a3 n3 c3, .slice b3 m3 d3, .int .i64 k3] 26 := blk_new _ _ rfl
    have TX := Lib.hid (TX.out.after hbq)
    have KA := Lib.hid (KA.out.after hbq)
    have KF := Lib.hid (KF.out.after hbq)
    have KW := Lib.hid (KW.out.after hbq)
    have HB := Lib.hid (HB.out.trans (hbq.mono HB.out.size))
    have KX := Lib.hid hnq
    clear hbq hnq
    have ka0 : (x3.alloc (.cells #[.int .i64 v3, .slice a3 n3 c3, .slice b3 m3 d3, .int .i64 k3] 26)).cell? ⟨w.heap.size, 0, none⟩ = some (.int .i64 upv) := KA.out.cell 0
    have ka1 : (x3.alloc (.cells #[.int .i64 v3, .slice a3 n3 c3, .slice b3 m3 d3, .int .i64 k3] 26)).cell? ⟨w.heap.size, 1, none⟩ = some (.slice ua uins.length uca) := KA.out.cell 1
    have ka2 : (x3.alloc (.cells #[.int .i64 v3, .slice a3 n3 c3, .slice b3 m3 d3, .int .i64 k3] 26)).cell? ⟨w.heap.size, 2, none⟩ = some (.slice ub uplain.length ucb) := KA.out.cell 2
    have ka3 : (x3.alloc (.cells #[.int .i64 v3, .slice a3 n3 c3, .slice b3 m3 d3, .int .i64 k3] 26)).cell? ⟨w.heap.size, 3, none⟩ = some (.int .i64 uac) := KA.out.cell 3
    have kal : w.heap.size < (x3.alloc (.cells #[.int .i64 v3, .slice a3 n3 c3, .slice b3 m3 d3, .int .i64 k3] 26)).heap.size := KA.out.lt
    have kf0 : (x3.alloc (.cells #[.int .i64 v3, .slice a3 n3 c3, .slice b3 m3 d3, .int .i64 k3] 26)).cell? ⟨w.heap.size + 1, 0, none⟩ = some (.int .i64 udst) := KF.out.cell 0
    have kf1 : (x3.alloc (.cells #[.int .i64 v3, .slice a3 n3 c3, .slice b3 m3 d3, .int .i64 k3] 26)).cell? ⟨w.heap.size + 1, 1, none⟩ = some (.int .i64 usrc) := KF.out.cell 1
    have kf2 : (x3.alloc (.cells #[.int .i64 v3, .slice a3 n3 c3, .slice b3 m3 d3, .int .i64 k3] 26)).cell? ⟨w.heap.size + 1, 2, none⟩ = some (.bool utg) := KF.out.cell 2
    have kf3 : (x3.alloc (.cells #[.int .i64 v3, .slice a3 n3 c3, .slice b3 m3 d3, .int .i64 k3] 26)).cell? ⟨w.heap.size + 1, 3, none⟩ = some (.int .i64 ufv) := KF.out.cell 3
    have kf4 : (x3.alloc (.cells #[.int .i64 v3, .slice a3 n3 c3, .slice b3 m3 d3, .int .i64 k3] 26)).cell? ⟨w.heap.size + 1, 4, none⟩ = some (.int .i64 ufp) := KF.out.cell 4
    have kf5 : (x3.alloc (.cells #[.int .i64 v3, .slice a3 n3 c3, .slice b3 m3 d3, .int .i64 k3] 26)).cell? ⟨w.heap.size + 1, 5, none⟩ = some (.int .i64 uty) := KF.out.cell 5
    have kf6 : (x3.alloc (.cells #[.int .i64 v3, .slice a3 n3 c3, .slice b3 m3 d3, .int .i64 k3] 26)).cell? ⟨w.heap.size + 1, 6, none⟩ = some (.string ubody) := KF.out.cell 6
    have kfl : w.heap.size + 1 < (x3.alloc (.cells #[.int .i64 v3, .slice a3 n3 c3, .slice b3 m3 d3, .int .i64 k3] 26)).heap.size := KF.out.lt
    have kw0 : (x3.alloc (.cells #[.int .i64 v3, .slice a3 n3 c3, .slice b3 m3 d3, .int .i64 k3] 26)).cell? ⟨e8, 0, none⟩ = some (.int .i64 zdst) := KW.out.cell 0
    have kw1 : (x3.alloc (.cells #[.int .i64 v3, .slice a3 n3 c3, .slice b3 m3 d3, .int .i64 k3] 26)).cell? ⟨e8, 1, none⟩ = some (.int .i64 zsrc) := KW.out.cell 1
    have kw2 : (x3.alloc (.cells #[.int .i64 v3, .slice a3 n3 c3, .slice b3 m3 d3, .int .i64 k3] 26)).cell? ⟨e8, 2, none⟩ = some (.bool ztg) := KW.out.cell 2
    have kw3 : (x3.alloc (.cells #[.int .i64 v3, .slice a3 n3 c3, .slice b3 m3 d3, .int .i64 k3] 26)).cell? ⟨e8, 3, none⟩ = some (.int .i64 zfv) := KW.out.cell 3
    have kw4 : (x3.alloc (.cells #[.int .i64 v3, .slice a3 n3 c3, .slice b3 m3 d3, .int .i64 k3] 26)).cell? ⟨e8, 4, none⟩ = some (.int .i64 zfp) := KW.out.cell 4
    have kw5 : (x3.alloc (.cells #[.int .i64 v3, .slice a3 n3 c3, .slice b3 m3 d3, .int .i64 k3] 26)).cell? ⟨e8, 5, none⟩ = some (.int .i64 zty) := KW.out.cell 5
    have kw6 : (x3.alloc (.cells #[.int .i64 v3, .slice a3 n3 c3, .slice b3 m3 d3, .int .i64 k3] 26)).cell? ⟨e8, 6, none⟩ = some (.string zbody) := KW.out.cell 6
    have kwl : e8 < (x3.alloc (.cells #[.int .i64 v3, .slice a3 n3 c3, .slice b3 m3 d3, .int .i64 k3] 26)).heap.size := KW.out.lt
    have kx0 : (x3.alloc (.cells #[.int .i64 v3, .slice a3 n3 c3, .slice b3 m3 d3, .int .i64 k3] 26)).cell? ⟨x3.heap.size, 0, none⟩ = some (.int .i64 v3) := KX.out.cell 0
    have kx1 : (x3.alloc (.cells #[.int .i64 v3, .slice a3 n3 c3, .slice b3 m3 d3, .int .i64 k3] 26)).cell? ⟨x3.heap.size, 1, none⟩ = some (.slice a3 n3 c3) := KX.out.cell 1
    have kx2 : (x3.alloc (.cells #[.int .i64 v3, .slice a3 n3 c3, .slice b3 m3 d3, .int .i64 k3] 26)).cell? ⟨x3.heap.size, 2, none⟩ = some (.slice b3 m3 d3) := KX.out.cell 2
    have kx3 : (x3.alloc (.cells #[.int .i64 v3, .slice a3 n3 c3, .slice b3 m3 d3, .int .i64 k3] 26)).cell? ⟨x3.heap.size, 3, none⟩ = some (.int .i64 k3) := KX.out.cell 3
    have kxl : x3.heap.size < (x3.alloc (.cells #[.int .i64 v3, .slice a3 n3 c3, .slice b3 m3 d3, .int .i64 k3] 26)).heap.size := KX.out.lt
    go_wp2_with fail
    clear ka0 ka1 ka2 ka3 kal kf0 kf1 kf2 kf3 kf4 kf5 kf6 kfl kw0 kw1 kw2 kw3 kw4 kw5 kw6 kwl kx0 kx1 kx2 kx3 kxl
    generalize (x3.alloc (.cells #[.int .i64 v3, .slice a3 n3 c3, .slice b3 m3 d3, .int .i64 k3] 26)) = x4 at TX KA KF KW KX HB ⊢
    generalize x3.heap.size = e4 at TX KA KF KW KX HB ⊢
    go_upto_region 10 with fail
    go_cut [13, 14] (fun sp sb wx => ∃ e, sp = .pointer (some ⟨e, 0, none⟩) ∧ sb = .bool r ∧ Hid (Blk wx e #[.int .i64 zdst, .int .i64 zsrc, .bool ztg, .int .i64 zfv, .int .i64 zfp, .int .i64 zty, .string zbody] 28) ∧ Hid (Below x4.heap.size x4 wx) ∧ x4.heap.size ≤ e)
    case first =>
      refine wp_region_held_drew (S := fun w' => Below x4.heap.size x4 w') (by kernel_rfl) (Below.drew (Below.refl _ _)) (fun hHeld => ?_)
      refine wpAnyH_take (i := 0) (v := ?v38) rfl (by kernel_rfl) (by kernel_rfl) (by kernel_rfl) (fun _ _ _ h => h) (Or.inl ⟨by rfl, ?h38⟩) hHeld ?r38
      case h38 => intro wq hS; have c0 : wq.cell? ⟨e4, 0, none⟩ = some (.int .i64 v3) := (KX.out.after hS).cell 0; have c1 : wq.cell? ⟨e4, 1, none⟩ = some (.slice a3 n3 c3) := (KX.out.after hS).cell 1; have c2 : wq.cell? ⟨e4, 2, none⟩ = some (.slice b3 m3 d3) := (KX.out.after hS).cell 2; have c3 : wq.cell? ⟨e4, 3, none⟩ = some (.int .i64 k3) := (KX.out.after hS).cell 3; go_simp; with_reducible rfl
      try simp only [Act.put, List.getElem_toArray, List.getElem_cons_zero, List.getElem_cons_succ, List.setIfInBounds_toArray, List.set_cons_zero, List.set_cons_succ]
      refine wpAnyH_take (i := 1) (v := ?v39) rfl (by kernel_rfl) (by kernel_rfl) (by kernel_rfl) (fun _ _ _ h => h) (Or.inl ⟨by rfl, ?h39⟩) hHeld ?r39
      case h39 => intro wq hS; go_simp; with_reducible rfl
      try simp only [Act.put, List.getElem_toArray, List.getElem_cons_zero, List.getElem_cons_succ, List.setIfInBounds_toArray, List.set_cons_zero, List.set_cons_succ]
      refine wpAnyH_take (i := 2) (v := ?v40) rfl (by kernel_rfl) (by kernel_rfl) (by kernel_rfl) (fun _ _ _ h => h) (Or.inl ⟨by rfl, ?h40⟩) hHeld ?r40
      case h40 => intro wq hS; have c0 : wq.cell? ⟨w.heap.size + 1, 0, none⟩ = some (.int .i64 udst) := (KF.out.after hS).cell 0; have c1 : wq.cell? ⟨w.heap.size + 1, 1, none⟩ = some (.int .i64 usrc) := (KF.out.after hS).cell 1; have c2 : wq.cell? ⟨w.heap.size + 1, 2, none⟩ = some (.bool utg) := (KF.out.after hS).cell 2; have c3 : wq.cell? ⟨w.heap.size + 1, 3, none⟩ = some (.int .i64 ufv) := (KF.out.after hS).cell 3; have c4 : wq.cell? ⟨w.heap.size + 1, 4, none⟩ = some (.int .i64 ufp) := (KF.out.after hS).cell 4; have c5 : wq.cell? ⟨w.heap.size + 1, 5, none⟩ = some (.int .i64 uty) := (KF.out.after hS).cell 5; have c6 : wq.cell? ⟨w.heap.size + 1, 6, none⟩ = some (.string ubody) := (KF.out.after hS).cell 6; go_simp; with_reducible rfl
      try simp only [Act.put, List.getElem_toArray, List.getElem_cons_zero, List.getElem_cons_succ, List.setIfInBounds_toArray, List.set_cons_zero, List.set_cons_succ]
      refine wpAnyH_take (i := 4) (v := ?v41) rfl (by kernel_rfl) (by kernel_rfl) (by kernel_rfl) (fun _ _ _ h => h) (Or.inl ⟨by rfl, ?h41⟩) hHeld ?r41
      case h41 => intro wq hS; go_simp; with_reducible rfl
      try simp only [Act.put, List.getElem_toArray, List.getElem_cons_zero, List.getElem_cons_succ, List.setIfInBounds_toArray, List.set_cons_zero, List.set_cons_succ]
      refine wpAnyH_ready (rs := [3, 9]) (by kernel_rfl) (by simp) ?_
      refine AllReadyH.cons rfl (fun K hK => ?_) ?_
      · go_simp
        refine (HTO.out _).mono ?_
        rintro e wf ⟨rfl, hbf⟩
        refine hK.out _ _ (hHeld.trans (hbf.mono hHeld.size)) (fun hHeld => ?_)
        clear hK K
        try simp only [Act.put, List.getElem_toArray, List.getElem_cons_zero, List.getElem_cons_succ, List.setIfInBounds_toArray, List.set_cons_zero, List.set_cons_succ]
        refine wpAnyH_ready (rs := [5, 9]) (by kernel_rfl) (by simp) ?_
        refine AllReadyH.cons rfl (fun K hK => ?_) ?_
        · go_simp
          refine (HI.out _ _ _ (TX.out.after hHeld) HS2.out).mono ?_
          rintro e wi ⟨rfl, hbi⟩
          refine hK.out _ _ (hHeld.trans (hbi.mono hHeld.size)) (fun hHeld => ?_)
          clear hK K
          try simp only [Act.put, List.getElem_toArray, List.getElem_cons_zero, List.getElem_cons_succ, List.setIfInBounds_toArray, List.set_cons_zero, List.set_cons_succ]
          refine wpAnyH_take (i := 6) (v := ?v42) rfl (by kernel_rfl) (by kernel_rfl) (by kernel_rfl) (fun _ _ _ h => h) (Or.inl ⟨by rfl, ?h42⟩) hHeld ?r42
          case h42 => intro wq hS; go_simp; with_reducible rfl
          try simp only [Act.put, List.getElem_toArray, List.getElem_cons_zero, List.getElem_cons_succ, List.setIfInBounds_toArray, List.set_cons_zero, List.set_cons_succ]
          refine wpAnyH_take (i := 7) (v := ?v43) rfl (by kernel_rfl) (by kernel_rfl) (by kernel_rfl) (fun _ _ _ h => h) (Or.inl ⟨by rfl, ?h43⟩) hHeld ?r43
          case h43 => intro wq hS; go_simp; with_reducible rfl
          try simp only [Act.put, List.getElem_toArray, List.getElem_cons_zero, List.getElem_cons_succ, List.setIfInBounds_toArray, List.set_cons_zero, List.set_cons_succ]
          refine wpAnyH_take (i := 8) (v := ?v44) rfl (by kernel_rfl) (by kernel_rfl) (by kernel_rfl) (fun _ _ _ h => h) (Or.inl ⟨by rfl, ?h44⟩) hHeld ?r44
          case h44 => intro wq hS; go_simp; with_reducible rfl
          try simp only [Act.put, List.getElem_toArray, List.getElem_cons_zero, List.getElem_cons_succ, List.setIfInBounds_toArray, List.set_cons_zero, List.set_cons_succ]
          refine wpAnyH_ready (rs := [9]) (by kernel_rfl) (by simp) ?_
          refine AllReadyH.cons rfl (fun K hK => ?_) AllReadyH.nil
          go_simp
          have hEl := hHeld.size
          refine hK.out _ _ (hHeld.alloc hHeld.size _) (fun hHeld => ?_)
          clear hK K
          try simp only [Act.put, List.getElem_toArray, List.getElem_cons_zero, List.getElem_cons_succ, List.setIfInBounds_toArray, List.set_cons_zero, List.set_cons_succ]
          have hE : Blk (wi.alloc (.cells #[.int .i64 0, .int .i64 0, .bool false, .int .i64 0, .int .i64 0, .int .i64 0, .string ⟨#[]⟩] 28)) (wi.heap.size) #[.int .i64 0, .int .i64 0, .bool false, .int .i64 0, .int .i64 0, .int .i64 0, .string ⟨#[]⟩] 28 := blk_new _ _ rfl
          generalize wi.alloc (.cells #[.int .i64 0, .int .i64 0, .bool false, .int .i64 0, .int .i64 0, .int .i64 0, .string ⟨#[]⟩] 28) = wa1 at hE hHeld ⊢
          refine wpAnyH_ready (rs := [10]) (by kernel_rfl) (by simp) ?_
          refine AllReadyH.cons rfl (fun K hK => ?_) AllReadyH.nil
          refine step_store_row rfl 28 (.tmp 13) (.tmp 44) rfl (wi.heap.size) #[.int .i64 zdst, .int .i64 zsrc, .bool ztg, .int .i64 zfv, .int .i64 zfp, .int .i64 zty, .string zbody] rfl rfl 28 #[.int .i64 0, .int .i64 0, .bool false, .int .i64 0, .int .i64 0, .int .i64 0, .string ⟨#[]⟩] hE sizeFr rfl (by simp [Value.oneCell']) ?_
          have hF := Blk.row (cs := #[.int .i64 zdst, .int .i64 zsrc, .bool ztg, .int .i64 zfv, .int .i64 zfp, .int .i64 zty, .string zbody]) hE
          have hHq := Below.row hHeld hEl #[.int .i64 zdst, .int .i64 zsrc, .bool ztg, .int .i64 zfv, .int .i64 zfp, .int .i64 zty, .string zbody]
          refine hK.out _ _ (hHq) (fun hHeld => ?_)
          clear hK K
          try simp only [Act.put, List.getElem_toArray, List.getElem_cons_zero, List.getElem_cons_succ, List.setIfInBounds_toArray, List.set_cons_zero, List.set_cons_succ]
          refine wpAnyH_take (i := 11) (v := ?v45) rfl (by kernel_rfl) (by kernel_rfl) (by kernel_rfl) (fun _ _ _ h => h) (Or.inl ⟨by rfl, ?h45⟩) hHeld ?r45
          case h45 => intro wq hS; go_simp; with_reducible rfl
          try simp only [Act.put, List.getElem_toArray, List.getElem_cons_zero, List.getElem_cons_succ, List.setIfInBounds_toArray, List.set_cons_zero, List.set_cons_succ]
          refine wpAnyH_done (by kernel_rfl) ?_ _
          have HHE := Lib.hid hHeld; have HFF := Lib.hid hF; have HEL := Lib.hid hEl
          clear hHeld hF hEl hHq hE
          go_wp2_with fail
          go_meet
          exact ⟨_, rfl, rfl, HFF, HHE, HEL.out⟩
        refine AllReadyH.cons rfl (fun K hK => ?_) AllReadyH.nil
        · go_simp
          have hEl := hHeld.size
          refine hK.out _ _ (hHeld.alloc hHeld.size _) (fun hHeld => ?_)
          clear hK K
          try simp only [Act.put, List.getElem_toArray, List.getElem_cons_zero, List.getElem_cons_succ, List.setIfInBounds_toArray, List.set_cons_zero, List.set_cons_succ]
          have hE : Blk (wf.alloc (.cells #[.int .i64 0, .int .i64 0, .bool false, .int .i64 0, .int .i64 0, .int .i64 0, .string ⟨#[]⟩] 28)) (wf.heap.size) #[.int .i64 0, .int .i64 0, .bool false, .int .i64 0, .int .i64 0, .int .i64 0, .string ⟨#[]⟩] 28 := blk_new _ _ rfl
          generalize wf.alloc (.cells #[.int .i64 0, .int .i64 0, .bool false, .int .i64 0, .int .i64 0, .int .i64 0, .string ⟨#[]⟩] 28) = wa2 at hE hHeld ⊢
          refine wpAnyH_ready (rs := [5]) (by kernel_rfl) (by simp) ?_
          refine AllReadyH.cons rfl (fun K hK => ?_) AllReadyH.nil
          go_simp
          refine (HI.out _ _ _ (TX.out.after hHeld) HS2.out).mono ?_
          rintro e wi ⟨rfl, hbi⟩
          replace hE := hE.after hbi
          refine hK.out _ _ (hHeld.trans (hbi.mono hHeld.size)) (fun hHeld => ?_)
          clear hK K
          try simp only [Act.put, List.getElem_toArray, List.getElem_cons_zero, List.getElem_cons_succ, List.setIfInBounds_toArray, List.set_cons_zero, List.set_cons_succ]
          refine wpAnyH_take (i := 6) (v := ?v46) rfl (by kernel_rfl) (by kernel_rfl) (by kernel_rfl) (fun _ _ _ h => h) (Or.inl ⟨by rfl, ?h46⟩) hHeld ?r46
          case h46 => intro wq hS; go_simp; with_reducible rfl
          try simp only [Act.put, List.getElem_toArray, List.getElem_cons_zero, List.getElem_cons_succ, List.setIfInBounds_toArray, List.set_cons_zero, List.set_cons_succ]
          refine wpAnyH_take (i := 7) (v := ?v47) rfl (by kernel_rfl) (by kernel_rfl) (by kernel_rfl) (fun _ _ _ h => h) (Or.inl ⟨by rfl, ?h47⟩) hHeld ?r47
          case h47 => intro wq hS; go_simp; with_reducible rfl
          try simp only [Act.put, List.getElem_toArray, List.getElem_cons_zero, List.getElem_cons_succ, List.setIfInBounds_toArray, List.set_cons_zero, List.set_cons_succ]
          refine wpAnyH_take (i := 8) (v := ?v48) rfl (by kernel_rfl) (by kernel_rfl) (by kernel_rfl) (fun _ _ _ h => h) (Or.inl ⟨by rfl, ?h48⟩) hHeld ?r48
          case h48 => intro wq hS; go_simp; with_reducible rfl
          try simp only [Act.put, List.getElem_toArray, List.getElem_cons_zero, List.getElem_cons_succ, List.setIfInBounds_toArray, List.set_cons_zero, List.set_cons_succ]
          refine wpAnyH_ready (rs := [10]) (by kernel_rfl) (by simp) ?_
          refine AllReadyH.cons rfl (fun K hK => ?_) AllReadyH.nil
          refine step_store_row rfl 28 (.tmp 13) (.tmp 44) rfl (wf.heap.size) #[.int .i64 zdst, .int .i64 zsrc, .bool ztg, .int .i64 zfv, .int .i64 zfp, .int .i64 zty, .string zbody] rfl rfl 28 #[.int .i64 0, .int .i64 0, .bool false, .int .i64 0, .int .i64 0, .int .i64 0, .string ⟨#[]⟩] hE sizeFr rfl (by simp [Value.oneCell']) ?_
          have hF := Blk.row (cs := #[.int .i64 zdst, .int .i64 zsrc, .bool ztg, .int .i64 zfv, .int .i64 zfp, .int .i64 zty, .string zbody]) hE
          have hHq := Below.row hHeld hEl #[.int .i64 zdst, .int .i64 zsrc, .bool ztg, .int .i64 zfv, .int .i64 zfp, .int .i64 zty, .string zbody]
          refine hK.out _ _ (hHq) (fun hHeld => ?_)
          clear hK K
          try simp only [Act.put, List.getElem_toArray, List.getElem_cons_zero, List.getElem_cons_succ, List.setIfInBounds_toArray, List.set_cons_zero, List.set_cons_succ]
          refine wpAnyH_take (i := 11) (v := ?v49) rfl (by kernel_rfl) (by kernel_rfl) (by kernel_rfl) (fun _ _ _ h => h) (Or.inl ⟨by rfl, ?h49⟩) hHeld ?r49
          case h49 => intro wq hS; go_simp; with_reducible rfl
          try simp only [Act.put, List.getElem_toArray, List.getElem_cons_zero, List.getElem_cons_succ, List.setIfInBounds_toArray, List.set_cons_zero, List.set_cons_succ]
          refine wpAnyH_done (by kernel_rfl) ?_ _
          have HHE := Lib.hid hHeld; have HFF := Lib.hid hF; have HEL := Lib.hid hEl
          clear hHeld hF hEl hHq hE
          go_wp2_with fail
          go_meet
          exact ⟨_, rfl, rfl, HFF, HHE, HEL.out⟩
      refine AllReadyH.cons rfl (fun K hK => ?_) AllReadyH.nil
      · go_simp
        have hEl := Nat.le_refl x4.heap.size
        refine hK.out _ _ (((Below.refl _ _).alloc (Nat.le_refl _) _).drew) (fun hHeld => ?_)
        clear hK K
        try simp only [Act.put, List.getElem_toArray, List.getElem_cons_zero, List.getElem_cons_succ, List.setIfInBounds_toArray, List.set_cons_zero, List.set_cons_succ]
        have hE : Blk ((x4.alloc (.cells #[.int .i64 0, .int .i64 0, .bool false, .int .i64 0, .int .i64 0, .int .i64 0, .string ⟨#[]⟩] 28)).drew) (x4.heap.size) #[.int .i64 0, .int .i64 0, .bool false, .int .i64 0, .int .i64 0, .int .i64 0, .string ⟨#[]⟩] 28 := (blk_new _ _ rfl).drew
        generalize (x4.alloc (.cells #[.int .i64 0, .int .i64 0, .bool false, .int .i64 0, .int .i64 0, .int .i64 0, .string ⟨#[]⟩] 28)).drew = wa3 at hE hHeld ⊢
        refine wpAnyH_ready (rs := [3]) (by kernel_rfl) (by simp) ?_
        refine AllReadyH.cons rfl (fun K hK => ?_) AllReadyH.nil
        go_simp
        refine (HTO.out _).mono ?_
        rintro e wf ⟨rfl, hbf⟩
        replace hE := hE.after hbf
        refine hK.out _ _ (hHeld.trans (hbf.mono hHeld.size)) (fun hHeld => ?_)
        clear hK K
        try simp only [Act.put, List.getElem_toArray, List.getElem_cons_zero, List.getElem_cons_succ, List.setIfInBounds_toArray, List.set_cons_zero, List.set_cons_succ]
        refine wpAnyH_ready (rs := [5]) (by kernel_rfl) (by simp) ?_
        refine AllReadyH.cons rfl (fun K hK => ?_) AllReadyH.nil
        go_simp
        refine (HI.out _ _ _ (TX.out.after hHeld) HS2.out).mono ?_
        rintro e wi ⟨rfl, hbi⟩
        replace hE := hE.after hbi
        refine hK.out _ _ (hHeld.trans (hbi.mono hHeld.size)) (fun hHeld => ?_)
        clear hK K
        try simp only [Act.put, List.getElem_toArray, List.getElem_cons_zero, List.getElem_cons_succ, List.setIfInBounds_toArray, List.set_cons_zero, List.set_cons_succ]
        refine wpAnyH_take (i := 6) (v := ?v50) rfl (by kernel_rfl) (by kernel_rfl) (by kernel_rfl) (fun _ _ _ h => h) (Or.inl ⟨by rfl, ?h50⟩) hHeld ?r50
        case h50 => intro wq hS; go_simp; with_reducible rfl
        try simp only [Act.put, List.getElem_toArray, List.getElem_cons_zero, List.getElem_cons_succ, List.setIfInBounds_toArray, List.set_cons_zero, List.set_cons_succ]
        refine wpAnyH_take (i := 7) (v := ?v51) rfl (by kernel_rfl) (by kernel_rfl) (by kernel_rfl) (fun _ _ _ h => h) (Or.inl ⟨by rfl, ?h51⟩) hHeld ?r51
        case h51 => intro wq hS; go_simp; with_reducible rfl
        try simp only [Act.put, List.getElem_toArray, List.getElem_cons_zero, List.getElem_cons_succ, List.setIfInBounds_toArray, List.set_cons_zero, List.set_cons_succ]
        refine wpAnyH_take (i := 8) (v := ?v52) rfl (by kernel_rfl) (by kernel_rfl) (by kernel_rfl) (fun _ _ _ h => h) (Or.inl ⟨by rfl, ?h52⟩) hHeld ?r52
        case h52 => intro wq hS; go_simp; with_reducible rfl
        try simp only [Act.put, List.getElem_toArray, List.getElem_cons_zero, List.getElem_cons_succ, List.setIfInBounds_toArray, List.set_cons_zero, List.set_cons_succ]
        refine wpAnyH_ready (rs := [10]) (by kernel_rfl) (by simp) ?_
        refine AllReadyH.cons rfl (fun K hK => ?_) AllReadyH.nil
        refine step_store_row rfl 28 (.tmp 13) (.tmp 44) rfl (x4.heap.size) #[.int .i64 zdst, .int .i64 zsrc, .bool ztg, .int .i64 zfv, .int .i64 zfp, .int .i64 zty, .string zbody] rfl rfl 28 #[.int .i64 0, .int .i64 0, .bool false, .int .i64 0, .int .i64 0, .int .i64 0, .string ⟨#[]⟩] hE sizeFr rfl (by simp [Value.oneCell']) ?_
        have hF := Blk.row (cs := #[.int .i64 zdst, .int .i64 zsrc, .bool ztg, .int .i64 zfv, .int .i64 zfp, .int .i64 zty, .string zbody]) hE
        have hHq := Below.row hHeld hEl #[.int .i64 zdst, .int .i64 zsrc, .bool ztg, .int .i64 zfv, .int .i64 zfp, .int .i64 zty, .string zbody]
        refine hK.out _ _ (hHq) (fun hHeld => ?_)
        clear hK K
        try simp only [Act.put, List.getElem_toArray, List.getElem_cons_zero, List.getElem_cons_succ, List.setIfInBounds_toArray, List.set_cons_zero, List.set_cons_succ]
        refine wpAnyH_take (i := 11) (v := ?v53) rfl (by kernel_rfl) (by kernel_rfl) (by kernel_rfl) (fun _ _ _ h => h) (Or.inl ⟨by rfl, ?h53⟩) hHeld ?r53
        case h53 => intro wq hS; go_simp; with_reducible rfl
        try simp only [Act.put, List.getElem_toArray, List.getElem_cons_zero, List.getElem_cons_succ, List.setIfInBounds_toArray, List.set_cons_zero, List.set_cons_succ]
        refine wpAnyH_done (by kernel_rfl) ?_ _
        have HHE := Lib.hid hHeld; have HFF := Lib.hid hF; have HEL := Lib.hid hEl
        clear hHeld hF hEl hHq hE
        go_wp2_with fail
        go_meet
        exact ⟨_, rfl, rfl, HFF, HHE, HEL.out⟩
    case rest =>
      obtain ⟨e10, rfl, rfl, HKN, HBN, hle⟩ := hcut
      have hbq := HBN.out
      have TX := Lib.hid (TX.out.after hbq)
      have KA := Lib.hid (KA.out.after hbq)
      have KF := Lib.hid (KF.out.after hbq)
      have KW := Lib.hid (KW.out.after hbq)
      have KX := Lib.hid (KX.out.after hbq)
      have HB := Lib.hid (HB.out.trans (hbq.mono HB.out.size))
      clear hbq hle HBN
      generalize wc = y10 at *
      have KG := HKN
      clear HKN
      have kw0 : y10.cell? ⟨e8, 0, none⟩ = some (.int .i64 zdst) := KW.out.cell 0
      have kw1 : y10.cell? ⟨e8, 1, none⟩ = some (.int .i64 zsrc) := KW.out.cell 1
      have kw2 : y10.cell? ⟨e8, 2, none⟩ = some (.bool ztg) := KW.out.cell 2
      have kw3 : y10.cell? ⟨e8, 3, none⟩ = some (.int .i64 zfv) := KW.out.cell 3
      have kw4 : y10.cell? ⟨e8, 4, none⟩ = some (.int .i64 zfp) := KW.out.cell 4
      have kw5 : y10.cell? ⟨e8, 5, none⟩ = some (.int .i64 zty) := KW.out.cell 5
      have kw6 : y10.cell? ⟨e8, 6, none⟩ = some (.string zbody) := KW.out.cell 6
      have kwl : e8 < y10.heap.size := KW.out.lt
      have kg0 : y10.cell? ⟨e10, 0, none⟩ = some (.int .i64 zdst) := KG.out.cell 0
      have kg1 : y10.cell? ⟨e10, 1, none⟩ = some (.int .i64 zsrc) := KG.out.cell 1
      have kg2 : y10.cell? ⟨e10, 2, none⟩ = some (.bool ztg) := KG.out.cell 2
      have kg3 : y10.cell? ⟨e10, 3, none⟩ = some (.int .i64 zfv) := KG.out.cell 3
      have kg4 : y10.cell? ⟨e10, 4, none⟩ = some (.int .i64 zfp) := KG.out.cell 4
      have kg5 : y10.cell? ⟨e10, 5, none⟩ = some (.int .i64 zty) := KG.out.cell 5
      have kg6 : y10.cell? ⟨e10, 6, none⟩ = some (.string zbody) := KG.out.cell 6
      have kgl : e10 < y10.heap.size := KG.out.lt
      go_wp2_with fail
      refine (HEQ.out _).mono ?_
      rintro e x5 ⟨rfl, hbq⟩
      clear kw0 kw1 kw2 kw3 kw4 kw5 kw6 kwl kg0 kg1 kg2 kg3 kg4 kg5 kg6 kgl
      have TX := Lib.hid (TX.out.after hbq)
      have KA := Lib.hid (KA.out.after hbq)
      have KF := Lib.hid (KF.out.after hbq)
      have KW := Lib.hid (KW.out.after hbq)
      have KX := Lib.hid (KX.out.after hbq)
      have KG := Lib.hid (KG.out.after hbq)
      have HB := Lib.hid (HB.out.trans (hbq.mono HB.out.size))
      clear hbq
      have q2 : (r != r) = false := by simp
      go_wp2_with fail
      refine wp_region_held_drew (S := fun w' => Below x5.heap.size x5 w') (by kernel_rfl) (Below.drew (Below.refl _ _)) (fun hHeld => ?_)
      refine wpAnyH_take (i := 0) (v := ?v54) rfl (by kernel_rfl) (by kernel_rfl) (by kernel_rfl) (fun _ _ _ h => h) (Or.inl ⟨by rfl, ?h54⟩) hHeld ?r54
      case h54 => intro wq hS; have c0 : wq.cell? ⟨e4, 0, none⟩ = some (.int .i64 v3) := (KX.out.after hS).cell 0; have c1 : wq.cell? ⟨e4, 1, none⟩ = some (.slice a3 n3 c3) := (KX.out.after hS).cell 1; have c2 : wq.cell? ⟨e4, 2, none⟩ = some (.slice b3 m3 d3) := (KX.out.after hS).cell 2; have c3 : wq.cell? ⟨e4, 3, none⟩ = some (.int .i64 k3) := (KX.out.after hS).cell 3; go_simp; with_reducible rfl
      try simp only [Act.put, List.getElem_toArray, List.getElem_cons_zero, List.getElem_cons_succ, List.setIfInBounds_toArray, List.set_cons_zero, List.set_cons_succ]
      refine wpAnyH_take (i := 1) (v := ?v55) rfl (by kernel_rfl) (by kernel_rfl) (by kernel_rfl) (fun _ _ _ h => h) (Or.inl ⟨by rfl, ?h55⟩) hHeld ?r55
      case h55 => intro wq hS; have c0 : wq.cell? ⟨w.heap.size, 0, none⟩ = some (.int .i64 upv) := (KA.out.after hS).cell 0; have c1 : wq.cell? ⟨w.heap.size, 1, none⟩ = some (.slice ua uins.length uca) := (KA.out.after hS).cell 1; have c2 : wq.cell? ⟨w.heap.size, 2, none⟩ = some (.slice ub uplain.length ucb) := (KA.out.after hS).cell 2; have c3 : wq.cell? ⟨w.heap.size, 3, none⟩ = some (.int .i64 uac) := (KA.out.after hS).cell 3; go_simp; with_reducible rfl
      try simp only [Act.put, List.getElem_toArray, List.getElem_cons_zero, List.getElem_cons_succ, List.setIfInBounds_toArray, List.set_cons_zero, List.set_cons_succ]
      refine wpAnyH_ready (rs := [2]) (by kernel_rfl) (by simp) ?_
      refine AllReadyH.cons rfl (fun K hK => ?_) AllReadyH.nil
      go_simp
      refine (HT.out _ (HA.out.after (HB.out.trans (hHeld.mono HB.out.size))) HS1.out).mono ?_
      rintro e wt ⟨By, yv, ya, yn, yc, yb, ym, yd, yk, rfl, hY, hYn, hbt⟩
      refine hK.out _ _ (hHeld.trans (hbt.mono hHeld.size)) (fun hHeld => ?_)
      clear hK K
      try simp only [Act.put, List.getElem_toArray, List.getElem_cons_zero, List.getElem_cons_succ, List.setIfInBounds_toArray, List.set_cons_zero, List.set_cons_succ]
      refine wpAnyH_ready (rs := [3]) (by kernel_rfl) (by simp) ?_
      refine AllReadyH.cons rfl (fun K hK => ?_) AllReadyH.nil
      go_simp
      refine (eqPort_same (TX.out.after hHeld) hY).mono ?_
      rintro e we ⟨rfl, hbe⟩
      refine hK.out _ _ (hHeld.trans (hbe.mono hHeld.size)) (fun hHeld => ?_)
      clear hK K
      try simp only [Act.put, List.getElem_toArray, List.getElem_cons_zero, List.getElem_cons_succ, List.setIfInBounds_toArray, List.set_cons_zero, List.set_cons_succ]
      refine wpAnyH_take (i := 4) (v := ?v56) rfl (by kernel_rfl) (by kernel_rfl) (by kernel_rfl) (fun _ _ _ h => h) (Or.inl ⟨by rfl, ?h56⟩) hHeld ?r56
      case h56 => intro wq hS; go_simp; with_reducible rfl
      try simp only [Act.put, List.getElem_toArray, List.getElem_cons_zero, List.getElem_cons_succ, List.setIfInBounds_toArray, List.set_cons_zero, List.set_cons_succ]
      refine wpAnyH_done (by kernel_rfl) ?_ _
      have hfin := HB.out.trans (hHeld.mono HB.out.size)
      have HFIN := Lib.hid hfin
      clear hHeld hbt hbe hY hYn hfin
      go_wp2_with fail
      go_ret
      exact ⟨rfl, HFIN.out⟩
end Go.Proofs.Ytfkpecildcejkaa
