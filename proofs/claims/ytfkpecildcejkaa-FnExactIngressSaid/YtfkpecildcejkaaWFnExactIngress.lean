/- The walk of the exact law of Ingress. -/
import Derived.Test.YtfkpecildcejkaaPa
import Derived.Test.YtfkpecildcejkaaIo
import Derived.Test.YtfkpecildcejkaaIj
import Derived.Test.YtfkpecildcejkaaFrL
import Derived.Deep.RegionHeld3
import Derived.Deep.RegionWith
import Derived.Deep.DeepCutAuto
namespace Go.Proofs.Ytfkpecildcejkaa
open Go.RowKit

set_option linter.unusedVariables false in
set_option linter.unusedSimpArgs false in
set_option maxRecDepth 20000 in
set_option maxHeartbeats 2000000 in
theorem walk_FnExactIngress (x : PtA) (f : Fr) (hf : f.fits) (w : World) (hA : x.ok w) :
    Calls Try.prog 8 #[x.val, f.val] w fun e w' => e = .returned (.bool true) ∧ Below w.heap.size w w' := by
  obtain ⟨hA, hlen⟩ := hA
  have hfm := hf.2.2.2.2.2
  have hbr : ∀ (l : Int), 0 ≤ l → l ≤ 1048576 → ∀ w, Calls Try.prog 31 #[f.val, .int .i64 l] w _ := fun l h0 h1 w => szFrame_left f l w hfm h0 h1
  have hto := fun w => toFrame_any f w
  obtain ⟨p, hp⟩ : ∃ p, x.p = p := ⟨_, rfl⟩
  have hw := fun (w : World) (D : List Nat) (v : Value) (h : PIn w D v p) (hs : f.body.size ≤ 1048576) => show Calls Try.prog 20 #[v, f.val] w _ from by obtain ⟨_, _, hq⟩ := h.port; exact ingress_spec hq f hs
  have hi := fun (w : World) (D : List Nat) (v : Value) (h : PIn w D v p) (hs : f.body.size ≤ 1048576) => show Calls Try.prog 16 #[v, f.val] w _ from by obtain ⟨_, _, hq⟩ := h.port; exact ingress_impl hq f hs
  obtain ⟨r, hr⟩ : ∃ r, decide (mayIn p f) = r := ⟨_, rfl⟩
  obtain ⟨z, hz⟩ : ∃ z, (if mayIn p f then netOf p f else 0) = z := ⟨_, rfl⟩
  simp only [hp, hr, hz] at hw hi
  clear hr hz
  rw [hp] at hA hlen
  obtain ⟨ua, uca, ub, ucb, up⟩ := x
  simp only at hp
  subst hp
  have hv : (⟨ua, uca, ub, ucb, up⟩ : PtA).val = ptVal up.pvid ua up.ins.length uca ub up.plain.length ucb up.acc := rfl
  rw [hv] at hA ⊢
  obtain ⟨sq, hsq⟩ : ∃ s, up.ins.length + up.plain.length = s := ⟨_, rfl⟩
  have hz := fun w (h : PortArg w (ptVal up.pvid ua up.ins.length uca ub up.plain.length ucb up.acc) up) => szPort_in h hlen 1048576 (by decide) (by decide)
  simp only [hsq] at hz
  have ht := fun w (h : PortArg w (ptVal up.pvid ua up.ins.length uca ub up.plain.length ucb up.acc) up) (hs : sq ≤ 1048576) => toPort_in h (by rw [hsq]; exact hs)
  clear hsq
  obtain ⟨sb, hsb⟩ : ∃ s, f.body.size = s := ⟨_, rfl⟩
  simp only [hsb] at hbr hw hi
  clear hsb hf hfm hlen hv
  obtain ⟨udst, usrc, utg, ufv, ufp, uty, ubody⟩ := f
  generalize up = p at *
  have hpin : ∀ w D v, PIn w D v p → PIn w D v p := fun _ _ _ h => h
  obtain ⟨upv, uins, uplain, uac⟩ := p
  unfold ptVal Fr.val at *
  have hA0 := hA
  have hb : Below w.heap.size w ((w.alloc (.cells #[.int .i64 upv, .slice ua uins.length uca, .slice ub uplain.length ucb, .int .i64 uac] 44)).alloc (.cells #[.int .i64 udst, .int .i64 usrc, .bool utg, .int .i64 ufv, .int .i64 ufp, .int .i64 uty, .string ubody] 50)) := ((Below.refl _ _).alloc (Nat.le_refl _) _).alloc (by simp) _
  have gA : Blk ((w.alloc (.cells #[.int .i64 upv, .slice ua uins.length uca, .slice ub uplain.length ucb, .int .i64 uac] 44)).alloc (.cells #[.int .i64 udst, .int .i64 usrc, .bool utg, .int .i64 ufv, .int .i64 ufp, .int .i64 uty, .string ubody] 50)) w.heap.size #[.int .i64 upv, .slice ua uins.length uca, .slice ub uplain.length ucb, .int .i64 uac] 44 := (blk_new _ _ rfl).alloc _
  have gF : Blk ((w.alloc (.cells #[.int .i64 upv, .slice ua uins.length uca, .slice ub uplain.length ucb, .int .i64 uac] 44)).alloc (.cells #[.int .i64 udst, .int .i64 usrc, .bool utg, .int .i64 ufv, .int .i64 ufp, .int .i64 uty, .string ubody] 50)) (w.heap.size + 1) #[.int .i64 udst, .int .i64 usrc, .bool utg, .int .i64 ufv, .int .i64 ufp, .int .i64 uty, .string ubody] 50 := blk_new _ _ (by simp)
  have HA := Lib.hid hA; have HB := Lib.hid hb; have KA := Lib.hid gA; have KF := Lib.hid gF; have HZ := Lib.hid hz; have HT := Lib.hid ht; have HBR := Lib.hid hbr; have HTO := Lib.hid hto; have HW := Lib.hid hw; have HI := Lib.hid hi
  clear hA hA0 hb gA gF hz ht hbr hto hw hi hpin
  go_enter Try.func8, Try.ntmps8
  go_wp2_with fail
  generalize ((w.alloc (.cells #[.int .i64 upv, .slice ua uins.length uca, .slice ub uplain.length ucb, .int .i64 uac] 44)).alloc (.cells #[.int .i64 udst, .int .i64 usrc, .bool utg, .int .i64 ufv, .int .i64 ufp, .int .i64 uty, .string ubody] 50)) = x0 at HB KA KF ⊢
  refine (HZ.out _ (HA.out.after HB.out)).mono ?_
  rintro e x1 ⟨rfl, hbq⟩
  have KA := Lib.hid (KA.out.after hbq)
  have KF := Lib.hid (KF.out.after hbq)
  have HB := Lib.hid (HB.out.trans (hbq.mono HB.out.size))
  clear hbq
  by_cases hsz : (sq : Int) ≤ 1048576
  case neg =>
    rw [if_neg hsz]
    have ka0 : x1.cell? ⟨w.heap.size, 0, none⟩ = some (.int .i64 upv) := KA.out.cell 0
    have ka1 : x1.cell? ⟨w.heap.size, 1, none⟩ = some (.slice ua uins.length uca) := KA.out.cell 1
    have ka2 : x1.cell? ⟨w.heap.size, 2, none⟩ = some (.slice ub uplain.length ucb) := KA.out.cell 2
    have ka3 : x1.cell? ⟨w.heap.size, 3, none⟩ = some (.int .i64 uac) := KA.out.cell 3
    have kal : w.heap.size < x1.heap.size := KA.out.lt
    have kf0 : x1.cell? ⟨w.heap.size + 1, 0, none⟩ = some (.int .i64 udst) := KF.out.cell 0
    have kf1 : x1.cell? ⟨w.heap.size + 1, 1, none⟩ = some (.int .i64 usrc) := KF.out.cell 1
    have kf2 : x1.cell? ⟨w.heap.size + 1, 2, none⟩ = some (.bool utg) := KF.out.cell 2
    have kf3 : x1.cell? ⟨w.heap.size + 1, 3, none⟩ = some (.int .i64 ufv) := KF.out.cell 3
    have kf4 : x1.cell? ⟨w.heap.size + 1, 4, none⟩ = some (.int .i64 ufp) := KF.out.cell 4
    have kf5 : x1.cell? ⟨w.heap.size + 1, 5, none⟩ = some (.int .i64 uty) := KF.out.cell 5
    have kf6 : x1.cell? ⟨w.heap.size + 1, 6, none⟩ = some (.string ubody) := KF.out.cell 6
    have kfl : w.heap.size + 1 < x1.heap.size := KF.out.lt
    go_wp2_with fail
    go_ret
    exact ⟨rfl, HB.out⟩
  rw [if_pos hsz]
  have hq : ¬ (1048576 - (sq : Int) < 0) := by omega
  have ka0 : x1.cell? ⟨w.heap.size, 0, none⟩ = some (.int .i64 upv) := KA.out.cell 0
  have ka1 : x1.cell? ⟨w.heap.size, 1, none⟩ = some (.slice ua uins.length uca) := KA.out.cell 1
  have ka2 : x1.cell? ⟨w.heap.size, 2, none⟩ = some (.slice ub uplain.length ucb) := KA.out.cell 2
  have ka3 : x1.cell? ⟨w.heap.size, 3, none⟩ = some (.int .i64 uac) := KA.out.cell 3
  have kal : w.heap.size < x1.heap.size := KA.out.lt
  have kf0 : x1.cell? ⟨w.heap.size + 1, 0, none⟩ = some (.int .i64 udst) := KF.out.cell 0
  have kf1 : x1.cell? ⟨w.heap.size + 1, 1, none⟩ = some (.int .i64 usrc) := KF.out.cell 1
  have kf2 : x1.cell? ⟨w.heap.size + 1, 2, none⟩ = some (.bool utg) := KF.out.cell 2
  have kf3 : x1.cell? ⟨w.heap.size + 1, 3, none⟩ = some (.int .i64 ufv) := KF.out.cell 3
  have kf4 : x1.cell? ⟨w.heap.size + 1, 4, none⟩ = some (.int .i64 ufp) := KF.out.cell 4
  have kf5 : x1.cell? ⟨w.heap.size + 1, 5, none⟩ = some (.int .i64 uty) := KF.out.cell 5
  have kf6 : x1.cell? ⟨w.heap.size + 1, 6, none⟩ = some (.string ubody) := KF.out.cell 6
  have kfl : w.heap.size + 1 < x1.heap.size := KF.out.lt
  go_wp2_with fail
  clear hq
  refine (HBR.out (1048576 - (sq : Int)) (by omega) (by omega) _).mono ?_
  rintro e x2 ⟨rfl, hbq⟩
  clear ka0 ka1 ka2 ka3 kal kf0 kf1 kf2 kf3 kf4 kf5 kf6 kfl
  have KA := Lib.hid (KA.out.after hbq)
  have KF := Lib.hid (KF.out.after hbq)
  have HB := Lib.hid (HB.out.trans (hbq.mono HB.out.size))
  clear hbq
  by_cases hsz2 : (sb : Int) ≤ 1048576 - (sq : Int)
  case neg =>
    rw [if_neg hsz2]
    have ka0 : x2.cell? ⟨w.heap.size, 0, none⟩ = some (.int .i64 upv) := KA.out.cell 0
    have ka1 : x2.cell? ⟨w.heap.size, 1, none⟩ = some (.slice ua uins.length uca) := KA.out.cell 1
    have ka2 : x2.cell? ⟨w.heap.size, 2, none⟩ = some (.slice ub uplain.length ucb) := KA.out.cell 2
    have ka3 : x2.cell? ⟨w.heap.size, 3, none⟩ = some (.int .i64 uac) := KA.out.cell 3
    have kal : w.heap.size < x2.heap.size := KA.out.lt
    have kf0 : x2.cell? ⟨w.heap.size + 1, 0, none⟩ = some (.int .i64 udst) := KF.out.cell 0
    have kf1 : x2.cell? ⟨w.heap.size + 1, 1, none⟩ = some (.int .i64 usrc) := KF.out.cell 1
    have kf2 : x2.cell? ⟨w.heap.size + 1, 2, none⟩ = some (.bool utg) := KF.out.cell 2
    have kf3 : x2.cell? ⟨w.heap.size + 1, 3, none⟩ = some (.int .i64 ufv) := KF.out.cell 3
    have kf4 : x2.cell? ⟨w.heap.size + 1, 4, none⟩ = some (.int .i64 ufp) := KF.out.cell 4
    have kf5 : x2.cell? ⟨w.heap.size + 1, 5, none⟩ = some (.int .i64 uty) := KF.out.cell 5
    have kf6 : x2.cell? ⟨w.heap.size + 1, 6, none⟩ = some (.string ubody) := KF.out.cell 6
    have kfl : w.heap.size + 1 < x2.heap.size := KF.out.lt
    go_wp2_with fail
    go_ret
    exact ⟨rfl, HB.out⟩
  rw [if_pos hsz2]
  have hq : ¬ (1048576 - (sq : Int) - (sb : Int) < 0) := by omega
  have ka0 : x2.cell? ⟨w.heap.size, 0, none⟩ = some (.int .i64 upv) := KA.out.cell 0
  have ka1 : x2.cell? ⟨w.heap.size, 1, none⟩ = some (.slice ua uins.length uca) := KA.out.cell 1
  have ka2 : x2.cell? ⟨w.heap.size, 2, none⟩ = some (.slice ub uplain.length ucb) := KA.out.cell 2
  have ka3 : x2.cell? ⟨w.heap.size, 3, none⟩ = some (.int .i64 uac) := KA.out.cell 3
  have kal : w.heap.size < x2.heap.size := KA.out.lt
  have kf0 : x2.cell? ⟨w.heap.size + 1, 0, none⟩ = some (.int .i64 udst) := KF.out.cell 0
  have kf1 : x2.cell? ⟨w.heap.size + 1, 1, none⟩ = some (.int .i64 usrc) := KF.out.cell 1
  have kf2 : x2.cell? ⟨w.heap.size + 1, 2, none⟩ = some (.bool utg) := KF.out.cell 2
  have kf3 : x2.cell? ⟨w.heap.size + 1, 3, none⟩ = some (.int .i64 ufv) := KF.out.cell 3
  have kf4 : x2.cell? ⟨w.heap.size + 1, 4, none⟩ = some (.int .i64 ufp) := KF.out.cell 4
  have kf5 : x2.cell? ⟨w.heap.size + 1, 5, none⟩ = some (.int .i64 uty) := KF.out.cell 5
  have kf6 : x2.cell? ⟨w.heap.size + 1, 6, none⟩ = some (.string ubody) := KF.out.cell 6
  have kfl : w.heap.size + 1 < x2.heap.size := KF.out.lt
  go_wp2_with fail
  clear hq
  have hs1 : sq ≤ 1048576 := by omega
  have hs2 : sb ≤ 1048576 := by omega
  have HS1 := Lib.hid hs1; have HS2 := Lib.hid hs2
  clear hs1 hs2 hsz hsz2
  clear ka0 ka1 ka2 ka3 kal kf0 kf1 kf2 kf3 kf4 kf5 kf6 kfl
  go_wp2_with fail
  refine wp_region_held_drew (S := fun w' => Below x2.heap.size x2 w') (by kernel_rfl) (Below.drew (Below.refl _ _)) (fun hHeld => ?_)
  refine wpAnyH_take (i := 0) (v := ?v1) rfl (by kernel_rfl) (by kernel_rfl) (by kernel_rfl) (fun _ _ _ h => h) (Or.inl ⟨by rfl, ?h1⟩) hHeld ?r1
  case h1 => intro wq hS; have c0 : wq.cell? ⟨w.heap.size, 0, none⟩ = some (.int .i64 upv) := (KA.out.after hS).cell 0; have c1 : wq.cell? ⟨w.heap.size, 1, none⟩ = some (.slice ua uins.length uca) := (KA.out.after hS).cell 1; have c2 : wq.cell? ⟨w.heap.size, 2, none⟩ = some (.slice ub uplain.length ucb) := (KA.out.after hS).cell 2; have c3 : wq.cell? ⟨w.heap.size, 3, none⟩ = some (.int .i64 uac) := (KA.out.after hS).cell 3; go_simp; with_reducible rfl
  try simp only [Act.put, List.getElem_toArray, List.getElem_cons_zero, List.getElem_cons_succ, List.setIfInBounds_toArray, List.set_cons_zero, List.set_cons_succ]
  refine wpAnyH_take (i := 2) (v := ?v2) rfl (by kernel_rfl) (by kernel_rfl) (by kernel_rfl) (fun _ _ _ h => h) (Or.inl ⟨by rfl, ?h2⟩) hHeld ?r2
  case h2 => intro wq hS; have c0 : wq.cell? ⟨w.heap.size + 1, 0, none⟩ = some (.int .i64 udst) := (KF.out.after hS).cell 0; have c1 : wq.cell? ⟨w.heap.size + 1, 1, none⟩ = some (.int .i64 usrc) := (KF.out.after hS).cell 1; have c2 : wq.cell? ⟨w.heap.size + 1, 2, none⟩ = some (.bool utg) := (KF.out.after hS).cell 2; have c3 : wq.cell? ⟨w.heap.size + 1, 3, none⟩ = some (.int .i64 ufv) := (KF.out.after hS).cell 3; have c4 : wq.cell? ⟨w.heap.size + 1, 4, none⟩ = some (.int .i64 ufp) := (KF.out.after hS).cell 4; have c5 : wq.cell? ⟨w.heap.size + 1, 5, none⟩ = some (.int .i64 uty) := (KF.out.after hS).cell 5; have c6 : wq.cell? ⟨w.heap.size + 1, 6, none⟩ = some (.string ubody) := (KF.out.after hS).cell 6; go_simp; with_reducible rfl
  try simp only [Act.put, List.getElem_toArray, List.getElem_cons_zero, List.getElem_cons_succ, List.setIfInBounds_toArray, List.set_cons_zero, List.set_cons_succ]
  refine wpAnyH_ready (rs := [1]) (by kernel_rfl) (by simp) ?_
  refine AllReadyH.cons rfl (fun K hK => ?_) AllReadyH.nil
  go_simp
  refine (HT.out _ (HA.out.after (HB.out.trans (hHeld.mono HB.out.size))) HS1.out).mono ?_
  rintro e wt ⟨Dt, tv, ta, tn, tc, tb, tm, td, tk, rfl, hTp, _, hbt⟩
  refine hK.out _ _ (hHeld.trans (hbt.mono hHeld.size)) (fun hHeld => ?_)
  clear hK K
  try simp only [Act.put, List.getElem_toArray, List.getElem_cons_zero, List.getElem_cons_succ, List.setIfInBounds_toArray, List.set_cons_zero, List.set_cons_succ]
  refine wpAnyH_ready (rs := [3]) (by kernel_rfl) (by simp) ?_
  refine AllReadyH.cons rfl (fun K hK => ?_) AllReadyH.nil
  go_simp
  refine (HTO.out _).mono ?_
  rintro e wf ⟨rfl, hbf⟩
  refine hK.out _ _ (hHeld.trans (hbf.mono hHeld.size)) (fun hHeld => ?_)
  clear hK K
  try simp only [Act.put, List.getElem_toArray, List.getElem_cons_zero, List.getElem_cons_succ, List.setIfInBounds_toArray, List.set_cons_zero, List.set_cons_succ]
  refine wpAnyH_ready (rs := [4]) (by kernel_rfl) (by simp) ?_
  refine AllReadyH.cons rfl (fun K hK => ?_) AllReadyH.nil
  go_simp
  refine (HW.out _ _ _ (hTp.after hbf) HS2.out).mono ?_
  rintro e ws ⟨rfl, hbs⟩
  refine hK.out _ _ (hHeld.trans (hbs.mono hHeld.size)) (fun hHeld => ?_)
  clear hK K
  try simp only [Act.put, List.getElem_toArray, List.getElem_cons_zero, List.getElem_cons_succ, List.setIfInBounds_toArray, List.set_cons_zero, List.set_cons_succ]
  refine wpAnyH_take (i := 5) (v := ?v3) rfl (by kernel_rfl) (by kernel_rfl) (by kernel_rfl) (fun _ _ _ h => h) (Or.inl ⟨by rfl, ?h3⟩) hHeld ?r3
  case h3 => intro wq hS; go_simp; with_reducible rfl
  try simp only [Act.put, List.getElem_toArray, List.getElem_cons_zero, List.getElem_cons_succ, List.setIfInBounds_toArray, List.set_cons_zero, List.set_cons_succ]
  refine wpAnyH_take (i := 6) (v := ?v4) rfl (by kernel_rfl) (by kernel_rfl) (by kernel_rfl) (fun _ _ _ h => h) (Or.inl ⟨by rfl, ?h4⟩) hHeld ?r4
  case h4 => intro wq hS; go_simp; with_reducible rfl
  try simp only [Act.put, List.getElem_toArray, List.getElem_cons_zero, List.getElem_cons_succ, List.setIfInBounds_toArray, List.set_cons_zero, List.set_cons_succ]
  refine wpAnyH_take (i := 7) (v := ?v5) rfl (by kernel_rfl) (by kernel_rfl) (by kernel_rfl) (fun _ _ _ h => h) (Or.inl ⟨by rfl, ?h5⟩) hHeld ?r5
  case h5 => intro wq hS; go_simp; with_reducible rfl
  try simp only [Act.put, List.getElem_toArray, List.getElem_cons_zero, List.getElem_cons_succ, List.setIfInBounds_toArray, List.set_cons_zero, List.set_cons_succ]
  refine wpAnyH_take (i := 8) (v := ?v6) rfl (by kernel_rfl) (by kernel_rfl) (by kernel_rfl) (fun _ _ _ h => h) (Or.inl ⟨by rfl, ?h6⟩) hHeld ?r6
  case h6 => intro wq hS; go_simp; with_reducible rfl
  try simp only [Act.put, List.getElem_toArray, List.getElem_cons_zero, List.getElem_cons_succ, List.setIfInBounds_toArray, List.set_cons_zero, List.set_cons_succ]
  refine wpAnyH_take (i := 9) (v := ?v7) rfl (by kernel_rfl) (by kernel_rfl) (by kernel_rfl) (fun _ _ _ h => h) (Or.inl ⟨by rfl, ?h7⟩) hHeld ?r7
  case h7 => intro wq hS; go_simp; with_reducible rfl
  try simp only [Act.put, List.getElem_toArray, List.getElem_cons_zero, List.getElem_cons_succ, List.setIfInBounds_toArray, List.set_cons_zero, List.set_cons_succ]
  refine wpAnyH_done (by kernel_rfl) ?_ _
  have hq := hHeld
  clear hbt hbf hbs hTp
  clear hHeld
  have KA := Lib.hid (KA.out.after hq)
  have KF := Lib.hid (KF.out.after hq)
  have HB := Lib.hid (HB.out.trans (hq.mono HB.out.size))
  clear hq
  have ka0 : ws.cell? ⟨w.heap.size, 0, none⟩ = some (.int .i64 upv) := KA.out.cell 0
  have ka1 : ws.cell? ⟨w.heap.size, 1, none⟩ = some (.slice ua uins.length uca) := KA.out.cell 1
  have ka2 : ws.cell? ⟨w.heap.size, 2, none⟩ = some (.slice ub uplain.length ucb) := KA.out.cell 2
  have ka3 : ws.cell? ⟨w.heap.size, 3, none⟩ = some (.int .i64 uac) := KA.out.cell 3
  have kal : w.heap.size < ws.heap.size := KA.out.lt
  go_wp2_with fail
  refine (HT.out _ (HA.out.after HB.out) HS1.out).mono ?_
  rintro e x3 ⟨D3, v3, a3, n3, c3, b3, m3, d3, k3, rfl, hTq, hCq, hbq⟩
  clear ka0 ka1 ka2 ka3 kal
  have KA := Lib.hid (KA.out.after hbq)
  have KF := Lib.hid (KF.out.after hbq)
  have HB := Lib.hid (HB.out.trans (hbq.mono HB.out.size))
  have TX := Lib.hid hTq
  clear hTq hCq hbq
  have hbq : Below x3.heap.size x3 (x3.alloc (.cells #[.int .i64 v3, .slice a3 n3 c3, .slice b3 m3 d3, .int .i64 k3] 26)) := (Below.refl _ _).alloc (Nat.le_refl _) _
  have hnq : Blk (x3.alloc (.cells #[.int .i64 v3, .slice a3 n3 c3, .slice b3 m3 d3, .int .i64 k3] 26)) x3.heap.size #[.int .i64 v3, .slice a3 n3 c3, .slice b3 m3 d3, .int .i64 k3] 26 := blk_new _ _ rfl
  have TX := Lib.hid (TX.out.after hbq)
  have KA := Lib.hid (KA.out.after hbq)
  have KF := Lib.hid (KF.out.after hbq)
  have HB := Lib.hid (HB.out.trans (hbq.mono HB.out.size))
  have KX := Lib.hid hnq
  clear hbq hnq
  have ka0 : (x3.alloc (.cells #[.int .i64 v3, .slice a3 n3 c3, .slice b3 m3 d3, .int .i64 k3] 26)).cell? ⟨w.heap.size, 0, none⟩ = some (.int .i64 upv) := KA.out.cell 0
  have ka1 : (x3.alloc (.cells #[.int .i64 v3, .slice a3 n3 c3, .slice b3 m3 d3, .int .i64 k3] 26)).cell? ⟨w.heap.size, 1, none⟩ = some (.slice ua uins.length uca) := KA.out.cell 1
  have ka2 : (x3.alloc (.cells #[.int .i64 v3, .slice a3 n3 c3, .slice b3 m3 d3, .int .i64 k3] 26)).cell? ⟨w.heap.size, 2, none⟩ = some (.slice ub uplain.length ucb) := KA.out.cell 2
  have ka3 : (x3.alloc (.cells #[.int .i64 v3, .slice a3 n3 c3, .slice b3 m3 d3, .int .i64 k3] 26)).cell? ⟨w.heap.size, 3, none⟩ = some (.int .i64 uac) := KA.out.cell 3
  have kal : w.heap.size < (x3.alloc (.cells #[.int .i64 v3, .slice a3 n3 c3, .slice b3 m3 d3, .int .i64 k3] 26)).heap.size := KA.out.lt
  have kf0 : (x3.alloc (.cells #[.int .i64 v3, .slice a3 n3 c3, .slice b3 m3 d3, .int .i64 k3] 26)).cell? ⟨w.heap.size + 1, 0, none⟩ = some (.int .i64 udst) := KF.out.cell 0
  have kf1 : (x3.alloc (.cells #[.int .i64 v3, .slice a3 n3 c3, .slice b3 m3 d3, .int .i64 k3] 26)).cell? ⟨w.heap.size + 1, 1, none⟩ = some (.int .i64 usrc) := KF.out.cell 1
  have kf2 : (x3.alloc (.cells #[.int .i64 v3, .slice a3 n3 c3, .slice b3 m3 d3, .int .i64 k3] 26)).cell? ⟨w.heap.size + 1, 2, none⟩ = some (.bool utg) := KF.out.cell 2
  have kf3 : (x3.alloc (.cells #[.int .i64 v3, .slice a3 n3 c3, .slice b3 m3 d3, .int .i64 k3] 26)).cell? ⟨w.heap.size + 1, 3, none⟩ = some (.int .i64 ufv) := KF.out.cell 3
  have kf4 : (x3.alloc (.cells #[.int .i64 v3, .slice a3 n3 c3, .slice b3 m3 d3, .int .i64 k3] 26)).cell? ⟨w.heap.size + 1, 4, none⟩ = some (.int .i64 ufp) := KF.out.cell 4
  have kf5 : (x3.alloc (.cells #[.int .i64 v3, .slice a3 n3 c3, .slice b3 m3 d3, .int .i64 k3] 26)).cell? ⟨w.heap.size + 1, 5, none⟩ = some (.int .i64 uty) := KF.out.cell 5
  have kf6 : (x3.alloc (.cells #[.int .i64 v3, .slice a3 n3 c3, .slice b3 m3 d3, .int .i64 k3] 26)).cell? ⟨w.heap.size + 1, 6, none⟩ = some (.string ubody) := KF.out.cell 6
  have kfl : w.heap.size + 1 < (x3.alloc (.cells #[.int .i64 v3, .slice a3 n3 c3, .slice b3 m3 d3, .int .i64 k3] 26)).heap.size := KF.out.lt
  have kx0 : (x3.alloc (.cells #[.int .i64 v3, .slice a3 n3 c3, .slice b3 m3 d3, .int .i64 k3] 26)).cell? ⟨x3.heap.size, 0, none⟩ = some (.int .i64 v3) := KX.out.cell 0
  have kx1 : (x3.alloc (.cells #[.int .i64 v3, .slice a3 n3 c3, .slice b3 m3 d3, .int .i64 k3] 26)).cell? ⟨x3.heap.size, 1, none⟩ = some (.slice a3 n3 c3) := KX.out.cell 1
  have kx2 : (x3.alloc (.cells #[.int .i64 v3, .slice a3 n3 c3, .slice b3 m3 d3, .int .i64 k3] 26)).cell? ⟨x3.heap.size, 2, none⟩ = some (.slice b3 m3 d3) := KX.out.cell 2
  have kx3 : (x3.alloc (.cells #[.int .i64 v3, .slice a3 n3 c3, .slice b3 m3 d3, .int .i64 k3] 26)).cell? ⟨x3.heap.size, 3, none⟩ = some (.int .i64 k3) := KX.out.cell 3
  have kxl : x3.heap.size < (x3.alloc (.cells #[.int .i64 v3, .slice a3 n3 c3, .slice b3 m3 d3, .int .i64 k3] 26)).heap.size := KX.out.lt
  go_wp2_with fail
  clear ka0 ka1 ka2 ka3 kal kf0 kf1 kf2 kf3 kf4 kf5 kf6 kfl kx0 kx1 kx2 kx3 kxl
  generalize (x3.alloc (.cells #[.int .i64 v3, .slice a3 n3 c3, .slice b3 m3 d3, .int .i64 k3] 26)) = x4 at TX KA KF KX HB ⊢
  generalize x3.heap.size = e4 at TX KA KF KX HB ⊢
  go_wp2_with fail
  refine wp_region_held_drew (S := fun w' => Below x4.heap.size x4 w') (by kernel_rfl) (Below.drew (Below.refl _ _)) (fun hHeld => ?_)
  refine wpAnyH_take (i := 0) (v := ?v8) rfl (by kernel_rfl) (by kernel_rfl) (by kernel_rfl) (fun _ _ _ h => h) (Or.inl ⟨by rfl, ?h8⟩) hHeld ?r8
  case h8 => intro wq hS; have c0 : wq.cell? ⟨e4, 0, none⟩ = some (.int .i64 v3) := (KX.out.after hS).cell 0; have c1 : wq.cell? ⟨e4, 1, none⟩ = some (.slice a3 n3 c3) := (KX.out.after hS).cell 1; have c2 : wq.cell? ⟨e4, 2, none⟩ = some (.slice b3 m3 d3) := (KX.out.after hS).cell 2; have c3 : wq.cell? ⟨e4, 3, none⟩ = some (.int .i64 k3) := (KX.out.after hS).cell 3; go_simp; with_reducible rfl
  try simp only [Act.put, List.getElem_toArray, List.getElem_cons_zero, List.getElem_cons_succ, List.setIfInBounds_toArray, List.set_cons_zero, List.set_cons_succ]
  refine wpAnyH_take (i := 1) (v := ?v9) rfl (by kernel_rfl) (by kernel_rfl) (by kernel_rfl) (fun _ _ _ h => h) (Or.inl ⟨by rfl, ?h9⟩) hHeld ?r9
  case h9 => intro wq hS; have c0 : wq.cell? ⟨w.heap.size + 1, 0, none⟩ = some (.int .i64 udst) := (KF.out.after hS).cell 0; have c1 : wq.cell? ⟨w.heap.size + 1, 1, none⟩ = some (.int .i64 usrc) := (KF.out.after hS).cell 1; have c2 : wq.cell? ⟨w.heap.size + 1, 2, none⟩ = some (.bool utg) := (KF.out.after hS).cell 2; have c3 : wq.cell? ⟨w.heap.size + 1, 3, none⟩ = some (.int .i64 ufv) := (KF.out.after hS).cell 3; have c4 : wq.cell? ⟨w.heap.size + 1, 4, none⟩ = some (.int .i64 ufp) := (KF.out.after hS).cell 4; have c5 : wq.cell? ⟨w.heap.size + 1, 5, none⟩ = some (.int .i64 uty) := (KF.out.after hS).cell 5; have c6 : wq.cell? ⟨w.heap.size + 1, 6, none⟩ = some (.string ubody) := (KF.out.after hS).cell 6; go_simp; with_reducible rfl
  try simp only [Act.put, List.getElem_toArray, List.getElem_cons_zero, List.getElem_cons_succ, List.setIfInBounds_toArray, List.set_cons_zero, List.set_cons_succ]
  refine wpAnyH_ready (rs := [2]) (by kernel_rfl) (by simp) ?_
  refine AllReadyH.cons rfl (fun K hK => ?_) AllReadyH.nil
  go_simp
  refine (HTO.out _).mono ?_
  rintro e wf ⟨rfl, hbf⟩
  refine hK.out _ _ (hHeld.trans (hbf.mono hHeld.size)) (fun hHeld => ?_)
  clear hK K
  try simp only [Act.put, List.getElem_toArray, List.getElem_cons_zero, List.getElem_cons_succ, List.setIfInBounds_toArray, List.set_cons_zero, List.set_cons_succ]
  refine wpAnyH_ready (rs := [3]) (by kernel_rfl) (by simp) ?_
  refine AllReadyH.cons rfl (fun K hK => ?_) AllReadyH.nil
  go_simp
  refine (HI.out _ _ _ (TX.out.after hHeld) HS2.out).mono ?_
  rintro e wi ⟨rfl, hbi⟩
  refine hK.out _ _ (hHeld.trans (hbi.mono hHeld.size)) (fun hHeld => ?_)
  clear hK K
  try simp only [Act.put, List.getElem_toArray, List.getElem_cons_zero, List.getElem_cons_succ, List.setIfInBounds_toArray, List.set_cons_zero, List.set_cons_succ]
  refine wpAnyH_take (i := 4) (v := ?v10) rfl (by kernel_rfl) (by kernel_rfl) (by kernel_rfl) (fun _ _ _ h => h) (Or.inl ⟨by rfl, ?h10⟩) hHeld ?r10
  case h10 => intro wq hS; go_simp; with_reducible rfl
  try simp only [Act.put, List.getElem_toArray, List.getElem_cons_zero, List.getElem_cons_succ, List.setIfInBounds_toArray, List.set_cons_zero, List.set_cons_succ]
  refine wpAnyH_take (i := 5) (v := ?v11) rfl (by kernel_rfl) (by kernel_rfl) (by kernel_rfl) (fun _ _ _ h => h) (Or.inl ⟨by rfl, ?h11⟩) hHeld ?r11
  case h11 => intro wq hS; go_simp; with_reducible rfl
  try simp only [Act.put, List.getElem_toArray, List.getElem_cons_zero, List.getElem_cons_succ, List.setIfInBounds_toArray, List.set_cons_zero, List.set_cons_succ]
  refine wpAnyH_take (i := 6) (v := ?v12) rfl (by kernel_rfl) (by kernel_rfl) (by kernel_rfl) (fun _ _ _ h => h) (Or.inl ⟨by rfl, ?h12⟩) hHeld ?r12
  case h12 => intro wq hS; go_simp; with_reducible rfl
  try simp only [Act.put, List.getElem_toArray, List.getElem_cons_zero, List.getElem_cons_succ, List.setIfInBounds_toArray, List.set_cons_zero, List.set_cons_succ]
  refine wpAnyH_take (i := 7) (v := ?v13) rfl (by kernel_rfl) (by kernel_rfl) (by kernel_rfl) (fun _ _ _ h => h) (Or.inl ⟨by rfl, ?h13⟩) hHeld ?r13
  case h13 => intro wq hS; go_simp; with_reducible rfl
  try simp only [Act.put, List.getElem_toArray, List.getElem_cons_zero, List.getElem_cons_succ, List.setIfInBounds_toArray, List.set_cons_zero, List.set_cons_succ]
  refine wpAnyH_take (i := 8) (v := ?v14) rfl (by kernel_rfl) (by kernel_rfl) (by kernel_rfl) (fun _ _ _ h => h) (Or.inl ⟨by rfl, ?h14⟩) hHeld ?r14
  case h14 => intro wq hS; go_simp; with_reducible rfl
  try simp only [Act.put, List.getElem_toArray, List.getElem_cons_zero, List.getElem_cons_succ, List.setIfInBounds_toArray, List.set_cons_zero, List.set_cons_succ]
  refine wpAnyH_done (by kernel_rfl) ?_ _
  have hq := hHeld
  clear hbf hbi
  clear hHeld
  have TX := Lib.hid (TX.out.after hq)
  have KA := Lib.hid (KA.out.after hq)
  have KF := Lib.hid (KF.out.after hq)
  have KX := Lib.hid (KX.out.after hq)
  have HB := Lib.hid (HB.out.trans (hq.mono HB.out.size))
  clear hq
  have q1 : (z != z) = false := by simp
  have q2 : (r != r) = false := by simp
  go_wp2_with fail
  refine wp_region_held_drew (S := fun w' => Below wi.heap.size wi w') (by kernel_rfl) (Below.drew (Below.refl _ _)) (fun hHeld => ?_)
  refine wpAnyH_take (i := 0) (v := ?v15) rfl (by kernel_rfl) (by kernel_rfl) (by kernel_rfl) (fun _ _ _ h => h) (Or.inl ⟨by rfl, ?h15⟩) hHeld ?r15
  case h15 => intro wq hS; have c0 : wq.cell? ⟨e4, 0, none⟩ = some (.int .i64 v3) := (KX.out.after hS).cell 0; have c1 : wq.cell? ⟨e4, 1, none⟩ = some (.slice a3 n3 c3) := (KX.out.after hS).cell 1; have c2 : wq.cell? ⟨e4, 2, none⟩ = some (.slice b3 m3 d3) := (KX.out.after hS).cell 2; have c3 : wq.cell? ⟨e4, 3, none⟩ = some (.int .i64 k3) := (KX.out.after hS).cell 3; go_simp; with_reducible rfl
  try simp only [Act.put, List.getElem_toArray, List.getElem_cons_zero, List.getElem_cons_succ, List.setIfInBounds_toArray, List.set_cons_zero, List.set_cons_succ]
  refine wpAnyH_take (i := 1) (v := ?v16) rfl (by kernel_rfl) (by kernel_rfl) (by kernel_rfl) (fun _ _ _ h => h) (Or.inl ⟨by rfl, ?h16⟩) hHeld ?r16
  case h16 => intro wq hS; have c0 : wq.cell? ⟨w.heap.size, 0, none⟩ = some (.int .i64 upv) := (KA.out.after hS).cell 0; have c1 : wq.cell? ⟨w.heap.size, 1, none⟩ = some (.slice ua uins.length uca) := (KA.out.after hS).cell 1; have c2 : wq.cell? ⟨w.heap.size, 2, none⟩ = some (.slice ub uplain.length ucb) := (KA.out.after hS).cell 2; have c3 : wq.cell? ⟨w.heap.size, 3, none⟩ = some (.int .i64 uac) := (KA.out.after hS).cell 3; go_simp; with_reducible rfl
  try simp only [Act.put, List.getElem_toArray, List.getElem_cons_zero, List.getElem_cons_succ, List.setIfInBounds_toArray, List.set_cons_zero, List.set_cons_succ]
  refine wpAnyH_ready (rs := [2]) (by kernel_rfl) (by simp) ?_
  refine AllReadyH.cons rfl (fun K hK => ?_) AllReadyH.nil
  go_simp
  refine (HT.out _ (HA.out.after (HB.out.trans (hHeld.mono HB.out.size))) HS1.out).mono ?_
  rintro e wt ⟨By, yv, ya, yn, yc, yb, ym, yd, yk, rfl, hY, hYn, hbt⟩
  refine hK.out _ _ (hHeld.trans (hbt.mono hHeld.size)) (fun hHeld => ?_)
  clear hK K
  try simp only [Act.put, List.getElem_toArray, List.getElem_cons_zero, List.getElem_cons_succ, List.setIfInBounds_toArray, List.set_cons_zero, List.set_cons_succ]
  refine wpAnyH_ready (rs := [3]) (by kernel_rfl) (by simp) ?_
  refine AllReadyH.cons rfl (fun K hK => ?_) AllReadyH.nil
  go_simp
  refine (eqPort_same (TX.out.after hHeld) hY).mono ?_
  rintro e we ⟨rfl, hbe⟩
  refine hK.out _ _ (hHeld.trans (hbe.mono hHeld.size)) (fun hHeld => ?_)
  clear hK K
  try simp only [Act.put, List.getElem_toArray, List.getElem_cons_zero, List.getElem_cons_succ, List.setIfInBounds_toArray, List.set_cons_zero, List.set_cons_succ]
  refine wpAnyH_take (i := 4) (v := ?v17) rfl (by kernel_rfl) (by kernel_rfl) (by kernel_rfl) (fun _ _ _ h => h) (Or.inl ⟨by rfl, ?h17⟩) hHeld ?r17
  case h17 => intro wq hS; go_simp; with_reducible rfl
  try simp only [Act.put, List.getElem_toArray, List.getElem_cons_zero, List.getElem_cons_succ, List.setIfInBounds_toArray, List.set_cons_zero, List.set_cons_succ]
  refine wpAnyH_done (by kernel_rfl) ?_ _
  have hfin := HB.out.trans (hHeld.mono HB.out.size)
  have HFIN := Lib.hid hfin
  clear hHeld hbt hbe hY hYn hfin
  go_wp2_with fail
  go_ret
  exact ⟨rfl, HFIN.out⟩
end Go.Proofs.Ytfkpecildcejkaa
