/- The draw of a right port. -/
import Derived.Test.YtfkpecildcejkaaDrP
import Derived.IntWalk
import Derived.Test.YtfkpecildcejkaaSx
namespace Go.Proofs.Ytfkpecildcejkaa
open Go.RowKit

set_option linter.unusedSimpArgs false in
set_option maxRecDepth 20000 in
set_option maxHeartbeats 2000000 in
theorem make6_any (B c len : Nat) (w : World) (hl : len ≤ 1048576) (hc : Cur B c len w) :
    Calls Try.prog 69 #[.pointer (some ⟨c, 0, none⟩)] w (DrawnP B c len w) := by
  have hlt := cur_lt hc
  have hlt0 := hlt
  go_enter Try.func69, Try.ntmps69
  go_wp2_with fail
  refine (pickWf (m := 3) (zs := [1, 1, 10]) (by decide) (by decide) hl (cur_alloc (cur_alloc hc _ _) _ _) (by omega) rfl (by decide) ?_).mono ?_
  · intro i hi
    rw [World.cell?_alloc_at (hn := by simp)]
    match i, hi with
    | 0, _ | 1, _ | 2, _ => rfl
  rintro e w1 ⟨z, rfl, hz, hc1, hg1⟩
  have hT0 : Blk (w.alloc (.cells #[.int .i64 0, .slice none 0 0, .slice none 0 0, .int .i64 0] 26)) w.heap.size #[.int .i64 0, .slice none 0 0, .slice none 0 0, .int .i64 0] 26 := blk_new _ _ rfl
  have hR1 : Blk w1 w.heap.size #[.int .i64 0, .slice none 0 0, .slice none 0 0, .int .i64 0] 26 := (hg1.block _ ((hT0.alloc _).lt) (fun e => by have e1 : w.heap.size = c := Option.some.inj e; omega)).trans (hT0.alloc _)
  have hgw1 : w.grownBy w1 (some c) := grown_trans (World.grownBy_alloc _ _ _) (grown_trans (World.grownBy_alloc _ _ _) hg1)
  have HR1 := Lib.hid hR1; have HG1 := Lib.hid hgw1; have HZ := Lib.hid hz
  clear hT0 hR1 hgw1 hg1 hz
  go_wp2_with fail
  refine (pickWf (m := 5) (zs := [0, 0, 0, 1, 2]) (by decide) (by decide) hl (cur_alloc hc1 _ _) (by have := cur_lt hc1; omega) rfl (by decide) ?_).mono ?_
  · intro i hi
    rw [World.cell?_alloc_at (hn := by simp)]
    match i, hi with
    | 0, _ | 1, _ | 2, _ | 3, _ | 4, _ => rfl
  rintro e w2 ⟨ac, rfl, hac, hc2, hg2⟩
  have hl1 := cur_lt hc1
  have hR2 : Blk w2 w.heap.size #[.int .i64 0, .slice none 0 0, .slice none 0 0, .int .i64 0] 26 := (hg2.block _ ((HR1.out.alloc _).lt) (fun e => by have e1 : w.heap.size = c := Option.some.inj e; omega)).trans (HR1.out.alloc _)
  have hgw2 : w.grownBy w2 (some c) := grown_trans HG1.out (grown_trans (World.grownBy_alloc _ _ _) hg2)
  have HR2 := Lib.hid hR2; have HG2 := Lib.hid hgw2; have HAC := Lib.hid hac
  clear hR2 hgw2 hg2 hac HR1 HG1
  go_wp2_with fail
  refine (below_any B c len 3 (by decide) (by decide) _ hl (cur_alloc hc2 _ _)).mono ?_
  rintro e w3 ⟨n, rfl, hn0, hn3, hc3, hg3⟩
  have hl2 := cur_lt hc2
  have hw2 := HR2.out.lt
  have hP0 : PSt B c len w w2.heap.size (w2.alloc (.cells #[.int .i64 z, .slice none 0 0, .slice none 0 0, .int .i64 ac] 26)) ⟨z, [], [], ac⟩ none 0 none 0 :=
    ⟨blk_new _ _ rfl, ownI_nil _ _, ownI_nil _ _, ⟨by simp, by simp, HZ.out, by simp, by simp, HAC.out⟩, HR2.out.alloc _, cur_alloc hc2 _ _, grown_trans HG2.out (World.grownBy_alloc _ _ _), hw2, hlt0, apart_nil _, apart_nil _, fun g h e => by cases e⟩
  have HI2 := Lib.hid (hP0.call hc3 hg3)
  clear hP0 hc3 hg3 hc2 HR2 HG2 hc1
  obtain ⟨m, rfl⟩ := Int.eq_ofNat_of_zero_le hn0
  generalize w2.heap.size = bp at HI2 hl2 hw2 ⊢
  have hwn : IntKind.i64.wrap (1 + (m : Int)) = 1 + (m : Int) := IntWalk.i64_in _ (by omega)
  go_wp2_with fail
  go_loopw [5] (fun i wr => ∃ (k : Nat), i = .int .i64 (k : Nat) ∧ k ≤ m + 1 ∧ ∃ p a ca e cb, Hid (PSt B c len w bp wr p a ca e cb))
    (fun i _ => m + 1 - (intOf i).toNat)
  case atStart => exact ⟨0, rfl, Nat.zero_le _, _, _, _, _, _, HI2⟩
  case round =>
    obtain ⟨k, rfl, hk, p, a, ca, e, cb, HI⟩ := hrel
    by_cases hlt : k < m + 1
    · have hlt' : (k : Int) < 1 + (m : Int) := by omega
      go_wp2_with fail
      refine (vid_wf B c len wr hl HI.out.cur).mono ?_
      rintro e w3 ⟨x, rfl, hx, hc3, hg3⟩
      have HP3 := Lib.hid (HI.out.call hc3 hg3); have HX := Lib.hid hx
      clear hc3 hg3 hx
      go_wp2_with fail
      refine wp_region_held_drew (S := fun _ => True) (by kernel_rfl) (trivial) (fun hHeld => ?_)
      refine wpAnyH_take (i := 1) (v := ?v1) rfl (by kernel_rfl) (by kernel_rfl) (by kernel_rfl) (fun _ _ _ h => h) (Or.inl ⟨by rfl, ?h1⟩) hHeld ?r1
      case h1 => intro wq hS; go_simp; with_reducible rfl
      try simp only [Act.put, List.getElem_toArray, List.getElem_cons_zero, List.getElem_cons_succ, List.setIfInBounds_toArray, List.set_cons_zero, List.set_cons_succ]
      refine wpAnyH_take (i := 2) (v := ?v2) rfl (by kernel_rfl) (by kernel_rfl) (by kernel_rfl) (fun _ _ _ h => h) (Or.inl ⟨by rfl, ?h2⟩) hHeld ?r2
      case h2 => intro wq hS; go_simp; with_reducible rfl
      try simp only [Act.put, List.getElem_toArray, List.getElem_cons_zero, List.getElem_cons_succ, List.setIfInBounds_toArray, List.set_cons_zero, List.set_cons_succ]
      have p0 := HP3.out.1.cell 0
      have p1 := HP3.out.1.cell 1
      have p2 := HP3.out.1.cell 2
      have p3 := HP3.out.1.cell 3
      refine wpAnyH_ready (rs := [0, 3]) (by kernel_rfl) (by simp) ?_
      refine AllReadyH.cons rfl (fun K hK => ?_) ?_
      · go_simp
        clear p0 p1 p2 p3
        refine hK.out _ _ (trivial) (fun hHeld => ?_)
        clear hK K
        try simp only [Act.put, List.getElem_toArray, List.getElem_cons_zero, List.getElem_cons_succ, List.setIfInBounds_toArray, List.set_cons_zero, List.set_cons_succ]
        have p0 := HP3.out.1.cell 0
        have p1 := HP3.out.1.cell 1
        have p2 := HP3.out.1.cell 2
        have p3 := HP3.out.1.cell 3
        refine wpAnyH_ready (rs := [3]) (by kernel_rfl) (by simp) ?_
        refine AllReadyH.cons rfl (fun K hK => ?_) AllReadyH.nil
        go_simp
        refine (once_any B c len 2 (by decide) (by decide) _ hl HP3.out.drew.cur).mono ?_
        rintro e' w4 ⟨u, rfl, hc4, hg4⟩
        have HP4 := Lib.hid (HP3.out.drew.call hc4 hg4)
        clear hc4 hg4 p0 p1 p2 p3
        refine hK.out _ _ (trivial) (fun hHeld => ?_)
        clear hK K
        try simp only [Act.put, List.getElem_toArray, List.getElem_cons_zero, List.getElem_cons_succ, List.setIfInBounds_toArray, List.set_cons_zero, List.set_cons_succ]
        refine wpAnyH_ready (rs := [4]) (by kernel_rfl) (by simp) ?_
        refine AllReadyH.cons rfl (fun K hK => ?_) AllReadyH.nil
        obtain ⟨C4, D4, hq⟩ := HP4.out.port
        unfold ptVal at hq
        go_simp
        refine (set_spec hq x u HX.out).mono ?_
        rintro e' w5 hG
        obtain ⟨q, hq9⟩ : ∃ q, setM p x u = q := ⟨_, rfl⟩
        rw [hq9] at hG
        have hG' := hG
        obtain ⟨_, _, a1, n1, c1, b1, m1, d1, pv1, ac1, rfl, _, _, _, _, hb5, _⟩ := hG
        unfold ptVal
        obtain ⟨a2, ca2, e2, cb2, hvs, hP5⟩ := HP4.out.put hG' (by unfold ptVal; rfl) (by rw [← hq9]; exact setM_len ⟨HP4.out.2.2.2.1.1, HP4.out.2.2.2.1.2.1⟩ x u)
        have hold := HP4.out.1.after hb5
        cases hvs
        refine hK.out _ _ (trivial) (fun hHeld => ?_)
        clear hK K
        try simp only [Act.put, List.getElem_toArray, List.getElem_cons_zero, List.getElem_cons_succ, List.setIfInBounds_toArray, List.set_cons_zero, List.set_cons_succ]
        refine wpAnyH_ready (rs := [5]) (by kernel_rfl) (by simp) ?_
        refine AllReadyH.cons rfl (fun K hK => ?_) AllReadyH.nil
        refine step_store_row rfl 26 (.tmp 3) (.tmp 28) rfl bp _ rfl rfl 26 #[.int .i64 p.pvid, .slice a p.ins.length ca, .slice e p.plain.length cb, .int .i64 p.acc] hold sizePt rfl (by simp [Value.oneCell']) ?_
        refine hK.out _ _ (trivial) (fun hHeld => ?_)
        clear hK K
        try simp only [Act.put, List.getElem_toArray, List.getElem_cons_zero, List.getElem_cons_succ, List.setIfInBounds_toArray, List.set_cons_zero, List.set_cons_succ]
        refine wpAnyH_done (by kernel_rfl) ?_ _
        have HP5 := Lib.hid hP5
        clear hG' hold hq hP5 hb5
        go_wp2_with fail
        go_roundw
        case rel => exact ⟨k + 1, by go_num, by omega, _, _, _, _, _, HP5⟩
        case measure => simp [intOf]; omega
      refine AllReadyH.cons rfl (fun K hK => ?_) AllReadyH.nil
      · go_simp
        refine (once_any B c len 2 (by decide) (by decide) _ hl HP3.out.drew.cur).mono ?_
        rintro e' w4 ⟨u, rfl, hc4, hg4⟩
        have HP4 := Lib.hid (HP3.out.drew.call hc4 hg4)
        clear hc4 hg4 p0 p1 p2 p3
        refine hK.out _ _ (trivial) (fun hHeld => ?_)
        clear hK K
        try simp only [Act.put, List.getElem_toArray, List.getElem_cons_zero, List.getElem_cons_succ, List.setIfInBounds_toArray, List.set_cons_zero, List.set_cons_succ]
        have p0 := HP4.out.1.cell 0
        have p1 := HP4.out.1.cell 1
        have p2 := HP4.out.1.cell 2
        have p3 := HP4.out.1.cell 3
        refine wpAnyH_ready (rs := [0]) (by kernel_rfl) (by simp) ?_
        refine AllReadyH.cons rfl (fun K hK => ?_) AllReadyH.nil
        go_simp
        refine hK.out _ _ (trivial) (fun hHeld => ?_)
        clear hK K
        try simp only [Act.put, List.getElem_toArray, List.getElem_cons_zero, List.getElem_cons_succ, List.setIfInBounds_toArray, List.set_cons_zero, List.set_cons_succ]
        clear p0 p1 p2 p3
        refine wpAnyH_ready (rs := [4]) (by kernel_rfl) (by simp) ?_
        refine AllReadyH.cons rfl (fun K hK => ?_) AllReadyH.nil
        obtain ⟨C4, D4, hq⟩ := HP4.out.port
        unfold ptVal at hq
        go_simp
        refine (set_spec hq x u HX.out).mono ?_
        rintro e' w5 hG
        obtain ⟨q, hq9⟩ : ∃ q, setM p x u = q := ⟨_, rfl⟩
        rw [hq9] at hG
        have hG' := hG
        obtain ⟨_, _, a1, n1, c1, b1, m1, d1, pv1, ac1, rfl, _, _, _, _, hb5, _⟩ := hG
        unfold ptVal
        obtain ⟨a2, ca2, e2, cb2, hvs, hP5⟩ := HP4.out.put hG' (by unfold ptVal; rfl) (by rw [← hq9]; exact setM_len ⟨HP4.out.2.2.2.1.1, HP4.out.2.2.2.1.2.1⟩ x u)
        have hold := HP4.out.1.after hb5
        cases hvs
        refine hK.out _ _ (trivial) (fun hHeld => ?_)
        clear hK K
        try simp only [Act.put, List.getElem_toArray, List.getElem_cons_zero, List.getElem_cons_succ, List.setIfInBounds_toArray, List.set_cons_zero, List.set_cons_succ]
        refine wpAnyH_ready (rs := [5]) (by kernel_rfl) (by simp) ?_
        refine AllReadyH.cons rfl (fun K hK => ?_) AllReadyH.nil
        refine step_store_row rfl 26 (.tmp 3) (.tmp 28) rfl bp _ rfl rfl 26 #[.int .i64 p.pvid, .slice a p.ins.length ca, .slice e p.plain.length cb, .int .i64 p.acc] hold sizePt rfl (by simp [Value.oneCell']) ?_
        refine hK.out _ _ (trivial) (fun hHeld => ?_)
        clear hK K
        try simp only [Act.put, List.getElem_toArray, List.getElem_cons_zero, List.getElem_cons_succ, List.setIfInBounds_toArray, List.set_cons_zero, List.set_cons_succ]
        refine wpAnyH_done (by kernel_rfl) ?_ _
        have HP5 := Lib.hid hP5
        clear hG' hold hq hP5 hb5
        go_wp2_with fail
        go_roundw
        case rel => exact ⟨k + 1, by go_num, by omega, _, _, _, _, _, HP5⟩
        case measure => simp [intOf]; omega
    · have hlt' : ¬ ((k : Int) < 1 + (m : Int)) := by omega
      have p0 := HI.out.1.cell 0
      have p1 := HI.out.1.cell 1
      have p2 := HI.out.1.cell 2
      have p3 := HI.out.1.cell 3
      go_wp2_with (with_reducible refine store_here rfl ?_)
      refine halt_go ?_
      refine wpList_store_row rfl 26 _ _ rfl w.heap.size #[.int .i64 p.pvid, .slice a p.ins.length ca, .slice e p.plain.length cb, .int .i64 p.acc] rfl rfl 26 #[.int .i64 0, .slice none 0 0, .slice none 0 0, .int .i64 0] HI.out.2.2.2.2.1 sizePt rfl (by simp [Value.oneCell']) ?_
      have hT : Turned [w.heap.size] wr (wr.setRow w.heap.size #[.int .i64 p.pvid, .slice a p.ins.length ca, .slice e p.plain.length cb, .int .i64 p.acc]) := (Turned.refl _ _).row (by simp) _
      have hb := HI.out.2.2.2.2.2.2.2
      have HG := Lib.hid (Blk.row (cs := #[.int .i64 p.pvid, .slice a p.ins.length ca, .slice e p.plain.length cb, .int .i64 p.acc]) HI.out.2.2.2.2.1); have HO1 := Lib.hid (own_turned HI.out.2.1 hT (by simp)); have HO2 := Lib.hid (own_turned HI.out.2.2.1 hT (by simp)); have HC := Lib.hid (cur_row HI.out.cur hb.2.1 #[.int .i64 p.pvid, .slice a p.ins.length ca, .slice e p.plain.length cb, .int .i64 p.acc]); have HGR := Lib.hid (grown_row HI.out.2.2.2.2.2.2.1 (Nat.le_refl _) #[.int .i64 p.pvid, .slice a p.ins.length ca, .slice e p.plain.length cb, .int .i64 p.acc])
      clear hT p0 p1 p2 p3
      generalize wr.setRow w.heap.size #[.int .i64 p.pvid, .slice a p.ins.length ca, .slice e p.plain.length cb, .int .i64 p.acc] = X at HG HO1 HO2 HC HGR ⊢
      have r0 := HG.out.cell 0
      have r1 := HG.out.cell 1
      have r2 := HG.out.cell 2
      have r3 := HG.out.cell 3
      go_wp2_with fail
      exact bodyPost_ret (v := .agg #[.int .i64 p.pvid, .slice a p.ins.length ca, .slice e p.plain.length cb, .int .i64 p.acc]) (by simp [results, Try.results69, go_sem, r0, r1, r2, r3]) rfl ⟨p, a, ca, e, cb, rfl, own_lower HO1.out (by omega), own_lower HO2.out (by omega), HI.out.2.2.2.2.2.2.2.2.2.2.2, HI.out.2.2.2.1, HC.out, HGR.out⟩
end Go.Proofs.Ytfkpecildcejkaa
