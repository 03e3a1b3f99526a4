/- The walk of FnFix, over the program's contracts (Ti). -/
import Derived.Test.YtleebmbnjdoinaaTbPl
import Derived.Test.YtleebmbnjdoinaaDrawT3
import Derived.Test.YtleebmbnjdoinaaSame
import Derived.Test.YtleebmbnjdoinaaTi
import Derived.Test.YtleebmbnjdoinaaBig
namespace Go.Proofs.Ytleebmbnjdoinaa
open Go.RowKit

set_option linter.unusedSimpArgs false in
set_option maxHeartbeats 2000000 in
theorem walk_FnFix (a : Option Addr) (len cap : Nat) (zs : List Int) (w : World) (hrow : IsRow .u8 w a len cap zs) :
    Calls Try.prog 4 #[.slice a len cap] w fun e w' => e = .returned (.bool true) ∧ Below w.heap.size w w' := by
  have hlow := hrow.low
  have hmax : len ≤ 9223372036854775807 := by
    rcases hrow with ⟨_, rfl, _⟩ | ⟨_, _, h1, h2, _⟩
    · omega
    · unfold maxLen at h2; omega
  by_cases hl : len ≤ 1048576
  case neg =>
    go_enter Try.func4, Try.ntmps4
    go_wp2_with fail
    refine (big_yes a len cap w (by omega)).mono ?_
    rintro e w' ⟨rfl, rfl⟩
    go_wp2_with fail
    go_ret
    exact ⟨rfl, Below.refl _ _⟩
  go_enter Try.func4, Try.ntmps4
  go_wp2_with fail
  refine (big_no a len cap w hl).mono ?_
  rintro e w' ⟨rfl, rfl⟩
  go_wp2_with fail
  refine (drawFix_any w a len cap zs hl hrow hlow).mono ?_
  rintro e x0 ⟨C, t, ta, n, tc, q, vid, mac, port, rfl, hT1, hC1, f0, f1, f2, hb1⟩
  have F0 := Lib.hid f0
  have F1 := Lib.hid f1
  have F2 := Lib.hid f2
  have HB := Lib.hid hb1; have T := Lib.hid hT1
  clear f0 f1 f2 hb1 hT1 hC1 hrow hlow
  have hbq : Below x0.heap.size x0 (x0.alloc (.cells #[.slice ta n tc, .int .i64 q] 26)) := (Below.refl _ _).alloc (Nat.le_refl _) _
  have hnq : Blk (x0.alloc (.cells #[.slice ta n tc, .int .i64 q] 26)) x0.heap.size #[.slice ta n tc, .int .i64 q] 26 := blk_new _ _ rfl
  have T := Lib.hid (T.out.after hbq)
  have HB := Lib.hid (HB.out.trans (hbq.mono HB.out.size))
  have TB := Lib.hid hnq
  clear hbq hnq
  have tba : (x0.alloc (.cells #[.slice ta n tc, .int .i64 q] 26)).cell? ⟨x0.heap.size, 0, none⟩ = some (.slice ta n tc) := TB.out.cell 0
  have tbb : (x0.alloc (.cells #[.slice ta n tc, .int .i64 q] 26)).cell? ⟨x0.heap.size, 1, none⟩ = some (.int .i64 q) := TB.out.cell 1
  go_wp2_with fail
  clear tba tbb
  generalize (x0.alloc (.cells #[.slice ta n tc, .int .i64 q] 26)) = x1 at T TB HB ⊢
  generalize x0.heap.size = b1 at T TB HB ⊢
  refine (fix_impl T.out vid mac port F0.out F1.out F2.out).mono ?_
  rintro e x2 ⟨C2, a2, n2, c2, q2, rfl, hTq, hCq, hbq⟩
  have T := Lib.hid (T.out.after hbq)
  have TB := Lib.hid (TB.out.after hbq)
  have HB := Lib.hid (HB.out.trans (hbq.mono HB.out.size))
  have U := Lib.hid hTq
  clear hTq hCq hbq
  have hbq : Below x2.heap.size x2 (x2.alloc (.cells #[.slice a2 n2 c2, .int .i64 q2] 26)) := (Below.refl _ _).alloc (Nat.le_refl _) _
  have hnq : Blk (x2.alloc (.cells #[.slice a2 n2 c2, .int .i64 q2] 26)) x2.heap.size #[.slice a2 n2 c2, .int .i64 q2] 26 := blk_new _ _ rfl
  have T := Lib.hid (T.out.after hbq)
  have U := Lib.hid (U.out.after hbq)
  have TB := Lib.hid (TB.out.after hbq)
  have HB := Lib.hid (HB.out.trans (hbq.mono HB.out.size))
  have UB := Lib.hid hnq
  clear hbq hnq
  have tba : (x2.alloc (.cells #[.slice a2 n2 c2, .int .i64 q2] 26)).cell? ⟨b1, 0, none⟩ = some (.slice ta n tc) := TB.out.cell 0
  have tbb : (x2.alloc (.cells #[.slice a2 n2 c2, .int .i64 q2] 26)).cell? ⟨b1, 1, none⟩ = some (.int .i64 q) := TB.out.cell 1
  have uba : (x2.alloc (.cells #[.slice a2 n2 c2, .int .i64 q2] 26)).cell? ⟨x2.heap.size, 0, none⟩ = some (.slice a2 n2 c2) := UB.out.cell 0
  have ubb : (x2.alloc (.cells #[.slice a2 n2 c2, .int .i64 q2] 26)).cell? ⟨x2.heap.size, 1, none⟩ = some (.int .i64 q2) := UB.out.cell 1
  go_wp2_with fail
  clear tba tbb uba ubb
  generalize (x2.alloc (.cells #[.slice a2 n2 c2, .int .i64 q2] 26)) = x3 at T U TB UB HB ⊢
  generalize x2.heap.size = b3 at T U TB UB HB ⊢
  skip
  go_upto_region 5 with fail
  refine wp_region_held_drew (S := fun w' => Below x3.heap.size x3 w') (by kernel_rfl) (Below.drew (Below.refl _ _)) (fun hHeld => ?_)
  refine wpAnyH_take (i := 0) (v := ?v1) rfl (by kernel_rfl) (by kernel_rfl) (by kernel_rfl) (fun _ _ _ h => h) (Or.inl ⟨by rfl, ?h1⟩) hHeld ?r1
  case h1 => intro wq hS; have kq := UB.out.after hS; have ca : wq.cell? ⟨b3, 0, none⟩ = some (.slice a2 n2 c2) := kq.cell 0; have cb : wq.cell? ⟨b3, 1, none⟩ = some (.int .i64 q2) := kq.cell 1; clear kq; go_simp; with_reducible rfl
  try simp only [Act.put, List.getElem_toArray, List.getElem_cons_zero, List.getElem_cons_succ, List.setIfInBounds_toArray, List.set_cons_zero, List.set_cons_succ]
  refine wpAnyH_take (i := 1) (v := ?v2) rfl (by kernel_rfl) (by kernel_rfl) (by kernel_rfl) (fun _ _ _ h => h) (Or.inl ⟨by rfl, ?h2⟩) hHeld ?r2
  case h2 => intro wq hS; have kq := TB.out.after hS; have ca : wq.cell? ⟨b1, 0, none⟩ = some (.slice ta n tc) := kq.cell 0; have cb : wq.cell? ⟨b1, 1, none⟩ = some (.int .i64 q) := kq.cell 1; clear kq; go_simp; with_reducible rfl
  try simp only [Act.put, List.getElem_toArray, List.getElem_cons_zero, List.getElem_cons_succ, List.setIfInBounds_toArray, List.set_cons_zero, List.set_cons_succ]
  refine wpAnyH_take (i := 2) (v := ?v3) rfl (by kernel_rfl) (by kernel_rfl) (by kernel_rfl) (fun _ _ _ h => h) (Or.inl ⟨by rfl, ?h3⟩) hHeld ?r3
  case h3 => intro wq hS; go_simp; with_reducible rfl
  try simp only [Act.put, List.getElem_toArray, List.getElem_cons_zero, List.getElem_cons_succ, List.setIfInBounds_toArray, List.set_cons_zero, List.set_cons_succ]
  refine wpAnyH_take (i := 3) (v := ?v4) rfl (by kernel_rfl) (by kernel_rfl) (by kernel_rfl) (fun _ _ _ h => h) (Or.inl ⟨by rfl, ?h4⟩) hHeld ?r4
  case h4 => intro wq hS; go_simp; with_reducible rfl
  try simp only [Act.put, List.getElem_toArray, List.getElem_cons_zero, List.getElem_cons_succ, List.setIfInBounds_toArray, List.set_cons_zero, List.set_cons_succ]
  refine wpAnyH_take (i := 4) (v := ?v5) rfl (by kernel_rfl) (by kernel_rfl) (by kernel_rfl) (fun _ _ _ h => h) (Or.inl ⟨by rfl, ?h5⟩) hHeld ?r5
  case h5 => intro wq hS; go_simp; with_reducible rfl
  try simp only [Act.put, List.getElem_toArray, List.getElem_cons_zero, List.getElem_cons_succ, List.setIfInBounds_toArray, List.set_cons_zero, List.set_cons_succ]
  refine wpAnyH_ready (rs := [5]) (by kernel_rfl) (by simp) ?_
  refine AllReadyH.cons rfl (fun K hK => ?_) AllReadyH.nil
  go_simp
  refine (fix5_spec (T.out.after hHeld) vid mac port ⟨F0.out, F1.out, F2.out, (by decide : (Lit.int .i64 0).wf = true)⟩).mono ?_
  rintro e x4 ⟨C4, a4, n4, c4, q4, rfl, hTq, hCq, hbq⟩
  clear hCq
  refine hK.out _ _ (hHeld.trans (hbq.mono hHeld.size)) (fun hHeld => ?_)
  clear hK K
  try simp only [Act.put, List.getElem_toArray, List.getElem_cons_zero, List.getElem_cons_succ, List.setIfInBounds_toArray, List.set_cons_zero, List.set_cons_succ]
  refine wpAnyH_ready (rs := [6]) (by kernel_rfl) (by simp) ?_
  refine AllReadyH.cons rfl (fun K hK => ?_) AllReadyH.nil
  go_simp
  refine (sameTable_any (U.out.after hHeld) hTq).mono ?_
  rintro e x5 ⟨rfl, hbr⟩
  rw [decide_eq_true rfl]
  refine hK.out _ _ (hHeld.trans (hbr.mono hHeld.size)) (fun hHeld => ?_)
  clear hK K
  try simp only [Act.put, List.getElem_toArray, List.getElem_cons_zero, List.getElem_cons_succ, List.setIfInBounds_toArray, List.set_cons_zero, List.set_cons_succ]
  refine wpAnyH_take (i := 7) (v := ?v6) rfl (by kernel_rfl) (by kernel_rfl) (by kernel_rfl) (fun _ _ _ h => h) (Or.inl ⟨by rfl, ?h6⟩) hHeld ?r6
  case h6 => intro wq hS; go_simp; with_reducible rfl
  try simp only [Act.put, List.getElem_toArray, List.getElem_cons_zero, List.getElem_cons_succ, List.setIfInBounds_toArray, List.set_cons_zero, List.set_cons_succ]
  refine wpAnyH_done (by kernel_rfl) ?_ _
  clear hbq hbr hTq
  have T := Lib.hid (T.out.after hHeld)
  have U := Lib.hid (U.out.after hHeld)
  have TB := Lib.hid (TB.out.after hHeld)
  have UB := Lib.hid (UB.out.after hHeld)
  have HB := Lib.hid (HB.out.trans (hHeld.mono HB.out.size))
  clear hHeld
  have tba : x5.cell? ⟨b1, 0, none⟩ = some (.slice ta n tc) := TB.out.cell 0
  have tbb : x5.cell? ⟨b1, 1, none⟩ = some (.int .i64 q) := TB.out.cell 1
  have uba : x5.cell? ⟨b3, 0, none⟩ = some (.slice a2 n2 c2) := UB.out.cell 0
  have ubb : x5.cell? ⟨b3, 1, none⟩ = some (.int .i64 q2) := UB.out.cell 1
  go_wp2_with fail
  refine (tableOk_spec T.out).mono ?_
  rintro e x6 ⟨rfl, hbq⟩
  clear tba tbb uba ubb
  have T := Lib.hid (T.out.after hbq)
  have U := Lib.hid (U.out.after hbq)
  have TB := Lib.hid (TB.out.after hbq)
  have UB := Lib.hid (UB.out.after hbq)
  have HB := Lib.hid (HB.out.trans (hbq.mono HB.out.size))
  clear hbq
  by_cases hok : tabOk t
  case neg =>
    rw [decide_eq_false hok]
    have tba : x6.cell? ⟨b1, 0, none⟩ = some (.slice ta n tc) := TB.out.cell 0
    have tbb : x6.cell? ⟨b1, 1, none⟩ = some (.int .i64 q) := TB.out.cell 1
    have uba : x6.cell? ⟨b3, 0, none⟩ = some (.slice a2 n2 c2) := UB.out.cell 0
    have ubb : x6.cell? ⟨b3, 1, none⟩ = some (.int .i64 q2) := UB.out.cell 1
    go_wp2_with fail
    go_ret
    exact ⟨rfl, HB.out⟩
  rw [decide_eq_true hok]
  have HOK := Lib.hid hok
  clear hok
  have tba : x6.cell? ⟨b1, 0, none⟩ = some (.slice ta n tc) := TB.out.cell 0
  have tbb : x6.cell? ⟨b1, 1, none⟩ = some (.int .i64 q) := TB.out.cell 1
  have uba : x6.cell? ⟨b3, 0, none⟩ = some (.slice a2 n2 c2) := UB.out.cell 0
  have ubb : x6.cell? ⟨b3, 1, none⟩ = some (.int .i64 q2) := UB.out.cell 1
  go_wp2_with fail
  refine (sameTable_any U.out T.out).mono ?_
  rintro e x7 ⟨rfl, hbq⟩
  clear tba tbb uba ubb
  have T := Lib.hid (T.out.after hbq)
  have U := Lib.hid (U.out.after hbq)
  have TB := Lib.hid (TB.out.after hbq)
  have UB := Lib.hid (UB.out.after hbq)
  have HB := Lib.hid (HB.out.trans (hbq.mono HB.out.size))
  clear hbq
  by_cases heq : fixT t vid mac port = t
  case pos =>
    rw [decide_eq_true heq]
    clear heq
    have tba : x7.cell? ⟨b1, 0, none⟩ = some (.slice ta n tc) := TB.out.cell 0
    have tbb : x7.cell? ⟨b1, 1, none⟩ = some (.int .i64 q) := TB.out.cell 1
    have uba : x7.cell? ⟨b3, 0, none⟩ = some (.slice a2 n2 c2) := UB.out.cell 0
    have ubb : x7.cell? ⟨b3, 1, none⟩ = some (.int .i64 q2) := UB.out.cell 1
    go_wp2_with fail
    go_ret
    exact ⟨rfl, HB.out⟩
  rw [decide_eq_false heq]
  have HROW := Lib.hid (fix_row HOK.out heq)
  have HUK := Lib.hid (fix_ok HOK.out vid mac port)
  have HLK := Lib.hid (learn_fixed HUK.out HROW.out rfl 15 5)
  clear heq
  have uba : x7.cell? ⟨b3, 0, none⟩ = some (.slice a2 n2 c2) := UB.out.cell 0
  have ubb : x7.cell? ⟨b3, 1, none⟩ = some (.int .i64 q2) := UB.out.cell 1
  go_wp2_with fail
  refine (learn_impl U.out vid mac 15 5 F0.out F1.out (by decide) (by decide)).mono ?_
  rw [HLK.out]
  rintro e x8 ⟨C8, a8, n8, c8, q8, rfl, hTq, hCq, hbq⟩
  clear uba ubb
  have U := Lib.hid (U.out.after hbq)
  have UB := Lib.hid (UB.out.after hbq)
  have HB := Lib.hid (HB.out.trans (hbq.mono HB.out.size))
  have L := Lib.hid hTq
  clear hTq hCq hbq
  have uba : x8.cell? ⟨b3, 0, none⟩ = some (.slice a2 n2 c2) := UB.out.cell 0
  have ubb : x8.cell? ⟨b3, 1, none⟩ = some (.int .i64 q2) := UB.out.cell 1
  go_wp2_with fail
  refine (age_impl L.out 1000000000 0).mono ?_
  rintro e x9 ⟨C9, a9, n9, c9, q9, rfl, hTq, hCq, hbq⟩
  clear uba ubb
  have U := Lib.hid (U.out.after hbq)
  have L := Lib.hid (L.out.after hbq)
  have UB := Lib.hid (UB.out.after hbq)
  have HB := Lib.hid (HB.out.trans (hbq.mono HB.out.size))
  have G := Lib.hid hTq
  clear hTq hCq hbq
  have uba : x9.cell? ⟨b3, 0, none⟩ = some (.slice a2 n2 c2) := UB.out.cell 0
  have ubb : x9.cell? ⟨b3, 1, none⟩ = some (.int .i64 q2) := UB.out.cell 1
  go_wp2_with fail
  refine (flush_impl G.out port).mono ?_
  rintro e x10 ⟨C10, a10, n10, c10, q10, rfl, hTq, hCq, hbq⟩
  clear uba ubb
  have U := Lib.hid (U.out.after hbq)
  have G := Lib.hid (G.out.after hbq)
  have UB := Lib.hid (UB.out.after hbq)
  have HB := Lib.hid (HB.out.trans (hbq.mono HB.out.size))
  have V := Lib.hid hTq
  clear hTq hCq hbq
  have hbq : Below x10.heap.size x10 (x10.alloc (.cells #[.slice a10 n10 c10, .int .i64 q10] 26)) := (Below.refl _ _).alloc (Nat.le_refl _) _
  have hnq : Blk (x10.alloc (.cells #[.slice a10 n10 c10, .int .i64 q10] 26)) x10.heap.size #[.slice a10 n10 c10, .int .i64 q10] 26 := blk_new _ _ rfl
  have U := Lib.hid (U.out.after hbq)
  have V := Lib.hid (V.out.after hbq)
  have UB := Lib.hid (UB.out.after hbq)
  have HB := Lib.hid (HB.out.trans (hbq.mono HB.out.size))
  have VB := Lib.hid hnq
  clear hbq hnq
  have uba : (x10.alloc (.cells #[.slice a10 n10 c10, .int .i64 q10] 26)).cell? ⟨b3, 0, none⟩ = some (.slice a2 n2 c2) := UB.out.cell 0
  have ubb : (x10.alloc (.cells #[.slice a10 n10 c10, .int .i64 q10] 26)).cell? ⟨b3, 1, none⟩ = some (.int .i64 q2) := UB.out.cell 1
  have vba : (x10.alloc (.cells #[.slice a10 n10 c10, .int .i64 q10] 26)).cell? ⟨x10.heap.size, 0, none⟩ = some (.slice a10 n10 c10) := VB.out.cell 0
  have vbb : (x10.alloc (.cells #[.slice a10 n10 c10, .int .i64 q10] 26)).cell? ⟨x10.heap.size, 1, none⟩ = some (.int .i64 q10) := VB.out.cell 1
  go_wp2_with fail
  clear uba ubb vba vbb
  generalize (x10.alloc (.cells #[.slice a10 n10 c10, .int .i64 q10] 26)) = x11 at U V UB VB HB ⊢
  generalize x10.heap.size = b11 at U V UB VB HB ⊢
  refine (tableOk_impl U.out).mono ?_
  rintro e x12 ⟨rfl, hbq⟩
  have U := Lib.hid (U.out.after hbq)
  have V := Lib.hid (V.out.after hbq)
  have UB := Lib.hid (UB.out.after hbq)
  have VB := Lib.hid (VB.out.after hbq)
  have HB := Lib.hid (HB.out.trans (hbq.mono HB.out.size))
  clear hbq
  rw [decide_eq_true HUK.out]
  have uba : x12.cell? ⟨b3, 0, none⟩ = some (.slice a2 n2 c2) := UB.out.cell 0
  have ubb : x12.cell? ⟨b3, 1, none⟩ = some (.int .i64 q2) := UB.out.cell 1
  have vba : x12.cell? ⟨b11, 0, none⟩ = some (.slice a10 n10 c10) := VB.out.cell 0
  have vbb : x12.cell? ⟨b11, 1, none⟩ = some (.int .i64 q10) := VB.out.cell 1
  go_wp2_with fail
  refine (look_impl U.out vid mac).mono ?_
  rintro e x13 ⟨rfl, hbq⟩
  clear uba ubb vba vbb
  have U := Lib.hid (U.out.after hbq)
  have V := Lib.hid (V.out.after hbq)
  have UB := Lib.hid (UB.out.after hbq)
  have VB := Lib.hid (VB.out.after hbq)
  have HB := Lib.hid (HB.out.trans (hbq.mono HB.out.size))
  clear hbq
  rw [show look (fixT t vid mac port) vid mac = port from look_in HUK.out HROW.out]
  have uba : x13.cell? ⟨b3, 0, none⟩ = some (.slice a2 n2 c2) := UB.out.cell 0
  have ubb : x13.cell? ⟨b3, 1, none⟩ = some (.int .i64 q2) := UB.out.cell 1
  have vba : x13.cell? ⟨b11, 0, none⟩ = some (.slice a10 n10 c10) := VB.out.cell 0
  have vbb : x13.cell? ⟨b11, 1, none⟩ = some (.int .i64 q10) := VB.out.cell 1
  go_wp2_with fail
  refine (look_impl V.out vid mac).mono ?_
  rintro e x14 ⟨rfl, hbq⟩
  clear uba ubb vba vbb
  have U := Lib.hid (U.out.after hbq)
  have V := Lib.hid (V.out.after hbq)
  have UB := Lib.hid (UB.out.after hbq)
  have VB := Lib.hid (VB.out.after hbq)
  have HB := Lib.hid (HB.out.trans (hbq.mono HB.out.size))
  clear hbq
  have hA := age_ok HUK.out 1000000000 0
  rw [show look (flushT (ageT (fixT t vid mac port) 1000000000 0) port) vid mac = port from look_in (flush_ok hA port) (flush_fixed hA port (age_fixed HUK.out 1000000000 0 HROW.out rfl) rfl)]
  clear hA
  have uba : x14.cell? ⟨b3, 0, none⟩ = some (.slice a2 n2 c2) := UB.out.cell 0
  have ubb : x14.cell? ⟨b3, 1, none⟩ = some (.int .i64 q2) := UB.out.cell 1
  have vba : x14.cell? ⟨b11, 0, none⟩ = some (.slice a10 n10 c10) := VB.out.cell 0
  have vbb : x14.cell? ⟨b11, 1, none⟩ = some (.int .i64 q10) := VB.out.cell 1
  go_wp2_with fail
  go_ret
  exact ⟨rfl, HB.out⟩
end Go.Proofs.Ytleebmbnjdoinaa
