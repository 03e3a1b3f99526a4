/- The walk of FnForget, over the program's contracts (Ti). -/
import Derived.Test.YtleebmbnjdoinaaFnLearnT
namespace Go.Proofs.Ytleebmbnjdoinaa
open Go.RowKit

/-- a row that is not found any more was not fixed and was old -/
theorem age_gone {t : Tb} (h : tabOk t) {now age : Int} {x : Rw} (hx : x ∈ t.rows) : look (ageT t now age) x.vid x.mac ≠ x.port → x.fixed = false ∧ 0 ≤ age ∧ age ≤ 1000000000 ∧ x.at_ + age < now ∧ 0 ≤ x.at_ ∧ x.at_ ≤ 1000000000 := by
  intro hne
  have hat := (((tabOk_iff t).1 h).2.2.1 x hx).2.2.2.2
  have hout : ¬ x ∈ (ageT t now age).rows := fun k => hne (look_in (age_ok h now age) k)
  rw [age_eq h] at hout
  simp only [List.mem_filter, not_and, Bool.not_eq_true] at hout
  have hf := hout hx
  simp only [Bool.or_eq_false_iff, Bool.not_eq_false', Bool.and_eq_true, decide_eq_true_eq] at hf
  exact ⟨hf.2, hf.1.2.1.1, hf.1.2.1.2, hf.1.2.2, hat.1, hat.2⟩

set_option linter.unusedSimpArgs false in
set_option maxHeartbeats 2000000 in
theorem walk_FnForget (a : Option Addr) (len cap : Nat) (zs : List Int) (w : World) (hrow : IsRow .u8 w a len cap zs) :
    Calls Try.prog 5 #[.slice a len cap] w fun e w' => e = .returned (.bool true) ∧ Below w.heap.size w w' := by
  have hlow := hrow.low
  have hmax : len ≤ 9223372036854775807 := by
    rcases hrow with ⟨_, rfl, _⟩ | ⟨_, _, h1, h2, _⟩
    · omega
    · unfold maxLen at h2; omega
  by_cases hl : len ≤ 1048576
  case neg =>
    go_enter Try.func5, Try.ntmps5
    go_wp2_with fail
    refine (big_yes a len cap w (by omega)).mono ?_
    rintro e w' ⟨rfl, rfl⟩
    go_wp2_with fail
    go_ret
    exact ⟨rfl, Below.refl _ _⟩
  have HROW0 := Lib.hid hrow; have HLOW0 := Lib.hid hlow
  go_enter Try.func5, Try.ntmps5
  go_wp2_with fail
  refine (big_no a len cap w hl).mono ?_
  rintro e w' ⟨rfl, rfl⟩
  go_wp2_with fail
  refine (drawAgeOut_any w a len cap zs hl hrow hlow).mono ?_
  rintro e x0 ⟨C, t, ta, n, tc, q, now, age, rfl, hT1, hC1, f0, f1, hb1⟩
  have F0 := Lib.hid f0
  have F1 := Lib.hid f1
  have HB := Lib.hid hb1; clear hrow hlow; have T := Lib.hid hT1
  clear f0 f1 hb1 hT1 hC1
  have hbq : Below x0.heap.size x0 (x0.alloc (.cells #[.slice ta n tc, .int .i64 q] 26)) := (Below.refl _ _).alloc (Nat.le_refl _) _
  have hnq : Blk (x0.alloc (.cells #[.slice ta n tc, .int .i64 q] 26)) x0.heap.size #[.slice ta n tc, .int .i64 q] 26 := blk_new _ _ rfl
  have T := Lib.hid (T.out.after hbq)
  have HB := Lib.hid (HB.out.trans (hbq.mono HB.out.size))
  have TB := Lib.hid hnq
  clear hbq hnq
  have tba : (x0.alloc (.cells #[.slice ta n tc, .int .i64 q] 26)).cell? ⟨x0.heap.size, 0, none⟩ = some (.slice ta n tc) := TB.out.cell 0
  have tbb : (x0.alloc (.cells #[.slice ta n tc, .int .i64 q] 26)).cell? ⟨x0.heap.size, 1, none⟩ = some (.int .i64 q) := TB.out.cell 1
  go_wp2_with fail
  clear tba tbb
  generalize (x0.alloc (.cells #[.slice ta n tc, .int .i64 q] 26)) = x1 at T TB HB ⊢
  generalize x0.heap.size = b1 at T TB HB ⊢
  refine (age_impl T.out now age).mono ?_
  rintro e x2 ⟨C2, a2, n2, c2, q2, rfl, hTq, hCq, hbq⟩
  have T := Lib.hid (T.out.after hbq)
  have TB := Lib.hid (TB.out.after hbq)
  have HB := Lib.hid (HB.out.trans (hbq.mono HB.out.size))
  have U := Lib.hid hTq
  clear hTq hCq hbq
  have hbq : Below x2.heap.size x2 (x2.alloc (.cells #[.slice a2 n2 c2, .int .i64 q2] 26)) := (Below.refl _ _).alloc (Nat.le_refl _) _
  have hnq : Blk (x2.alloc (.cells #[.slice a2 n2 c2, .int .i64 q2] 26)) x2.heap.size #[.slice a2 n2 c2, .int .i64 q2] 26 := blk_new _ _ rfl
  have T := Lib.hid (T.out.after hbq)
  have U := Lib.hid (U.out.after hbq)
  have TB := Lib.hid (TB.out.after hbq)
  have HB := Lib.hid (HB.out.trans (hbq.mono HB.out.size))
  have UB := Lib.hid hnq
  clear hbq hnq
  have tba : (x2.alloc (.cells #[.slice a2 n2 c2, .int .i64 q2] 26)).cell? ⟨b1, 0, none⟩ = some (.slice ta n tc) := TB.out.cell 0
  have tbb : (x2.alloc (.cells #[.slice a2 n2 c2, .int .i64 q2] 26)).cell? ⟨b1, 1, none⟩ = some (.int .i64 q) := TB.out.cell 1
  have uba : (x2.alloc (.cells #[.slice a2 n2 c2, .int .i64 q2] 26)).cell? ⟨x2.heap.size, 0, none⟩ = some (.slice a2 n2 c2) := UB.out.cell 0
  have ubb : (x2.alloc (.cells #[.slice a2 n2 c2, .int .i64 q2] 26)).cell? ⟨x2.heap.size, 1, none⟩ = some (.int .i64 q2) := UB.out.cell 1
  go_wp2_with fail
  clear tba tbb uba ubb
  generalize (x2.alloc (.cells #[.slice a2 n2 c2, .int .i64 q2] 26)) = x3 at T U TB UB HB ⊢
  generalize x2.heap.size = b3 at T U TB UB HB ⊢
  refine (drawFlush_any x3 a len cap zs hl (HROW0.out.below HLOW0.out HB.out) (fun x hx hc => Nat.lt_of_lt_of_le (HLOW0.out x hx hc) HB.out.size)).mono ?_
  rintro e x4 ⟨D, s, sa, sn, sc, sq, port, rfl, hTq, hCq, f2, hbq⟩
  have T := Lib.hid (T.out.after hbq)
  have U := Lib.hid (U.out.after hbq)
  have TB := Lib.hid (TB.out.after hbq)
  have UB := Lib.hid (UB.out.after hbq)
  have HB := Lib.hid (HB.out.trans (hbq.mono HB.out.size))
  have S := Lib.hid hTq; have F2 := Lib.hid f2
  clear hTq hCq hbq f2
  have hbq : Below x4.heap.size x4 (x4.alloc (.cells #[.slice sa sn sc, .int .i64 sq] 26)) := (Below.refl _ _).alloc (Nat.le_refl _) _
  have hnq : Blk (x4.alloc (.cells #[.slice sa sn sc, .int .i64 sq] 26)) x4.heap.size #[.slice sa sn sc, .int .i64 sq] 26 := blk_new _ _ rfl
  have T := Lib.hid (T.out.after hbq)
  have U := Lib.hid (U.out.after hbq)
  have S := Lib.hid (S.out.after hbq)
  have TB := Lib.hid (TB.out.after hbq)
  have UB := Lib.hid (UB.out.after hbq)
  have HB := Lib.hid (HB.out.trans (hbq.mono HB.out.size))
  have SB := Lib.hid hnq
  clear hbq hnq
  have tba : (x4.alloc (.cells #[.slice sa sn sc, .int .i64 sq] 26)).cell? ⟨b1, 0, none⟩ = some (.slice ta n tc) := TB.out.cell 0
  have tbb : (x4.alloc (.cells #[.slice sa sn sc, .int .i64 sq] 26)).cell? ⟨b1, 1, none⟩ = some (.int .i64 q) := TB.out.cell 1
  have uba : (x4.alloc (.cells #[.slice sa sn sc, .int .i64 sq] 26)).cell? ⟨b3, 0, none⟩ = some (.slice a2 n2 c2) := UB.out.cell 0
  have ubb : (x4.alloc (.cells #[.slice sa sn sc, .int .i64 sq] 26)).cell? ⟨b3, 1, none⟩ = some (.int .i64 q2) := UB.out.cell 1
  have sba : (x4.alloc (.cells #[.slice sa sn sc, .int .i64 sq] 26)).cell? ⟨x4.heap.size, 0, none⟩ = some (.slice sa sn sc) := SB.out.cell 0
  have sbb : (x4.alloc (.cells #[.slice sa sn sc, .int .i64 sq] 26)).cell? ⟨x4.heap.size, 1, none⟩ = some (.int .i64 sq) := SB.out.cell 1
  go_wp2_with fail
  clear tba tbb uba ubb sba sbb
  generalize (x4.alloc (.cells #[.slice sa sn sc, .int .i64 sq] 26)) = x5 at T U S TB UB SB HB ⊢
  generalize x4.heap.size = b5 at T U S TB UB SB HB ⊢
  refine (flush_impl S.out port).mono ?_
  rintro e x6 ⟨C6, a6, n6, c6, q6, rfl, hTq, hCq, hbq⟩
  have T := Lib.hid (T.out.after hbq)
  have U := Lib.hid (U.out.after hbq)
  have S := Lib.hid (S.out.after hbq)
  have TB := Lib.hid (TB.out.after hbq)
  have UB := Lib.hid (UB.out.after hbq)
  have SB := Lib.hid (SB.out.after hbq)
  have HB := Lib.hid (HB.out.trans (hbq.mono HB.out.size))
  have V := Lib.hid hTq
  clear hTq hCq hbq
  have hbq : Below x6.heap.size x6 (x6.alloc (.cells #[.slice a6 n6 c6, .int .i64 q6] 26)) := (Below.refl _ _).alloc (Nat.le_refl _) _
  have hnq : Blk (x6.alloc (.cells #[.slice a6 n6 c6, .int .i64 q6] 26)) x6.heap.size #[.slice a6 n6 c6, .int .i64 q6] 26 := blk_new _ _ rfl
  have T := Lib.hid (T.out.after hbq)
  have U := Lib.hid (U.out.after hbq)
  have S := Lib.hid (S.out.after hbq)
  have V := Lib.hid (V.out.after hbq)
  have TB := Lib.hid (TB.out.after hbq)
  have UB := Lib.hid (UB.out.after hbq)
  have SB := Lib.hid (SB.out.after hbq)
  have HB := Lib.hid (HB.out.trans (hbq.mono HB.out.size))
  have VB := Lib.hid hnq
  clear hbq hnq
  have tba : (x6.alloc (.cells #[.slice a6 n6 c6, .int .i64 q6] 26)).cell? ⟨b1, 0, none⟩ = some (.slice ta n tc) := TB.out.cell 0
  have tbb : (x6.alloc (.cells #[.slice a6 n6 c6, .int .i64 q6] 26)).cell? ⟨b1, 1, none⟩ = some (.int .i64 q) := TB.out.cell 1
  have uba : (x6.alloc (.cells #[.slice a6 n6 c6, .int .i64 q6] 26)).cell? ⟨b3, 0, none⟩ = some (.slice a2 n2 c2) := UB.out.cell 0
  have ubb : (x6.alloc (.cells #[.slice a6 n6 c6, .int .i64 q6] 26)).cell? ⟨b3, 1, none⟩ = some (.int .i64 q2) := UB.out.cell 1
  have sba : (x6.alloc (.cells #[.slice a6 n6 c6, .int .i64 q6] 26)).cell? ⟨b5, 0, none⟩ = some (.slice sa sn sc) := SB.out.cell 0
  have sbb : (x6.alloc (.cells #[.slice a6 n6 c6, .int .i64 q6] 26)).cell? ⟨b5, 1, none⟩ = some (.int .i64 sq) := SB.out.cell 1
  have vba : (x6.alloc (.cells #[.slice a6 n6 c6, .int .i64 q6] 26)).cell? ⟨x6.heap.size, 0, none⟩ = some (.slice a6 n6 c6) := VB.out.cell 0
  have vbb : (x6.alloc (.cells #[.slice a6 n6 c6, .int .i64 q6] 26)).cell? ⟨x6.heap.size, 1, none⟩ = some (.int .i64 q6) := VB.out.cell 1
  go_wp2_with fail
  clear tba tbb uba ubb sba sbb vba vbb
  generalize (x6.alloc (.cells #[.slice a6 n6 c6, .int .i64 q6] 26)) = x7 at T U S V TB UB SB VB HB ⊢
  generalize x6.heap.size = b7 at T U S V TB UB SB VB HB ⊢
  go_upto_region 7 with fail
  refine wp_region_held_drew (S := fun w' => Below x7.heap.size x7 w') (by kernel_rfl) (Below.drew (Below.refl _ _)) (fun hHeld => ?_)
  refine wpAnyH_take (i := 0) (v := ?v1) rfl (by kernel_rfl) (by kernel_rfl) (by kernel_rfl) (fun _ _ _ h => h) (Or.inl ⟨by rfl, ?h1⟩) hHeld ?r1
  case h1 => intro wq hS; have kq := UB.out.after hS; have ca : wq.cell? ⟨b3, 0, none⟩ = some (.slice a2 n2 c2) := kq.cell 0; have cb : wq.cell? ⟨b3, 1, none⟩ = some (.int .i64 q2) := kq.cell 1; clear kq; go_simp; with_reducible rfl
  try simp only [Act.put, List.getElem_toArray, List.getElem_cons_zero, List.getElem_cons_succ, List.setIfInBounds_toArray, List.set_cons_zero, List.set_cons_succ]
  refine wpAnyH_take (i := 1) (v := ?v2) rfl (by kernel_rfl) (by kernel_rfl) (by kernel_rfl) (fun _ _ _ h => h) (Or.inl ⟨by rfl, ?h2⟩) hHeld ?r2
  case h2 => intro wq hS; have kq := TB.out.after hS; have ca : wq.cell? ⟨b1, 0, none⟩ = some (.slice ta n tc) := kq.cell 0; have cb : wq.cell? ⟨b1, 1, none⟩ = some (.int .i64 q) := kq.cell 1; clear kq; go_simp; with_reducible rfl
  try simp only [Act.put, List.getElem_toArray, List.getElem_cons_zero, List.getElem_cons_succ, List.setIfInBounds_toArray, List.set_cons_zero, List.set_cons_succ]
  refine wpAnyH_take (i := 2) (v := ?v3) rfl (by kernel_rfl) (by kernel_rfl) (by kernel_rfl) (fun _ _ _ h => h) (Or.inl ⟨by rfl, ?h3⟩) hHeld ?r3
  case h3 => intro wq hS; go_simp; with_reducible rfl
  try simp only [Act.put, List.getElem_toArray, List.getElem_cons_zero, List.getElem_cons_succ, List.setIfInBounds_toArray, List.set_cons_zero, List.set_cons_succ]
  refine wpAnyH_take (i := 3) (v := ?v4) rfl (by kernel_rfl) (by kernel_rfl) (by kernel_rfl) (fun _ _ _ h => h) (Or.inl ⟨by rfl, ?h4⟩) hHeld ?r4
  case h4 => intro wq hS; go_simp; with_reducible rfl
  try simp only [Act.put, List.getElem_toArray, List.getElem_cons_zero, List.getElem_cons_succ, List.setIfInBounds_toArray, List.set_cons_zero, List.set_cons_succ]
  refine wpAnyH_ready (rs := [4]) (by kernel_rfl) (by simp) ?_
  refine AllReadyH.cons rfl (fun K hK => ?_) AllReadyH.nil
  go_simp
  refine (ageT_spec (T.out.after hHeld) now age).mono ?_
  rintro e y21 ⟨C21, a21, n21, c21, q21, rfl, hTq, hCq, hbq⟩
  clear hCq
  refine hK.out _ _ (hHeld.trans (hbq.mono hHeld.size)) (fun hHeld => ?_)
  clear hK K
  try simp only [Act.put, List.getElem_toArray, List.getElem_cons_zero, List.getElem_cons_succ, List.setIfInBounds_toArray, List.set_cons_zero, List.set_cons_succ]
  refine wpAnyH_ready (rs := [5]) (by kernel_rfl) (by simp) ?_
  refine AllReadyH.cons rfl (fun K hK => ?_) AllReadyH.nil
  go_simp
  refine (sameTable_any (U.out.after hHeld) hTq).mono ?_
  rintro e y22 ⟨rfl, hbr⟩
  rw [decide_eq_true rfl]
  clear hTq
  refine hK.out _ _ (hHeld.trans (hbr.mono hHeld.size)) (fun hHeld => ?_)
  clear hK K
  try simp only [Act.put, List.getElem_toArray, List.getElem_cons_zero, List.getElem_cons_succ, List.setIfInBounds_toArray, List.set_cons_zero, List.set_cons_succ]
  refine wpAnyH_take (i := 6) (v := ?v5) rfl (by kernel_rfl) (by kernel_rfl) (by kernel_rfl) (fun _ _ _ h => h) (Or.inl ⟨by rfl, ?h5⟩) hHeld ?r5
  case h5 => intro wq hS; go_simp; with_reducible rfl
  try simp only [Act.put, List.getElem_toArray, List.getElem_cons_zero, List.getElem_cons_succ, List.setIfInBounds_toArray, List.set_cons_zero, List.set_cons_succ]
  refine wpAnyH_take (i := 7) (v := ?v6) rfl (by kernel_rfl) (by kernel_rfl) (by kernel_rfl) (fun _ _ _ h => h) (Or.inl ⟨by rfl, ?h6⟩) hHeld ?r6
  case h6 => intro wq hS; go_simp; with_reducible rfl
  try simp only [Act.put, List.getElem_toArray, List.getElem_cons_zero, List.getElem_cons_succ, List.setIfInBounds_toArray, List.set_cons_zero, List.set_cons_succ]
  refine wpAnyH_take (i := 8) (v := ?v7) rfl (by kernel_rfl) (by kernel_rfl) (by kernel_rfl) (fun _ _ _ h => h) (Or.inl ⟨by rfl, ?h7⟩) hHeld ?r7
  case h7 => intro wq hS; have kq := VB.out.after hS; have ca : wq.cell? ⟨b7, 0, none⟩ = some (.slice a6 n6 c6) := kq.cell 0; have cb : wq.cell? ⟨b7, 1, none⟩ = some (.int .i64 q6) := kq.cell 1; clear kq; go_simp; with_reducible rfl
  try simp only [Act.put, List.getElem_toArray, List.getElem_cons_zero, List.getElem_cons_succ, List.setIfInBounds_toArray, List.set_cons_zero, List.set_cons_succ]
  refine wpAnyH_take (i := 9) (v := ?v8) rfl (by kernel_rfl) (by kernel_rfl) (by kernel_rfl) (fun _ _ _ h => h) (Or.inl ⟨by rfl, ?h8⟩) hHeld ?r8
  case h8 => intro wq hS; have kq := SB.out.after hS; have ca : wq.cell? ⟨b5, 0, none⟩ = some (.slice sa sn sc) := kq.cell 0; have cb : wq.cell? ⟨b5, 1, none⟩ = some (.int .i64 sq) := kq.cell 1; clear kq; go_simp; with_reducible rfl
  try simp only [Act.put, List.getElem_toArray, List.getElem_cons_zero, List.getElem_cons_succ, List.setIfInBounds_toArray, List.set_cons_zero, List.set_cons_succ]
  refine wpAnyH_take (i := 10) (v := ?v9) rfl (by kernel_rfl) (by kernel_rfl) (by kernel_rfl) (fun _ _ _ h => h) (Or.inl ⟨by rfl, ?h9⟩) hHeld ?r9
  case h9 => intro wq hS; go_simp; with_reducible rfl
  try simp only [Act.put, List.getElem_toArray, List.getElem_cons_zero, List.getElem_cons_succ, List.setIfInBounds_toArray, List.set_cons_zero, List.set_cons_succ]
  clear hbq hbr
  refine wpAnyH_ready (rs := [11]) (by kernel_rfl) (by simp) ?_
  refine AllReadyH.cons rfl (fun K hK => ?_) AllReadyH.nil
  go_simp
  refine (flushT_spec (S.out.after hHeld) port).mono ?_
  rintro e y23 ⟨C23, a23, n23, c23, q23, rfl, hTq, hCq, hbq⟩
  clear hCq
  refine hK.out _ _ (hHeld.trans (hbq.mono hHeld.size)) (fun hHeld => ?_)
  clear hK K
  try simp only [Act.put, List.getElem_toArray, List.getElem_cons_zero, List.getElem_cons_succ, List.setIfInBounds_toArray, List.set_cons_zero, List.set_cons_succ]
  refine wpAnyH_ready (rs := [12]) (by kernel_rfl) (by simp) ?_
  refine AllReadyH.cons rfl (fun K hK => ?_) AllReadyH.nil
  go_simp
  refine (sameTable_any (V.out.after hHeld) hTq).mono ?_
  rintro e y24 ⟨rfl, hbr⟩
  rw [decide_eq_true rfl]
  clear hTq
  refine hK.out _ _ (hHeld.trans (hbr.mono hHeld.size)) (fun hHeld => ?_)
  clear hK K
  try simp only [Act.put, List.getElem_toArray, List.getElem_cons_zero, List.getElem_cons_succ, List.setIfInBounds_toArray, List.set_cons_zero, List.set_cons_succ]
  refine wpAnyH_take (i := 13) (v := ?v10) rfl (by kernel_rfl) (by kernel_rfl) (by kernel_rfl) (fun _ _ _ h => h) (Or.inl ⟨by rfl, ?h10⟩) hHeld ?r10
  case h10 => intro wq hS; go_simp; with_reducible rfl
  try simp only [Act.put, List.getElem_toArray, List.getElem_cons_zero, List.getElem_cons_succ, List.setIfInBounds_toArray, List.set_cons_zero, List.set_cons_succ]
  refine wpAnyH_take (i := 14) (v := ?v11) rfl (by kernel_rfl) (by kernel_rfl) (by kernel_rfl) (fun _ _ _ h => h) (Or.inl ⟨by rfl, ?h11⟩) hHeld ?r11
  case h11 => intro wq hS; go_simp; with_reducible rfl
  try simp only [Act.put, List.getElem_toArray, List.getElem_cons_zero, List.getElem_cons_succ, List.setIfInBounds_toArray, List.set_cons_zero, List.set_cons_succ]
  refine wpAnyH_done (by kernel_rfl) ?_ _
  clear hbq hbr
  have T := Lib.hid (T.out.after hHeld)
  have U := Lib.hid (U.out.after hHeld)
  have S := Lib.hid (S.out.after hHeld)
  have V := Lib.hid (V.out.after hHeld)
  have TB := Lib.hid (TB.out.after hHeld)
  have UB := Lib.hid (UB.out.after hHeld)
  have SB := Lib.hid (SB.out.after hHeld)
  have VB := Lib.hid (VB.out.after hHeld)
  have HB := Lib.hid (HB.out.trans (hHeld.mono HB.out.size))
  clear hHeld
  have tba : y24.cell? ⟨b1, 0, none⟩ = some (.slice ta n tc) := TB.out.cell 0
  have tbb : y24.cell? ⟨b1, 1, none⟩ = some (.int .i64 q) := TB.out.cell 1
  have uba : y24.cell? ⟨b3, 0, none⟩ = some (.slice a2 n2 c2) := UB.out.cell 0
  have ubb : y24.cell? ⟨b3, 1, none⟩ = some (.int .i64 q2) := UB.out.cell 1
  have sba : y24.cell? ⟨b5, 0, none⟩ = some (.slice sa sn sc) := SB.out.cell 0
  have sbb : y24.cell? ⟨b5, 1, none⟩ = some (.int .i64 sq) := SB.out.cell 1
  have vba : y24.cell? ⟨b7, 0, none⟩ = some (.slice a6 n6 c6) := VB.out.cell 0
  have vbb : y24.cell? ⟨b7, 1, none⟩ = some (.int .i64 q6) := VB.out.cell 1
  go_wp2_with fail
  refine (tableOk_spec T.out).mono ?_
  rintro e x8 ⟨rfl, hbq⟩
  clear tba tbb uba ubb sba sbb vba vbb
  have T := Lib.hid (T.out.after hbq)
  have U := Lib.hid (U.out.after hbq)
  have S := Lib.hid (S.out.after hbq)
  have V := Lib.hid (V.out.after hbq)
  have TB := Lib.hid (TB.out.after hbq)
  have UB := Lib.hid (UB.out.after hbq)
  have SB := Lib.hid (SB.out.after hbq)
  have VB := Lib.hid (VB.out.after hbq)
  have HB := Lib.hid (HB.out.trans (hbq.mono HB.out.size))
  clear hbq
  by_cases hok : tabOk t
  case neg =>
    rw [decide_eq_false hok]
    have tba : x8.cell? ⟨b1, 0, none⟩ = some (.slice ta n tc) := TB.out.cell 0
    have tbb : x8.cell? ⟨b1, 1, none⟩ = some (.int .i64 q) := TB.out.cell 1
    have uba : x8.cell? ⟨b3, 0, none⟩ = some (.slice a2 n2 c2) := UB.out.cell 0
    have ubb : x8.cell? ⟨b3, 1, none⟩ = some (.int .i64 q2) := UB.out.cell 1
    have sba : x8.cell? ⟨b5, 0, none⟩ = some (.slice sa sn sc) := SB.out.cell 0
    have sbb : x8.cell? ⟨b5, 1, none⟩ = some (.int .i64 sq) := SB.out.cell 1
    have vba : x8.cell? ⟨b7, 0, none⟩ = some (.slice a6 n6 c6) := VB.out.cell 0
    have vbb : x8.cell? ⟨b7, 1, none⟩ = some (.int .i64 q6) := VB.out.cell 1
    go_wp2_with fail
    go_ret
    exact ⟨rfl, HB.out⟩
  rw [decide_eq_true hok]
  have HOK := Lib.hid hok
  clear hok
  have tba : x8.cell? ⟨b1, 0, none⟩ = some (.slice ta n tc) := TB.out.cell 0
  have tbb : x8.cell? ⟨b1, 1, none⟩ = some (.int .i64 q) := TB.out.cell 1
  have uba : x8.cell? ⟨b3, 0, none⟩ = some (.slice a2 n2 c2) := UB.out.cell 0
  have ubb : x8.cell? ⟨b3, 1, none⟩ = some (.int .i64 q2) := UB.out.cell 1
  have sba : x8.cell? ⟨b5, 0, none⟩ = some (.slice sa sn sc) := SB.out.cell 0
  have sbb : x8.cell? ⟨b5, 1, none⟩ = some (.int .i64 sq) := SB.out.cell 1
  have vba : x8.cell? ⟨b7, 0, none⟩ = some (.slice a6 n6 c6) := VB.out.cell 0
  have vbb : x8.cell? ⟨b7, 1, none⟩ = some (.int .i64 q6) := VB.out.cell 1
  go_wp2_with fail
  refine (tableOk_spec S.out).mono ?_
  rintro e x9 ⟨rfl, hbq⟩
  clear tba tbb uba ubb sba sbb vba vbb
  have T := Lib.hid (T.out.after hbq)
  have U := Lib.hid (U.out.after hbq)
  have S := Lib.hid (S.out.after hbq)
  have V := Lib.hid (V.out.after hbq)
  have TB := Lib.hid (TB.out.after hbq)
  have UB := Lib.hid (UB.out.after hbq)
  have SB := Lib.hid (SB.out.after hbq)
  have VB := Lib.hid (VB.out.after hbq)
  have HB := Lib.hid (HB.out.trans (hbq.mono HB.out.size))
  clear hbq
  by_cases hok : tabOk s
  case neg =>
    rw [decide_eq_false hok]
    have tba : x9.cell? ⟨b1, 0, none⟩ = some (.slice ta n tc) := TB.out.cell 0
    have tbb : x9.cell? ⟨b1, 1, none⟩ = some (.int .i64 q) := TB.out.cell 1
    have uba : x9.cell? ⟨b3, 0, none⟩ = some (.slice a2 n2 c2) := UB.out.cell 0
    have ubb : x9.cell? ⟨b3, 1, none⟩ = some (.int .i64 q2) := UB.out.cell 1
    have sba : x9.cell? ⟨b5, 0, none⟩ = some (.slice sa sn sc) := SB.out.cell 0
    have sbb : x9.cell? ⟨b5, 1, none⟩ = some (.int .i64 sq) := SB.out.cell 1
    have vba : x9.cell? ⟨b7, 0, none⟩ = some (.slice a6 n6 c6) := VB.out.cell 0
    have vbb : x9.cell? ⟨b7, 1, none⟩ = some (.int .i64 q6) := VB.out.cell 1
    go_wp2_with fail
    go_ret
    exact ⟨rfl, HB.out⟩
  rw [decide_eq_true hok]
  have HOS := Lib.hid hok
  clear hok
  have tba : x9.cell? ⟨b1, 0, none⟩ = some (.slice ta n tc) := TB.out.cell 0
  have tbb : x9.cell? ⟨b1, 1, none⟩ = some (.int .i64 q) := TB.out.cell 1
  have uba : x9.cell? ⟨b3, 0, none⟩ = some (.slice a2 n2 c2) := UB.out.cell 0
  have ubb : x9.cell? ⟨b3, 1, none⟩ = some (.int .i64 q2) := UB.out.cell 1
  have sba : x9.cell? ⟨b5, 0, none⟩ = some (.slice sa sn sc) := SB.out.cell 0
  have sbb : x9.cell? ⟨b5, 1, none⟩ = some (.int .i64 sq) := SB.out.cell 1
  have vba : x9.cell? ⟨b7, 0, none⟩ = some (.slice a6 n6 c6) := VB.out.cell 0
  have vbb : x9.cell? ⟨b7, 1, none⟩ = some (.int .i64 q6) := VB.out.cell 1
  go_wp2_with fail
  obtain ⟨hsl, hn, hn21⟩ := tab_open T.out
  have HSL := Lib.hid hsl; have HN := Lib.hid hn
  clear hsl hn
  clear tba tbb uba ubb sba sbb vba vbb
  go_loopw [10] (fun i wr => ∃ k : Nat, i = .int .i64 (k : Nat) ∧ k ≤ n ∧ Below x9.heap.size x9 wr)
    (fun i _ => n - (intOf i).toNat)
  case atStart => exact ⟨0, rfl, Nat.zero_le _, Below.refl _ _⟩
  case round =>
    obtain ⟨k, rfl, hk, hB0⟩ := hrel
    by_cases hlt : k < n
    · have hkx : k < t.rows.length := by rw [HN.out]; exact hlt
      obtain ⟨g, o, rfl, _, hX⟩ := rowAt HSL.out k hkx
      obtain ⟨k0, k1, k2, k3, k4⟩ := (hX wr hB0).1
      obtain ⟨x, hxk⟩ : ∃ x, t.rows[k] = x := ⟨_, rfl⟩
      rw [hxk] at k0 k1 k2 k3 k4
      have HREM := Lib.hid (age_gone HOK.out (now := now) (age := age) (x := x) (by rw [← hxk]; exact List.getElem_mem _))
      clear hX hxk
      obtain ⟨v0, v1, v2, v3, ff⟩ := x
      simp only at k0 k1 k2 k3 k4
      have hlt' : (k : Int) < (n : Int) := by omega
      have tba : wr.cell? ⟨b1, 0, none⟩ = some (.slice (some ⟨g, o, none⟩) n tc) := (TB.out.after hB0).cell 0
      have hnb : Blk (wr.alloc (.cells #[.int .i64 v0, .int .i64 v1, .int .i64 v2, .int .i64 v3, .bool ff] 34)) wr.heap.size #[.int .i64 v0, .int .i64 v1, .int .i64 v2, .int .i64 v3, .bool ff] 34 := blk_new _ _ rfl
      have hBv : Below x9.heap.size x9 (wr.alloc (.cells #[.int .i64 v0, .int .i64 v1, .int .i64 v2, .int .i64 v3, .bool ff] 34)) := hB0.alloc hB0.size _
      have RB := Lib.hid hnb; have HBV := Lib.hid hBv; have UV := Lib.hid (U.out.after hBv); have UBV := Lib.hid (UB.out.after hBv)
      clear hnb hBv hB0
      go_upto_region 15 with fail
      clear tba k0 k1 k2 k3 k4
      generalize (wr.alloc (.cells #[.int .i64 v0, .int .i64 v1, .int .i64 v2, .int .i64 v3, .bool ff] 34)) = wv at RB HBV UV UBV ⊢
      generalize wr.heap.size = br at RB ⊢
      obtain ⟨lk, hlk⟩ : ∃ l, look (ageT t now age) v0 v1 = l := ⟨_, rfl⟩
      have HLK := Lib.hid hlk
      have hrem := HREM.out
      simp only at hrem
      rw [hlk] at hrem
      have HREM := Lib.hid hrem
      clear hlk hrem
      by_cases hq : lk = v2
      case pos =>
        subst hq
        refine wp_region_held_drew (S := fun w' => Below wv.heap.size wv w') (by kernel_rfl) (Below.drew (Below.refl _ _)) (fun hHeld => ?_)
        refine wpAnyH_take (i := 0) (v := ?v12) rfl (by kernel_rfl) (by kernel_rfl) (by kernel_rfl) (fun _ _ _ h => h) (Or.inl ⟨by rfl, ?h12⟩) hHeld ?r12
        case h12 => intro wq hS; have kq := UBV.out.after hS; have ca : wq.cell? ⟨b3, 0, none⟩ = some (.slice a2 n2 c2) := kq.cell 0; have cb : wq.cell? ⟨b3, 1, none⟩ = some (.int .i64 q2) := kq.cell 1; clear kq; go_simp; with_reducible rfl
        try simp only [Act.put, List.getElem_toArray, List.getElem_cons_zero, List.getElem_cons_succ, List.setIfInBounds_toArray, List.set_cons_zero, List.set_cons_succ]
        refine wpAnyH_take (i := 1) (v := ?v13) rfl (by kernel_rfl) (by kernel_rfl) (by kernel_rfl) (fun _ _ _ h => h) (Or.inl ⟨by rfl, ?h13⟩) hHeld ?r13
        case h13 => intro wq hS; go_simp; with_reducible rfl
        try simp only [Act.put, List.getElem_toArray, List.getElem_cons_zero, List.getElem_cons_succ, List.setIfInBounds_toArray, List.set_cons_zero, List.set_cons_succ]
        refine wpAnyH_take (i := 2) (v := ?v14) rfl (by kernel_rfl) (by kernel_rfl) (by kernel_rfl) (fun _ _ _ h => h) (Or.inl ⟨by rfl, ?h14⟩) hHeld ?r14
        case h14 => intro wq hS; have kq := RB.out.after hS; have ca : wq.cell? ⟨br, 0, none⟩ = some (.int .i64 v0) := kq.cell 0; have cb : wq.cell? ⟨br, 1, none⟩ = some (.int .i64 v1) := kq.cell 1; have cc : wq.cell? ⟨br, 2, none⟩ = some (.int .i64 lk) := kq.cell 2; have cx : wq.cell? ⟨br, 3, none⟩ = some (.int .i64 v3) := kq.cell 3; have cd : wq.cell? ⟨br, 4, none⟩ = some (.bool ff) := kq.cell 4; clear kq; go_simp; with_reducible rfl
        try simp only [Act.put, List.getElem_toArray, List.getElem_cons_zero, List.getElem_cons_succ, List.setIfInBounds_toArray, List.set_cons_zero, List.set_cons_succ]
        refine wpAnyH_take (i := 3) (v := ?v15) rfl (by kernel_rfl) (by kernel_rfl) (by kernel_rfl) (fun _ _ _ h => h) (Or.inl ⟨by rfl, ?h15⟩) hHeld ?r15
        case h15 => intro wq hS; go_simp; with_reducible rfl
        try simp only [Act.put, List.getElem_toArray, List.getElem_cons_zero, List.getElem_cons_succ, List.setIfInBounds_toArray, List.set_cons_zero, List.set_cons_succ]
        refine wpAnyH_take (i := 4) (v := ?v16) rfl (by kernel_rfl) (by kernel_rfl) (by kernel_rfl) (fun _ _ _ h => h) (Or.inl ⟨by rfl, ?h16⟩) hHeld ?r16
        case h16 => intro wq hS; have kq := RB.out.after hS; have ca : wq.cell? ⟨br, 0, none⟩ = some (.int .i64 v0) := kq.cell 0; have cb : wq.cell? ⟨br, 1, none⟩ = some (.int .i64 v1) := kq.cell 1; have cc : wq.cell? ⟨br, 2, none⟩ = some (.int .i64 lk) := kq.cell 2; have cx : wq.cell? ⟨br, 3, none⟩ = some (.int .i64 v3) := kq.cell 3; have cd : wq.cell? ⟨br, 4, none⟩ = some (.bool ff) := kq.cell 4; clear kq; go_simp; with_reducible rfl
        try simp only [Act.put, List.getElem_toArray, List.getElem_cons_zero, List.getElem_cons_succ, List.setIfInBounds_toArray, List.set_cons_zero, List.set_cons_succ]
        refine wpAnyH_take (i := 6) (v := ?v17) rfl (by kernel_rfl) (by kernel_rfl) (by kernel_rfl) (fun _ _ _ h => h) (Or.inl ⟨by rfl, ?h17⟩) hHeld ?r17
        case h17 => intro wq hS; go_simp; with_reducible rfl
        try simp only [Act.put, List.getElem_toArray, List.getElem_cons_zero, List.getElem_cons_succ, List.setIfInBounds_toArray, List.set_cons_zero, List.set_cons_succ]
        refine wpAnyH_take (i := 7) (v := ?v18) rfl (by kernel_rfl) (by kernel_rfl) (by kernel_rfl) (fun _ _ _ h => h) (Or.inl ⟨by rfl, ?h18⟩) hHeld ?r18
        case h18 => intro wq hS; have kq := RB.out.after hS; have ca : wq.cell? ⟨br, 0, none⟩ = some (.int .i64 v0) := kq.cell 0; have cb : wq.cell? ⟨br, 1, none⟩ = some (.int .i64 v1) := kq.cell 1; have cc : wq.cell? ⟨br, 2, none⟩ = some (.int .i64 lk) := kq.cell 2; have cx : wq.cell? ⟨br, 3, none⟩ = some (.int .i64 v3) := kq.cell 3; have cd : wq.cell? ⟨br, 4, none⟩ = some (.bool ff) := kq.cell 4; clear kq; go_simp; with_reducible rfl
        try simp only [Act.put, List.getElem_toArray, List.getElem_cons_zero, List.getElem_cons_succ, List.setIfInBounds_toArray, List.set_cons_zero, List.set_cons_succ]
        refine wpAnyH_ready (rs := [5]) (by kernel_rfl) (by simp) ?_
        refine AllReadyH.cons rfl (fun K hK => ?_) AllReadyH.nil
        go_simp
        refine (look_impl (UV.out.after hHeld) v0 v1).mono ?_
        rintro e xl ⟨rfl, hbl⟩
        rw [HLK.out]
        refine hK.out _ _ (hHeld.trans (hbl.mono hHeld.size)) (fun hHeld => ?_)
        clear hK K
        try simp only [Act.put, List.getElem_toArray, List.getElem_cons_zero, List.getElem_cons_succ, List.setIfInBounds_toArray, List.set_cons_zero, List.set_cons_succ]
        refine wpAnyH_take (i := 8) (v := ?v19) rfl (by kernel_rfl) (by kernel_rfl) (by kernel_rfl) (fun _ _ _ h => h) (Or.inl ⟨by rfl, ?h19⟩) hHeld ?r19
        case h19 => intro wq hS; go_simp; with_reducible rfl
        try simp only [Act.put, List.getElem_toArray, List.getElem_cons_zero, List.getElem_cons_succ, List.setIfInBounds_toArray, List.set_cons_zero, List.set_cons_succ]
        refine wpAnyH_take (i := 9) (v := ?v20) rfl (by kernel_rfl) (by kernel_rfl) (by kernel_rfl) (fun _ _ _ h => h) (Or.inl ⟨by rfl, ?h20⟩) hHeld ?r20
        case h20 => intro wq hS; go_simp; with_reducible rfl
        try simp only [Act.put, List.getElem_toArray, List.getElem_cons_zero, List.getElem_cons_succ, List.setIfInBounds_toArray, List.set_cons_zero, List.set_cons_succ]
        refine wpAnyH_take (i := 10) (v := undef) rfl (by kernel_rfl) (by kernel_rfl) (by kernel_rfl) (fun _ _ _ h => h) (Or.inr ⟨by rfl, rfl⟩) hHeld ?r21
        try simp only [Act.put, List.getElem_toArray, List.getElem_cons_zero, List.getElem_cons_succ, List.setIfInBounds_toArray, List.set_cons_zero, List.set_cons_succ]
        refine wpAnyH_take (i := 11) (v := undef) rfl (by kernel_rfl) (by kernel_rfl) (by kernel_rfl) (fun _ _ _ h => h) (Or.inr ⟨by rfl, rfl⟩) hHeld ?r22
        try simp only [Act.put, List.getElem_toArray, List.getElem_cons_zero, List.getElem_cons_succ, List.setIfInBounds_toArray, List.set_cons_zero, List.set_cons_succ]
        refine wpAnyH_take (i := 12) (v := undef) rfl (by kernel_rfl) (by kernel_rfl) (by kernel_rfl) (fun _ _ _ h => h) (Or.inr ⟨by rfl, rfl⟩) hHeld ?r23
        try simp only [Act.put, List.getElem_toArray, List.getElem_cons_zero, List.getElem_cons_succ, List.setIfInBounds_toArray, List.set_cons_zero, List.set_cons_succ]
        refine wpAnyH_take (i := 13) (v := undef) rfl (by kernel_rfl) (by kernel_rfl) (by kernel_rfl) (fun _ _ _ h => h) (Or.inr ⟨by rfl, rfl⟩) hHeld ?r24
        try simp only [Act.put, List.getElem_toArray, List.getElem_cons_zero, List.getElem_cons_succ, List.setIfInBounds_toArray, List.set_cons_zero, List.set_cons_succ]
        refine wpAnyH_take (i := 14) (v := undef) rfl (by kernel_rfl) (by kernel_rfl) (by kernel_rfl) (fun _ _ _ h => h) (Or.inr ⟨by rfl, rfl⟩) hHeld ?r25
        try simp only [Act.put, List.getElem_toArray, List.getElem_cons_zero, List.getElem_cons_succ, List.setIfInBounds_toArray, List.set_cons_zero, List.set_cons_succ]
        refine wpAnyH_take (i := 15) (v := undef) rfl (by kernel_rfl) (by kernel_rfl) (by kernel_rfl) (fun _ _ _ h => h) (Or.inr ⟨by rfl, rfl⟩) hHeld ?r26
        try simp only [Act.put, List.getElem_toArray, List.getElem_cons_zero, List.getElem_cons_succ, List.setIfInBounds_toArray, List.set_cons_zero, List.set_cons_succ]
        refine wpAnyH_take (i := 16) (v := undef) rfl (by kernel_rfl) (by kernel_rfl) (by kernel_rfl) (fun _ _ _ h => h) (Or.inr ⟨by rfl, rfl⟩) hHeld ?r27
        try simp only [Act.put, List.getElem_toArray, List.getElem_cons_zero, List.getElem_cons_succ, List.setIfInBounds_toArray, List.set_cons_zero, List.set_cons_succ]
        refine wpAnyH_take (i := 17) (v := undef) rfl (by kernel_rfl) (by kernel_rfl) (by kernel_rfl) (fun _ _ _ h => h) (Or.inr ⟨by rfl, rfl⟩) hHeld ?r28
        try simp only [Act.put, List.getElem_toArray, List.getElem_cons_zero, List.getElem_cons_succ, List.setIfInBounds_toArray, List.set_cons_zero, List.set_cons_succ]
        refine wpAnyH_take (i := 18) (v := undef) rfl (by kernel_rfl) (by kernel_rfl) (by kernel_rfl) (fun _ _ _ h => h) (Or.inr ⟨by rfl, rfl⟩) hHeld ?r29
        try simp only [Act.put, List.getElem_toArray, List.getElem_cons_zero, List.getElem_cons_succ, List.setIfInBounds_toArray, List.set_cons_zero, List.set_cons_succ]
        refine wpAnyH_take (i := 19) (v := undef) rfl (by kernel_rfl) (by kernel_rfl) (by kernel_rfl) (fun _ _ _ h => h) (Or.inr ⟨by rfl, rfl⟩) hHeld ?r30
        try simp only [Act.put, List.getElem_toArray, List.getElem_cons_zero, List.getElem_cons_succ, List.setIfInBounds_toArray, List.set_cons_zero, List.set_cons_succ]
        refine wpAnyH_take (i := 20) (v := ?v31) rfl (by kernel_rfl) (by kernel_rfl) (by kernel_rfl) (fun _ _ _ h => h) (Or.inl ⟨by rfl, ?h31⟩) hHeld ?r31
        case h31 => intro wq hS; go_simp; with_reducible rfl
        try simp only [Act.put, List.getElem_toArray, List.getElem_cons_zero, List.getElem_cons_succ, List.setIfInBounds_toArray, List.set_cons_zero, List.set_cons_succ]
        refine wpAnyH_done (by kernel_rfl) ?_ _
        have HF := Lib.hid (HBV.out.trans (hHeld.mono HBV.out.size))
        clear hHeld
        go_wp2_with fail
        go_roundw
        case rel => exact ⟨k + 1, by go_num, by omega, HF.out⟩
        case measure => simp [intOf]; omega
      case neg =>
        have hq1 : (lk != v2) = true := by simp [hq]
        obtain ⟨rfl, h1, h2, h3, h4, h5⟩ := HREM.out hq
        have hw : IntKind.i64.wrap (v3 + age) = v3 + age := IntWalk.i64_in _ (by omega)
        have hge : ¬ (now ≤ v3 + age) := by omega
        have H1 := Lib.hid h1; have H2 := Lib.hid h2; have H4 := Lib.hid h4; have H5 := Lib.hid h5
        clear h1 h2 h3 h4 h5
        refine wp_region_held_drew (S := fun w' => Below wv.heap.size wv w') (by kernel_rfl) (Below.drew (Below.refl _ _)) (fun hHeld => ?_)
        refine wpAnyH_take (i := 0) (v := ?v32) rfl (by kernel_rfl) (by kernel_rfl) (by kernel_rfl) (fun _ _ _ h => h) (Or.inl ⟨by rfl, ?h32⟩) hHeld ?r32
        case h32 => intro wq hS; have kq := UBV.out.after hS; have ca : wq.cell? ⟨b3, 0, none⟩ = some (.slice a2 n2 c2) := kq.cell 0; have cb : wq.cell? ⟨b3, 1, none⟩ = some (.int .i64 q2) := kq.cell 1; clear kq; go_simp; with_reducible rfl
        try simp only [Act.put, List.getElem_toArray, List.getElem_cons_zero, List.getElem_cons_succ, List.setIfInBounds_toArray, List.set_cons_zero, List.set_cons_succ]
        refine wpAnyH_take (i := 1) (v := ?v33) rfl (by kernel_rfl) (by kernel_rfl) (by kernel_rfl) (fun _ _ _ h => h) (Or.inl ⟨by rfl, ?h33⟩) hHeld ?r33
        case h33 => intro wq hS; go_simp; with_reducible rfl
        try simp only [Act.put, List.getElem_toArray, List.getElem_cons_zero, List.getElem_cons_succ, List.setIfInBounds_toArray, List.set_cons_zero, List.set_cons_succ]
        refine wpAnyH_take (i := 2) (v := ?v34) rfl (by kernel_rfl) (by kernel_rfl) (by kernel_rfl) (fun _ _ _ h => h) (Or.inl ⟨by rfl, ?h34⟩) hHeld ?r34
        case h34 => intro wq hS; have kq := RB.out.after hS; have ca : wq.cell? ⟨br, 0, none⟩ = some (.int .i64 v0) := kq.cell 0; have cb : wq.cell? ⟨br, 1, none⟩ = some (.int .i64 v1) := kq.cell 1; have cc : wq.cell? ⟨br, 2, none⟩ = some (.int .i64 v2) := kq.cell 2; have cx : wq.cell? ⟨br, 3, none⟩ = some (.int .i64 v3) := kq.cell 3; have cd : wq.cell? ⟨br, 4, none⟩ = some (.bool false) := kq.cell 4; clear kq; go_simp; with_reducible rfl
        try simp only [Act.put, List.getElem_toArray, List.getElem_cons_zero, List.getElem_cons_succ, List.setIfInBounds_toArray, List.set_cons_zero, List.set_cons_succ]
        refine wpAnyH_take (i := 3) (v := ?v35) rfl (by kernel_rfl) (by kernel_rfl) (by kernel_rfl) (fun _ _ _ h => h) (Or.inl ⟨by rfl, ?h35⟩) hHeld ?r35
        case h35 => intro wq hS; go_simp; with_reducible rfl
        try simp only [Act.put, List.getElem_toArray, List.getElem_cons_zero, List.getElem_cons_succ, List.setIfInBounds_toArray, List.set_cons_zero, List.set_cons_succ]
        refine wpAnyH_take (i := 4) (v := ?v36) rfl (by kernel_rfl) (by kernel_rfl) (by kernel_rfl) (fun _ _ _ h => h) (Or.inl ⟨by rfl, ?h36⟩) hHeld ?r36
        case h36 => intro wq hS; have kq := RB.out.after hS; have ca : wq.cell? ⟨br, 0, none⟩ = some (.int .i64 v0) := kq.cell 0; have cb : wq.cell? ⟨br, 1, none⟩ = some (.int .i64 v1) := kq.cell 1; have cc : wq.cell? ⟨br, 2, none⟩ = some (.int .i64 v2) := kq.cell 2; have cx : wq.cell? ⟨br, 3, none⟩ = some (.int .i64 v3) := kq.cell 3; have cd : wq.cell? ⟨br, 4, none⟩ = some (.bool false) := kq.cell 4; clear kq; go_simp; with_reducible rfl
        try simp only [Act.put, List.getElem_toArray, List.getElem_cons_zero, List.getElem_cons_succ, List.setIfInBounds_toArray, List.set_cons_zero, List.set_cons_succ]
        refine wpAnyH_take (i := 6) (v := ?v37) rfl (by kernel_rfl) (by kernel_rfl) (by kernel_rfl) (fun _ _ _ h => h) (Or.inl ⟨by rfl, ?h37⟩) hHeld ?r37
        case h37 => intro wq hS; go_simp; with_reducible rfl
        try simp only [Act.put, List.getElem_toArray, List.getElem_cons_zero, List.getElem_cons_succ, List.setIfInBounds_toArray, List.set_cons_zero, List.set_cons_succ]
        refine wpAnyH_take (i := 7) (v := ?v38) rfl (by kernel_rfl) (by kernel_rfl) (by kernel_rfl) (fun _ _ _ h => h) (Or.inl ⟨by rfl, ?h38⟩) hHeld ?r38
        case h38 => intro wq hS; have kq := RB.out.after hS; have ca : wq.cell? ⟨br, 0, none⟩ = some (.int .i64 v0) := kq.cell 0; have cb : wq.cell? ⟨br, 1, none⟩ = some (.int .i64 v1) := kq.cell 1; have cc : wq.cell? ⟨br, 2, none⟩ = some (.int .i64 v2) := kq.cell 2; have cx : wq.cell? ⟨br, 3, none⟩ = some (.int .i64 v3) := kq.cell 3; have cd : wq.cell? ⟨br, 4, none⟩ = some (.bool false) := kq.cell 4; clear kq; go_simp; with_reducible rfl
        try simp only [Act.put, List.getElem_toArray, List.getElem_cons_zero, List.getElem_cons_succ, List.setIfInBounds_toArray, List.set_cons_zero, List.set_cons_succ]
        refine wpAnyH_ready (rs := [5]) (by kernel_rfl) (by simp) ?_
        refine AllReadyH.cons rfl (fun K hK => ?_) AllReadyH.nil
        go_simp
        refine (look_impl (UV.out.after hHeld) v0 v1).mono ?_
        rintro e xl ⟨rfl, hbl⟩
        rw [HLK.out]
        refine hK.out _ _ (hHeld.trans (hbl.mono hHeld.size)) (fun hHeld => ?_)
        clear hK K
        try simp only [Act.put, List.getElem_toArray, List.getElem_cons_zero, List.getElem_cons_succ, List.setIfInBounds_toArray, List.set_cons_zero, List.set_cons_succ]
        refine wpAnyH_take (i := 8) (v := ?v39) rfl (by kernel_rfl) (by kernel_rfl) (by kernel_rfl) (fun _ _ _ h => h) (Or.inl ⟨by rfl, ?h39⟩) hHeld ?r39
        case h39 => intro wq hS; go_simp; with_reducible rfl
        try simp only [Act.put, List.getElem_toArray, List.getElem_cons_zero, List.getElem_cons_succ, List.setIfInBounds_toArray, List.set_cons_zero, List.set_cons_succ]
        refine wpAnyH_take (i := 9) (v := ?v40) rfl (by kernel_rfl) (by kernel_rfl) (by kernel_rfl) (fun _ _ _ h => h) (Or.inl ⟨by rfl, ?h40⟩) hHeld ?r40
        case h40 => intro wq hS; go_simp; with_reducible rfl
        try simp only [Act.put, List.getElem_toArray, List.getElem_cons_zero, List.getElem_cons_succ, List.setIfInBounds_toArray, List.set_cons_zero, List.set_cons_succ]
        refine wpAnyH_take (i := 10) (v := ?v41) rfl (by kernel_rfl) (by kernel_rfl) (by kernel_rfl) (fun _ _ _ h => h) (Or.inl ⟨by rfl, ?h41⟩) hHeld ?r41
        case h41 => intro wq hS; go_simp; with_reducible rfl
        try simp only [Act.put, List.getElem_toArray, List.getElem_cons_zero, List.getElem_cons_succ, List.setIfInBounds_toArray, List.set_cons_zero, List.set_cons_succ]
        refine wpAnyH_take (i := 11) (v := ?v42) rfl (by kernel_rfl) (by kernel_rfl) (by kernel_rfl) (fun _ _ _ h => h) (Or.inl ⟨by rfl, ?h42⟩) hHeld ?r42
        case h42 => intro wq hS; have kq := RB.out.after hS; have ca : wq.cell? ⟨br, 0, none⟩ = some (.int .i64 v0) := kq.cell 0; have cb : wq.cell? ⟨br, 1, none⟩ = some (.int .i64 v1) := kq.cell 1; have cc : wq.cell? ⟨br, 2, none⟩ = some (.int .i64 v2) := kq.cell 2; have cx : wq.cell? ⟨br, 3, none⟩ = some (.int .i64 v3) := kq.cell 3; have cd : wq.cell? ⟨br, 4, none⟩ = some (.bool false) := kq.cell 4; clear kq; go_simp; with_reducible rfl
        try simp only [Act.put, List.getElem_toArray, List.getElem_cons_zero, List.getElem_cons_succ, List.setIfInBounds_toArray, List.set_cons_zero, List.set_cons_succ]
        refine wpAnyH_take (i := 12) (v := ?v43) rfl (by kernel_rfl) (by kernel_rfl) (by kernel_rfl) (fun _ _ _ h => h) (Or.inl ⟨by rfl, ?h43⟩) hHeld ?r43
        case h43 => intro wq hS; go_simp; with_reducible rfl
        try simp only [Act.put, List.getElem_toArray, List.getElem_cons_zero, List.getElem_cons_succ, List.setIfInBounds_toArray, List.set_cons_zero, List.set_cons_succ]
        refine wpAnyH_take (i := 13) (v := ?v44) rfl (by kernel_rfl) (by kernel_rfl) (by kernel_rfl) (fun _ _ _ h => h) (Or.inl ⟨by rfl, ?h44⟩) hHeld ?r44
        case h44 => intro wq hS; go_simp; with_reducible rfl
        try simp only [Act.put, List.getElem_toArray, List.getElem_cons_zero, List.getElem_cons_succ, List.setIfInBounds_toArray, List.set_cons_zero, List.set_cons_succ]
        refine wpAnyH_take (i := 14) (v := ?v45) rfl (by kernel_rfl) (by kernel_rfl) (by kernel_rfl) (fun _ _ _ h => h) (Or.inl ⟨by rfl, ?h45⟩) hHeld ?r45
        case h45 => intro wq hS; have kq := RB.out.after hS; have ca : wq.cell? ⟨br, 0, none⟩ = some (.int .i64 v0) := kq.cell 0; have cb : wq.cell? ⟨br, 1, none⟩ = some (.int .i64 v1) := kq.cell 1; have cc : wq.cell? ⟨br, 2, none⟩ = some (.int .i64 v2) := kq.cell 2; have cx : wq.cell? ⟨br, 3, none⟩ = some (.int .i64 v3) := kq.cell 3; have cd : wq.cell? ⟨br, 4, none⟩ = some (.bool false) := kq.cell 4; clear kq; go_simp; with_reducible rfl
        try simp only [Act.put, List.getElem_toArray, List.getElem_cons_zero, List.getElem_cons_succ, List.setIfInBounds_toArray, List.set_cons_zero, List.set_cons_succ]
        refine wpAnyH_take (i := 15) (v := ?v46) rfl (by kernel_rfl) (by kernel_rfl) (by kernel_rfl) (fun _ _ _ h => h) (Or.inl ⟨by rfl, ?h46⟩) hHeld ?r46
        case h46 => intro wq hS; go_simp; with_reducible rfl
        try simp only [Act.put, List.getElem_toArray, List.getElem_cons_zero, List.getElem_cons_succ, List.setIfInBounds_toArray, List.set_cons_zero, List.set_cons_succ]
        refine wpAnyH_take (i := 16) (v := ?v47) rfl (by kernel_rfl) (by kernel_rfl) (by kernel_rfl) (fun _ _ _ h => h) (Or.inl ⟨by rfl, ?h47⟩) hHeld ?r47
        case h47 => intro wq hS; go_simp; with_reducible rfl
        try simp only [Act.put, List.getElem_toArray, List.getElem_cons_zero, List.getElem_cons_succ, List.setIfInBounds_toArray, List.set_cons_zero, List.set_cons_succ]
        refine wpAnyH_take (i := 17) (v := ?v48) rfl (by kernel_rfl) (by kernel_rfl) (by kernel_rfl) (fun _ _ _ h => h) (Or.inl ⟨by rfl, ?h48⟩) hHeld ?r48
        case h48 => intro wq hS; go_simp; with_reducible rfl
        try simp only [Act.put, List.getElem_toArray, List.getElem_cons_zero, List.getElem_cons_succ, List.setIfInBounds_toArray, List.set_cons_zero, List.set_cons_succ]
        refine wpAnyH_take (i := 18) (v := ?v49) rfl (by kernel_rfl) (by kernel_rfl) (by kernel_rfl) (fun _ _ _ h => h) (Or.inl ⟨by rfl, ?h49⟩) hHeld ?r49
        case h49 => intro wq hS; go_simp; with_reducible rfl
        try simp only [Act.put, List.getElem_toArray, List.getElem_cons_zero, List.getElem_cons_succ, List.setIfInBounds_toArray, List.set_cons_zero, List.set_cons_succ]
        refine wpAnyH_take (i := 19) (v := ?v50) rfl (by kernel_rfl) (by kernel_rfl) (by kernel_rfl) (fun _ _ _ h => h) (Or.inl ⟨by rfl, ?h50⟩) hHeld ?r50
        case h50 => intro wq hS; go_simp; with_reducible rfl
        try simp only [Act.put, List.getElem_toArray, List.getElem_cons_zero, List.getElem_cons_succ, List.setIfInBounds_toArray, List.set_cons_zero, List.set_cons_succ]
        refine wpAnyH_take (i := 20) (v := ?v51) rfl (by kernel_rfl) (by kernel_rfl) (by kernel_rfl) (fun _ _ _ h => h) (Or.inl ⟨by rfl, ?h51⟩) hHeld ?r51
        case h51 => intro wq hS; go_simp; with_reducible rfl
        try simp only [Act.put, List.getElem_toArray, List.getElem_cons_zero, List.getElem_cons_succ, List.setIfInBounds_toArray, List.set_cons_zero, List.set_cons_succ]
        refine wpAnyH_done (by kernel_rfl) ?_ _
        have HF := Lib.hid (HBV.out.trans (hHeld.mono HBV.out.size))
        clear hHeld
        go_wp2_with fail
        go_roundw
        case rel => exact ⟨k + 1, by go_num, by omega, HF.out⟩
        case measure => simp [intOf]; omega
    · have hlt' : ¬ ((k : Int) < (n : Int)) := by omega
      have T := Lib.hid (T.out.after hB0)
      have U := Lib.hid (U.out.after hB0)
      have S := Lib.hid (S.out.after hB0)
      have V := Lib.hid (V.out.after hB0)
      have TB := Lib.hid (TB.out.after hB0)
      have UB := Lib.hid (UB.out.after hB0)
      have SB := Lib.hid (SB.out.after hB0)
      have VB := Lib.hid (VB.out.after hB0)
      have HB := Lib.hid (HB.out.trans (hB0.mono HB.out.size))
      clear hB0
      have HKN := Lib.hid (show k = n by omega)
      clear hlt
      have tba : wr.cell? ⟨b1, 0, none⟩ = some (.slice ta n tc) := TB.out.cell 0
      have tbb : wr.cell? ⟨b1, 1, none⟩ = some (.int .i64 q) := TB.out.cell 1
      have uba : wr.cell? ⟨b3, 0, none⟩ = some (.slice a2 n2 c2) := UB.out.cell 0
      have ubb : wr.cell? ⟨b3, 1, none⟩ = some (.int .i64 q2) := UB.out.cell 1
      have sba : wr.cell? ⟨b5, 0, none⟩ = some (.slice sa sn sc) := SB.out.cell 0
      have sbb : wr.cell? ⟨b5, 1, none⟩ = some (.int .i64 sq) := SB.out.cell 1
      have vba : wr.cell? ⟨b7, 0, none⟩ = some (.slice a6 n6 c6) := VB.out.cell 0
      have vbb : wr.cell? ⟨b7, 1, none⟩ = some (.int .i64 q6) := VB.out.cell 1
      go_wp2_with fail
      clear tba tbb uba ubb sba sbb vba vbb
      generalize wr = wz at T U S V TB UB SB VB HB ⊢
      obtain ⟨hsl, hn, hn21⟩ := tab_open V.out
      have HSV := Lib.hid hsl; have HNV := Lib.hid hn
      clear hsl hn
      go_loopw [12] (fun i wr => ∃ k : Nat, i = .int .i64 (k : Nat) ∧ k ≤ n6 ∧ Below wz.heap.size wz wr)
        (fun i _ => n6 - (intOf i).toNat)
      case atStart => exact ⟨0, rfl, Nat.zero_le _, Below.refl _ _⟩
      case round =>
        obtain ⟨j, rfl, hj, hB0⟩ := hrel
        by_cases hlt : j < n6
        · have hkx : j < (flushT s port).rows.length := by rw [HNV.out]; exact hlt
          obtain ⟨g, o, hg, _, hX⟩ := rowAt HSV.out j hkx
          subst hg
          obtain ⟨k0, k1, k2, k3, k4⟩ := (hX wr hB0).1
          obtain ⟨x, hxk⟩ : ∃ x, (flushT s port).rows[j] = x := ⟨_, rfl⟩
          rw [hxk] at k0 k1 k2 k3 k4
          have hleft := flush_left HOS.out (p := port) (x := x) (by rw [← hxk]; exact List.getElem_mem _)
          clear hX hxk k0 k1 k3
          obtain ⟨v0, v1, v2, v3, ff⟩ := x
          simp only at k2 k4 hleft
          have hlt' : (j : Int) < (n6 : Int) := by omega
          have vba : wr.cell? ⟨b7, 0, none⟩ = some (.slice (some ⟨g, o, none⟩) n6 c6) := (VB.out.after hB0).cell 0
          have HF := Lib.hid hB0
          by_cases hp : v2 = port
          case pos =>
            have hff : ff = true := by rcases hleft with h | h; exact absurd hp h; exact h
            subst hff hp
            clear hleft
            go_wp2_with fail
            go_roundw
            case rel => exact ⟨j + 1, by go_num, by omega, HF.out⟩
            case measure => simp [intOf]; omega
          case neg =>
            have hq1 : (v2 == port) = false := by simp [hp]
            clear hleft
            go_wp2_with fail
            go_roundw
            case rel => exact ⟨j + 1, by go_num, by omega, HF.out⟩
            case measure => simp [intOf]; omega
        · have hlt' : ¬ ((j : Int) < (n6 : Int)) := by omega
          have T := Lib.hid (T.out.after hB0)
          have U := Lib.hid (U.out.after hB0)
          have S := Lib.hid (S.out.after hB0)
          have V := Lib.hid (V.out.after hB0)
          have TB := Lib.hid (TB.out.after hB0)
          have UB := Lib.hid (UB.out.after hB0)
          have SB := Lib.hid (SB.out.after hB0)
          have VB := Lib.hid (VB.out.after hB0)
          have HB := Lib.hid (HB.out.trans (hB0.mono HB.out.size))
          clear hB0
          have HJN := Lib.hid (show j = n6 by omega)
          clear hlt
          have HUK := Lib.hid (age_ok HOK.out now age)
          have HVK := Lib.hid (flush_ok HOS.out port)
          have HID := Lib.hid (flush_idem HOS.out port)
          have tba : wr.cell? ⟨b1, 0, none⟩ = some (.slice ta n tc) := TB.out.cell 0
          have tbb : wr.cell? ⟨b1, 1, none⟩ = some (.int .i64 q) := TB.out.cell 1
          have uba : wr.cell? ⟨b3, 0, none⟩ = some (.slice a2 n2 c2) := UB.out.cell 0
          have ubb : wr.cell? ⟨b3, 1, none⟩ = some (.int .i64 q2) := UB.out.cell 1
          have sba : wr.cell? ⟨b5, 0, none⟩ = some (.slice sa sn sc) := SB.out.cell 0
          have sbb : wr.cell? ⟨b5, 1, none⟩ = some (.int .i64 sq) := SB.out.cell 1
          have vba : wr.cell? ⟨b7, 0, none⟩ = some (.slice a6 n6 c6) := VB.out.cell 0
          have vbb : wr.cell? ⟨b7, 1, none⟩ = some (.int .i64 q6) := VB.out.cell 1
          go_upto_region 22 with fail
          clear tba tbb uba ubb sba sbb vba vbb
          refine wp_region_held_drew (S := fun w' => Below wr.heap.size wr w') (by kernel_rfl) (Below.drew (Below.refl _ _)) (fun hHeld => ?_)
          refine wpAnyH_take (i := 0) (v := ?v52) rfl (by kernel_rfl) (by kernel_rfl) (by kernel_rfl) (fun _ _ _ h => h) (Or.inl ⟨by rfl, ?h52⟩) hHeld ?r52
          case h52 => intro wq hS; have kq := UB.out.after hS; have ca : wq.cell? ⟨b3, 0, none⟩ = some (.slice a2 n2 c2) := kq.cell 0; have cb : wq.cell? ⟨b3, 1, none⟩ = some (.int .i64 q2) := kq.cell 1; clear kq; go_simp; with_reducible rfl
          try simp only [Act.put, List.getElem_toArray, List.getElem_cons_zero, List.getElem_cons_succ, List.setIfInBounds_toArray, List.set_cons_zero, List.set_cons_succ]
          refine wpAnyH_ready (rs := [1]) (by kernel_rfl) (by simp) ?_
          refine AllReadyH.cons rfl (fun K hK => ?_) AllReadyH.nil
          go_simp
          refine (tableOk_impl (U.out.after hHeld)).mono ?_
          rintro e z1 ⟨rfl, hbr⟩
          rw [decide_eq_true HUK.out]
          refine hK.out _ _ (hHeld.trans (hbr.mono hHeld.size)) (fun hHeld => ?_)
          clear hK K
          try simp only [Act.put, List.getElem_toArray, List.getElem_cons_zero, List.getElem_cons_succ, List.setIfInBounds_toArray, List.set_cons_zero, List.set_cons_succ]
          clear hbr
          refine wpAnyH_take (i := 2) (v := ?v53) rfl (by kernel_rfl) (by kernel_rfl) (by kernel_rfl) (fun _ _ _ h => h) (Or.inl ⟨by rfl, ?h53⟩) hHeld ?r53
          case h53 => intro wq hS; go_simp; with_reducible rfl
          try simp only [Act.put, List.getElem_toArray, List.getElem_cons_zero, List.getElem_cons_succ, List.setIfInBounds_toArray, List.set_cons_zero, List.set_cons_succ]
          refine wpAnyH_take (i := 3) (v := ?v54) rfl (by kernel_rfl) (by kernel_rfl) (by kernel_rfl) (fun _ _ _ h => h) (Or.inl ⟨by rfl, ?h54⟩) hHeld ?r54
          case h54 => intro wq hS; have kq := VB.out.after hS; have ca : wq.cell? ⟨b7, 0, none⟩ = some (.slice a6 n6 c6) := kq.cell 0; have cb : wq.cell? ⟨b7, 1, none⟩ = some (.int .i64 q6) := kq.cell 1; clear kq; go_simp; with_reducible rfl
          try simp only [Act.put, List.getElem_toArray, List.getElem_cons_zero, List.getElem_cons_succ, List.setIfInBounds_toArray, List.set_cons_zero, List.set_cons_succ]
          refine wpAnyH_ready (rs := [4]) (by kernel_rfl) (by simp) ?_
          refine AllReadyH.cons rfl (fun K hK => ?_) AllReadyH.nil
          go_simp
          refine (tableOk_impl (V.out.after hHeld)).mono ?_
          rintro e z1 ⟨rfl, hbr⟩
          rw [decide_eq_true HVK.out]
          refine hK.out _ _ (hHeld.trans (hbr.mono hHeld.size)) (fun hHeld => ?_)
          clear hK K
          try simp only [Act.put, List.getElem_toArray, List.getElem_cons_zero, List.getElem_cons_succ, List.setIfInBounds_toArray, List.set_cons_zero, List.set_cons_succ]
          clear hbr
          refine wpAnyH_take (i := 5) (v := ?v55) rfl (by kernel_rfl) (by kernel_rfl) (by kernel_rfl) (fun _ _ _ h => h) (Or.inl ⟨by rfl, ?h55⟩) hHeld ?r55
          case h55 => intro wq hS; go_simp; with_reducible rfl
          try simp only [Act.put, List.getElem_toArray, List.getElem_cons_zero, List.getElem_cons_succ, List.setIfInBounds_toArray, List.set_cons_zero, List.set_cons_succ]
          refine wpAnyH_take (i := 6) (v := ?v56) rfl (by kernel_rfl) (by kernel_rfl) (by kernel_rfl) (fun _ _ _ h => h) (Or.inl ⟨by rfl, ?h56⟩) hHeld ?r56
          case h56 => intro wq hS; go_simp; with_reducible rfl
          try simp only [Act.put, List.getElem_toArray, List.getElem_cons_zero, List.getElem_cons_succ, List.setIfInBounds_toArray, List.set_cons_zero, List.set_cons_succ]
          refine wpAnyH_take (i := 7) (v := ?v57) rfl (by kernel_rfl) (by kernel_rfl) (by kernel_rfl) (fun _ _ _ h => h) (Or.inl ⟨by rfl, ?h57⟩) hHeld ?r57
          case h57 => intro wq hS; have kq := VB.out.after hS; have ca : wq.cell? ⟨b7, 0, none⟩ = some (.slice a6 n6 c6) := kq.cell 0; have cb : wq.cell? ⟨b7, 1, none⟩ = some (.int .i64 q6) := kq.cell 1; clear kq; go_simp; with_reducible rfl
          try simp only [Act.put, List.getElem_toArray, List.getElem_cons_zero, List.getElem_cons_succ, List.setIfInBounds_toArray, List.set_cons_zero, List.set_cons_succ]
          refine wpAnyH_take (i := 8) (v := ?v58) rfl (by kernel_rfl) (by kernel_rfl) (by kernel_rfl) (fun _ _ _ h => h) (Or.inl ⟨by rfl, ?h58⟩) hHeld ?r58
          case h58 => intro wq hS; go_simp; with_reducible rfl
          try simp only [Act.put, List.getElem_toArray, List.getElem_cons_zero, List.getElem_cons_succ, List.setIfInBounds_toArray, List.set_cons_zero, List.set_cons_succ]
          refine wpAnyH_take (i := 10) (v := ?v59) rfl (by kernel_rfl) (by kernel_rfl) (by kernel_rfl) (fun _ _ _ h => h) (Or.inl ⟨by rfl, ?h59⟩) hHeld ?r59
          case h59 => intro wq hS; have kq := VB.out.after hS; have ca : wq.cell? ⟨b7, 0, none⟩ = some (.slice a6 n6 c6) := kq.cell 0; have cb : wq.cell? ⟨b7, 1, none⟩ = some (.int .i64 q6) := kq.cell 1; clear kq; go_simp; with_reducible rfl
          try simp only [Act.put, List.getElem_toArray, List.getElem_cons_zero, List.getElem_cons_succ, List.setIfInBounds_toArray, List.set_cons_zero, List.set_cons_succ]
          refine wpAnyH_ready (rs := [9]) (by kernel_rfl) (by simp) ?_
          refine AllReadyH.cons rfl (fun K hK => ?_) AllReadyH.nil
          go_simp
          refine (flush_impl (V.out.after hHeld) port).mono ?_
          rw [HID.out]
          rintro e z2 ⟨C31, a31, n31, c31, q31, rfl, hTq, hCq, hbq⟩
          clear hCq
          refine hK.out _ _ (hHeld.trans (hbq.mono hHeld.size)) (fun hHeld => ?_)
          clear hK K
          try simp only [Act.put, List.getElem_toArray, List.getElem_cons_zero, List.getElem_cons_succ, List.setIfInBounds_toArray, List.set_cons_zero, List.set_cons_succ]
          refine wpAnyH_ready (rs := [11]) (by kernel_rfl) (by simp) ?_
          refine AllReadyH.cons rfl (fun K hK => ?_) AllReadyH.nil
          go_simp
          refine (sameTable_any hTq (V.out.after hHeld)).mono ?_
          rintro e z3 ⟨rfl, hbr⟩
          rw [decide_eq_true rfl]
          clear hTq
          refine hK.out _ _ (hHeld.trans (hbr.mono hHeld.size)) (fun hHeld => ?_)
          clear hK K
          try simp only [Act.put, List.getElem_toArray, List.getElem_cons_zero, List.getElem_cons_succ, List.setIfInBounds_toArray, List.set_cons_zero, List.set_cons_succ]
          refine wpAnyH_take (i := 12) (v := ?v60) rfl (by kernel_rfl) (by kernel_rfl) (by kernel_rfl) (fun _ _ _ h => h) (Or.inl ⟨by rfl, ?h60⟩) hHeld ?r60
          case h60 => intro wq hS; go_simp; with_reducible rfl
          try simp only [Act.put, List.getElem_toArray, List.getElem_cons_zero, List.getElem_cons_succ, List.setIfInBounds_toArray, List.set_cons_zero, List.set_cons_succ]
          refine wpAnyH_take (i := 13) (v := ?v61) rfl (by kernel_rfl) (by kernel_rfl) (by kernel_rfl) (fun _ _ _ h => h) (Or.inl ⟨by rfl, ?h61⟩) hHeld ?r61
          case h61 => intro wq hS; go_simp; with_reducible rfl
          try simp only [Act.put, List.getElem_toArray, List.getElem_cons_zero, List.getElem_cons_succ, List.setIfInBounds_toArray, List.set_cons_zero, List.set_cons_succ]
          refine wpAnyH_done (by kernel_rfl) ?_ _
          have HE := Lib.hid (HB.out.trans (hHeld.mono HB.out.size))
          clear hHeld hbq hbr
          go_wp2_with fail
          go_ret
          exact ⟨rfl, HE.out⟩
end Go.Proofs.Ytleebmbnjdoinaa
