/- The walk of FnLearn, over the program's contracts (Ti). -/
import Derived.Test.YtleebmbnjdoinaaTbPl
import Derived.Test.YtleebmbnjdoinaaDrawT3
import Derived.Test.YtleebmbnjdoinaaSame
import Derived.Test.YtleebmbnjdoinaaTi
import Derived.Test.YtleebmbnjdoinaaBig
namespace Go.Proofs.Ytleebmbnjdoinaa
open Go.RowKit

theorem tab_open {W : World} {B : List Nat} {a : Option Addr} {n c : Nat} {q : Int} {t : Tb} (h : TabIn W B (.agg #[.slice a n c, .int .i64 q]) t) : SlIn kdRw W a t.rows ∧ t.rows.length = n ∧ n ≤ 2097152 := by
  have hp := tab_parts h
  obtain ⟨a', cap', e, hs, hB, hl, hf⟩ := h
  unfold tabVal at e
  simp only [Value.agg.injEq] at e
  have e0 := congrArg (fun z => z[0]?) e
  simp at e0
  obtain ⟨ea, _, ec⟩ := e0
  subst ea ec
  rw [hp.1] at hl
  exact ⟨hs, hp.1, hl⟩

set_option linter.unusedSimpArgs false in
set_option maxHeartbeats 2000000 in
theorem walk_FnLearn (a : Option Addr) (len cap : Nat) (zs : List Int) (w : World) (hrow : IsRow .u8 w a len cap zs) :
    Calls Try.prog 3 #[.slice a len cap] w fun e w' => e = .returned (.bool true) ∧ Below w.heap.size w w' := by
  have hlow := hrow.low
  have hmax : len ≤ 9223372036854775807 := by
    rcases hrow with ⟨_, rfl, _⟩ | ⟨_, _, h1, h2, _⟩
    · omega
    · unfold maxLen at h2; omega
  by_cases hl : len ≤ 1048576
  case neg =>
    go_enter Try.func3, Try.ntmps3
    go_wp2_with fail
    refine (big_yes a len cap w (by omega)).mono ?_
    rintro e w' ⟨rfl, rfl⟩
    go_wp2_with fail
    go_ret
    exact ⟨rfl, Below.refl _ _⟩
  go_enter Try.func3, Try.ntmps3
  go_wp2_with fail
  refine (big_no a len cap w hl).mono ?_
  rintro e w' ⟨rfl, rfl⟩
  go_wp2_with fail
  refine (drawLearn_any w a len cap zs hl hrow hlow).mono ?_
  rintro e x0 ⟨C, t, ta, n, tc, q, vid, mac, port, now, rfl, hT1, hC1, f0, f1, f2, f3, hb1⟩
  have F0 := Lib.hid f0
  have F1 := Lib.hid f1
  have F2 := Lib.hid f2
  have F3 := Lib.hid f3
  have HB := Lib.hid hb1; have T := Lib.hid hT1
  clear f0 f1 f2 f3 hb1 hT1 hC1 hrow hlow
  have hbq : Below x0.heap.size x0 (x0.alloc (.cells #[.slice ta n tc, .int .i64 q] 26)) := (Below.refl _ _).alloc (Nat.le_refl _) _
  have hnq : Blk (x0.alloc (.cells #[.slice ta n tc, .int .i64 q] 26)) x0.heap.size #[.slice ta n tc, .int .i64 q] 26 := blk_new _ _ rfl
  have T := Lib.hid (T.out.after hbq)
  have HB := Lib.hid (HB.out.trans (hbq.mono HB.out.size))
  have TB := Lib.hid hnq
  clear hbq hnq
  have tba : (x0.alloc (.cells #[.slice ta n tc, .int .i64 q] 26)).cell? ⟨x0.heap.size, 0, none⟩ = some (.slice ta n tc) := TB.out.cell 0
  have tbb : (x0.alloc (.cells #[.slice ta n tc, .int .i64 q] 26)).cell? ⟨x0.heap.size, 1, none⟩ = some (.int .i64 q) := TB.out.cell 1
  go_wp2_with fail
  clear tba tbb
  generalize (x0.alloc (.cells #[.slice ta n tc, .int .i64 q] 26)) = x1 at T TB HB ⊢
  generalize x0.heap.size = b1 at T TB HB ⊢
  refine (learn_impl T.out vid mac port now F0.out F1.out F2.out F3.out).mono ?_
  rintro e x2 ⟨C2, a2, n2, c2, q2, rfl, hTq, hCq, hbq⟩
  have T := Lib.hid (T.out.after hbq)
  have TB := Lib.hid (TB.out.after hbq)
  have HB := Lib.hid (HB.out.trans (hbq.mono HB.out.size))
  have U := Lib.hid hTq
  clear hTq hCq hbq
  have hbq : Below x2.heap.size x2 (x2.alloc (.cells #[.slice a2 n2 c2, .int .i64 q2] 26)) := (Below.refl _ _).alloc (Nat.le_refl _) _
  have hnq : Blk (x2.alloc (.cells #[.slice a2 n2 c2, .int .i64 q2] 26)) x2.heap.size #[.slice a2 n2 c2, .int .i64 q2] 26 := blk_new _ _ rfl
  have T := Lib.hid (T.out.after hbq)
  have U := Lib.hid (U.out.after hbq)
  have TB := Lib.hid (TB.out.after hbq)
  have HB := Lib.hid (HB.out.trans (hbq.mono HB.out.size))
  have UB := Lib.hid hnq
  clear hbq hnq
  have tba : (x2.alloc (.cells #[.slice a2 n2 c2, .int .i64 q2] 26)).cell? ⟨b1, 0, none⟩ = some (.slice ta n tc) := TB.out.cell 0
  have tbb : (x2.alloc (.cells #[.slice a2 n2 c2, .int .i64 q2] 26)).cell? ⟨b1, 1, none⟩ = some (.int .i64 q) := TB.out.cell 1
  have uba : (x2.alloc (.cells #[.slice a2 n2 c2, .int .i64 q2] 26)).cell? ⟨x2.heap.size, 0, none⟩ = some (.slice a2 n2 c2) := UB.out.cell 0
  have ubb : (x2.alloc (.cells #[.slice a2 n2 c2, .int .i64 q2] 26)).cell? ⟨x2.heap.size, 1, none⟩ = some (.int .i64 q2) := UB.out.cell 1
  go_wp2_with fail
  clear tba tbb uba ubb
  generalize (x2.alloc (.cells #[.slice a2 n2 c2, .int .i64 q2] 26)) = x3 at T U TB UB HB ⊢
  generalize x2.heap.size = b3 at T U TB UB HB ⊢
  skip
  go_upto_region 5 with fail
  refine wp_region_held_drew (S := fun w' => Below x3.heap.size x3 w') (by kernel_rfl) (Below.drew (Below.refl _ _)) (fun hHeld => ?_)
  refine wpAnyH_take (i := 0) (v := ?v1) rfl (by kernel_rfl) (by kernel_rfl) (by kernel_rfl) (fun _ _ _ h => h) (Or.inl ⟨by rfl, ?h1⟩) hHeld ?r1
  case h1 => intro wq hS; have kq := UB.out.after hS; have ca : wq.cell? ⟨b3, 0, none⟩ = some (.slice a2 n2 c2) := kq.cell 0; have cb : wq.cell? ⟨b3, 1, none⟩ = some (.int .i64 q2) := kq.cell 1; clear kq; go_simp; with_reducible rfl
  try simp only [Act.put, List.getElem_toArray, List.getElem_cons_zero, List.getElem_cons_succ, List.setIfInBounds_toArray, List.set_cons_zero, List.set_cons_succ]
  refine wpAnyH_take (i := 1) (v := ?v2) rfl (by kernel_rfl) (by kernel_rfl) (by kernel_rfl) (fun _ _ _ h => h) (Or.inl ⟨by rfl, ?h2⟩) hHeld ?r2
  case h2 => intro wq hS; have kq := TB.out.after hS; have ca : wq.cell? ⟨b1, 0, none⟩ = some (.slice ta n tc) := kq.cell 0; have cb : wq.cell? ⟨b1, 1, none⟩ = some (.int .i64 q) := kq.cell 1; clear kq; go_simp; with_reducible rfl
  try simp only [Act.put, List.getElem_toArray, List.getElem_cons_zero, List.getElem_cons_succ, List.setIfInBounds_toArray, List.set_cons_zero, List.set_cons_succ]
  refine wpAnyH_take (i := 2) (v := ?v3) rfl (by kernel_rfl) (by kernel_rfl) (by kernel_rfl) (fun _ _ _ h => h) (Or.inl ⟨by rfl, ?h3⟩) hHeld ?r3
  case h3 => intro wq hS; go_simp; with_reducible rfl
  try simp only [Act.put, List.getElem_toArray, List.getElem_cons_zero, List.getElem_cons_succ, List.setIfInBounds_toArray, List.set_cons_zero, List.set_cons_succ]
  refine wpAnyH_take (i := 3) (v := ?v4) rfl (by kernel_rfl) (by kernel_rfl) (by kernel_rfl) (fun _ _ _ h => h) (Or.inl ⟨by rfl, ?h4⟩) hHeld ?r4
  case h4 => intro wq hS; go_simp; with_reducible rfl
  try simp only [Act.put, List.getElem_toArray, List.getElem_cons_zero, List.getElem_cons_succ, List.setIfInBounds_toArray, List.set_cons_zero, List.set_cons_succ]
  refine wpAnyH_take (i := 4) (v := ?v5) rfl (by kernel_rfl) (by kernel_rfl) (by kernel_rfl) (fun _ _ _ h => h) (Or.inl ⟨by rfl, ?h5⟩) hHeld ?r5
  case h5 => intro wq hS; go_simp; with_reducible rfl
  try simp only [Act.put, List.getElem_toArray, List.getElem_cons_zero, List.getElem_cons_succ, List.setIfInBounds_toArray, List.set_cons_zero, List.set_cons_succ]
  refine wpAnyH_take (i := 5) (v := ?v6) rfl (by kernel_rfl) (by kernel_rfl) (by kernel_rfl) (fun _ _ _ h => h) (Or.inl ⟨by rfl, ?h6⟩) hHeld ?r6
  case h6 => intro wq hS; go_simp; with_reducible rfl
  try simp only [Act.put, List.getElem_toArray, List.getElem_cons_zero, List.getElem_cons_succ, List.setIfInBounds_toArray, List.set_cons_zero, List.set_cons_succ]
  refine wpAnyH_ready (rs := [6]) (by kernel_rfl) (by simp) ?_
  refine AllReadyH.cons rfl (fun K hK => ?_) AllReadyH.nil
  go_simp
  refine (learn5_spec (T.out.after hHeld) vid mac port now ⟨F0.out, F1.out, F2.out, F3.out⟩).mono ?_
  rintro e x4 ⟨C4, a4, n4, c4, q4, rfl, hTq, hCq, hbq⟩
  clear hCq
  refine hK.out _ _ (hHeld.trans (hbq.mono hHeld.size)) (fun hHeld => ?_)
  clear hK K
  try simp only [Act.put, List.getElem_toArray, List.getElem_cons_zero, List.getElem_cons_succ, List.setIfInBounds_toArray, List.set_cons_zero, List.set_cons_succ]
  refine wpAnyH_ready (rs := [7]) (by kernel_rfl) (by simp) ?_
  refine AllReadyH.cons rfl (fun K hK => ?_) AllReadyH.nil
  go_simp
  refine (sameTable_any (U.out.after hHeld) hTq).mono ?_
  rintro e x5 ⟨rfl, hbr⟩
  rw [decide_eq_true rfl]
  refine hK.out _ _ (hHeld.trans (hbr.mono hHeld.size)) (fun hHeld => ?_)
  clear hK K
  try simp only [Act.put, List.getElem_toArray, List.getElem_cons_zero, List.getElem_cons_succ, List.setIfInBounds_toArray, List.set_cons_zero, List.set_cons_succ]
  refine wpAnyH_take (i := 8) (v := ?v7) rfl (by kernel_rfl) (by kernel_rfl) (by kernel_rfl) (fun _ _ _ h => h) (Or.inl ⟨by rfl, ?h7⟩) hHeld ?r7
  case h7 => intro wq hS; go_simp; with_reducible rfl
  try simp only [Act.put, List.getElem_toArray, List.getElem_cons_zero, List.getElem_cons_succ, List.setIfInBounds_toArray, List.set_cons_zero, List.set_cons_succ]
  refine wpAnyH_done (by kernel_rfl) ?_ _
  clear hbq hbr hTq
  have T := Lib.hid (T.out.after hHeld)
  have U := Lib.hid (U.out.after hHeld)
  have TB := Lib.hid (TB.out.after hHeld)
  have UB := Lib.hid (UB.out.after hHeld)
  have HB := Lib.hid (HB.out.trans (hHeld.mono HB.out.size))
  clear hHeld
  have tba : x5.cell? ⟨b1, 0, none⟩ = some (.slice ta n tc) := TB.out.cell 0
  have tbb : x5.cell? ⟨b1, 1, none⟩ = some (.int .i64 q) := TB.out.cell 1
  have uba : x5.cell? ⟨b3, 0, none⟩ = some (.slice a2 n2 c2) := UB.out.cell 0
  have ubb : x5.cell? ⟨b3, 1, none⟩ = some (.int .i64 q2) := UB.out.cell 1
  go_wp2_with fail
  refine (tableOk_spec T.out).mono ?_
  rintro e x6 ⟨rfl, hbq⟩
  clear tba tbb uba ubb
  have T := Lib.hid (T.out.after hbq)
  have U := Lib.hid (U.out.after hbq)
  have TB := Lib.hid (TB.out.after hbq)
  have UB := Lib.hid (UB.out.after hbq)
  have HB := Lib.hid (HB.out.trans (hbq.mono HB.out.size))
  clear hbq
  by_cases hok : tabOk t
  case neg =>
    rw [decide_eq_false hok]
    have hz : learnT t vid mac port now = ⟨[], 0⟩ := by unfold learnT; rw [if_neg hok]
    have hlk : look t vid mac = -1 := by unfold look; rw [if_neg hok]
    have hp := tab_parts U.out
    rw [hz] at hp
    obtain ⟨hp1, hp2⟩ := hp
    simp only [List.length_nil] at hp1 hp2
    subst hp1 hp2
    have HLK := Lib.hid hlk
    clear hz hlk hok
    have tba : x6.cell? ⟨b1, 0, none⟩ = some (.slice ta n tc) := TB.out.cell 0
    have tbb : x6.cell? ⟨b1, 1, none⟩ = some (.int .i64 q) := TB.out.cell 1
    have uba : x6.cell? ⟨b3, 0, none⟩ = some (.slice a2 0 c2) := UB.out.cell 0
    have ubb : x6.cell? ⟨b3, 1, none⟩ = some (.int .i64 0) := UB.out.cell 1
    go_wp2_with fail
    refine (look_impl T.out vid mac).mono ?_
    rintro e x7 ⟨rfl, hbq⟩
    clear tba tbb uba ubb
    have T := Lib.hid (T.out.after hbq)
    have U := Lib.hid (U.out.after hbq)
    have TB := Lib.hid (TB.out.after hbq)
    have UB := Lib.hid (UB.out.after hbq)
    have HB := Lib.hid (HB.out.trans (hbq.mono HB.out.size))
    clear hbq
    rw [HLK.out]
    have tba : x7.cell? ⟨b1, 0, none⟩ = some (.slice ta n tc) := TB.out.cell 0
    have tbb : x7.cell? ⟨b1, 1, none⟩ = some (.int .i64 q) := TB.out.cell 1
    have uba : x7.cell? ⟨b3, 0, none⟩ = some (.slice a2 0 c2) := UB.out.cell 0
    have ubb : x7.cell? ⟨b3, 1, none⟩ = some (.int .i64 0) := UB.out.cell 1
    go_wp2_with fail
    go_ret
    exact ⟨rfl, HB.out⟩
  rw [decide_eq_true hok]
  have HOK := Lib.hid hok
  have HUK := Lib.hid (learn_ok hok vid mac port now)
  clear hok
  have tba : x6.cell? ⟨b1, 0, none⟩ = some (.slice ta n tc) := TB.out.cell 0
  have tbb : x6.cell? ⟨b1, 1, none⟩ = some (.int .i64 q) := TB.out.cell 1
  have uba : x6.cell? ⟨b3, 0, none⟩ = some (.slice a2 n2 c2) := UB.out.cell 0
  have ubb : x6.cell? ⟨b3, 1, none⟩ = some (.int .i64 q2) := UB.out.cell 1
  go_wp2_with fail
  refine (tableOk_impl U.out).mono ?_
  rintro e x7 ⟨rfl, hbq⟩
  clear tba tbb uba ubb
  have T := Lib.hid (T.out.after hbq)
  have U := Lib.hid (U.out.after hbq)
  have TB := Lib.hid (TB.out.after hbq)
  have UB := Lib.hid (UB.out.after hbq)
  have HB := Lib.hid (HB.out.trans (hbq.mono HB.out.size))
  clear hbq
  rw [decide_eq_true HUK.out]
  have tba : x7.cell? ⟨b1, 0, none⟩ = some (.slice ta n tc) := TB.out.cell 0
  have tbb : x7.cell? ⟨b1, 1, none⟩ = some (.int .i64 q) := TB.out.cell 1
  have uba : x7.cell? ⟨b3, 0, none⟩ = some (.slice a2 n2 c2) := UB.out.cell 0
  have ubb : x7.cell? ⟨b3, 1, none⟩ = some (.int .i64 q2) := UB.out.cell 1
  go_wp2_with fail
  refine (sameTable_any U.out T.out).mono ?_
  rintro e x8 ⟨rfl, hbq⟩
  clear tba tbb uba ubb
  have T := Lib.hid (T.out.after hbq)
  have U := Lib.hid (U.out.after hbq)
  have TB := Lib.hid (TB.out.after hbq)
  have UB := Lib.hid (UB.out.after hbq)
  have HB := Lib.hid (HB.out.trans (hbq.mono HB.out.size))
  clear hbq
  by_cases heq : learnT t vid mac port now = t
  case pos =>
    rw [decide_eq_true heq]
    clear heq
    have tba : x8.cell? ⟨b1, 0, none⟩ = some (.slice ta n tc) := TB.out.cell 0
    have tbb : x8.cell? ⟨b1, 1, none⟩ = some (.int .i64 q) := TB.out.cell 1
    have uba : x8.cell? ⟨b3, 0, none⟩ = some (.slice a2 n2 c2) := UB.out.cell 0
    have ubb : x8.cell? ⟨b3, 1, none⟩ = some (.int .i64 q2) := UB.out.cell 1
    go_wp2_with fail
    refine (tableOk_impl U.out).mono ?_
    rintro e x9 ⟨rfl, hbq⟩
    clear tba tbb uba ubb
    have T := Lib.hid (T.out.after hbq)
    have U := Lib.hid (U.out.after hbq)
    have TB := Lib.hid (TB.out.after hbq)
    have UB := Lib.hid (UB.out.after hbq)
    have HB := Lib.hid (HB.out.trans (hbq.mono HB.out.size))
    clear hbq
    rw [decide_eq_true HUK.out]
    have tba : x9.cell? ⟨b1, 0, none⟩ = some (.slice ta n tc) := TB.out.cell 0
    have tbb : x9.cell? ⟨b1, 1, none⟩ = some (.int .i64 q) := TB.out.cell 1
    have uba : x9.cell? ⟨b3, 0, none⟩ = some (.slice a2 n2 c2) := UB.out.cell 0
    have ubb : x9.cell? ⟨b3, 1, none⟩ = some (.int .i64 q2) := UB.out.cell 1
    go_wp2_with fail
    go_ret
    exact ⟨rfl, HB.out⟩
  rw [decide_eq_false heq]
  have HNE := Lib.hid heq
  clear heq
  have tba : x8.cell? ⟨b1, 0, none⟩ = some (.slice ta n tc) := TB.out.cell 0
  have tbb : x8.cell? ⟨b1, 1, none⟩ = some (.int .i64 q) := TB.out.cell 1
  have uba : x8.cell? ⟨b3, 0, none⟩ = some (.slice a2 n2 c2) := UB.out.cell 0
  have ubb : x8.cell? ⟨b3, 1, none⟩ = some (.int .i64 q2) := UB.out.cell 1
  go_wp2_with fail
  obtain ⟨hsl, hn, hn21⟩ := tab_open T.out
  have HSL := Lib.hid hsl; have HN := Lib.hid hn
  have hn2 : n2 ≤ n + 1 := by have h1 := learn_len HOK.out vid mac port now; have h2 := (tab_parts U.out).1; have h3 := hn; omega
  have HN2 := Lib.hid hn2
  clear hsl hn hn2
  clear tba tbb uba ubb
  go_loopw [9] (fun i wr => ∃ k : Nat, i = .int .i64 (k : Nat) ∧ k ≤ n ∧ Below x8.heap.size x8 wr)
    (fun i _ => n - (intOf i).toNat)
  case atStart => exact ⟨0, rfl, Nat.zero_le _, Below.refl _ _⟩
  case round =>
    obtain ⟨k, rfl, hk, hB0⟩ := hrel
    by_cases hlt : k < n
    · have hkx : k < t.rows.length := by rw [HN.out]; exact hlt
      obtain ⟨g, o, rfl, _, hX⟩ := rowAt HSL.out k hkx
      obtain ⟨k0, k1, k2, k3, k4⟩ := (hX wr hB0).1
      obtain ⟨x, hxk⟩ : ∃ x, t.rows[k] = x := ⟨_, rfl⟩
      rw [hxk] at k0 k1 k2 k3 k4
      have HKEEP := Lib.hid (fun hf => learn_kept HOK.out (v := vid) (m := mac) (p := port) (n := now) (x := x) (by rw [← hxk]; exact List.getElem_mem _) hf)
      clear hX hxk
      obtain ⟨v0, v1, v2, v3, ff⟩ := x
      simp only at k0 k1 k2 k3 k4
      have hlt' : (k : Int) < (n : Int) := by omega
      have tba : wr.cell? ⟨b1, 0, none⟩ = some (.slice (some ⟨g, o, none⟩) n tc) := (TB.out.after hB0).cell 0
      have hnb : Blk (wr.alloc (.cells #[.int .i64 v0, .int .i64 v1, .int .i64 v2, .int .i64 v3, .bool ff] 34)) wr.heap.size #[.int .i64 v0, .int .i64 v1, .int .i64 v2, .int .i64 v3, .bool ff] 34 := blk_new _ _ rfl
      have hBv : Below x8.heap.size x8 (wr.alloc (.cells #[.int .i64 v0, .int .i64 v1, .int .i64 v2, .int .i64 v3, .bool ff] 34)) := hB0.alloc hB0.size _
      have RB := Lib.hid hnb; have HBV := Lib.hid hBv; have UV := Lib.hid (U.out.after hBv); have UBV := Lib.hid (UB.out.after hBv)
      clear hnb hBv hB0
      go_upto_region 15 with fail
      clear tba k0 k1 k2 k3 k4
      generalize (wr.alloc (.cells #[.int .i64 v0, .int .i64 v1, .int .i64 v2, .int .i64 v3, .bool ff] 34)) = wv at RB HBV UV UBV ⊢
      generalize wr.heap.size = br at RB ⊢
      cases ff
      case false =>
        refine wp_region_held_drew (S := fun w' => Below wv.heap.size wv w') (by kernel_rfl) (Below.drew (Below.refl _ _)) (fun hHeld => ?_)
        refine wpAnyH_take (i := 0) (v := ?v8) rfl (by kernel_rfl) (by kernel_rfl) (by kernel_rfl) (fun _ _ _ h => h) (Or.inl ⟨by rfl, ?h8⟩) hHeld ?r8
        case h8 => intro wq hS; go_simp; with_reducible rfl
        try simp only [Act.put, List.getElem_toArray, List.getElem_cons_zero, List.getElem_cons_succ, List.setIfInBounds_toArray, List.set_cons_zero, List.set_cons_succ]
        refine wpAnyH_take (i := 1) (v := ?v9) rfl (by kernel_rfl) (by kernel_rfl) (by kernel_rfl) (fun _ _ _ h => h) (Or.inl ⟨by rfl, ?h9⟩) hHeld ?r9
        case h9 => intro wq hS; have kq := RB.out.after hS; have ca : wq.cell? ⟨br, 0, none⟩ = some (.int .i64 v0) := kq.cell 0; have cb : wq.cell? ⟨br, 1, none⟩ = some (.int .i64 v1) := kq.cell 1; have cc : wq.cell? ⟨br, 2, none⟩ = some (.int .i64 v2) := kq.cell 2; have cd : wq.cell? ⟨br, 4, none⟩ = some (.bool false) := kq.cell 4; clear kq; go_simp; with_reducible rfl
        try simp only [Act.put, List.getElem_toArray, List.getElem_cons_zero, List.getElem_cons_succ, List.setIfInBounds_toArray, List.set_cons_zero, List.set_cons_succ]
        refine wpAnyH_take (i := 2) (v := ?v10) rfl (by kernel_rfl) (by kernel_rfl) (by kernel_rfl) (fun _ _ _ h => h) (Or.inl ⟨by rfl, ?h10⟩) hHeld ?r10
        case h10 => intro wq hS; go_simp; with_reducible rfl
        try simp only [Act.put, List.getElem_toArray, List.getElem_cons_zero, List.getElem_cons_succ, List.setIfInBounds_toArray, List.set_cons_zero, List.set_cons_succ]
        refine wpAnyH_take (i := 3) (v := undef) rfl (by kernel_rfl) (by kernel_rfl) (by kernel_rfl) (fun _ _ _ h => h) (Or.inr ⟨by rfl, rfl⟩) hHeld ?r11
        try simp only [Act.put, List.getElem_toArray, List.getElem_cons_zero, List.getElem_cons_succ, List.setIfInBounds_toArray, List.set_cons_zero, List.set_cons_succ]
        refine wpAnyH_take (i := 4) (v := undef) rfl (by kernel_rfl) (by kernel_rfl) (by kernel_rfl) (fun _ _ _ h => h) (Or.inr ⟨by rfl, rfl⟩) hHeld ?r12
        try simp only [Act.put, List.getElem_toArray, List.getElem_cons_zero, List.getElem_cons_succ, List.setIfInBounds_toArray, List.set_cons_zero, List.set_cons_succ]
        refine wpAnyH_take (i := 5) (v := undef) rfl (by kernel_rfl) (by kernel_rfl) (by kernel_rfl) (fun _ _ _ h => h) (Or.inr ⟨by rfl, rfl⟩) hHeld ?r13
        try simp only [Act.put, List.getElem_toArray, List.getElem_cons_zero, List.getElem_cons_succ, List.setIfInBounds_toArray, List.set_cons_zero, List.set_cons_succ]
        refine wpAnyH_take (i := 6) (v := undef) rfl (by kernel_rfl) (by kernel_rfl) (by kernel_rfl) (fun _ _ _ h => h) (Or.inr ⟨by rfl, rfl⟩) hHeld ?r14
        try simp only [Act.put, List.getElem_toArray, List.getElem_cons_zero, List.getElem_cons_succ, List.setIfInBounds_toArray, List.set_cons_zero, List.set_cons_succ]
        refine wpAnyH_take (i := 7) (v := undef) rfl (by kernel_rfl) (by kernel_rfl) (by kernel_rfl) (fun _ _ _ h => h) (Or.inr ⟨by rfl, rfl⟩) hHeld ?r15
        try simp only [Act.put, List.getElem_toArray, List.getElem_cons_zero, List.getElem_cons_succ, List.setIfInBounds_toArray, List.set_cons_zero, List.set_cons_succ]
        refine wpAnyH_take (i := 8) (v := undef) rfl (by kernel_rfl) (by kernel_rfl) (by kernel_rfl) (fun _ _ _ h => h) (Or.inr ⟨by rfl, rfl⟩) hHeld ?r16
        try simp only [Act.put, List.getElem_toArray, List.getElem_cons_zero, List.getElem_cons_succ, List.setIfInBounds_toArray, List.set_cons_zero, List.set_cons_succ]
        refine wpAnyH_take (i := 9) (v := undef) rfl (by kernel_rfl) (by kernel_rfl) (by kernel_rfl) (fun _ _ _ h => h) (Or.inr ⟨by rfl, rfl⟩) hHeld ?r17
        try simp only [Act.put, List.getElem_toArray, List.getElem_cons_zero, List.getElem_cons_succ, List.setIfInBounds_toArray, List.set_cons_zero, List.set_cons_succ]
        refine wpAnyH_take (i := 10) (v := undef) rfl (by kernel_rfl) (by kernel_rfl) (by kernel_rfl) (fun _ _ _ h => h) (Or.inr ⟨by rfl, rfl⟩) hHeld ?r18
        try simp only [Act.put, List.getElem_toArray, List.getElem_cons_zero, List.getElem_cons_succ, List.setIfInBounds_toArray, List.set_cons_zero, List.set_cons_succ]
        refine wpAnyH_take (i := 11) (v := undef) rfl (by kernel_rfl) (by kernel_rfl) (by kernel_rfl) (fun _ _ _ h => h) (Or.inr ⟨by rfl, rfl⟩) hHeld ?r19
        try simp only [Act.put, List.getElem_toArray, List.getElem_cons_zero, List.getElem_cons_succ, List.setIfInBounds_toArray, List.set_cons_zero, List.set_cons_succ]
        refine wpAnyH_take (i := 12) (v := ?v20) rfl (by kernel_rfl) (by kernel_rfl) (by kernel_rfl) (fun _ _ _ h => h) (Or.inl ⟨by rfl, ?h20⟩) hHeld ?r20
        case h20 => intro wq hS; go_simp; with_reducible rfl
        try simp only [Act.put, List.getElem_toArray, List.getElem_cons_zero, List.getElem_cons_succ, List.setIfInBounds_toArray, List.set_cons_zero, List.set_cons_succ]
        refine wpAnyH_done (by kernel_rfl) ?_ _
        have HF := Lib.hid (HBV.out.trans (hHeld.mono HBV.out.size))
        clear hHeld
        go_wp2_with fail
        go_roundw
        case rel => exact ⟨k + 1, by go_num, by omega, HF.out⟩
        case measure => simp [intOf]; omega
      case true =>
        refine wp_region_held_drew (S := fun w' => Below wv.heap.size wv w') (by kernel_rfl) (Below.drew (Below.refl _ _)) (fun hHeld => ?_)
        refine wpAnyH_take (i := 0) (v := ?v21) rfl (by kernel_rfl) (by kernel_rfl) (by kernel_rfl) (fun _ _ _ h => h) (Or.inl ⟨by rfl, ?h21⟩) hHeld ?r21
        case h21 => intro wq hS; go_simp; with_reducible rfl
        try simp only [Act.put, List.getElem_toArray, List.getElem_cons_zero, List.getElem_cons_succ, List.setIfInBounds_toArray, List.set_cons_zero, List.set_cons_succ]
        refine wpAnyH_take (i := 1) (v := ?v22) rfl (by kernel_rfl) (by kernel_rfl) (by kernel_rfl) (fun _ _ _ h => h) (Or.inl ⟨by rfl, ?h22⟩) hHeld ?r22
        case h22 => intro wq hS; have kq := RB.out.after hS; have ca : wq.cell? ⟨br, 0, none⟩ = some (.int .i64 v0) := kq.cell 0; have cb : wq.cell? ⟨br, 1, none⟩ = some (.int .i64 v1) := kq.cell 1; have cc : wq.cell? ⟨br, 2, none⟩ = some (.int .i64 v2) := kq.cell 2; have cd : wq.cell? ⟨br, 4, none⟩ = some (.bool true) := kq.cell 4; clear kq; go_simp; with_reducible rfl
        try simp only [Act.put, List.getElem_toArray, List.getElem_cons_zero, List.getElem_cons_succ, List.setIfInBounds_toArray, List.set_cons_zero, List.set_cons_succ]
        refine wpAnyH_take (i := 2) (v := ?v23) rfl (by kernel_rfl) (by kernel_rfl) (by kernel_rfl) (fun _ _ _ h => h) (Or.inl ⟨by rfl, ?h23⟩) hHeld ?r23
        case h23 => intro wq hS; go_simp; with_reducible rfl
        try simp only [Act.put, List.getElem_toArray, List.getElem_cons_zero, List.getElem_cons_succ, List.setIfInBounds_toArray, List.set_cons_zero, List.set_cons_succ]
        refine wpAnyH_take (i := 3) (v := ?v24) rfl (by kernel_rfl) (by kernel_rfl) (by kernel_rfl) (fun _ _ _ h => h) (Or.inl ⟨by rfl, ?h24⟩) hHeld ?r24
        case h24 => intro wq hS; have kq := UBV.out.after hS; have ca : wq.cell? ⟨b3, 0, none⟩ = some (.slice a2 n2 c2) := kq.cell 0; have cb : wq.cell? ⟨b3, 1, none⟩ = some (.int .i64 q2) := kq.cell 1; clear kq; go_simp; with_reducible rfl
        try simp only [Act.put, List.getElem_toArray, List.getElem_cons_zero, List.getElem_cons_succ, List.setIfInBounds_toArray, List.set_cons_zero, List.set_cons_succ]
        refine wpAnyH_take (i := 4) (v := ?v25) rfl (by kernel_rfl) (by kernel_rfl) (by kernel_rfl) (fun _ _ _ h => h) (Or.inl ⟨by rfl, ?h25⟩) hHeld ?r25
        case h25 => intro wq hS; go_simp; with_reducible rfl
        try simp only [Act.put, List.getElem_toArray, List.getElem_cons_zero, List.getElem_cons_succ, List.setIfInBounds_toArray, List.set_cons_zero, List.set_cons_succ]
        refine wpAnyH_take (i := 5) (v := ?v26) rfl (by kernel_rfl) (by kernel_rfl) (by kernel_rfl) (fun _ _ _ h => h) (Or.inl ⟨by rfl, ?h26⟩) hHeld ?r26
        case h26 => intro wq hS; have kq := RB.out.after hS; have ca : wq.cell? ⟨br, 0, none⟩ = some (.int .i64 v0) := kq.cell 0; have cb : wq.cell? ⟨br, 1, none⟩ = some (.int .i64 v1) := kq.cell 1; have cc : wq.cell? ⟨br, 2, none⟩ = some (.int .i64 v2) := kq.cell 2; have cd : wq.cell? ⟨br, 4, none⟩ = some (.bool true) := kq.cell 4; clear kq; go_simp; with_reducible rfl
        try simp only [Act.put, List.getElem_toArray, List.getElem_cons_zero, List.getElem_cons_succ, List.setIfInBounds_toArray, List.set_cons_zero, List.set_cons_succ]
        refine wpAnyH_take (i := 6) (v := ?v27) rfl (by kernel_rfl) (by kernel_rfl) (by kernel_rfl) (fun _ _ _ h => h) (Or.inl ⟨by rfl, ?h27⟩) hHeld ?r27
        case h27 => intro wq hS; go_simp; with_reducible rfl
        try simp only [Act.put, List.getElem_toArray, List.getElem_cons_zero, List.getElem_cons_succ, List.setIfInBounds_toArray, List.set_cons_zero, List.set_cons_succ]
        refine wpAnyH_take (i := 7) (v := ?v28) rfl (by kernel_rfl) (by kernel_rfl) (by kernel_rfl) (fun _ _ _ h => h) (Or.inl ⟨by rfl, ?h28⟩) hHeld ?r28
        case h28 => intro wq hS; have kq := RB.out.after hS; have ca : wq.cell? ⟨br, 0, none⟩ = some (.int .i64 v0) := kq.cell 0; have cb : wq.cell? ⟨br, 1, none⟩ = some (.int .i64 v1) := kq.cell 1; have cc : wq.cell? ⟨br, 2, none⟩ = some (.int .i64 v2) := kq.cell 2; have cd : wq.cell? ⟨br, 4, none⟩ = some (.bool true) := kq.cell 4; clear kq; go_simp; with_reducible rfl
        try simp only [Act.put, List.getElem_toArray, List.getElem_cons_zero, List.getElem_cons_succ, List.setIfInBounds_toArray, List.set_cons_zero, List.set_cons_succ]
        refine wpAnyH_take (i := 9) (v := ?v29) rfl (by kernel_rfl) (by kernel_rfl) (by kernel_rfl) (fun _ _ _ h => h) (Or.inl ⟨by rfl, ?h29⟩) hHeld ?r29
        case h29 => intro wq hS; go_simp; with_reducible rfl
        try simp only [Act.put, List.getElem_toArray, List.getElem_cons_zero, List.getElem_cons_succ, List.setIfInBounds_toArray, List.set_cons_zero, List.set_cons_succ]
        refine wpAnyH_take (i := 10) (v := ?v30) rfl (by kernel_rfl) (by kernel_rfl) (by kernel_rfl) (fun _ _ _ h => h) (Or.inl ⟨by rfl, ?h30⟩) hHeld ?r30
        case h30 => intro wq hS; have kq := RB.out.after hS; have ca : wq.cell? ⟨br, 0, none⟩ = some (.int .i64 v0) := kq.cell 0; have cb : wq.cell? ⟨br, 1, none⟩ = some (.int .i64 v1) := kq.cell 1; have cc : wq.cell? ⟨br, 2, none⟩ = some (.int .i64 v2) := kq.cell 2; have cd : wq.cell? ⟨br, 4, none⟩ = some (.bool true) := kq.cell 4; clear kq; go_simp; with_reducible rfl
        try simp only [Act.put, List.getElem_toArray, List.getElem_cons_zero, List.getElem_cons_succ, List.setIfInBounds_toArray, List.set_cons_zero, List.set_cons_succ]
        refine wpAnyH_ready (rs := [8]) (by kernel_rfl) (by simp) ?_
        refine AllReadyH.cons rfl (fun K hK => ?_) AllReadyH.nil
        go_simp
        refine (look_impl (UV.out.after hHeld) v0 v1).mono ?_
        rintro e xl ⟨rfl, hbl⟩
        rw [show look (learnT t vid mac port now) v0 v1 = v2 from HKEEP.out rfl]
        refine hK.out _ _ (hHeld.trans (hbl.mono hHeld.size)) (fun hHeld => ?_)
        clear hK K
        try simp only [Act.put, List.getElem_toArray, List.getElem_cons_zero, List.getElem_cons_succ, List.setIfInBounds_toArray, List.set_cons_zero, List.set_cons_succ]
        refine wpAnyH_take (i := 11) (v := ?v31) rfl (by kernel_rfl) (by kernel_rfl) (by kernel_rfl) (fun _ _ _ h => h) (Or.inl ⟨by rfl, ?h31⟩) hHeld ?r31
        case h31 => intro wq hS; go_simp; with_reducible rfl
        try simp only [Act.put, List.getElem_toArray, List.getElem_cons_zero, List.getElem_cons_succ, List.setIfInBounds_toArray, List.set_cons_zero, List.set_cons_succ]
        refine wpAnyH_take (i := 12) (v := ?v32) rfl (by kernel_rfl) (by kernel_rfl) (by kernel_rfl) (fun _ _ _ h => h) (Or.inl ⟨by rfl, ?h32⟩) hHeld ?r32
        case h32 => intro wq hS; go_simp; with_reducible rfl
        try simp only [Act.put, List.getElem_toArray, List.getElem_cons_zero, List.getElem_cons_succ, List.setIfInBounds_toArray, List.set_cons_zero, List.set_cons_succ]
        refine wpAnyH_done (by kernel_rfl) ?_ _
        have HF := Lib.hid (HBV.out.trans (hHeld.mono HBV.out.size))
        clear hHeld
        go_wp2_with fail
        go_roundw
        case rel => exact ⟨k + 1, by go_num, by omega, HF.out⟩
        case measure => simp [intOf]; omega
    · have hlt' : ¬ ((k : Int) < (n : Int)) := by omega
      have T := Lib.hid (T.out.after hB0)
      have U := Lib.hid (U.out.after hB0)
      have TB := Lib.hid (TB.out.after hB0)
      have UB := Lib.hid (UB.out.after hB0)
      have HB := Lib.hid (HB.out.trans (hB0.mono HB.out.size))
      clear hB0
      have HKN := Lib.hid (show k = n by omega)
      clear hlt
      have tba : wr.cell? ⟨b1, 0, none⟩ = some (.slice ta n tc) := TB.out.cell 0
      have tbb : wr.cell? ⟨b1, 1, none⟩ = some (.int .i64 q) := TB.out.cell 1
      have uba : wr.cell? ⟨b3, 0, none⟩ = some (.slice a2 n2 c2) := UB.out.cell 0
      have ubb : wr.cell? ⟨b3, 1, none⟩ = some (.int .i64 q2) := UB.out.cell 1
      go_wp2_with fail
      refine (look_impl U.out vid mac).mono ?_
      rintro e x9 ⟨rfl, hbq⟩
      clear tba tbb uba ubb
      have T := Lib.hid (T.out.after hbq)
      have U := Lib.hid (U.out.after hbq)
      have TB := Lib.hid (TB.out.after hbq)
      have UB := Lib.hid (UB.out.after hbq)
      have HB := Lib.hid (HB.out.trans (hbq.mono HB.out.size))
      clear hbq
      rw [show look (learnT t vid mac port now) vid mac = port from learn_found HOK.out HNE.out]
      have hw : IntKind.i64.wrap ((n : Int) + 1) = (n : Int) + 1 := IntWalk.i64_in _ (by omega)
      have hle : (n2 : Int) ≤ (n : Int) + 1 := by have := HN2.out; omega
      have tba : x9.cell? ⟨b1, 0, none⟩ = some (.slice ta n tc) := TB.out.cell 0
      have tbb : x9.cell? ⟨b1, 1, none⟩ = some (.int .i64 q) := TB.out.cell 1
      have uba : x9.cell? ⟨b3, 0, none⟩ = some (.slice a2 n2 c2) := UB.out.cell 0
      have ubb : x9.cell? ⟨b3, 1, none⟩ = some (.int .i64 q2) := UB.out.cell 1
      go_wp2_with fail
      go_ret
      exact ⟨rfl, HB.out⟩
end Go.Proofs.Ytleebmbnjdoinaa
