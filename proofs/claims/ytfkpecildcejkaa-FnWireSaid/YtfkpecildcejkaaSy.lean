/- The program's sets with one number left out, with one put in. -/
import Derived.Test.YtfkpecildcejkaaSx
namespace Go.Proofs.Ytfkpecildcejkaa
open Go.RowKit Go.Shelf Go.Sort Go.Lib

set_option maxRecDepth 20000 in
theorem without_impl (xs : List Int) (a : Option Addr) (n cap : Nat) (x : Int) (w : World) (hn : xs.length = n) (hx : SlIn kdI w a xs) (hsz : n ≤ 2097152) :
    Calls Try.prog 54 #[.slice a n cap, .int .i64 x] w fun e w' => ∃ v, e = .returned v ∧ OwnI w' w.heap.size v (without xs x) ∧ Below w.heap.size w w' := by
  have hb : Below w.heap.size w (w.alloc (.cells #[.int .i64 x] 3)) := (Below.refl _ _).alloc (Nat.le_refl _) _
  have hC := clone_set xs a n cap (w.alloc (.cells #[.int .i64 x] 3)) hn (hx.after hb) hsz
  have hB : (w.alloc (.cells #[.int .i64 x] 3)).heap.size = w.heap.size + 1 := by simp
  have hcell : (w.alloc (.cells #[.int .i64 x] 3)).cell? ⟨w.heap.size, 0, none⟩ = some (.int .i64 x) := by simp
  rw [hB] at hC
  have HC := Lib.hid hC; have HB := Lib.hid hb; have HS := Lib.hid hB; have HCELL := Lib.hid hcell; have HN := Lib.hid hn
  clear hC hb hB hcell hx hn
  go_enter Try.func54, Try.ntmps54
  go_wp2_with fail
  refine HC.out.mono ?_
  rintro e w1 ⟨v, rfl, hown, h1⟩
  have hs1 : w.heap.size + 1 ≤ w1.heap.size := by have := h1.size; rw [HS.out] at this; exact this
  have hD := del_impl (W := w1) x w.heap.size hown (by omega) ((h1.cell (p := ⟨w.heap.size, 0, none⟩) (by show w.heap.size < _; omega)).trans HCELL.out) (by rw [HN.out]; exact hsz) hs1
  have HD := Lib.hid hD; have H1 := Lib.hid (HB.out.trans (h1.mono (Nat.le_succ _)))
  clear hD h1 hown
  go_wp2_with fail
  refine HD.out.mono ?_
  rintro e w2 ⟨v', rfl, hown, h2⟩
  have HO := Lib.hid (hown.lower (Nat.le_succ w.heap.size)); have H2 := Lib.hid (H1.out.trans (h2.mono (Nat.le_succ _)))
  clear hown h2
  go_wp2_with fail
  go_ret
  exact ⟨_, rfl, HO.out, H2.out⟩

theorem sorted_put {xs : List Int} (h : xs.Pairwise (· < ·)) (x : Int) : ((without xs x ++ [x]).mergeSort fun a b => decide (a ≤ b)) = putN xs x := by
  have hw := without_asc h x
  have hnd : (without xs x ++ [x]).Nodup := by
    unfold List.Nodup
    rw [List.pairwise_append]
    refine ⟨hw.imp (fun hab e => by omega), by simp, fun a ha b hb e => ?_⟩
    rw [List.mem_singleton] at hb
    exact (mem_without.1 ha).2 (by omega)
  have hp := List.mergeSort_perm (without xs x ++ [x]) (fun a b => decide (a ≤ b))
  have hs := List.pairwise_mergeSort (le := fun a b : Int => decide (a ≤ b)) (fun a b c h1 h2 => by simp only [decide_eq_true_eq] at *; omega) (fun a b => by simp only [Bool.or_eq_true, decide_eq_true_eq]; omega) (without xs x ++ [x])
  have hn2 : ((without xs x ++ [x]).mergeSort fun a b => decide (a ≤ b)).Pairwise (· ≠ ·) := hp.nodup_iff.2 hnd
  refine asc_ext ((hs.and hn2).imp (fun hab => ?_)) (putN_asc h x) (fun y => ?_)
  · have h1 := hab.1
    simp only [decide_eq_true_eq] at h1
    have := hab.2
    omega
  · rw [hp.mem_iff, List.mem_append, List.mem_singleton, mem_without, mem_putN]
    by_cases e : y = x <;> simp [e]

theorem sort6_impl {W : World} {base : Nat} {v : Value} {ss : List Int} (h : OwnI W base v ss) (hne : 0 < ss.length) (hsz : ss.length ≤ 2097152) (hbase : base ≤ W.heap.size) :
    Calls Try.prog 79 #[v] W fun e w' => e = .returned (.tuple #[]) ∧ OwnI w' base v (ss.mergeSort fun a b => decide (a ≤ b)) ∧ Below base W w' := by
  have hlim : ss.length < 4611686018427387904 := by omega
  obtain ⟨hx, h' | ⟨g, cap, cur, rfl, hbg, hg, hnc, hcm, hcs, htake⟩⟩ := h
  · have := h'.2; omega
  · rw [Nat.mul_one] at htake
    have hH := holds_of_blockI hg htake
    have hlt : g < W.heap.size := (Array.getElem?_eq_some_iff.1 hg).1
    have hcon := calls_of_every_depth fun D => AnySM.slices_Sort_int_in lays6Sort D g 0 cap ss W hH hlt hlim
    change Calls Try.prog 79 _ _ _ at hcon
    refine Calls.mono (f := 79) hcon ?_
    rintro e w' ⟨rfl, q, os, rfl⟩
    have hts : (ss.mergeSort fun a b => decide (a ≤ b)).length = ss.length := List.length_mergeSort _
    refine ⟨rfl, ?_, (Below.refl base W).grown (grownBy_sortedI _) hbase (fun k e => by cases e; exact hbg)⟩
    unfold OwnI
    rw [hts]
    exact ownsRow_sortedI hts hbg hg hnc hcm hcs

set_option maxRecDepth 20000 in
set_option maxHeartbeats 1000000 in
theorem with_impl (xs : List Int) (a : Option Addr) (n cap : Nat) (x : Int) (w : World) (hn : xs.length = n) (hx : SlIn kdI w a xs) (hsz : n ≤ 1048576) (hasc : xs.Pairwise (· < ·)) :
    Calls Try.prog 53 #[.slice a n cap, .int .i64 x] w fun e w' => ∃ v, e = .returned v ∧ OwnI w' w.heap.size v (putN xs x) ∧ Below w.heap.size w w' := by
  have hW := without_impl xs a n cap x w hn hx (by omega)
  have HW := Lib.hid hW; have HASC := Lib.hid hasc; have HN := Lib.hid hn
  obtain ⟨i0, hi, hz0, hz1, hz2⟩ := info_parts infoI
  clear hW hasc hn hx
  go_enter Try.func53, Try.ntmps53
  go_wp2_with fail
  refine HW.out.mono ?_
  rintro e w1 ⟨v, rfl, hown, h1⟩
  obtain ⟨va, vc, rfl⟩ := own_form hown
  have HO := Lib.hid hown; have H1 := Lib.hid h1
  clear hown h1
  go_wp2_with (at_builtin; apply halt_here)
  refine halt_go ?_
  have hl : (without xs x).length ≤ 1048576 := Nat.le_trans (without_len xs x) (by rw [HN.out]; exact hsz)
  refine wpList_append_own_at _ rfl _ _ 64 rfl w.heap.size 3 i0 (.int .i64 0) 1 8 Try.underlying64 hi hz0 hz1 hz2 rfl (by decide) _ _ _ rfl (World.ownsRow.alloc HO.out _) ⟨w1.heap.size, 0, none⟩ 1 1 [.int .i64 x] rfl rfl (cell_one_new _ _ _) (by simp [Value.oneCell']) (by unfold maxLen; omega) (by omega) (by have := H1.out.size; simp; omega) ?_
  intro v' w5 hown5 hgrow5 _ _
  have hB5 : Below w.heap.size w w5 := (H1.out.alloc H1.out.size _).grown hgrow5 (by have := H1.out.size; simp; omega) (fun g e => (World.ownsRow.lt HO.out g e).1)
  have hO5 : OwnI w5 w.heap.size v' (without xs x ++ [x]) := by
    unfold OwnI
    rw [List.length_append, List.map_append]
    exact hown5
  have hS := sort6_impl hO5 (by simp) (by simp; omega) hB5.size
  rw [sorted_put HASC.out] at hS
  obtain ⟨va', vc', rfl⟩ := own_form hO5
  rw [show (without xs x ++ [x]).length = (without xs x).length + 1 by simp] at hS
  have HS := Lib.hid hS; have HB5 := Lib.hid hB5
  clear hown5 hgrow5 hB5 hO5 hS
  go_wp2_with fail
  refine HS.out.mono ?_
  rintro e w6 ⟨rfl, hown, h6⟩
  have HO6 := Lib.hid hown; have H6 := Lib.hid (HB5.out.trans h6)
  clear hown h6
  go_wp2_with fail
  go_ret
  exact ⟨_, rfl, HO6.out, H6.out⟩

end Go.Proofs.Ytfkpecildcejkaa
