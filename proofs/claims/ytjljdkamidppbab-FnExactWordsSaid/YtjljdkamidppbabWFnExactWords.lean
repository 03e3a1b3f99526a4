/- The walk of FnExactWords: the model and the program answer alike, in memory of their own. -/
import Derived.Test.YtjljdkamidppbabSWords
import Derived.Test.YtjljdkamidppbabWords
namespace Go.Proofs.Ytjljdkamidppbab
open Go.RowKit

theorem own_drewN {w : World} {base : Nat} {e : TypeId} {size : Nat} {v : Value} {n : Nat} {xs : List Value} (h : w.ownsRow base e size v n xs) (k : Nat) : (w.drewN k).ownsRow base e size v n xs := h

set_option maxHeartbeats 1000000 in
theorem walk_FnExactWords (s : ByteArray) (hm : s.size ≤ maxLen) (w : World) :
    Calls Try.prog 3 #[.string s] w fun e w' => e = .returned (.bool true) ∧ Below w.heap.size w w' := by
  unfold maxLen at hm
  by_cases hs : s.size ≤ 1048576
  · have hll := wordsL_len s.data.toList
    rw [Array.length_toList] at hll
    have hll' : (wordsL s.data.toList).length ≤ s.size + 1 := hll
    clear hll
    go_enter Try.func3, Try.ntmps3
    go_wp2_with fail
    refine (words_spec s hs w).mono ?_
    rintro e w1 ⟨v0, ys, rfl, hys, hrow0, hb1⟩
    go_wp2_with fail
    refine (words_impl s hs w1).mono ?_
    rintro e w2 ⟨v1, zs, rfl, hzs, hrow1, hb2⟩
    obtain rfl : zs = ys := strs_ext (hzs.trans hys.symm)
    have hlen : zs.length ≤ s.size + 1 := by have h := congrArg List.length hys; rw [List.length_map] at h; omega
    have HY := Lib.hid hys
    clear hys hzs hll'
    have hlt0 := hrow0.lt
    have hrow0' := ownsRow_below hrow0 hb2 (fun g e => (hlt0 g e).2)
    have hlt1 := hrow1.lt
    have hr0 := readS_of_owns hrow0'
    have hr1 := readS_of_owns hrow1
    go_wp2_with fail
    refine (eqS_yes v1 v0 zs (by omega) _ hr1 hr0).mono ?_
    rintro e w3 ⟨rfl, n3, hw3⟩
    have hb3 : Below w2.heap.size w2 w3 := by rw [hw3]; exact below_drewN (Below.refl _ _) n3
    have hrow13 : w3.ownsRow w1.heap.size 9 1 v1 zs.length (strVals zs) := by rw [hw3]; exact own_drewN hrow1 n3
    have hrow03 : w3.ownsRow w.heap.size 9 1 v0 zs.length (strVals zs) := by rw [hw3]; exact own_drewN hrow0' n3
    clear hw3 hr0 hr1 hrow0'
    go_wp2_with fail
    refine (markS_any w1.heap.size v1 zs 1 (by decide) (by omega) w3 hrow13).mono ?_
    rintro e w4 ⟨rfl, hmk, hg4⟩
    have hrow04 : w4.ownsRow w.heap.size 9 1 v0 zs.length (strVals zs) := by
      refine hrow03.kept hg4 ?_
      cases h0 : v0.ownBlock with
      | none => exact .inl rfl
      | some g0 =>
        refine .inr ?_
        intro h1
        have a0 := (hlt0 g0 h0).2
        have a1 := (hlt1 g0 h1.symm).1
        omega
    have hb4 : Below w1.heap.size w3 w4 := (Below.refl _ _).grown hg4 (Nat.le_trans hb2.size hb3.size) (fun k e => (hlt1 k e).1)
    have hml : (marks 1 zs.length).length = zs.length := marks_length 1 zs.length
    have hmk' : w4.ownsRow w1.heap.size 9 1 v1 (marks 1 zs.length).length (strVals (marks 1 zs.length)) := by rw [hml]; exact hmk
    have hrm := readS_of_owns hmk'
    have hlm := hmk'.lt
    have HML := Lib.hid hml; clear hml
    go_wp2_with fail
    refine (heldS_any v1 1 zs.length (by decide) (by omega) w4 hrm (fun g e => (hlm g e).2)).mono ?_
    rintro e w5 ⟨rfl, hb5⟩
    go_wp2_with fail
    refine (words_impl s hs w5).mono ?_
    rintro e w6 ⟨v2, us, rfl, hus, hrow2, hb6⟩
    obtain rfl : us = zs := strs_ext (hus.trans HY.out.symm)
    clear hus
    have hrow06 := ownsRow_below (ownsRow_below hrow04 hb5 (fun g e => (hrow04.lt g e).2)) hb6 (fun g e => Nat.lt_of_lt_of_le (hrow04.lt g e).2 hb5.size)
    have hmk6 := ownsRow_below (ownsRow_below hmk' hb5 (fun g e => (hlm g e).2)) hb6 (fun g e => Nat.lt_of_lt_of_le (hlm g e).2 hb5.size)
    have hr0 := readS_of_owns hrow06
    have hr2 := readS_of_owns hrow2
    go_wp2_with fail
    refine (eqS_yes v2 v0 us (by omega) _ hr2 hr0).mono ?_
    rintro e w7 ⟨rfl, n7, hw7⟩
    have hb7 : Below w6.heap.size w6 w7 := by rw [hw7]; exact below_drewN (Below.refl _ _) n7
    have hmk7 : w7.ownsRow w1.heap.size 9 1 v1 (marks 1 us.length).length (strVals (marks 1 us.length)) := by rw [hw7]; exact own_drewN hmk6 n7
    have hrm7 := readS_of_owns hmk7
    clear hw7 hr0 hr2
    go_wp2_with fail
    refine (heldS_any v1 1 us.length (by decide) (by omega) w7 hrm7 (fun g e => (hmk7.lt g e).2)).mono ?_
    rintro e w8 ⟨rfl, hb8⟩
    go_wp2_with fail
    go_ret
    refine ⟨rfl, ?_⟩
    have h14 : Below w.heap.size w w4 := (carry_below (carry_below hb1 hb2) hb3).trans (hb4.mono hb1.size)
    exact carry_below (carry_below (carry_below (carry_below h14 hb5) hb6) hb7) hb8
  · have hs' : 1048576 < s.size := by omega
    go_enter Try.func3, Try.ntmps3
    go_wp2_with fail
    go_ret
    exact ⟨rfl, Below.refl _ _⟩
end Go.Proofs.Ytjljdkamidppbab
