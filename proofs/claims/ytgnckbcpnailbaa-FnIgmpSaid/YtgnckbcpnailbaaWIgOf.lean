/- The walks of chapter 4's exact laws, out of the program's contracts. -/
import Derived.Test.YtgnckbcpnailbaaIgL
import Derived.Test.YtgnckbcpnailbaaPutIgS
import Derived.Test.YtgnckbcpnailbaaGetIgS
namespace Go.Proofs.Ytgnckbcpnailbaa
open Go.RowKit

/-- PutIgmp's bytes, or none -/
def igBytes (g : Ig) : ByteArray := if igOk g then ⟨(igL g).toArray⟩ else ⟨#[]⟩
theorem putIgmp_all (g : Ig) (w : World) : Calls Try.prog 23 #[g.val] w fun e w' => e = .returned (.string (igBytes g)) ∧ Below w.heap.size w w' := by
  unfold igBytes
  by_cases h : igOk g
  · rw [if_pos h]; exact putIgmp_spec g h w
  · rw [if_neg h]; exact putIgmp_no g h w

theorem walk_FnExactIgmpOk_of (hi : ∀ (g : Ig) (w : World), Calls Try.prog 21 #[g.val] w fun e w' => e = .returned (.bool (decide (igOk g))) ∧ Below w.heap.size w w') (g : Ig) (w : World) :
    Calls Try.prog 5 #[g.val] w fun e w' => e = .returned (.bool true) ∧ Below w.heap.size w w' := by
  have ht := toIgmp_any g
  obtain ⟨b, hs, hi⟩ : ∃ b, (∀ w, Calls Try.prog 12 #[g.val] w fun e w' => e = .returned (.bool b) ∧ Below w.heap.size w w') ∧
      (∀ w, Calls Try.prog 21 #[g.val] w fun e w' => e = .returned (.bool b) ∧ Below w.heap.size w w') := ⟨_, fun w => igmpOk_spec g w, fun w => hi g w⟩
  obtain ⟨kind, time, group, src⟩ := g
  unfold Ig.val at *
  simp only at ht hs hi ⊢
  have HS := Lib.hid hs; have HI := Lib.hid hi; have HT := Lib.hid ht
  clear hs hi ht
  have hbw0 : ∀ o, Below w.heap.size w (w.alloc o) := fun o => (Below.refl _ _).alloc (Nat.le_refl _) o
  go_enter Try.func5, Try.ntmps5
  go_wp2_with fail
  refine (HT.out _).mono ?_
  rintro e w2 ⟨rfl, hB2⟩
  go_wp2_with fail
  refine (HS.out _).mono ?_
  rintro e w3 ⟨rfl, hb3⟩
  have hB3 := hB2.trans (hb3.mono hB2.size)
  obtain ⟨k0, k1, k2, k3⟩ := cells4 hB3
  go_wp2_with fail
  refine (HT.out _).mono ?_
  rintro e w4 ⟨rfl, hb4⟩
  clear k0 k1 k2 k3
  have hB4 := hB3.trans (hb4.mono hB3.size)
  go_wp2_with fail
  refine (HI.out _).mono ?_
  rintro e w5 ⟨rfl, hb5⟩
  have hB5 := hB4.trans (hb5.mono hB4.size)
  have hfin := (hbw0 _).trans (hB5.mono (hbw0 _).size)
  clear hB2 hb3 hB3 hb4 hB4 hb5 hB5 hbw0
  cases b
  all_goals
    go_wp2_with fail
    go_ret
    exact ⟨rfl, hfin⟩

theorem walk_FnExactIgmpTo_of (hi : ∀ (g : Ig) (w : World), Calls Try.prog 13 #[g.val] w fun e w' => e = .returned (.int .i64 (igTo g)) ∧ Below w.heap.size w w') (g : Ig) (w : World) :
    Calls Try.prog 7 #[g.val] w fun e w' => e = .returned (.bool true) ∧ Below w.heap.size w w' := by
  have ht := toIgmp_any g
  obtain ⟨b, hs, hi⟩ : ∃ b, (∀ w, Calls Try.prog 22 #[g.val] w fun e w' => e = .returned (.int .i64 b) ∧ Below w.heap.size w w') ∧
      (∀ w, Calls Try.prog 13 #[g.val] w fun e w' => e = .returned (.int .i64 b) ∧ Below w.heap.size w w') := ⟨_, fun w => igmpTo_spec g w, fun w => hi g w⟩
  obtain ⟨kind, time, group, src⟩ := g
  unfold Ig.val at *
  simp only at ht hs hi ⊢
  have HS := Lib.hid hs; have HI := Lib.hid hi; have HT := Lib.hid ht
  clear hs hi ht
  have hbw0 : ∀ o, Below w.heap.size w (w.alloc o) := fun o => (Below.refl _ _).alloc (Nat.le_refl _) o
  go_enter Try.func7, Try.ntmps7
  go_wp2_with fail
  refine (HT.out _).mono ?_
  rintro e w2 ⟨rfl, hB2⟩
  go_wp2_with fail
  refine (HS.out _).mono ?_
  rintro e w3 ⟨rfl, hb3⟩
  have hB3 := hB2.trans (hb3.mono hB2.size)
  obtain ⟨k0, k1, k2, k3⟩ := cells4 hB3
  go_wp2_with fail
  refine (HT.out _).mono ?_
  rintro e w4 ⟨rfl, hb4⟩
  clear k0 k1 k2 k3
  have hB4 := hB3.trans (hb4.mono hB3.size)
  go_wp2_with fail
  refine (HI.out _).mono ?_
  rintro e w5 ⟨rfl, hb5⟩
  have hB5 := hB4.trans (hb5.mono hB4.size)
  have hfin := (hbw0 _).trans (hB5.mono (hbw0 _).size)
  clear hB2 hb3 hB3 hb4 hB4 hb5 hB5 hbw0
  go_wp2_with fail
  go_ret
  exact ⟨rfl, hfin⟩

theorem walk_FnExactPutIgmp_of (hi : ∀ (g : Ig) (w : World), Calls Try.prog 11 #[g.val] w fun e w' => e = .returned (.string (igBytes g)) ∧ Below w.heap.size w w') (g : Ig) (w : World) :
    Calls Try.prog 8 #[g.val] w fun e w' => e = .returned (.bool true) ∧ Below w.heap.size w w' := by
  have ht := toIgmp_any g
  obtain ⟨b, hs, hi⟩ : ∃ b, (∀ w, Calls Try.prog 23 #[g.val] w fun e w' => e = .returned (.string b) ∧ Below w.heap.size w w') ∧
      (∀ w, Calls Try.prog 11 #[g.val] w fun e w' => e = .returned (.string b) ∧ Below w.heap.size w w') := ⟨_, fun w => putIgmp_all g w, fun w => hi g w⟩
  obtain ⟨kind, time, group, src⟩ := g
  unfold Ig.val at *
  simp only at ht hs hi ⊢
  have HS := Lib.hid hs; have HI := Lib.hid hi; have HT := Lib.hid ht
  clear hs hi ht
  have hbw0 : ∀ o, Below w.heap.size w (w.alloc o) := fun o => (Below.refl _ _).alloc (Nat.le_refl _) o
  go_enter Try.func8, Try.ntmps8
  go_wp2_with fail
  refine (HT.out _).mono ?_
  rintro e w2 ⟨rfl, hB2⟩
  go_wp2_with fail
  refine (HS.out _).mono ?_
  rintro e w3 ⟨rfl, hb3⟩
  have hB3 := hB2.trans (hb3.mono hB2.size)
  obtain ⟨k0, k1, k2, k3⟩ := cells4 hB3
  go_wp2_with fail
  refine (HT.out _).mono ?_
  rintro e w4 ⟨rfl, hb4⟩
  clear k0 k1 k2 k3
  have hB4 := hB3.trans (hb4.mono hB3.size)
  go_wp2_with fail
  refine (HI.out _).mono ?_
  rintro e w5 ⟨rfl, hb5⟩
  have hB5 := hB4.trans (hb5.mono hB4.size)
  have hfin := (hbw0 _).trans (hB5.mono (hbw0 _).size)
  clear hB2 hb3 hB3 hb4 hB4 hb5 hB5 hbw0
  go_wp2_with fail
  go_ret
  exact ⟨rfl, hfin⟩

theorem walk_FnExactSum16_of (hi : ∀ (s : ByteArray) (w : World), s.size ≤ 1048576 → Calls Try.prog 15 #[.string s] w fun e w' => e = .returned (.int .i64 (sum16 s.data.toList : Nat)) ∧ Below w.heap.size w w') (s : ByteArray) (w : World) :
    Calls Try.prog 6 #[.string s] w fun e w' => e = .returned (.bool true) ∧ Below w.heap.size w w' := by
  by_cases hl : s.size ≤ 1048576
  · have hl' : ¬ (1048576 < (s.size : Int)) := by omega
    have hs := fun w => sum16_spec s w hl
    have hi := fun w => hi s w hl
    generalize sum16 s.data.toList = n at hs hi
    have HS := Lib.hid hs; have HI := Lib.hid hi
    clear hs hi
    go_enter Try.func6, Try.ntmps6
    go_wp2_with fail
    refine (HS.out _).mono ?_
    rintro e w1 ⟨rfl, rfl⟩
    go_wp2_with fail
    refine (HI.out _).mono ?_
    rintro e w1 ⟨rfl, hb1⟩
    go_wp2_with fail
    go_ret
    exact ⟨rfl, hb1⟩
  · have hl' : 1048576 < (s.size : Int) := by omega
    clear hi
    go_enter Try.func6, Try.ntmps6
    go_wp2_with fail
    go_ret
    exact ⟨rfl, Below.refl _ _⟩

end Go.Proofs.Ytgnckbcpnailbaa
