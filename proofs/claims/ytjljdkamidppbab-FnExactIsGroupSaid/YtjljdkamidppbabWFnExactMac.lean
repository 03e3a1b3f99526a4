/- The walks of FnExactMacOk, FnExactIsGroup and FnExactGroupOf out of the contracts. -/
import Derived.Test.YtjljdkamidppbabMac
namespace Go.Proofs.Ytjljdkamidppbab
open Go.RowKit

theorem walk_FnExactMacOk (m : Int) (_ : (Lit.int .i64 m).wf = true) (w : World) :
    Calls Try.prog 4 #[.int .i64 m] w fun e w' => e = .returned (.bool true) ∧ Below w.heap.size w w' := by
  obtain ⟨b, hb⟩ : ∃ b, decide (isMac m) = b := ⟨_, rfl⟩
  have hs := macOk_spec m
  have hi := macOk_impl m
  rw [hb] at hs hi
  clear hb
  go_enter Try.func4, Try.ntmps4
  cases b
  all_goals
    go_wp2_with (first | (go_at_call 14; refine (hs _).mono ?_; rintro e w1 ⟨rfl, rfl⟩) | (go_at_call 15; refine (hi _).mono ?_; rintro e w1 ⟨rfl, rfl⟩))
    go_ret
    exact ⟨rfl, Below.refl _ _⟩

theorem walk_FnExactIsGroup (m : Int) (_ : (Lit.int .i64 m).wf = true) (w : World) :
    Calls Try.prog 7 #[.int .i64 m] w fun e w' => e = .returned (.bool true) ∧ Below w.heap.size w w' := by
  obtain ⟨b, hb⟩ : ∃ b, decide (isGrp m) = b := ⟨_, rfl⟩
  have hs := group_spec m
  have hi := group_impl m
  rw [hb] at hs hi
  clear hb
  go_enter Try.func7, Try.ntmps7
  cases b
  all_goals
    go_wp2_with (first | (go_at_call 20; refine (hs _).mono ?_; rintro e w1 ⟨rfl, rfl⟩) | (go_at_call 21; refine (hi _).mono ?_; rintro e w1 ⟨rfl, rfl⟩))
    go_ret
    exact ⟨rfl, Below.refl _ _⟩

theorem walk_FnExactGroupOf (m : Int) (_ : (Lit.int .i64 m).wf = true) (w : World) :
    Calls Try.prog 8 #[.int .i64 m] w fun e w' => e = .returned (.bool true) ∧ Below w.heap.size w w' := by
  obtain ⟨b, hb⟩ : ∃ b, grpOf m = b := ⟨_, rfl⟩
  have hs := groupOf_spec m
  have hi := groupOf_impl m
  rw [hb] at hs hi
  clear hb
  go_enter Try.func8, Try.ntmps8
  go_wp2_with (first | (go_at_call 22; refine (hs _).mono ?_; rintro e w1 ⟨rfl, rfl⟩) | (go_at_call 23; refine (hi _).mono ?_; rintro e w1 ⟨rfl, rfl⟩))
  go_ret
  exact ⟨rfl, Below.refl _ _⟩
end Go.Proofs.Ytjljdkamidppbab
