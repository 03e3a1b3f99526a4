/- The walk of FnExactMacText out of the contracts. -/
import Derived.Test.YtjljdkamidppbabMacText
namespace Go.Proofs.Ytjljdkamidppbab
open Go.RowKit

theorem walk_FnExactMacText (m : Int) (_ : (Lit.int .i64 m).wf = true) (w : World) :
    Calls Try.prog 5 #[.int .i64 m] w fun e w' => e = .returned (.bool true) ∧ Below w.heap.size w w' := by
  by_cases h : isMac m
  · go_enter Try.func5, Try.ntmps5
    go_wp2_with fail
    refine (macText_spec m h _).mono ?_
    rintro e w1 ⟨rfl, hb1⟩
    go_wp2_with fail
    refine (macText_impl m h _).mono ?_
    rintro e w2 ⟨rfl, hb2⟩
    go_wp2_with fail
    go_ret
    exact ⟨rfl, hb1.trans (hb2.mono hb1.size)⟩
  · go_enter Try.func5, Try.ntmps5
    go_wp2_with fail
    refine (macText_spec_no m h _).mono ?_
    rintro e w1 ⟨rfl, rfl⟩
    go_wp2_with fail
    refine (macText_impl_no m h _).mono ?_
    rintro e w2 ⟨rfl, rfl⟩
    go_wp2_with fail
    go_ret
    exact ⟨rfl, Below.refl _ _⟩
end Go.Proofs.Ytjljdkamidppbab
