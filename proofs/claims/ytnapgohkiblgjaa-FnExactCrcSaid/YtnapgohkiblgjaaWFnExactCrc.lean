/- The walk of FnExactCrc out of the contracts. -/
import Derived.Test.YtnapgohkiblgjaaCrcI
namespace Go.Proofs.Ytnapgohkiblgjaa
open Go.RowKit

theorem walk_FnExactCrc (s : ByteArray) (_ : s.size ≤ maxLen) (w : World) :
    Calls Try.prog 6 #[.string s] w fun e w' => e = .returned (.bool true) ∧ Below w.heap.size w w' := by
  by_cases hl : s.size ≤ 1048576
  · have hl' : ¬ (1048576 < (s.size : Int)) := by omega
    go_enter Try.func6, Try.ntmps6
    go_wp2_with (first | (go_at_call 20; refine (crc_spec s _ (by omega)).mono ?_; rintro e w1 ⟨rfl, rfl⟩) | (go_at_call 21; refine (crc_impl s _ (by omega)).mono ?_; rintro e w1 ⟨rfl, rfl⟩))
    go_ret
    exact ⟨rfl, Below.refl _ _⟩
  · have hl' : 1048576 < (s.size : Int) := by omega
    go_enter Try.func6, Try.ntmps6
    go_wp2_with fail
    go_ret
    exact ⟨rfl, Below.refl _ _⟩
end Go.Proofs.Ytnapgohkiblgjaa
