/- The walk of FnExactReadDec out of the contracts. -/
import Derived.Test.YtjljdkamidppbaaReadDec
namespace Go.Proofs.Ytjljdkamidppbaa
open Go.RowKit

theorem walk_FnExactReadDec (s : ByteArray) (hm : s.size ≤ maxLen) (w : World) :
    Calls Try.prog 6 #[.string s] w fun e w' => e = .returned (.bool true) ∧ Below w.heap.size w w' := by
  unfold maxLen at hm
  by_cases hs : s.size ≤ 1048576
  · go_enter Try.func6, Try.ntmps6
    go_wp2_with (first | (go_at_call 32; refine (readDec_spec s _ hs).mono ?_; rintro e w1 ⟨rfl, rfl⟩) | (go_at_call 33; refine (readDec_impl s _ hs).mono ?_; rintro e w2 ⟨rfl, hb⟩))
    go_ret
    exact ⟨rfl, hb⟩
  · have hs' : 1048576 < s.size := by omega
    go_enter Try.func6, Try.ntmps6
    go_wp2_with fail
    go_ret
    exact ⟨rfl, Below.refl _ _⟩
end Go.Proofs.Ytjljdkamidppbaa
