/- The walk of FnExactReadHex out of the contracts. -/
import Derived.Test.YtjljdkamidppbaaRead
namespace Go.Proofs.Ytjljdkamidppbaa
open Go.RowKit

theorem walk_FnExactReadHex (s : ByteArray) (hm : s.size ≤ maxLen) (w : World) :
    Calls Try.prog 8 #[.string s] w fun e w' => e = .returned (.bool true) ∧ Below w.heap.size w w' := by
  unfold maxLen at hm
  by_cases hs : s.size ≤ 1048576
  · by_cases h : 1 ≤ s.size ∧ s.size ≤ 12
    · go_enter Try.func8, Try.ntmps8
      go_wp2_with (first | (go_at_call 36; refine (readHex_spec s _ h.1 h.2).mono ?_; rintro e w1 ⟨rfl, rfl⟩) | (go_at_call 37; refine (readHex_impl s _ h.1 h.2).mono ?_; rintro e w2 ⟨rfl, hb⟩))
      go_ret
      exact ⟨rfl, hb⟩
    · go_enter Try.func8, Try.ntmps8
      go_wp2_with (first | (go_at_call 36; refine (readHex_spec_no s _ h hs).mono ?_; rintro e w1 ⟨rfl, rfl⟩) | (go_at_call 37; refine (readHex_impl_no s _ h hs).mono ?_; rintro e w2 ⟨rfl, rfl⟩))
      go_ret
      exact ⟨rfl, Below.refl _ _⟩
  · have hs' : 1048576 < s.size := by omega
    go_enter Try.func8, Try.ntmps8
    go_wp2_with fail
    go_ret
    exact ⟨rfl, Below.refl _ _⟩
end Go.Proofs.Ytjljdkamidppbaa
