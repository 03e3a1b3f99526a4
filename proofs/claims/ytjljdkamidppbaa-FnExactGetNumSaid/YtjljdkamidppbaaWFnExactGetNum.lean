/- The walk of FnExactGetNum out of the contracts. -/
import Derived.Test.YtjljdkamidppbaaGet
namespace Go.Proofs.Ytjljdkamidppbaa
open Go.RowKit

theorem walk_FnExactGetNum (s : ByteArray) (hm : s.size ≤ maxLen) (i : Int) (_ : (Lit.int .i64 i).wf = true) (many : Int) (_ : (Lit.int .i64 many).wf = true) (w : World) :
    Calls Try.prog 10 #[.string s, .int .i64 i, .int .i64 many] w fun e w' => e = .returned (.bool true) ∧ Below w.heap.size w w' := by
  unfold maxLen at hm
  by_cases hs : s.size ≤ 1048576
  · by_cases h : 1 ≤ many ∧ many ≤ 6 ∧ 0 ≤ i ∧ i ≤ s.size - many
    · go_enter Try.func10, Try.ntmps10
      go_wp2_with (first | (go_at_call 38; refine (get_spec s i many _ hs h.1 h.2.1 h.2.2.1 (by omega)).mono ?_; rintro e w1 ⟨rfl, rfl⟩) | (go_at_call 16; refine (get_impl s i many _ hs h.1 h.2.1 h.2.2.1 (by omega)).mono ?_; rintro e w2 ⟨rfl, rfl⟩))
      go_ret
      exact ⟨rfl, Below.refl _ _⟩
    · go_enter Try.func10, Try.ntmps10
      go_wp2_with (first | (go_at_call 38; refine (get_spec_no s i many _ hs h).mono ?_; rintro e w1 ⟨rfl, rfl⟩) | (go_at_call 16; refine (get_impl_no s i many _ hs h).mono ?_; rintro e w2 ⟨rfl, rfl⟩))
      go_ret
      exact ⟨rfl, Below.refl _ _⟩
  · have hs' : 1048576 < s.size := by omega
    go_enter Try.func10, Try.ntmps10
    go_wp2
    go_ret
    exact ⟨rfl, Below.refl _ _⟩
end Go.Proofs.Ytjljdkamidppbaa
