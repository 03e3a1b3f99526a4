/- The walk of FnExactHexText out of the contracts. -/
import Derived.Test.YtjljdkamidppbaaHex
namespace Go.Proofs.Ytjljdkamidppbaa
open Go.RowKit

theorem walk_FnExactHexText (n : Int) (wn : (Lit.int .i64 n).wf = true) (digits : Int) (_ : (Lit.int .i64 digits).wf = true) (w : World) :
    Calls Try.prog 7 #[.int .i64 n, .int .i64 digits] w fun e w' => e = .returned (.bool true) ∧ Below w.heap.size w w' := by
  have hn : n ≤ 9223372036854775807 := by simp [Lit.wf, IntKind.min, IntKind.max, IntKind.signed, IntKind.bits] at wn; omega
  by_cases h : 0 ≤ n ∧ 1 ≤ digits ∧ digits ≤ 12
  · go_enter Try.func7, Try.ntmps7
    go_wp2_with (first | (go_at_call 34; refine (hex_spec n digits _ h.1 h.2.1 h.2.2 hn).mono ?_; rintro e w1 ⟨rfl, rfl⟩) | (go_at_call 35; refine (hex_impl n digits _ h.1 h.2.1 h.2.2).mono ?_; rintro e w2 ⟨rfl, hb2⟩))
    go_ret
    exact ⟨rfl, hb2⟩
  · go_enter Try.func7, Try.ntmps7
    go_wp2_with (first | (go_at_call 34; refine (hex_spec_no n digits _ h).mono ?_; rintro e w1 ⟨rfl, rfl⟩) | (go_at_call 35; refine (hex_impl_no n digits _ h).mono ?_; rintro e w2 ⟨rfl, rfl⟩))
    go_ret
    exact ⟨rfl, Below.refl _ _⟩
end Go.Proofs.Ytjljdkamidppbaa
