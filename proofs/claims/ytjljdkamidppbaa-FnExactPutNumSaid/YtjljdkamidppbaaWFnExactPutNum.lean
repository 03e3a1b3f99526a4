/- The walk of FnExactPutNum out of the contracts. -/
import Derived.Test.YtjljdkamidppbaaPut
namespace Go.Proofs.Ytjljdkamidppbaa
open Go.RowKit

theorem walk_FnExactPutNum (n : Int) (_ : (Lit.int .i64 n).wf = true) (many : Int) (_ : (Lit.int .i64 many).wf = true) (w : World) :
    Calls Try.prog 9 #[.int .i64 n, .int .i64 many] w fun e w' => e = .returned (.bool true) ∧ Below w.heap.size w w' := by
  by_cases h : 1 ≤ many ∧ many ≤ 6
  · go_enter Try.func9, Try.ntmps9
    go_wp2_with (first | (go_at_call 15; refine (put_spec n many _ h.1 h.2).mono ?_; rintro e w1 ⟨rfl, hb1⟩) | (go_at_call 14; refine (put_impl n many _ h.1 h.2).mono ?_; rintro e w2 ⟨rfl, hb2⟩))
    go_ret
    exact ⟨rfl, hb1.trans (hb2.mono hb1.size)⟩
  · go_enter Try.func9, Try.ntmps9
    go_wp2_with (first | (go_at_call 15; refine (put_spec_no n many _ h).mono ?_; rintro e w1 ⟨rfl, rfl⟩) | (go_at_call 14; refine (put_impl_no n many _ h).mono ?_; rintro e w2 ⟨rfl, rfl⟩))
    go_ret
    exact ⟨rfl, Below.refl _ _⟩
end Go.Proofs.Ytjljdkamidppbaa
