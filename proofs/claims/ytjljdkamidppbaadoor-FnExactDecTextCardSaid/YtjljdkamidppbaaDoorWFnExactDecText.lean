/- The walk of FnExactDecText out of the contracts. -/
import Derived.Test.YtjljdkamidppbaaDoorDecText
namespace Go.Proofs.YtjljdkamidppbaaDoor
open Go.RowKit

theorem walk_FnExactDecText (n : Int) (wn : (Lit.int .i64 n).wf = true) (w : World) (ht : Tab w) :
    Calls Tryd.prog 5 #[.int .i64 n] w fun e w' => e = .returned (.bool true) ∧ Below w.heap.size w w' := by
  have hn : -9223372036854775808 ≤ n ∧ n ≤ 9223372036854775807 := by simpa [Lit.wf, IntKind.min, IntKind.max, IntKind.signed, IntKind.bits] using wn
  obtain ⟨h0, h1⟩ := hn
  have HT := Lib.hid ht; clear ht
  go_enter Tryd.func5, Tryd.ntmps5
  go_wp2_with (first | (go_at_call 11; refine (dec_any n _ h0 h1).mono ?_; rintro e w1 ⟨rfl, rfl⟩) | (go_at_call 9; refine (dec_impl n _ h0 h1 HT.out).mono ?_; rintro e w2 ⟨rfl, hb⟩))
  go_ret
  exact ⟨rfl, hb⟩
end Go.Proofs.YtjljdkamidppbaaDoor
