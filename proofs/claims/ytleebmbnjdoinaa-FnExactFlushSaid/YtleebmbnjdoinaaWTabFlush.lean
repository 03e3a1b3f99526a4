/- The walk of the exact law of Flush. -/
import Derived.Test.YtleebmbnjdoinaaTbO
import Derived.Test.YtleebmbnjdoinaaWTFlush
import Derived.Test.YtleebmbnjdoinaaTbG
import Derived.Test.YtleebmbnjdoinaaTi
namespace Go.Proofs.Ytleebmbnjdoinaa
open Go.RowKit
set_option linter.unusedVariables false
theorem walk_FnExactFlush (x : TbA) (n0 : Int) (f0 : (Lit.int .i64 n0).wf = true) (W : World) (hA : x.ok W) :
    Calls Try.prog 11 #[x.val, .int .i64 n0] W fun e W' => e = .returned (.bool true) ∧ Below W.heap.size W W' :=
  walk_FnExactFlush_of (flushT) (fun w B v t n0 h f0 => flushT_spec h n0) (fun w B v t n0 h f0 => flush_impl h n0) x.val x.t ⟨_, _, _, _, rfl⟩ hA.2 n0 f0 W hA.1
end Go.Proofs.Ytleebmbnjdoinaa
