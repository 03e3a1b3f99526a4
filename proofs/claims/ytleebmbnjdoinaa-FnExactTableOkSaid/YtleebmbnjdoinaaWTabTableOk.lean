/- The walk of the exact law of TableOk. -/
import Derived.Test.YtleebmbnjdoinaaTbO
import Derived.Test.YtleebmbnjdoinaaWTTableOk
import Derived.Test.YtleebmbnjdoinaaTbOk
import Derived.Test.YtleebmbnjdoinaaTiOk
namespace Go.Proofs.Ytleebmbnjdoinaa
open Go.RowKit
set_option linter.unusedVariables false
theorem walk_FnExactTableOk (x : TbA) (W : World) (hA : x.ok W) :
    Calls Try.prog 6 #[x.val] W fun e W' => e = .returned (.bool true) ∧ Below W.heap.size W W' :=
  walk_FnExactTableOk_of (fun t => decide (tabOk t)) (fun w B v t h => tableOk_spec h) (fun w B v t h => tableOk_impl h) x.val x.t ⟨_, _, _, _, rfl⟩ hA.2 W hA.1
end Go.Proofs.Ytleebmbnjdoinaa
