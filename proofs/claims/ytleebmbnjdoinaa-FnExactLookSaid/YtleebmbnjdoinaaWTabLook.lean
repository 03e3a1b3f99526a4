/- The walk of the exact law of Look. -/
import Derived.Test.YtleebmbnjdoinaaTbO
import Derived.Test.YtleebmbnjdoinaaWTLook
import Derived.Test.YtleebmbnjdoinaaTiLook
namespace Go.Proofs.Ytleebmbnjdoinaa
open Go.RowKit
set_option linter.unusedVariables false
theorem walk_FnExactLook (x : TbA) (n0 : Int) (f0 : (Lit.int .i64 n0).wf = true) (n1 : Int) (f1 : (Lit.int .i64 n1).wf = true) (W : World) (hA : x.ok W) :
    Calls Try.prog 7 #[x.val, .int .i64 n0, .int .i64 n1] W fun e W' => e = .returned (.bool true) ∧ Below W.heap.size W W' :=
  walk_FnExactLook_of (look) (fun w B v t n0 n1 h f0 f1 => look_spec h n0 n1) (fun w B v t n0 n1 h f0 f1 => look_impl h n0 n1) x.val x.t ⟨_, _, _, _, rfl⟩ hA.2 n0 f0 n1 f1 W hA.1
end Go.Proofs.Ytleebmbnjdoinaa
