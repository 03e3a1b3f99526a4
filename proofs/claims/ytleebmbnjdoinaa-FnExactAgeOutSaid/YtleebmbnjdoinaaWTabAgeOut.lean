/- The walk of the exact law of AgeOut. -/
import Derived.Test.YtleebmbnjdoinaaTbO
import Derived.Test.YtleebmbnjdoinaaWTAgeOut
import Derived.Test.YtleebmbnjdoinaaTbG
import Derived.Test.YtleebmbnjdoinaaTi1
namespace Go.Proofs.Ytleebmbnjdoinaa
open Go.RowKit
set_option linter.unusedVariables false
theorem walk_FnExactAgeOut (x : TbA) (n0 : Int) (f0 : (Lit.int .i64 n0).wf = true) (n1 : Int) (f1 : (Lit.int .i64 n1).wf = true) (W : World) (hA : x.ok W) :
    Calls Try.prog 10 #[x.val, .int .i64 n0, .int .i64 n1] W fun e W' => e = .returned (.bool true) ∧ Below W.heap.size W W' :=
  walk_FnExactAgeOut_of (ageT) (fun w B v t n0 n1 h f0 f1 => ageT_spec h n0 n1) (fun w B v t n0 n1 h f0 f1 => age_impl h n0 n1) x.val x.t ⟨_, _, _, _, rfl⟩ hA.2 n0 f0 n1 f1 W hA.1
end Go.Proofs.Ytleebmbnjdoinaa
