/- The walk of the exact law of Learn. -/
import Derived.Test.YtleebmbnjdoinaaTbO
import Derived.Test.YtleebmbnjdoinaaWTLearn
import Derived.Test.YtleebmbnjdoinaaTbLn
import Derived.Test.YtleebmbnjdoinaaTi2
namespace Go.Proofs.Ytleebmbnjdoinaa
open Go.RowKit
set_option linter.unusedVariables false
theorem walk_FnExactLearn (x : TbA) (n0 : Int) (f0 : (Lit.int .i64 n0).wf = true) (n1 : Int) (f1 : (Lit.int .i64 n1).wf = true) (n2 : Int) (f2 : (Lit.int .i64 n2).wf = true) (n3 : Int) (f3 : (Lit.int .i64 n3).wf = true) (W : World) (hA : x.ok W) :
    Calls Try.prog 8 #[x.val, .int .i64 n0, .int .i64 n1, .int .i64 n2, .int .i64 n3] W fun e W' => e = .returned (.bool true) ∧ Below W.heap.size W W' :=
  walk_FnExactLearn_of (learnT) (fun w B v t n0 n1 n2 n3 h f0 f1 f2 f3 => learn5_spec h n0 n1 n2 n3 ⟨f0, f1, f2, f3⟩) (fun w B v t n0 n1 n2 n3 h f0 f1 f2 f3 => learn_impl h n0 n1 n2 n3 f0 f1 f2 f3) x.val x.t ⟨_, _, _, _, rfl⟩ hA.2 n0 f0 n1 f1 n2 f2 n3 f3 W hA.1
end Go.Proofs.Ytleebmbnjdoinaa
