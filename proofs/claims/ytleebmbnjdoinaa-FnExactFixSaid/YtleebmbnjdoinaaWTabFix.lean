/- The walk of the exact law of Fix. -/
import Derived.Test.YtleebmbnjdoinaaTbO
import Derived.Test.YtleebmbnjdoinaaWTFix
import Derived.Test.YtleebmbnjdoinaaTbF
import Derived.Test.YtleebmbnjdoinaaTi1
namespace Go.Proofs.Ytleebmbnjdoinaa
open Go.RowKit
set_option linter.unusedVariables false
theorem walk_FnExactFix (x : TbA) (n0 : Int) (f0 : (Lit.int .i64 n0).wf = true) (n1 : Int) (f1 : (Lit.int .i64 n1).wf = true) (n2 : Int) (f2 : (Lit.int .i64 n2).wf = true) (W : World) (hA : x.ok W) :
    Calls Try.prog 9 #[x.val, .int .i64 n0, .int .i64 n1, .int .i64 n2] W fun e W' => e = .returned (.bool true) ∧ Below W.heap.size W W' :=
  walk_FnExactFix_of (fixT) (fun w B v t n0 n1 n2 h f0 f1 f2 => fix5_spec h n0 n1 n2 ⟨f0, f1, f2, (by decide : (Lit.int .i64 0).wf = true)⟩) (fun w B v t n0 n1 n2 h f0 f1 f2 => fix_impl h n0 n1 n2 f0 f1 f2) x.val x.t ⟨_, _, _, _, rfl⟩ hA.2 n0 f0 n1 f1 n2 f2 W hA.1
end Go.Proofs.Ytleebmbnjdoinaa
