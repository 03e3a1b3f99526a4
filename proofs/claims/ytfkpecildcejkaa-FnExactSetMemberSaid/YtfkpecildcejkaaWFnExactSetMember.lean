/- The walk of the exact law of SetMember. -/
import Derived.Test.YtfkpecildcejkaaWPSetMember
import Derived.Test.YtfkpecildcejkaaSmS
import Derived.Test.YtfkpecildcejkaaSm
namespace Go.Proofs.Ytfkpecildcejkaa
open Go.RowKit
set_option linter.unusedVariables false in
theorem walk_FnExactSetMember (x : PtA) (n0 : Int) (f0 : (Lit.int .i64 n0).wf = true) (n1 : Bool) (W : World) (hA : x.ok W) :
    Calls Try.prog 10 #[x.val, .int .i64 n0, .bool n1] W fun e W' => e = .returned (.bool true) ∧ Below W.heap.size W W' :=
  walk_FnExactSetMember_of (fun t n u => setM t n u) (fun w B v t n u h f => by obtain ⟨_, _, hp⟩ := h.port; exact (set_spec hp n u f).mono fun _ _ h => h.toP) (fun w B v t n u h f => by obtain ⟨_, _, hp⟩ := h.port; exact (set_impl hp n u f).mono fun _ _ h => h.toP) x.val x.p ⟨_, _, _, _, _, _, _, _, rfl⟩ hA.2 n0 f0 n1 W hA.1
end Go.Proofs.Ytfkpecildcejkaa
