/- The walk of the exact law of Member. -/
import Derived.Test.YtfkpecildcejkaaWPMember
import Derived.Test.YtfkpecildcejkaaIo
import Derived.Test.YtfkpecildcejkaaIi
namespace Go.Proofs.Ytfkpecildcejkaa
open Go.RowKit
set_option linter.unusedVariables false in
theorem walk_FnExactMember (x : PtA) (n0 : Int) (f0 : (Lit.int .i64 n0).wf = true) (W : World) (hA : x.ok W) :
    Calls Try.prog 7 #[x.val, .int .i64 n0] W fun e W' => e = .returned (.bool true) ∧ Below W.heap.size W W' :=
  walk_FnExactMember_of (fun t n => decide (n ∈ t.ins)) (fun w B v t n h _ => by obtain ⟨_, _, hp⟩ := h.port; exact member_spec hp n) (fun w B v t n h _ => by obtain ⟨_, _, hp⟩ := h.port; exact member_impl hp n) x.val x.p ⟨_, _, _, _, _, _, _, _, rfl⟩ hA.2 n0 f0 W hA.1
end Go.Proofs.Ytfkpecildcejkaa
