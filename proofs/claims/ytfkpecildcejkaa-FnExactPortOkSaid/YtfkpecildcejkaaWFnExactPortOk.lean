/- The walk of the exact law of PortOk. -/
import Derived.Test.YtfkpecildcejkaaWPPortOk
import Derived.Test.YtfkpecildcejkaaPt
import Derived.Test.YtfkpecildcejkaaIi
namespace Go.Proofs.Ytfkpecildcejkaa
open Go.RowKit
set_option linter.unusedVariables false in
theorem walk_FnExactPortOk (x : PtA) (W : World) (hA : x.ok W) :
    Calls Try.prog 6 #[x.val] W fun e W' => e = .returned (.bool true) ∧ Below W.heap.size W W' :=
  walk_FnExactPortOk_of (fun t => decide (portOk t)) (fun w B v t h => by obtain ⟨_, _, hp⟩ := h.port; exact portOk_spec hp) (fun w B v t h => by obtain ⟨_, _, hp⟩ := h.port; exact portOk_impl hp) x.val x.p ⟨_, _, _, _, _, _, _, _, rfl⟩ hA.2 W hA.1
end Go.Proofs.Ytfkpecildcejkaa
