/- The walk of the exact law of DropMember. -/
import Derived.Test.YtfkpecildcejkaaWPDropMember
import Derived.Test.YtfkpecildcejkaaSmS
import Derived.Test.YtfkpecildcejkaaDm
namespace Go.Proofs.Ytfkpecildcejkaa
open Go.RowKit
set_option linter.unusedVariables false in
theorem walk_FnExactDropMember (x : PtA) (n0 : Int) (f0 : (Lit.int .i64 n0).wf = true) (W : World) (hA : x.ok W) :
    Calls Try.prog 11 #[x.val, .int .i64 n0] W fun e W' => e = .returned (.bool true) ∧ Below W.heap.size W W' :=
  walk_FnExactDropMember_of (fun t n => dropM t n) (fun w B v t n h _ => by obtain ⟨_, _, hp⟩ := h.port; exact (drop_spec hp n).mono fun _ _ h => h.toP) (fun w B v t n h _ => by obtain ⟨_, _, hp⟩ := h.port; exact (drop_impl hp n).mono fun _ _ h => h.toP) x.val x.p ⟨_, _, _, _, _, _, _, _, rfl⟩ hA.2 n0 f0 W hA.1
end Go.Proofs.Ytfkpecildcejkaa
