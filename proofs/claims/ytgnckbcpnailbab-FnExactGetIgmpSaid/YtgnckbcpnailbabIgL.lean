/- IGMP packets in the laws: what toIgmp and eqIgmp answer; a packet as an argument, opened. -/
import Derived.Test.YtgnckbcpnailbabIg
import Derived.Test.YtgnckbcpnailbabOpenF
namespace Go.Proofs.Ytgnckbcpnailbab
open Go.RowKit Go.ChangeShapes Go.WideShapes

theorem array4 {cs : Array Value} (h : cs.size = 4) : ∃ c0 c1 c2 c3, cs = #[c0, c1, c2, c3] := by
  obtain ⟨l⟩ := cs
  match l, h with
  | [c0, c1, c2, c3], _ => exact ⟨c0, c1, c2, c3, rfl⟩

/-- its numbers are an int's -/
def Ig.fits (g : Ig) : Prop := (Lit.int .i64 g.kind).wf = true ∧ (Lit.int .i64 g.time).wf = true ∧ (Lit.int .i64 g.group).wf = true ∧ (Lit.int .i64 g.src).wf = true

theorem eqIgmp_same (g : Ig) (w : World) : Calls Try.prog 6 #[g.val, g.val] w fun e w' => e = .returned (.bool true) ∧ Below w.heap.size w w' := by
  obtain ⟨kind, time, group, src⟩ := g
  unfold Ig.val
  go_enter Try.func6, Try.ntmps6
  go_wp2_with fail
  go_ret
  exact ⟨rfl, ((Below.refl _ _).alloc (Nat.le_refl _) _).alloc (by simp) _⟩
end Go.Proofs.Ytgnckbcpnailbab
