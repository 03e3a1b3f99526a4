/-
  No cell of these rows narrows 'for every input' (looked for: loops, veiled, ifaces, maps, wideKeys, modest, calm, conditions, laid).
  DERIVED. THE GIVEN ROWS OF THIS SEAT. 9 by the template 'for every input the law returns true; each argument reads behind the call as it read before'; 0 by the template 'total and deterministic' (their statements: YtfkpecildcejkaaTotals.lean).
  GIVEN WITH THE SEED: the statements are not yours to turn. If you find one false, say at which input.
  Laid BY PROGRAM, IN A SANDBOX (cutbox-rows.mjs): the forced cells as the released guide's own fill.sh prints them over the translation 2af95c2a877efe34… (all of the seat's roots in one cut). By AI agents, Wed Nov 11 2026. No macro, syntax, notation, axiom, sorry.
-/
import Derived.Test.YtfkpecildcejkaaChecked
import GoSem.Claim
import GoSem.ClaimJoined
import GoSem.ClaimMapViews
import Derived.JoinedTies
import Derived.KernelRfl
namespace Go.Proofs.Ytfkpecildcejkaa
/- THE CELL 'sum', in the pinned program and in every row, IS THE sha256 OF THE DUMP (.gsa) THAT YtfkpecildcejkaaProg.lean LOADS. Nothing in Lean hashes anything: it is a label: what it is worth is what the hold of that sum in a sandbox is worth. -/
noncomputable def Try.pinned : Pinned := { name := "ytfkpecildcejkaa", sum := "2af95c2a877efe34fdeee0ad27bacf599b98dc8930e5f27fa9fc2d514f8d7042", checked := Try.checked }
namespace Rows
def none {H : Type} : Left H := { results := [], args := [] }

/-- 'laws.FnWire': WHATEVER THE INPUT: true; the input reads as it did. -/
def fnWireSpec : ChangeSpec := { name := "fnWire", fn := fun _ => fun
  | [d] => { results := [.lit (.bool true)], args := [d] }
  | _ => none }
def fnWireRow : OpenClaim := { program := "ytfkpecildcejkaa", sum := "2af95c2a877efe34fdeee0ad27bacf599b98dc8930e5f27fa9fc2d514f8d7042", func := "loop.example/g00687/laws.FnWire", spec := "fnWire", apart := false }
def FnWireSaid : Prop := fnWireRow.holds Try.pinned (OpenSpec.ofChange fnWireSpec)

/-- ITS FALSE NEIGHBOUR: 'it returns false'. Refute it at one input. -/
def fnWireWrong : ChangeSpec := { name := "fnWire", fn := fun _ => fun
  | [d] => { results := [.lit (.bool false)], args := [d] }
  | _ => none }
def FnWireWrongFalsely : Prop := fnWireRow.holds Try.pinned (OpenSpec.ofChange fnWireWrong)

/-- 'laws.FnIngress': WHATEVER THE INPUT: true; the input reads as it did. -/
def fnIngressSpec : ChangeSpec := { name := "fnIngress", fn := fun _ => fun
  | [d] => { results := [.lit (.bool true)], args := [d] }
  | _ => none }
def fnIngressRow : OpenClaim := { program := "ytfkpecildcejkaa", sum := "2af95c2a877efe34fdeee0ad27bacf599b98dc8930e5f27fa9fc2d514f8d7042", func := "loop.example/g00687/laws.FnIngress", spec := "fnIngress", apart := false }
def FnIngressSaid : Prop := fnIngressRow.holds Try.pinned (OpenSpec.ofChange fnIngressSpec)

/-- ITS FALSE NEIGHBOUR: 'it returns false'. Refute it at one input. -/
def fnIngressWrong : ChangeSpec := { name := "fnIngress", fn := fun _ => fun
  | [d] => { results := [.lit (.bool false)], args := [d] }
  | _ => none }
def FnIngressWrongFalsely : Prop := fnIngressRow.holds Try.pinned (OpenSpec.ofChange fnIngressWrong)

/-- 'laws.FnMembers': WHATEVER THE INPUT: true; the input reads as it did. -/
def fnMembersSpec : ChangeSpec := { name := "fnMembers", fn := fun _ => fun
  | [d] => { results := [.lit (.bool true)], args := [d] }
  | _ => none }
def fnMembersRow : OpenClaim := { program := "ytfkpecildcejkaa", sum := "2af95c2a877efe34fdeee0ad27bacf599b98dc8930e5f27fa9fc2d514f8d7042", func := "loop.example/g00687/laws.FnMembers", spec := "fnMembers", unfollowed := true, recurses := true, apart := false }
def FnMembersSaid : Prop := fnMembersRow.holds Try.pinned (OpenSpec.ofChange fnMembersSpec)

/-- ITS FALSE NEIGHBOUR: 'it returns false'. Refute it at one input. -/
def fnMembersWrong : ChangeSpec := { name := "fnMembers", fn := fun _ => fun
  | [d] => { results := [.lit (.bool false)], args := [d] }
  | _ => none }
def FnMembersWrongFalsely : Prop := fnMembersRow.holds Try.pinned (OpenSpec.ofChange fnMembersWrong)

/-- 'laws.FnExactPortOk': WHATEVER THE INPUT: true; the input reads as it did. -/
def fnExactPortOkSpec : ChangeSpec := { name := "fnExactPortOk", fn := fun _ => fun
  | [d] => { results := [.lit (.bool true)], args := [d] }
  | _ => none }
def fnExactPortOkRow : OpenClaim := { program := "ytfkpecildcejkaa", sum := "2af95c2a877efe34fdeee0ad27bacf599b98dc8930e5f27fa9fc2d514f8d7042", func := "loop.example/g00687/laws.FnExactPortOk", spec := "fnExactPortOk", apart := false }
def FnExactPortOkSaid : Prop := fnExactPortOkRow.holds Try.pinned (OpenSpec.ofChange fnExactPortOkSpec)

/-- ITS FALSE NEIGHBOUR: 'it returns false'. Refute it at one input. -/
def fnExactPortOkWrong : ChangeSpec := { name := "fnExactPortOk", fn := fun _ => fun
  | [d] => { results := [.lit (.bool false)], args := [d] }
  | _ => none }
def FnExactPortOkWrongFalsely : Prop := fnExactPortOkRow.holds Try.pinned (OpenSpec.ofChange fnExactPortOkWrong)

/-- 'laws.FnExactMember': WHATEVER THE INPUT: true; the input reads as it did. -/
def fnExactMemberSpec : ChangeSpec := { name := "fnExactMember", fn := fun _ => fun
  | [d1, d2] => { results := [.lit (.bool true)], args := [d1, d2] }
  | _ => none }
def fnExactMemberRow : OpenClaim := { program := "ytfkpecildcejkaa", sum := "2af95c2a877efe34fdeee0ad27bacf599b98dc8930e5f27fa9fc2d514f8d7042", func := "loop.example/g00687/laws.FnExactMember", spec := "fnExactMember", apart := false }
def FnExactMemberSaid : Prop := fnExactMemberRow.holds Try.pinned (OpenSpec.ofChange fnExactMemberSpec)

/-- ITS FALSE NEIGHBOUR: 'it returns false'. Refute it at one input. -/
def fnExactMemberWrong : ChangeSpec := { name := "fnExactMember", fn := fun _ => fun
  | [d1, d2] => { results := [.lit (.bool false)], args := [d1, d2] }
  | _ => none }
def FnExactMemberWrongFalsely : Prop := fnExactMemberRow.holds Try.pinned (OpenSpec.ofChange fnExactMemberWrong)

/-- 'laws.FnExactIngress': WHATEVER THE INPUT: true; the input reads as it did. -/
def fnExactIngressSpec : ChangeSpec := { name := "fnExactIngress", fn := fun _ => fun
  | [d1, d2] => { results := [.lit (.bool true)], args := [d1, d2] }
  | _ => none }
def fnExactIngressRow : OpenClaim := { program := "ytfkpecildcejkaa", sum := "2af95c2a877efe34fdeee0ad27bacf599b98dc8930e5f27fa9fc2d514f8d7042", func := "loop.example/g00687/laws.FnExactIngress", spec := "fnExactIngress", apart := false }
def FnExactIngressSaid : Prop := fnExactIngressRow.holds Try.pinned (OpenSpec.ofChange fnExactIngressSpec)

/-- ITS FALSE NEIGHBOUR: 'it returns false'. Refute it at one input. -/
def fnExactIngressWrong : ChangeSpec := { name := "fnExactIngress", fn := fun _ => fun
  | [d1, d2] => { results := [.lit (.bool false)], args := [d1, d2] }
  | _ => none }
def FnExactIngressWrongFalsely : Prop := fnExactIngressRow.holds Try.pinned (OpenSpec.ofChange fnExactIngressWrong)

/-- 'laws.FnExactEgress': WHATEVER THE INPUT: true; the input reads as it did. -/
def fnExactEgressSpec : ChangeSpec := { name := "fnExactEgress", fn := fun _ => fun
  | [d1, d2, d3, d4] => { results := [.lit (.bool true)], args := [d1, d2, d3, d4] }
  | _ => none }
def fnExactEgressRow : OpenClaim := { program := "ytfkpecildcejkaa", sum := "2af95c2a877efe34fdeee0ad27bacf599b98dc8930e5f27fa9fc2d514f8d7042", func := "loop.example/g00687/laws.FnExactEgress", spec := "fnExactEgress", apart := false }
def FnExactEgressSaid : Prop := fnExactEgressRow.holds Try.pinned (OpenSpec.ofChange fnExactEgressSpec)

/-- ITS FALSE NEIGHBOUR: 'it returns false'. Refute it at one input. -/
def fnExactEgressWrong : ChangeSpec := { name := "fnExactEgress", fn := fun _ => fun
  | [d1, d2, d3, d4] => { results := [.lit (.bool false)], args := [d1, d2, d3, d4] }
  | _ => none }
def FnExactEgressWrongFalsely : Prop := fnExactEgressRow.holds Try.pinned (OpenSpec.ofChange fnExactEgressWrong)

/-- 'laws.FnExactSetMember': WHATEVER THE INPUT: true; the input reads as it did. -/
def fnExactSetMemberSpec : ChangeSpec := { name := "fnExactSetMember", fn := fun _ => fun
  | [d1, d2, d3] => { results := [.lit (.bool true)], args := [d1, d2, d3] }
  | _ => none }
def fnExactSetMemberRow : OpenClaim := { program := "ytfkpecildcejkaa", sum := "2af95c2a877efe34fdeee0ad27bacf599b98dc8930e5f27fa9fc2d514f8d7042", func := "loop.example/g00687/laws.FnExactSetMember", spec := "fnExactSetMember", unfollowed := true, recurses := true, apart := false }
def FnExactSetMemberSaid : Prop := fnExactSetMemberRow.holds Try.pinned (OpenSpec.ofChange fnExactSetMemberSpec)

/-- ITS FALSE NEIGHBOUR: 'it returns false'. Refute it at one input. -/
def fnExactSetMemberWrong : ChangeSpec := { name := "fnExactSetMember", fn := fun _ => fun
  | [d1, d2, d3] => { results := [.lit (.bool false)], args := [d1, d2, d3] }
  | _ => none }
def FnExactSetMemberWrongFalsely : Prop := fnExactSetMemberRow.holds Try.pinned (OpenSpec.ofChange fnExactSetMemberWrong)

/-- 'laws.FnExactDropMember': WHATEVER THE INPUT: true; the input reads as it did. -/
def fnExactDropMemberSpec : ChangeSpec := { name := "fnExactDropMember", fn := fun _ => fun
  | [d1, d2] => { results := [.lit (.bool true)], args := [d1, d2] }
  | _ => none }
def fnExactDropMemberRow : OpenClaim := { program := "ytfkpecildcejkaa", sum := "2af95c2a877efe34fdeee0ad27bacf599b98dc8930e5f27fa9fc2d514f8d7042", func := "loop.example/g00687/laws.FnExactDropMember", spec := "fnExactDropMember", unfollowed := true, recurses := true, apart := false }
def FnExactDropMemberSaid : Prop := fnExactDropMemberRow.holds Try.pinned (OpenSpec.ofChange fnExactDropMemberSpec)

/-- ITS FALSE NEIGHBOUR: 'it returns false'. Refute it at one input. -/
def fnExactDropMemberWrong : ChangeSpec := { name := "fnExactDropMember", fn := fun _ => fun
  | [d1, d2] => { results := [.lit (.bool false)], args := [d1, d2] }
  | _ => none }
def FnExactDropMemberWrongFalsely : Prop := fnExactDropMemberRow.holds Try.pinned (OpenSpec.ofChange fnExactDropMemberWrong)

/- THE SECOND FORM. 'bulk': how many values and letters a reading holds, each counted each time it is reached (what is shared counts as often as it is met; a slice's spare places count too). A statement '..UptoSaid' is the law's where the arguments, and the package variables that the reading takes, are together of bulk at most 1048576: NARROWER than '..Said'. Prove '..Said' where nothing that the law and all that it calls make is longer than what came in: it says more and counts as full. Else prove '..UptoSaid'. A law counts once. -/
mutual
def uptoBulk {H : Type} : DataW H → Nat
  | .lit (.string bytes) => bytes.length + 1
  | .lit _ => 1
  | .nil => 1
  | .ptr d => uptoBulk d + 1
  | .slice elems spare => uptoBulkAll elems + uptoBulkAll spare + 1
  | .agg parts => uptoBulkAll parts + 1
  | .iface _ d => uptoBulk d + 1
  | .map entries => uptoBulkEntries entries + 1
  | .held _ => 1
def uptoBulkAll {H : Type} : List (DataW H) → Nat
  | [] => 0
  | d :: r => uptoBulk d + uptoBulkAll r
def uptoBulkEntries {H : Type} : List (Lit × DataW H) → Nat
  | [] => 0
  | x :: r => uptoBulkEntry x + uptoBulkEntries r
def uptoBulkEntry {H : Type} : Lit × DataW H → Nat
  | (.string bytes, d) => bytes.length + uptoBulk d + 1
  | (_, d) => uptoBulk d + 1
 end
def uptoSmall : (H : Type) → List (DataW H) → Bool := fun _ ds => decide (uptoBulkAll ds ≤ 1048576)
def OpenSpec.upto (s : _root_.Go.ChangeSpec) : _root_.Go.OpenSpec := { _root_.Go.OpenSpec.ofChange s with cond := some uptoSmall }

/-- 'laws.FnWire', WHERE WHAT IT READS IS OF BULK AT MOST 1048576: true; the input reads as it did. -/
def fnWireUptoRow : OpenClaim := { program := "ytfkpecildcejkaa", sum := "2af95c2a877efe34fdeee0ad27bacf599b98dc8930e5f27fa9fc2d514f8d7042", func := "loop.example/g00687/laws.FnWire", spec := "fnWire", apart := false, narrowed := true }
def FnWireUptoSaid : Prop := fnWireUptoRow.holds Try.pinned (OpenSpec.upto fnWireSpec)

/-- 'laws.FnIngress', WHERE WHAT IT READS IS OF BULK AT MOST 1048576: true; the input reads as it did. -/
def fnIngressUptoRow : OpenClaim := { program := "ytfkpecildcejkaa", sum := "2af95c2a877efe34fdeee0ad27bacf599b98dc8930e5f27fa9fc2d514f8d7042", func := "loop.example/g00687/laws.FnIngress", spec := "fnIngress", apart := false, narrowed := true }
def FnIngressUptoSaid : Prop := fnIngressUptoRow.holds Try.pinned (OpenSpec.upto fnIngressSpec)

/-- 'laws.FnMembers', WHERE WHAT IT READS IS OF BULK AT MOST 1048576: true; the input reads as it did. -/
def fnMembersUptoRow : OpenClaim := { program := "ytfkpecildcejkaa", sum := "2af95c2a877efe34fdeee0ad27bacf599b98dc8930e5f27fa9fc2d514f8d7042", func := "loop.example/g00687/laws.FnMembers", spec := "fnMembers", unfollowed := true, recurses := true, apart := false, narrowed := true }
def FnMembersUptoSaid : Prop := fnMembersUptoRow.holds Try.pinned (OpenSpec.upto fnMembersSpec)

/-- 'laws.FnExactPortOk', WHERE WHAT IT READS IS OF BULK AT MOST 1048576: true; the input reads as it did. -/
def fnExactPortOkUptoRow : OpenClaim := { program := "ytfkpecildcejkaa", sum := "2af95c2a877efe34fdeee0ad27bacf599b98dc8930e5f27fa9fc2d514f8d7042", func := "loop.example/g00687/laws.FnExactPortOk", spec := "fnExactPortOk", apart := false, narrowed := true }
def FnExactPortOkUptoSaid : Prop := fnExactPortOkUptoRow.holds Try.pinned (OpenSpec.upto fnExactPortOkSpec)

/-- 'laws.FnExactMember', WHERE WHAT IT READS IS OF BULK AT MOST 1048576: true; the input reads as it did. -/
def fnExactMemberUptoRow : OpenClaim := { program := "ytfkpecildcejkaa", sum := "2af95c2a877efe34fdeee0ad27bacf599b98dc8930e5f27fa9fc2d514f8d7042", func := "loop.example/g00687/laws.FnExactMember", spec := "fnExactMember", apart := false, narrowed := true }
def FnExactMemberUptoSaid : Prop := fnExactMemberUptoRow.holds Try.pinned (OpenSpec.upto fnExactMemberSpec)

/-- 'laws.FnExactIngress', WHERE WHAT IT READS IS OF BULK AT MOST 1048576: true; the input reads as it did. -/
def fnExactIngressUptoRow : OpenClaim := { program := "ytfkpecildcejkaa", sum := "2af95c2a877efe34fdeee0ad27bacf599b98dc8930e5f27fa9fc2d514f8d7042", func := "loop.example/g00687/laws.FnExactIngress", spec := "fnExactIngress", apart := false, narrowed := true }
def FnExactIngressUptoSaid : Prop := fnExactIngressUptoRow.holds Try.pinned (OpenSpec.upto fnExactIngressSpec)

/-- 'laws.FnExactEgress', WHERE WHAT IT READS IS OF BULK AT MOST 1048576: true; the input reads as it did. -/
def fnExactEgressUptoRow : OpenClaim := { program := "ytfkpecildcejkaa", sum := "2af95c2a877efe34fdeee0ad27bacf599b98dc8930e5f27fa9fc2d514f8d7042", func := "loop.example/g00687/laws.FnExactEgress", spec := "fnExactEgress", apart := false, narrowed := true }
def FnExactEgressUptoSaid : Prop := fnExactEgressUptoRow.holds Try.pinned (OpenSpec.upto fnExactEgressSpec)

/-- 'laws.FnExactSetMember', WHERE WHAT IT READS IS OF BULK AT MOST 1048576: true; the input reads as it did. -/
def fnExactSetMemberUptoRow : OpenClaim := { program := "ytfkpecildcejkaa", sum := "2af95c2a877efe34fdeee0ad27bacf599b98dc8930e5f27fa9fc2d514f8d7042", func := "loop.example/g00687/laws.FnExactSetMember", spec := "fnExactSetMember", unfollowed := true, recurses := true, apart := false, narrowed := true }
def FnExactSetMemberUptoSaid : Prop := fnExactSetMemberUptoRow.holds Try.pinned (OpenSpec.upto fnExactSetMemberSpec)

/-- 'laws.FnExactDropMember', WHERE WHAT IT READS IS OF BULK AT MOST 1048576: true; the input reads as it did. -/
def fnExactDropMemberUptoRow : OpenClaim := { program := "ytfkpecildcejkaa", sum := "2af95c2a877efe34fdeee0ad27bacf599b98dc8930e5f27fa9fc2d514f8d7042", func := "loop.example/g00687/laws.FnExactDropMember", spec := "fnExactDropMember", unfollowed := true, recurses := true, apart := false, narrowed := true }
def FnExactDropMemberUptoSaid : Prop := fnExactDropMemberUptoRow.holds Try.pinned (OpenSpec.upto fnExactDropMemberSpec)

end Rows
end Go.Proofs.Ytfkpecildcejkaa
