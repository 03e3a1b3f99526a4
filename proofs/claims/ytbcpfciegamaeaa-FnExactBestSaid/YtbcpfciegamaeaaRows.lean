/-
  No cell of these rows narrows 'for every input' (looked for: loops, veiled, ifaces, maps, wideKeys, modest, calm, conditions, laid).
  DERIVED. THE GIVEN ROWS OF THIS SEAT. 7 by the template 'for every input the law returns true; each argument reads behind the call as it read before'; 0 by the template 'total and deterministic' (their statements: YtbcpfciegamaeaaTotals.lean).
  GIVEN WITH THE SEED: the statements are not yours to turn. If you find one false, say at which input.
  Laid BY PROGRAM, IN A SANDBOX (cutbox-rows.mjs): the forced cells as the released guide's own fill.sh prints them over the translation 567cb327b86bf946… (all of the seat's roots in one cut). By AI agents, Wed Nov 11 2026. No macro, syntax, notation, axiom, sorry.
-/
import Derived.Test.YtbcpfciegamaeaaChecked
import GoSem.Claim
import GoSem.ClaimJoined
import GoSem.ClaimMapViews
import Derived.JoinedTies
import Derived.KernelRfl
namespace Go.Proofs.Ytbcpfciegamaeaa
/- THE CELL 'sum', in the pinned program and in every row, IS THE sha256 OF THE DUMP (.gsa) THAT YtbcpfciegamaeaaProg.lean LOADS. Nothing in Lean hashes anything: it is a label: what it is worth is what the hold of that sum in a sandbox is worth. -/
noncomputable def Try.pinned : Pinned := { name := "ytbcpfciegamaeaa", sum := "567cb327b86bf946c3040f8db8c551b5b5bc86123ec8fae8d92232e6fb30b17c", checked := Try.checked }
namespace Rows
def none {H : Type} : Left H := { results := [], args := [] }

/-- 'laws.FnCompare': WHATEVER THE INPUT: true; the input reads as it did. -/
def fnCompareSpec : ChangeSpec := { name := "fnCompare", fn := fun _ => fun
  | [d] => { results := [.lit (.bool true)], args := [d] }
  | _ => none }
def fnCompareRow : OpenClaim := { program := "ytbcpfciegamaeaa", sum := "567cb327b86bf946c3040f8db8c551b5b5bc86123ec8fae8d92232e6fb30b17c", func := "loop.example/g00687/laws.FnCompare", spec := "fnCompare", apart := false }
def FnCompareSaid : Prop := fnCompareRow.holds Try.pinned (OpenSpec.ofChange fnCompareSpec)

/-- ITS FALSE NEIGHBOUR: 'it returns false'. Refute it at one input. -/
def fnCompareWrong : ChangeSpec := { name := "fnCompare", fn := fun _ => fun
  | [d] => { results := [.lit (.bool false)], args := [d] }
  | _ => none }
def FnCompareWrongFalsely : Prop := fnCompareRow.holds Try.pinned (OpenSpec.ofChange fnCompareWrong)

/-- 'laws.FnBest': WHATEVER THE INPUT: true; the input reads as it did. -/
def fnBestSpec : ChangeSpec := { name := "fnBest", fn := fun _ => fun
  | [d] => { results := [.lit (.bool true)], args := [d] }
  | _ => none }
def fnBestRow : OpenClaim := { program := "ytbcpfciegamaeaa", sum := "567cb327b86bf946c3040f8db8c551b5b5bc86123ec8fae8d92232e6fb30b17c", func := "loop.example/g00687/laws.FnBest", spec := "fnBest", unfollowed := true, recurses := true, apart := false }
def FnBestSaid : Prop := fnBestRow.holds Try.pinned (OpenSpec.ofChange fnBestSpec)

/-- ITS FALSE NEIGHBOUR: 'it returns false'. Refute it at one input. -/
def fnBestWrong : ChangeSpec := { name := "fnBest", fn := fun _ => fun
  | [d] => { results := [.lit (.bool false)], args := [d] }
  | _ => none }
def FnBestWrongFalsely : Prop := fnBestRow.holds Try.pinned (OpenSpec.ofChange fnBestWrong)

/-- 'laws.FnExactId': WHATEVER THE INPUT: true; the input reads as it did. -/
def fnExactIdSpec : ChangeSpec := { name := "fnExactId", fn := fun _ => fun
  | [d1, d2] => { results := [.lit (.bool true)], args := [d1, d2] }
  | _ => none }
def fnExactIdRow : OpenClaim := { program := "ytbcpfciegamaeaa", sum := "567cb327b86bf946c3040f8db8c551b5b5bc86123ec8fae8d92232e6fb30b17c", func := "loop.example/g00687/laws.FnExactId", spec := "fnExactId", apart := false }
def FnExactIdSaid : Prop := fnExactIdRow.holds Try.pinned (OpenSpec.ofChange fnExactIdSpec)

/-- ITS FALSE NEIGHBOUR: 'it returns false'. Refute it at one input. -/
def fnExactIdWrong : ChangeSpec := { name := "fnExactId", fn := fun _ => fun
  | [d1, d2] => { results := [.lit (.bool false)], args := [d1, d2] }
  | _ => none }
def FnExactIdWrongFalsely : Prop := fnExactIdRow.holds Try.pinned (OpenSpec.ofChange fnExactIdWrong)

/-- 'laws.FnExactVectorOk': WHATEVER THE INPUT: true; the input reads as it did. -/
def fnExactVectorOkSpec : ChangeSpec := { name := "fnExactVectorOk", fn := fun _ => fun
  | [d] => { results := [.lit (.bool true)], args := [d] }
  | _ => none }
def fnExactVectorOkRow : OpenClaim := { program := "ytbcpfciegamaeaa", sum := "567cb327b86bf946c3040f8db8c551b5b5bc86123ec8fae8d92232e6fb30b17c", func := "loop.example/g00687/laws.FnExactVectorOk", spec := "fnExactVectorOk", apart := false }
def FnExactVectorOkSaid : Prop := fnExactVectorOkRow.holds Try.pinned (OpenSpec.ofChange fnExactVectorOkSpec)

/-- ITS FALSE NEIGHBOUR: 'it returns false'. Refute it at one input. -/
def fnExactVectorOkWrong : ChangeSpec := { name := "fnExactVectorOk", fn := fun _ => fun
  | [d] => { results := [.lit (.bool false)], args := [d] }
  | _ => none }
def FnExactVectorOkWrongFalsely : Prop := fnExactVectorOkRow.holds Try.pinned (OpenSpec.ofChange fnExactVectorOkWrong)

/-- 'laws.FnExactCompareVector': WHATEVER THE INPUT: true; the input reads as it did. -/
def fnExactCompareVectorSpec : ChangeSpec := { name := "fnExactCompareVector", fn := fun _ => fun
  | [d1, d2] => { results := [.lit (.bool true)], args := [d1, d2] }
  | _ => none }
def fnExactCompareVectorRow : OpenClaim := { program := "ytbcpfciegamaeaa", sum := "567cb327b86bf946c3040f8db8c551b5b5bc86123ec8fae8d92232e6fb30b17c", func := "loop.example/g00687/laws.FnExactCompareVector", spec := "fnExactCompareVector", apart := false }
def FnExactCompareVectorSaid : Prop := fnExactCompareVectorRow.holds Try.pinned (OpenSpec.ofChange fnExactCompareVectorSpec)

/-- ITS FALSE NEIGHBOUR: 'it returns false'. Refute it at one input. -/
def fnExactCompareVectorWrong : ChangeSpec := { name := "fnExactCompareVector", fn := fun _ => fun
  | [d1, d2] => { results := [.lit (.bool false)], args := [d1, d2] }
  | _ => none }
def FnExactCompareVectorWrongFalsely : Prop := fnExactCompareVectorRow.holds Try.pinned (OpenSpec.ofChange fnExactCompareVectorWrong)

/-- 'laws.FnExactThrough': WHATEVER THE INPUT: true; the input reads as it did. -/
def fnExactThroughSpec : ChangeSpec := { name := "fnExactThrough", fn := fun _ => fun
  | [d1, d2, d3, d4] => { results := [.lit (.bool true)], args := [d1, d2, d3, d4] }
  | _ => none }
def fnExactThroughRow : OpenClaim := { program := "ytbcpfciegamaeaa", sum := "567cb327b86bf946c3040f8db8c551b5b5bc86123ec8fae8d92232e6fb30b17c", func := "loop.example/g00687/laws.FnExactThrough", spec := "fnExactThrough", apart := false }
def FnExactThroughSaid : Prop := fnExactThroughRow.holds Try.pinned (OpenSpec.ofChange fnExactThroughSpec)

/-- ITS FALSE NEIGHBOUR: 'it returns false'. Refute it at one input. -/
def fnExactThroughWrong : ChangeSpec := { name := "fnExactThrough", fn := fun _ => fun
  | [d1, d2, d3, d4] => { results := [.lit (.bool false)], args := [d1, d2, d3, d4] }
  | _ => none }
def FnExactThroughWrongFalsely : Prop := fnExactThroughRow.holds Try.pinned (OpenSpec.ofChange fnExactThroughWrong)

/-- 'laws.FnExactBest': WHATEVER THE INPUT: true; the input reads as it did. -/
def fnExactBestSpec : ChangeSpec := { name := "fnExactBest", fn := fun _ => fun
  | [d] => { results := [.lit (.bool true)], args := [d] }
  | _ => none }
def fnExactBestRow : OpenClaim := { program := "ytbcpfciegamaeaa", sum := "567cb327b86bf946c3040f8db8c551b5b5bc86123ec8fae8d92232e6fb30b17c", func := "loop.example/g00687/laws.FnExactBest", spec := "fnExactBest", unfollowed := true, recurses := true, apart := false }
def FnExactBestSaid : Prop := fnExactBestRow.holds Try.pinned (OpenSpec.ofChange fnExactBestSpec)

/-- ITS FALSE NEIGHBOUR: 'it returns false'. Refute it at one input. -/
def fnExactBestWrong : ChangeSpec := { name := "fnExactBest", fn := fun _ => fun
  | [d] => { results := [.lit (.bool false)], args := [d] }
  | _ => none }
def FnExactBestWrongFalsely : Prop := fnExactBestRow.holds Try.pinned (OpenSpec.ofChange fnExactBestWrong)

/- THE SECOND FORM. 'bulk': how many values and letters a reading holds, each counted each time it is reached (what is shared counts as often as it is met; a slice's spare places count too). A statement '..UptoSaid' is the law's where the arguments, and the package variables that the reading takes, are together of bulk at most 1048576: NARROWER than '..Said'. Prove '..Said' where nothing that the law and all that it calls make is longer than what came in: it says more and counts as full. Else prove '..UptoSaid'. A law counts once. -/
mutual
def uptoBulk {H : Type} : DataW H → Nat
  | .lit (.string bytes) => bytes.length + 1
  | .lit _ => 1
  | .nil => 1
  | .ptr d => uptoBulk d + 1
  | .slice elems spare => uptoBulkAll elems + uptoBulkAll spare + 1
  | .agg parts => uptoBulkAll parts + 1
  | .iface _ d => uptoBulk d + 1
  | .map entries => uptoBulkEntries entries + 1
  | .held _ => 1
def uptoBulkAll {H : Type} : List (DataW H) → Nat
  | [] => 0
  | d :: r => uptoBulk d + uptoBulkAll r
def uptoBulkEntries {H : Type} : List (Lit × DataW H) → Nat
  | [] => 0
  | x :: r => uptoBulkEntry x + uptoBulkEntries r
def uptoBulkEntry {H : Type} : Lit × DataW H → Nat
  | (.string bytes, d) => bytes.length + uptoBulk d + 1
  | (_, d) => uptoBulk d + 1
 end
def uptoSmall : (H : Type) → List (DataW H) → Bool := fun _ ds => decide (uptoBulkAll ds ≤ 1048576)
def OpenSpec.upto (s : _root_.Go.ChangeSpec) : _root_.Go.OpenSpec := { _root_.Go.OpenSpec.ofChange s with cond := some uptoSmall }

/-- 'laws.FnCompare', WHERE WHAT IT READS IS OF BULK AT MOST 1048576: true; the input reads as it did. -/
def fnCompareUptoRow : OpenClaim := { program := "ytbcpfciegamaeaa", sum := "567cb327b86bf946c3040f8db8c551b5b5bc86123ec8fae8d92232e6fb30b17c", func := "loop.example/g00687/laws.FnCompare", spec := "fnCompare", apart := false, narrowed := true }
def FnCompareUptoSaid : Prop := fnCompareUptoRow.holds Try.pinned (OpenSpec.upto fnCompareSpec)

/-- 'laws.FnBest', WHERE WHAT IT READS IS OF BULK AT MOST 1048576: true; the input reads as it did. -/
def fnBestUptoRow : OpenClaim := { program := "ytbcpfciegamaeaa", sum := "567cb327b86bf946c3040f8db8c551b5b5bc86123ec8fae8d92232e6fb30b17c", func := "loop.example/g00687/laws.FnBest", spec := "fnBest", unfollowed := true, recurses := true, apart := false, narrowed := true }
def FnBestUptoSaid : Prop := fnBestUptoRow.holds Try.pinned (OpenSpec.upto fnBestSpec)

/-- 'laws.FnExactId', WHERE WHAT IT READS IS OF BULK AT MOST 1048576: true; the input reads as it did. -/
def fnExactIdUptoRow : OpenClaim := { program := "ytbcpfciegamaeaa", sum := "567cb327b86bf946c3040f8db8c551b5b5bc86123ec8fae8d92232e6fb30b17c", func := "loop.example/g00687/laws.FnExactId", spec := "fnExactId", apart := false, narrowed := true }
def FnExactIdUptoSaid : Prop := fnExactIdUptoRow.holds Try.pinned (OpenSpec.upto fnExactIdSpec)

/-- 'laws.FnExactVectorOk', WHERE WHAT IT READS IS OF BULK AT MOST 1048576: true; the input reads as it did. -/
def fnExactVectorOkUptoRow : OpenClaim := { program := "ytbcpfciegamaeaa", sum := "567cb327b86bf946c3040f8db8c551b5b5bc86123ec8fae8d92232e6fb30b17c", func := "loop.example/g00687/laws.FnExactVectorOk", spec := "fnExactVectorOk", apart := false, narrowed := true }
def FnExactVectorOkUptoSaid : Prop := fnExactVectorOkUptoRow.holds Try.pinned (OpenSpec.upto fnExactVectorOkSpec)

/-- 'laws.FnExactCompareVector', WHERE WHAT IT READS IS OF BULK AT MOST 1048576: true; the input reads as it did. -/
def fnExactCompareVectorUptoRow : OpenClaim := { program := "ytbcpfciegamaeaa", sum := "567cb327b86bf946c3040f8db8c551b5b5bc86123ec8fae8d92232e6fb30b17c", func := "loop.example/g00687/laws.FnExactCompareVector", spec := "fnExactCompareVector", apart := false, narrowed := true }
def FnExactCompareVectorUptoSaid : Prop := fnExactCompareVectorUptoRow.holds Try.pinned (OpenSpec.upto fnExactCompareVectorSpec)

/-- 'laws.FnExactThrough', WHERE WHAT IT READS IS OF BULK AT MOST 1048576: true; the input reads as it did. -/
def fnExactThroughUptoRow : OpenClaim := { program := "ytbcpfciegamaeaa", sum := "567cb327b86bf946c3040f8db8c551b5b5bc86123ec8fae8d92232e6fb30b17c", func := "loop.example/g00687/laws.FnExactThrough", spec := "fnExactThrough", apart := false, narrowed := true }
def FnExactThroughUptoSaid : Prop := fnExactThroughUptoRow.holds Try.pinned (OpenSpec.upto fnExactThroughSpec)

/-- 'laws.FnExactBest', WHERE WHAT IT READS IS OF BULK AT MOST 1048576: true; the input reads as it did. -/
def fnExactBestUptoRow : OpenClaim := { program := "ytbcpfciegamaeaa", sum := "567cb327b86bf946c3040f8db8c551b5b5bc86123ec8fae8d92232e6fb30b17c", func := "loop.example/g00687/laws.FnExactBest", spec := "fnExactBest", unfollowed := true, recurses := true, apart := false, narrowed := true }
def FnExactBestUptoSaid : Prop := fnExactBestUptoRow.holds Try.pinned (OpenSpec.upto fnExactBestSpec)

end Rows
end Go.Proofs.Ytbcpfciegamaeaa
