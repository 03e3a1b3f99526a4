/-
  No cell of these rows narrows 'for every input' (looked for: loops, veiled, ifaces, maps, wideKeys, modest, calm, conditions, laid).
  DERIVED. THE GIVEN ROWS OF THIS SEAT. 6 by the template 'for every input the law returns true; each argument reads behind the call as it read before'; 0 by the template 'total and deterministic' (their statements: YtgnckbcpnailbaaTotals.lean).
  GIVEN WITH THE SEED: the statements are not yours to turn. If you find one false, say at which input.
  Laid BY PROGRAM, IN A SANDBOX (cutbox-rows.mjs): the forced cells as the released guide's own fill.sh prints them over the translation 76fa1483ec28ebe2… (all of the seat's roots in one cut). By AI agents, Wed Nov 11 2026. No macro, syntax, notation, axiom, sorry.
-/
import Derived.Test.YtgnckbcpnailbaaChecked
import GoSem.Claim
import GoSem.ClaimJoined
import GoSem.ClaimMapViews
import Derived.JoinedTies
import Derived.KernelRfl
namespace Go.Proofs.Ytgnckbcpnailbaa
/- THE CELL 'sum', in the pinned program and in every row, IS THE sha256 OF THE DUMP (.gsa) THAT YtgnckbcpnailbaaProg.lean LOADS. Nothing in Lean hashes anything: it is a label: what it is worth is what the hold of that sum in a sandbox is worth. -/
noncomputable def Try.pinned : Pinned := { name := "ytgnckbcpnailbaa", sum := "76fa1483ec28ebe2029b0e3eda33b3eab54b162e4bd34ce2bf9d6a3cf65e1c80", checked := Try.checked }
namespace Rows
def none {H : Type} : Left H := { results := [], args := [] }

/-- 'laws.FnIgmp': WHATEVER THE INPUT: true; the input reads as it did. -/
def fnIgmpSpec : ChangeSpec := { name := "fnIgmp", fn := fun _ => fun
  | [d] => { results := [.lit (.bool true)], args := [d] }
  | _ => none }
def fnIgmpRow : OpenClaim := { program := "ytgnckbcpnailbaa", sum := "76fa1483ec28ebe2029b0e3eda33b3eab54b162e4bd34ce2bf9d6a3cf65e1c80", func := "loop.example/g00687/laws.FnIgmp", spec := "fnIgmp", unfollowed := true, recurses := true, apart := false }
def FnIgmpSaid : Prop := fnIgmpRow.holds Try.pinned (OpenSpec.ofChange fnIgmpSpec)

/-- ITS FALSE NEIGHBOUR: 'it returns false'. Refute it at one input. -/
def fnIgmpWrong : ChangeSpec := { name := "fnIgmp", fn := fun _ => fun
  | [d] => { results := [.lit (.bool false)], args := [d] }
  | _ => none }
def FnIgmpWrongFalsely : Prop := fnIgmpRow.holds Try.pinned (OpenSpec.ofChange fnIgmpWrong)

/-- 'laws.FnSum16': WHATEVER THE INPUT: true; the input reads as it did. -/
def fnSum16Spec : ChangeSpec := { name := "fnSum16", fn := fun _ => fun
  | [d] => { results := [.lit (.bool true)], args := [d] }
  | _ => none }
def fnSum16Row : OpenClaim := { program := "ytgnckbcpnailbaa", sum := "76fa1483ec28ebe2029b0e3eda33b3eab54b162e4bd34ce2bf9d6a3cf65e1c80", func := "loop.example/g00687/laws.FnSum16", spec := "fnSum16", apart := false }
def FnSum16Said : Prop := fnSum16Row.holds Try.pinned (OpenSpec.ofChange fnSum16Spec)

/-- ITS FALSE NEIGHBOUR: 'it returns false'. Refute it at one input. -/
def fnSum16Wrong : ChangeSpec := { name := "fnSum16", fn := fun _ => fun
  | [d] => { results := [.lit (.bool false)], args := [d] }
  | _ => none }
def FnSum16WrongFalsely : Prop := fnSum16Row.holds Try.pinned (OpenSpec.ofChange fnSum16Wrong)

/-- 'laws.FnExactIgmpOk': WHATEVER THE INPUT: true; the input reads as it did. -/
def fnExactIgmpOkSpec : ChangeSpec := { name := "fnExactIgmpOk", fn := fun _ => fun
  | [d] => { results := [.lit (.bool true)], args := [d] }
  | _ => none }
def fnExactIgmpOkRow : OpenClaim := { program := "ytgnckbcpnailbaa", sum := "76fa1483ec28ebe2029b0e3eda33b3eab54b162e4bd34ce2bf9d6a3cf65e1c80", func := "loop.example/g00687/laws.FnExactIgmpOk", spec := "fnExactIgmpOk", apart := false }
def FnExactIgmpOkSaid : Prop := fnExactIgmpOkRow.holds Try.pinned (OpenSpec.ofChange fnExactIgmpOkSpec)

/-- ITS FALSE NEIGHBOUR: 'it returns false'. Refute it at one input. -/
def fnExactIgmpOkWrong : ChangeSpec := { name := "fnExactIgmpOk", fn := fun _ => fun
  | [d] => { results := [.lit (.bool false)], args := [d] }
  | _ => none }
def FnExactIgmpOkWrongFalsely : Prop := fnExactIgmpOkRow.holds Try.pinned (OpenSpec.ofChange fnExactIgmpOkWrong)

/-- 'laws.FnExactSum16': WHATEVER THE INPUT: true; the input reads as it did. -/
def fnExactSum16Spec : ChangeSpec := { name := "fnExactSum16", fn := fun _ => fun
  | [d] => { results := [.lit (.bool true)], args := [d] }
  | _ => none }
def fnExactSum16Row : OpenClaim := { program := "ytgnckbcpnailbaa", sum := "76fa1483ec28ebe2029b0e3eda33b3eab54b162e4bd34ce2bf9d6a3cf65e1c80", func := "loop.example/g00687/laws.FnExactSum16", spec := "fnExactSum16", apart := false }
def FnExactSum16Said : Prop := fnExactSum16Row.holds Try.pinned (OpenSpec.ofChange fnExactSum16Spec)

/-- ITS FALSE NEIGHBOUR: 'it returns false'. Refute it at one input. -/
def fnExactSum16Wrong : ChangeSpec := { name := "fnExactSum16", fn := fun _ => fun
  | [d] => { results := [.lit (.bool false)], args := [d] }
  | _ => none }
def FnExactSum16WrongFalsely : Prop := fnExactSum16Row.holds Try.pinned (OpenSpec.ofChange fnExactSum16Wrong)

/-- 'laws.FnExactIgmpTo': WHATEVER THE INPUT: true; the input reads as it did. -/
def fnExactIgmpToSpec : ChangeSpec := { name := "fnExactIgmpTo", fn := fun _ => fun
  | [d] => { results := [.lit (.bool true)], args := [d] }
  | _ => none }
def fnExactIgmpToRow : OpenClaim := { program := "ytgnckbcpnailbaa", sum := "76fa1483ec28ebe2029b0e3eda33b3eab54b162e4bd34ce2bf9d6a3cf65e1c80", func := "loop.example/g00687/laws.FnExactIgmpTo", spec := "fnExactIgmpTo", unfollowed := true, recurses := true, apart := false }
def FnExactIgmpToSaid : Prop := fnExactIgmpToRow.holds Try.pinned (OpenSpec.ofChange fnExactIgmpToSpec)

/-- ITS FALSE NEIGHBOUR: 'it returns false'. Refute it at one input. -/
def fnExactIgmpToWrong : ChangeSpec := { name := "fnExactIgmpTo", fn := fun _ => fun
  | [d] => { results := [.lit (.bool false)], args := [d] }
  | _ => none }
def FnExactIgmpToWrongFalsely : Prop := fnExactIgmpToRow.holds Try.pinned (OpenSpec.ofChange fnExactIgmpToWrong)

/-- 'laws.FnExactPutIgmp': WHATEVER THE INPUT: true; the input reads as it did. -/
def fnExactPutIgmpSpec : ChangeSpec := { name := "fnExactPutIgmp", fn := fun _ => fun
  | [d] => { results := [.lit (.bool true)], args := [d] }
  | _ => none }
def fnExactPutIgmpRow : OpenClaim := { program := "ytgnckbcpnailbaa", sum := "76fa1483ec28ebe2029b0e3eda33b3eab54b162e4bd34ce2bf9d6a3cf65e1c80", func := "loop.example/g00687/laws.FnExactPutIgmp", spec := "fnExactPutIgmp", unfollowed := true, recurses := true, apart := false }
def FnExactPutIgmpSaid : Prop := fnExactPutIgmpRow.holds Try.pinned (OpenSpec.ofChange fnExactPutIgmpSpec)

/-- ITS FALSE NEIGHBOUR: 'it returns false'. Refute it at one input. -/
def fnExactPutIgmpWrong : ChangeSpec := { name := "fnExactPutIgmp", fn := fun _ => fun
  | [d] => { results := [.lit (.bool false)], args := [d] }
  | _ => none }
def FnExactPutIgmpWrongFalsely : Prop := fnExactPutIgmpRow.holds Try.pinned (OpenSpec.ofChange fnExactPutIgmpWrong)

/- THE SECOND FORM. 'bulk': how many values and letters a reading holds, each counted each time it is reached (what is shared counts as often as it is met; a slice's spare places count too). A statement '..UptoSaid' is the law's where the arguments, and the package variables that the reading takes, are together of bulk at most 1048576: NARROWER than '..Said'. Prove '..Said' where nothing that the law and all that it calls make is longer than what came in: it says more and counts as full. Else prove '..UptoSaid'. A law counts once. -/
mutual
def uptoBulk {H : Type} : DataW H → Nat
  | .lit (.string bytes) => bytes.length + 1
  | .lit _ => 1
  | .nil => 1
  | .ptr d => uptoBulk d + 1
  | .slice elems spare => uptoBulkAll elems + uptoBulkAll spare + 1
  | .agg parts => uptoBulkAll parts + 1
  | .iface _ d => uptoBulk d + 1
  | .map entries => uptoBulkEntries entries + 1
  | .held _ => 1
def uptoBulkAll {H : Type} : List (DataW H) → Nat
  | [] => 0
  | d :: r => uptoBulk d + uptoBulkAll r
def uptoBulkEntries {H : Type} : List (Lit × DataW H) → Nat
  | [] => 0
  | x :: r => uptoBulkEntry x + uptoBulkEntries r
def uptoBulkEntry {H : Type} : Lit × DataW H → Nat
  | (.string bytes, d) => bytes.length + uptoBulk d + 1
  | (_, d) => uptoBulk d + 1
 end
def uptoSmall : (H : Type) → List (DataW H) → Bool := fun _ ds => decide (uptoBulkAll ds ≤ 1048576)
def OpenSpec.upto (s : _root_.Go.ChangeSpec) : _root_.Go.OpenSpec := { _root_.Go.OpenSpec.ofChange s with cond := some uptoSmall }

/-- 'laws.FnIgmp', WHERE WHAT IT READS IS OF BULK AT MOST 1048576: true; the input reads as it did. -/
def fnIgmpUptoRow : OpenClaim := { program := "ytgnckbcpnailbaa", sum := "76fa1483ec28ebe2029b0e3eda33b3eab54b162e4bd34ce2bf9d6a3cf65e1c80", func := "loop.example/g00687/laws.FnIgmp", spec := "fnIgmp", unfollowed := true, recurses := true, apart := false, narrowed := true }
def FnIgmpUptoSaid : Prop := fnIgmpUptoRow.holds Try.pinned (OpenSpec.upto fnIgmpSpec)

/-- 'laws.FnSum16', WHERE WHAT IT READS IS OF BULK AT MOST 1048576: true; the input reads as it did. -/
def fnSum16UptoRow : OpenClaim := { program := "ytgnckbcpnailbaa", sum := "76fa1483ec28ebe2029b0e3eda33b3eab54b162e4bd34ce2bf9d6a3cf65e1c80", func := "loop.example/g00687/laws.FnSum16", spec := "fnSum16", apart := false, narrowed := true }
def FnSum16UptoSaid : Prop := fnSum16UptoRow.holds Try.pinned (OpenSpec.upto fnSum16Spec)

/-- 'laws.FnExactIgmpOk', WHERE WHAT IT READS IS OF BULK AT MOST 1048576: true; the input reads as it did. -/
def fnExactIgmpOkUptoRow : OpenClaim := { program := "ytgnckbcpnailbaa", sum := "76fa1483ec28ebe2029b0e3eda33b3eab54b162e4bd34ce2bf9d6a3cf65e1c80", func := "loop.example/g00687/laws.FnExactIgmpOk", spec := "fnExactIgmpOk", apart := false, narrowed := true }
def FnExactIgmpOkUptoSaid : Prop := fnExactIgmpOkUptoRow.holds Try.pinned (OpenSpec.upto fnExactIgmpOkSpec)

/-- 'laws.FnExactSum16', WHERE WHAT IT READS IS OF BULK AT MOST 1048576: true; the input reads as it did. -/
def fnExactSum16UptoRow : OpenClaim := { program := "ytgnckbcpnailbaa", sum := "76fa1483ec28ebe2029b0e3eda33b3eab54b162e4bd34ce2bf9d6a3cf65e1c80", func := "loop.example/g00687/laws.FnExactSum16", spec := "fnExactSum16", apart := false, narrowed := true }
def FnExactSum16UptoSaid : Prop := fnExactSum16UptoRow.holds Try.pinned (OpenSpec.upto fnExactSum16Spec)

/-- 'laws.FnExactIgmpTo', WHERE WHAT IT READS IS OF BULK AT MOST 1048576: true; the input reads as it did. -/
def fnExactIgmpToUptoRow : OpenClaim := { program := "ytgnckbcpnailbaa", sum := "76fa1483ec28ebe2029b0e3eda33b3eab54b162e4bd34ce2bf9d6a3cf65e1c80", func := "loop.example/g00687/laws.FnExactIgmpTo", spec := "fnExactIgmpTo", unfollowed := true, recurses := true, apart := false, narrowed := true }
def FnExactIgmpToUptoSaid : Prop := fnExactIgmpToUptoRow.holds Try.pinned (OpenSpec.upto fnExactIgmpToSpec)

/-- 'laws.FnExactPutIgmp', WHERE WHAT IT READS IS OF BULK AT MOST 1048576: true; the input reads as it did. -/
def fnExactPutIgmpUptoRow : OpenClaim := { program := "ytgnckbcpnailbaa", sum := "76fa1483ec28ebe2029b0e3eda33b3eab54b162e4bd34ce2bf9d6a3cf65e1c80", func := "loop.example/g00687/laws.FnExactPutIgmp", spec := "fnExactPutIgmp", unfollowed := true, recurses := true, apart := false, narrowed := true }
def FnExactPutIgmpUptoSaid : Prop := fnExactPutIgmpUptoRow.holds Try.pinned (OpenSpec.upto fnExactPutIgmpSpec)

end Rows
end Go.Proofs.Ytgnckbcpnailbaa
