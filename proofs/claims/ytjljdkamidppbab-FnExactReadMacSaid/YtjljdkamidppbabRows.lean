/-
  No cell of these rows narrows 'for every input' (looked for: loops, veiled, ifaces, maps, wideKeys, modest, calm, conditions, laid).
  DERIVED. THE GIVEN ROWS OF THIS SEAT. 6 by the template 'for every input the law returns true; each argument reads behind the call as it read before'; 0 by the template 'total and deterministic' (their statements: YtjljdkamidppbabTotals.lean).
  GIVEN WITH THE SEED: the statements are not yours to turn. If you find one false, say at which input.
  Laid BY PROGRAM, IN A SANDBOX (cutbox-rows.mjs): the forced cells as the released guide's own fill.sh prints them over the translation ac2b1fd2c16cf070… (all of the seat's roots in one cut). By AI agents, Wed Nov 11 2026. No macro, syntax, notation, axiom, sorry.
-/
import Derived.Test.YtjljdkamidppbabChecked
import GoSem.Claim
import GoSem.ClaimJoined
import GoSem.ClaimMapViews
import Derived.JoinedTies
import Derived.KernelRfl
namespace Go.Proofs.Ytjljdkamidppbab
/- THE CELL 'sum', in the pinned program and in every row, IS THE sha256 OF THE DUMP (.gsa) THAT YtjljdkamidppbabProg.lean LOADS. Nothing in Lean hashes anything: it is a label: what it is worth is what the hold of that sum in a sandbox is worth. -/
noncomputable def Try.pinned : Pinned := { name := "ytjljdkamidppbab", sum := "ac2b1fd2c16cf070ecf0986f51d5eb3c8fa8bffe3f016b4f91beb505f3db8e87", checked := Try.checked }
namespace Rows
def none {H : Type} : Left H := { results := [], args := [] }

/-- 'laws.FnExactWords': WHATEVER THE INPUT: true; the input reads as it did. -/
def fnExactWordsSpec : ChangeSpec := { name := "fnExactWords", fn := fun _ => fun
  | [d] => { results := [.lit (.bool true)], args := [d] }
  | _ => none }
def fnExactWordsRow : OpenClaim := { program := "ytjljdkamidppbab", sum := "ac2b1fd2c16cf070ecf0986f51d5eb3c8fa8bffe3f016b4f91beb505f3db8e87", func := "loop.example/g00687/laws.FnExactWords", spec := "fnExactWords", unfollowed := true, recurses := true, apart := false }
def FnExactWordsSaid : Prop := fnExactWordsRow.holds Try.pinned (OpenSpec.ofChange fnExactWordsSpec)

/-- ITS FALSE NEIGHBOUR: 'it returns false'. Refute it at one input. -/
def fnExactWordsWrong : ChangeSpec := { name := "fnExactWords", fn := fun _ => fun
  | [d] => { results := [.lit (.bool false)], args := [d] }
  | _ => none }
def FnExactWordsWrongFalsely : Prop := fnExactWordsRow.holds Try.pinned (OpenSpec.ofChange fnExactWordsWrong)

/-- 'laws.FnExactMacOk': WHATEVER THE INPUT: true; the input reads as it did. -/
def fnExactMacOkSpec : ChangeSpec := { name := "fnExactMacOk", fn := fun _ => fun
  | [d] => { results := [.lit (.bool true)], args := [d] }
  | _ => none }
def fnExactMacOkRow : OpenClaim := { program := "ytjljdkamidppbab", sum := "ac2b1fd2c16cf070ecf0986f51d5eb3c8fa8bffe3f016b4f91beb505f3db8e87", func := "loop.example/g00687/laws.FnExactMacOk", spec := "fnExactMacOk", apart := false }
def FnExactMacOkSaid : Prop := fnExactMacOkRow.holds Try.pinned (OpenSpec.ofChange fnExactMacOkSpec)

/-- ITS FALSE NEIGHBOUR: 'it returns false'. Refute it at one input. -/
def fnExactMacOkWrong : ChangeSpec := { name := "fnExactMacOk", fn := fun _ => fun
  | [d] => { results := [.lit (.bool false)], args := [d] }
  | _ => none }
def FnExactMacOkWrongFalsely : Prop := fnExactMacOkRow.holds Try.pinned (OpenSpec.ofChange fnExactMacOkWrong)

/-- 'laws.FnExactMacText': WHATEVER THE INPUT: true; the input reads as it did. -/
def fnExactMacTextSpec : ChangeSpec := { name := "fnExactMacText", fn := fun _ => fun
  | [d] => { results := [.lit (.bool true)], args := [d] }
  | _ => none }
def fnExactMacTextRow : OpenClaim := { program := "ytjljdkamidppbab", sum := "ac2b1fd2c16cf070ecf0986f51d5eb3c8fa8bffe3f016b4f91beb505f3db8e87", func := "loop.example/g00687/laws.FnExactMacText", spec := "fnExactMacText", inPlace := ["internal/abi.NoEscape", "internal/bytealg.MakeNoZero"], unfollowed := true, recurses := true, apart := false }
def FnExactMacTextSaid : Prop := fnExactMacTextRow.holds Try.pinned (OpenSpec.ofChange fnExactMacTextSpec)

/-- ITS FALSE NEIGHBOUR: 'it returns false'. Refute it at one input. -/
def fnExactMacTextWrong : ChangeSpec := { name := "fnExactMacText", fn := fun _ => fun
  | [d] => { results := [.lit (.bool false)], args := [d] }
  | _ => none }
def FnExactMacTextWrongFalsely : Prop := fnExactMacTextRow.holds Try.pinned (OpenSpec.ofChange fnExactMacTextWrong)

/-- 'laws.FnExactReadMac': WHATEVER THE INPUT: true; the input reads as it did. -/
def fnExactReadMacSpec : ChangeSpec := { name := "fnExactReadMac", fn := fun _ => fun
  | [d] => { results := [.lit (.bool true)], args := [d] }
  | _ => none }
def fnExactReadMacRow : OpenClaim := { program := "ytjljdkamidppbab", sum := "ac2b1fd2c16cf070ecf0986f51d5eb3c8fa8bffe3f016b4f91beb505f3db8e87", func := "loop.example/g00687/laws.FnExactReadMac", spec := "fnExactReadMac", inPlace := ["internal/abi.NoEscape", "internal/bytealg.IndexByteString", "internal/bytealg.IndexString"], named := ["internal/bytealg.MaxLen"], apart := false }
def FnExactReadMacSaid : Prop := fnExactReadMacRow.holds Try.pinned (OpenSpec.ofChange fnExactReadMacSpec)

/-- ITS FALSE NEIGHBOUR: 'it returns false'. Refute it at one input. -/
def fnExactReadMacWrong : ChangeSpec := { name := "fnExactReadMac", fn := fun _ => fun
  | [d] => { results := [.lit (.bool false)], args := [d] }
  | _ => none }
def FnExactReadMacWrongFalsely : Prop := fnExactReadMacRow.holds Try.pinned (OpenSpec.ofChange fnExactReadMacWrong)

/-- 'laws.FnExactIsGroup': WHATEVER THE INPUT: true; the input reads as it did. -/
def fnExactIsGroupSpec : ChangeSpec := { name := "fnExactIsGroup", fn := fun _ => fun
  | [d] => { results := [.lit (.bool true)], args := [d] }
  | _ => none }
def fnExactIsGroupRow : OpenClaim := { program := "ytjljdkamidppbab", sum := "ac2b1fd2c16cf070ecf0986f51d5eb3c8fa8bffe3f016b4f91beb505f3db8e87", func := "loop.example/g00687/laws.FnExactIsGroup", spec := "fnExactIsGroup", apart := false }
def FnExactIsGroupSaid : Prop := fnExactIsGroupRow.holds Try.pinned (OpenSpec.ofChange fnExactIsGroupSpec)

/-- ITS FALSE NEIGHBOUR: 'it returns false'. Refute it at one input. -/
def fnExactIsGroupWrong : ChangeSpec := { name := "fnExactIsGroup", fn := fun _ => fun
  | [d] => { results := [.lit (.bool false)], args := [d] }
  | _ => none }
def FnExactIsGroupWrongFalsely : Prop := fnExactIsGroupRow.holds Try.pinned (OpenSpec.ofChange fnExactIsGroupWrong)

/-- 'laws.FnExactGroupOf': WHATEVER THE INPUT: true; the input reads as it did. -/
def fnExactGroupOfSpec : ChangeSpec := { name := "fnExactGroupOf", fn := fun _ => fun
  | [d] => { results := [.lit (.bool true)], args := [d] }
  | _ => none }
def fnExactGroupOfRow : OpenClaim := { program := "ytjljdkamidppbab", sum := "ac2b1fd2c16cf070ecf0986f51d5eb3c8fa8bffe3f016b4f91beb505f3db8e87", func := "loop.example/g00687/laws.FnExactGroupOf", spec := "fnExactGroupOf", apart := false }
def FnExactGroupOfSaid : Prop := fnExactGroupOfRow.holds Try.pinned (OpenSpec.ofChange fnExactGroupOfSpec)

/-- ITS FALSE NEIGHBOUR: 'it returns false'. Refute it at one input. -/
def fnExactGroupOfWrong : ChangeSpec := { name := "fnExactGroupOf", fn := fun _ => fun
  | [d] => { results := [.lit (.bool false)], args := [d] }
  | _ => none }
def FnExactGroupOfWrongFalsely : Prop := fnExactGroupOfRow.holds Try.pinned (OpenSpec.ofChange fnExactGroupOfWrong)

/- THE SECOND FORM. 'bulk': how many values and letters a reading holds, each counted each time it is reached (what is shared counts as often as it is met; a slice's spare places count too). A statement '..UptoSaid' is the law's where the arguments, and the package variables that the reading takes, are together of bulk at most 1048576: NARROWER than '..Said'. Prove '..Said' where nothing that the law and all that it calls make is longer than what came in: it says more and counts as full. Else prove '..UptoSaid'. A law counts once. -/
mutual
def uptoBulk {H : Type} : DataW H → Nat
  | .lit (.string bytes) => bytes.length + 1
  | .lit _ => 1
  | .nil => 1
  | .ptr d => uptoBulk d + 1
  | .slice elems spare => uptoBulkAll elems + uptoBulkAll spare + 1
  | .agg parts => uptoBulkAll parts + 1
  | .iface _ d => uptoBulk d + 1
  | .map entries => uptoBulkEntries entries + 1
  | .held _ => 1
def uptoBulkAll {H : Type} : List (DataW H) → Nat
  | [] => 0
  | d :: r => uptoBulk d + uptoBulkAll r
def uptoBulkEntries {H : Type} : List (Lit × DataW H) → Nat
  | [] => 0
  | x :: r => uptoBulkEntry x + uptoBulkEntries r
def uptoBulkEntry {H : Type} : Lit × DataW H → Nat
  | (.string bytes, d) => bytes.length + uptoBulk d + 1
  | (_, d) => uptoBulk d + 1
 end
def uptoSmall : (H : Type) → List (DataW H) → Bool := fun _ ds => decide (uptoBulkAll ds ≤ 1048576)
def OpenSpec.upto (s : _root_.Go.ChangeSpec) : _root_.Go.OpenSpec := { _root_.Go.OpenSpec.ofChange s with cond := some uptoSmall }

/-- 'laws.FnExactWords', WHERE WHAT IT READS IS OF BULK AT MOST 1048576: true; the input reads as it did. -/
def fnExactWordsUptoRow : OpenClaim := { program := "ytjljdkamidppbab", sum := "ac2b1fd2c16cf070ecf0986f51d5eb3c8fa8bffe3f016b4f91beb505f3db8e87", func := "loop.example/g00687/laws.FnExactWords", spec := "fnExactWords", unfollowed := true, recurses := true, apart := false, narrowed := true }
def FnExactWordsUptoSaid : Prop := fnExactWordsUptoRow.holds Try.pinned (OpenSpec.upto fnExactWordsSpec)

/-- 'laws.FnExactMacOk', WHERE WHAT IT READS IS OF BULK AT MOST 1048576: true; the input reads as it did. -/
def fnExactMacOkUptoRow : OpenClaim := { program := "ytjljdkamidppbab", sum := "ac2b1fd2c16cf070ecf0986f51d5eb3c8fa8bffe3f016b4f91beb505f3db8e87", func := "loop.example/g00687/laws.FnExactMacOk", spec := "fnExactMacOk", apart := false, narrowed := true }
def FnExactMacOkUptoSaid : Prop := fnExactMacOkUptoRow.holds Try.pinned (OpenSpec.upto fnExactMacOkSpec)

/-- 'laws.FnExactMacText', WHERE WHAT IT READS IS OF BULK AT MOST 1048576: true; the input reads as it did. -/
def fnExactMacTextUptoRow : OpenClaim := { program := "ytjljdkamidppbab", sum := "ac2b1fd2c16cf070ecf0986f51d5eb3c8fa8bffe3f016b4f91beb505f3db8e87", func := "loop.example/g00687/laws.FnExactMacText", spec := "fnExactMacText", inPlace := ["internal/abi.NoEscape", "internal/bytealg.MakeNoZero"], unfollowed := true, recurses := true, apart := false, narrowed := true }
def FnExactMacTextUptoSaid : Prop := fnExactMacTextUptoRow.holds Try.pinned (OpenSpec.upto fnExactMacTextSpec)

/-- 'laws.FnExactReadMac', WHERE WHAT IT READS IS OF BULK AT MOST 1048576: true; the input reads as it did. -/
def fnExactReadMacUptoRow : OpenClaim := { program := "ytjljdkamidppbab", sum := "ac2b1fd2c16cf070ecf0986f51d5eb3c8fa8bffe3f016b4f91beb505f3db8e87", func := "loop.example/g00687/laws.FnExactReadMac", spec := "fnExactReadMac", inPlace := ["internal/abi.NoEscape", "internal/bytealg.IndexByteString", "internal/bytealg.IndexString"], named := ["internal/bytealg.MaxLen"], apart := false, narrowed := true }
def FnExactReadMacUptoSaid : Prop := fnExactReadMacUptoRow.holds Try.pinned (OpenSpec.upto fnExactReadMacSpec)

/-- 'laws.FnExactIsGroup', WHERE WHAT IT READS IS OF BULK AT MOST 1048576: true; the input reads as it did. -/
def fnExactIsGroupUptoRow : OpenClaim := { program := "ytjljdkamidppbab", sum := "ac2b1fd2c16cf070ecf0986f51d5eb3c8fa8bffe3f016b4f91beb505f3db8e87", func := "loop.example/g00687/laws.FnExactIsGroup", spec := "fnExactIsGroup", apart := false, narrowed := true }
def FnExactIsGroupUptoSaid : Prop := fnExactIsGroupUptoRow.holds Try.pinned (OpenSpec.upto fnExactIsGroupSpec)

/-- 'laws.FnExactGroupOf', WHERE WHAT IT READS IS OF BULK AT MOST 1048576: true; the input reads as it did. -/
def fnExactGroupOfUptoRow : OpenClaim := { program := "ytjljdkamidppbab", sum := "ac2b1fd2c16cf070ecf0986f51d5eb3c8fa8bffe3f016b4f91beb505f3db8e87", func := "loop.example/g00687/laws.FnExactGroupOf", spec := "fnExactGroupOf", apart := false, narrowed := true }
def FnExactGroupOfUptoSaid : Prop := fnExactGroupOfUptoRow.holds Try.pinned (OpenSpec.upto fnExactGroupOfSpec)

end Rows
end Go.Proofs.Ytjljdkamidppbab
