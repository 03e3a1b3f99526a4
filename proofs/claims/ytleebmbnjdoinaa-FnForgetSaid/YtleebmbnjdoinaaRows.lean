/-
  No cell of these rows narrows 'for every input' (looked for: loops, veiled, ifaces, maps, wideKeys, modest, calm, conditions, laid).
  DERIVED. THE GIVEN ROWS OF THIS SEAT. 9 by the template 'for every input the law returns true; each argument reads behind the call as it read before'; 0 by the template 'total and deterministic' (their statements: YtleebmbnjdoinaaTotals.lean).
  GIVEN WITH THE SEED: the statements are not yours to turn. If you find one false, say at which input.
  Laid BY PROGRAM, IN A SANDBOX (cutbox-rows.mjs): the forced cells as the released guide's own fill.sh prints them over the translation c0219f8c5d8771bd… (all of the seat's roots in one cut). By AI agents, Wed Nov 11 2026. No macro, syntax, notation, axiom, sorry.
-/
import Derived.Test.YtleebmbnjdoinaaChecked
import GoSem.Claim
import GoSem.ClaimJoined
import GoSem.ClaimMapViews
import Derived.JoinedTies
import Derived.KernelRfl
namespace Go.Proofs.Ytleebmbnjdoinaa
/- THE CELL 'sum', in the pinned program and in every row, IS THE sha256 OF THE DUMP (.gsa) THAT YtleebmbnjdoinaaProg.lean LOADS. Nothing in Lean hashes anything: it is a label: what it is worth is what the hold of that sum in a sandbox is worth. -/
noncomputable def Try.pinned : Pinned := { name := "ytleebmbnjdoinaa", sum := "c0219f8c5d8771bd62457315e90f0e5f47dbef140a1790c8a9a3960c9119b35f", checked := Try.checked }
namespace Rows
def none {H : Type} : Left H := { results := [], args := [] }

/-- 'laws.FnLearn': WHATEVER THE INPUT: true; the input reads as it did. -/
def fnLearnSpec : ChangeSpec := { name := "fnLearn", fn := fun _ => fun
  | [d] => { results := [.lit (.bool true)], args := [d] }
  | _ => none }
def fnLearnRow : OpenClaim := { program := "ytleebmbnjdoinaa", sum := "c0219f8c5d8771bd62457315e90f0e5f47dbef140a1790c8a9a3960c9119b35f", func := "loop.example/g00687/laws.FnLearn", spec := "fnLearn", unfollowed := true, recurses := true, plainKeys := false, apart := false }
def FnLearnSaid : Prop := fnLearnRow.holds Try.pinned (OpenSpec.ofChange fnLearnSpec)

/-- ITS FALSE NEIGHBOUR: 'it returns false'. Refute it at one input. -/
def fnLearnWrong : ChangeSpec := { name := "fnLearn", fn := fun _ => fun
  | [d] => { results := [.lit (.bool false)], args := [d] }
  | _ => none }
def FnLearnWrongFalsely : Prop := fnLearnRow.holds Try.pinned (OpenSpec.ofChange fnLearnWrong)

/-- 'laws.FnFix': WHATEVER THE INPUT: true; the input reads as it did. -/
def fnFixSpec : ChangeSpec := { name := "fnFix", fn := fun _ => fun
  | [d] => { results := [.lit (.bool true)], args := [d] }
  | _ => none }
def fnFixRow : OpenClaim := { program := "ytleebmbnjdoinaa", sum := "c0219f8c5d8771bd62457315e90f0e5f47dbef140a1790c8a9a3960c9119b35f", func := "loop.example/g00687/laws.FnFix", spec := "fnFix", unfollowed := true, recurses := true, plainKeys := false, apart := false }
def FnFixSaid : Prop := fnFixRow.holds Try.pinned (OpenSpec.ofChange fnFixSpec)

/-- ITS FALSE NEIGHBOUR: 'it returns false'. Refute it at one input. -/
def fnFixWrong : ChangeSpec := { name := "fnFix", fn := fun _ => fun
  | [d] => { results := [.lit (.bool false)], args := [d] }
  | _ => none }
def FnFixWrongFalsely : Prop := fnFixRow.holds Try.pinned (OpenSpec.ofChange fnFixWrong)

/-- 'laws.FnForget': WHATEVER THE INPUT: true; the input reads as it did. -/
def fnForgetSpec : ChangeSpec := { name := "fnForget", fn := fun _ => fun
  | [d] => { results := [.lit (.bool true)], args := [d] }
  | _ => none }
def fnForgetRow : OpenClaim := { program := "ytleebmbnjdoinaa", sum := "c0219f8c5d8771bd62457315e90f0e5f47dbef140a1790c8a9a3960c9119b35f", func := "loop.example/g00687/laws.FnForget", spec := "fnForget", unfollowed := true, recurses := true, plainKeys := false, apart := false }
def FnForgetSaid : Prop := fnForgetRow.holds Try.pinned (OpenSpec.ofChange fnForgetSpec)

/-- ITS FALSE NEIGHBOUR: 'it returns false'. Refute it at one input. -/
def fnForgetWrong : ChangeSpec := { name := "fnForget", fn := fun _ => fun
  | [d] => { results := [.lit (.bool false)], args := [d] }
  | _ => none }
def FnForgetWrongFalsely : Prop := fnForgetRow.holds Try.pinned (OpenSpec.ofChange fnForgetWrong)

/-- 'laws.FnExactTableOk': WHATEVER THE INPUT: true; the input reads as it did. -/
def fnExactTableOkSpec : ChangeSpec := { name := "fnExactTableOk", fn := fun _ => fun
  | [d] => { results := [.lit (.bool true)], args := [d] }
  | _ => none }
def fnExactTableOkRow : OpenClaim := { program := "ytleebmbnjdoinaa", sum := "c0219f8c5d8771bd62457315e90f0e5f47dbef140a1790c8a9a3960c9119b35f", func := "loop.example/g00687/laws.FnExactTableOk", spec := "fnExactTableOk", plainKeys := false, apart := false }
def FnExactTableOkSaid : Prop := fnExactTableOkRow.holds Try.pinned (OpenSpec.ofChange fnExactTableOkSpec)

/-- ITS FALSE NEIGHBOUR: 'it returns false'. Refute it at one input. -/
def fnExactTableOkWrong : ChangeSpec := { name := "fnExactTableOk", fn := fun _ => fun
  | [d] => { results := [.lit (.bool false)], args := [d] }
  | _ => none }
def FnExactTableOkWrongFalsely : Prop := fnExactTableOkRow.holds Try.pinned (OpenSpec.ofChange fnExactTableOkWrong)

/-- 'laws.FnExactLook': WHATEVER THE INPUT: true; the input reads as it did. -/
def fnExactLookSpec : ChangeSpec := { name := "fnExactLook", fn := fun _ => fun
  | [d1, d2, d3] => { results := [.lit (.bool true)], args := [d1, d2, d3] }
  | _ => none }
def fnExactLookRow : OpenClaim := { program := "ytleebmbnjdoinaa", sum := "c0219f8c5d8771bd62457315e90f0e5f47dbef140a1790c8a9a3960c9119b35f", func := "loop.example/g00687/laws.FnExactLook", spec := "fnExactLook", plainKeys := false, apart := false }
def FnExactLookSaid : Prop := fnExactLookRow.holds Try.pinned (OpenSpec.ofChange fnExactLookSpec)

/-- ITS FALSE NEIGHBOUR: 'it returns false'. Refute it at one input. -/
def fnExactLookWrong : ChangeSpec := { name := "fnExactLook", fn := fun _ => fun
  | [d1, d2, d3] => { results := [.lit (.bool false)], args := [d1, d2, d3] }
  | _ => none }
def FnExactLookWrongFalsely : Prop := fnExactLookRow.holds Try.pinned (OpenSpec.ofChange fnExactLookWrong)

/-- 'laws.FnExactLearn': WHATEVER THE INPUT: true; the input reads as it did. -/
def fnExactLearnSpec : ChangeSpec := { name := "fnExactLearn", fn := fun _ => fun
  | [d1, d2, d3, d4, d5] => { results := [.lit (.bool true)], args := [d1, d2, d3, d4, d5] }
  | _ => none }
def fnExactLearnRow : OpenClaim := { program := "ytleebmbnjdoinaa", sum := "c0219f8c5d8771bd62457315e90f0e5f47dbef140a1790c8a9a3960c9119b35f", func := "loop.example/g00687/laws.FnExactLearn", spec := "fnExactLearn", unfollowed := true, recurses := true, plainKeys := false, apart := false }
def FnExactLearnSaid : Prop := fnExactLearnRow.holds Try.pinned (OpenSpec.ofChange fnExactLearnSpec)

/-- ITS FALSE NEIGHBOUR: 'it returns false'. Refute it at one input. -/
def fnExactLearnWrong : ChangeSpec := { name := "fnExactLearn", fn := fun _ => fun
  | [d1, d2, d3, d4, d5] => { results := [.lit (.bool false)], args := [d1, d2, d3, d4, d5] }
  | _ => none }
def FnExactLearnWrongFalsely : Prop := fnExactLearnRow.holds Try.pinned (OpenSpec.ofChange fnExactLearnWrong)

/-- 'laws.FnExactFix': WHATEVER THE INPUT: true; the input reads as it did. -/
def fnExactFixSpec : ChangeSpec := { name := "fnExactFix", fn := fun _ => fun
  | [d1, d2, d3, d4] => { results := [.lit (.bool true)], args := [d1, d2, d3, d4] }
  | _ => none }
def fnExactFixRow : OpenClaim := { program := "ytleebmbnjdoinaa", sum := "c0219f8c5d8771bd62457315e90f0e5f47dbef140a1790c8a9a3960c9119b35f", func := "loop.example/g00687/laws.FnExactFix", spec := "fnExactFix", unfollowed := true, recurses := true, plainKeys := false, apart := false }
def FnExactFixSaid : Prop := fnExactFixRow.holds Try.pinned (OpenSpec.ofChange fnExactFixSpec)

/-- ITS FALSE NEIGHBOUR: 'it returns false'. Refute it at one input. -/
def fnExactFixWrong : ChangeSpec := { name := "fnExactFix", fn := fun _ => fun
  | [d1, d2, d3, d4] => { results := [.lit (.bool false)], args := [d1, d2, d3, d4] }
  | _ => none }
def FnExactFixWrongFalsely : Prop := fnExactFixRow.holds Try.pinned (OpenSpec.ofChange fnExactFixWrong)

/-- 'laws.FnExactAgeOut': WHATEVER THE INPUT: true; the input reads as it did. -/
def fnExactAgeOutSpec : ChangeSpec := { name := "fnExactAgeOut", fn := fun _ => fun
  | [d1, d2, d3] => { results := [.lit (.bool true)], args := [d1, d2, d3] }
  | _ => none }
def fnExactAgeOutRow : OpenClaim := { program := "ytleebmbnjdoinaa", sum := "c0219f8c5d8771bd62457315e90f0e5f47dbef140a1790c8a9a3960c9119b35f", func := "loop.example/g00687/laws.FnExactAgeOut", spec := "fnExactAgeOut", unfollowed := true, recurses := true, plainKeys := false, apart := false }
def FnExactAgeOutSaid : Prop := fnExactAgeOutRow.holds Try.pinned (OpenSpec.ofChange fnExactAgeOutSpec)

/-- ITS FALSE NEIGHBOUR: 'it returns false'. Refute it at one input. -/
def fnExactAgeOutWrong : ChangeSpec := { name := "fnExactAgeOut", fn := fun _ => fun
  | [d1, d2, d3] => { results := [.lit (.bool false)], args := [d1, d2, d3] }
  | _ => none }
def FnExactAgeOutWrongFalsely : Prop := fnExactAgeOutRow.holds Try.pinned (OpenSpec.ofChange fnExactAgeOutWrong)

/-- 'laws.FnExactFlush': WHATEVER THE INPUT: true; the input reads as it did. -/
def fnExactFlushSpec : ChangeSpec := { name := "fnExactFlush", fn := fun _ => fun
  | [d1, d2] => { results := [.lit (.bool true)], args := [d1, d2] }
  | _ => none }
def fnExactFlushRow : OpenClaim := { program := "ytleebmbnjdoinaa", sum := "c0219f8c5d8771bd62457315e90f0e5f47dbef140a1790c8a9a3960c9119b35f", func := "loop.example/g00687/laws.FnExactFlush", spec := "fnExactFlush", unfollowed := true, recurses := true, plainKeys := false, apart := false }
def FnExactFlushSaid : Prop := fnExactFlushRow.holds Try.pinned (OpenSpec.ofChange fnExactFlushSpec)

/-- ITS FALSE NEIGHBOUR: 'it returns false'. Refute it at one input. -/
def fnExactFlushWrong : ChangeSpec := { name := "fnExactFlush", fn := fun _ => fun
  | [d1, d2] => { results := [.lit (.bool false)], args := [d1, d2] }
  | _ => none }
def FnExactFlushWrongFalsely : Prop := fnExactFlushRow.holds Try.pinned (OpenSpec.ofChange fnExactFlushWrong)

/- THE SECOND FORM. 'bulk': how many values and letters a reading holds, each counted each time it is reached (what is shared counts as often as it is met; a slice's spare places count too). A statement '..UptoSaid' is the law's where the arguments, and the package variables that the reading takes, are together of bulk at most 1048576: NARROWER than '..Said'. Prove '..Said' where nothing that the law and all that it calls make is longer than what came in: it says more and counts as full. Else prove '..UptoSaid'. A law counts once. -/
mutual
def uptoBulk {H : Type} : DataW H → Nat
  | .lit (.string bytes) => bytes.length + 1
  | .lit _ => 1
  | .nil => 1
  | .ptr d => uptoBulk d + 1
  | .slice elems spare => uptoBulkAll elems + uptoBulkAll spare + 1
  | .agg parts => uptoBulkAll parts + 1
  | .iface _ d => uptoBulk d + 1
  | .map entries => uptoBulkEntries entries + 1
  | .held _ => 1
def uptoBulkAll {H : Type} : List (DataW H) → Nat
  | [] => 0
  | d :: r => uptoBulk d + uptoBulkAll r
def uptoBulkEntries {H : Type} : List (Lit × DataW H) → Nat
  | [] => 0
  | x :: r => uptoBulkEntry x + uptoBulkEntries r
def uptoBulkEntry {H : Type} : Lit × DataW H → Nat
  | (.string bytes, d) => bytes.length + uptoBulk d + 1
  | (_, d) => uptoBulk d + 1
 end
def uptoSmall : (H : Type) → List (DataW H) → Bool := fun _ ds => decide (uptoBulkAll ds ≤ 1048576)
def OpenSpec.upto (s : _root_.Go.ChangeSpec) : _root_.Go.OpenSpec := { _root_.Go.OpenSpec.ofChange s with cond := some uptoSmall }

/-- 'laws.FnLearn', WHERE WHAT IT READS IS OF BULK AT MOST 1048576: true; the input reads as it did. -/
def fnLearnUptoRow : OpenClaim := { program := "ytleebmbnjdoinaa", sum := "c0219f8c5d8771bd62457315e90f0e5f47dbef140a1790c8a9a3960c9119b35f", func := "loop.example/g00687/laws.FnLearn", spec := "fnLearn", unfollowed := true, recurses := true, plainKeys := false, apart := false, narrowed := true }
def FnLearnUptoSaid : Prop := fnLearnUptoRow.holds Try.pinned (OpenSpec.upto fnLearnSpec)

/-- 'laws.FnFix', WHERE WHAT IT READS IS OF BULK AT MOST 1048576: true; the input reads as it did. -/
def fnFixUptoRow : OpenClaim := { program := "ytleebmbnjdoinaa", sum := "c0219f8c5d8771bd62457315e90f0e5f47dbef140a1790c8a9a3960c9119b35f", func := "loop.example/g00687/laws.FnFix", spec := "fnFix", unfollowed := true, recurses := true, plainKeys := false, apart := false, narrowed := true }
def FnFixUptoSaid : Prop := fnFixUptoRow.holds Try.pinned (OpenSpec.upto fnFixSpec)

/-- 'laws.FnForget', WHERE WHAT IT READS IS OF BULK AT MOST 1048576: true; the input reads as it did. -/
def fnForgetUptoRow : OpenClaim := { program := "ytleebmbnjdoinaa", sum := "c0219f8c5d8771bd62457315e90f0e5f47dbef140a1790c8a9a3960c9119b35f", func := "loop.example/g00687/laws.FnForget", spec := "fnForget", unfollowed := true, recurses := true, plainKeys := false, apart := false, narrowed := true }
def FnForgetUptoSaid : Prop := fnForgetUptoRow.holds Try.pinned (OpenSpec.upto fnForgetSpec)

/-- 'laws.FnExactTableOk', WHERE WHAT IT READS IS OF BULK AT MOST 1048576: true; the input reads as it did. -/
def fnExactTableOkUptoRow : OpenClaim := { program := "ytleebmbnjdoinaa", sum := "c0219f8c5d8771bd62457315e90f0e5f47dbef140a1790c8a9a3960c9119b35f", func := "loop.example/g00687/laws.FnExactTableOk", spec := "fnExactTableOk", plainKeys := false, apart := false, narrowed := true }
def FnExactTableOkUptoSaid : Prop := fnExactTableOkUptoRow.holds Try.pinned (OpenSpec.upto fnExactTableOkSpec)

/-- 'laws.FnExactLook', WHERE WHAT IT READS IS OF BULK AT MOST 1048576: true; the input reads as it did. -/
def fnExactLookUptoRow : OpenClaim := { program := "ytleebmbnjdoinaa", sum := "c0219f8c5d8771bd62457315e90f0e5f47dbef140a1790c8a9a3960c9119b35f", func := "loop.example/g00687/laws.FnExactLook", spec := "fnExactLook", plainKeys := false, apart := false, narrowed := true }
def FnExactLookUptoSaid : Prop := fnExactLookUptoRow.holds Try.pinned (OpenSpec.upto fnExactLookSpec)

/-- 'laws.FnExactLearn', WHERE WHAT IT READS IS OF BULK AT MOST 1048576: true; the input reads as it did. -/
def fnExactLearnUptoRow : OpenClaim := { program := "ytleebmbnjdoinaa", sum := "c0219f8c5d8771bd62457315e90f0e5f47dbef140a1790c8a9a3960c9119b35f", func := "loop.example/g00687/laws.FnExactLearn", spec := "fnExactLearn", unfollowed := true, recurses := true, plainKeys := false, apart := false, narrowed := true }
def FnExactLearnUptoSaid : Prop := fnExactLearnUptoRow.holds Try.pinned (OpenSpec.upto fnExactLearnSpec)

/-- 'laws.FnExactFix', WHERE WHAT IT READS IS OF BULK AT MOST 1048576: true; the input reads as it did. -/
def fnExactFixUptoRow : OpenClaim := { program := "ytleebmbnjdoinaa", sum := "c0219f8c5d8771bd62457315e90f0e5f47dbef140a1790c8a9a3960c9119b35f", func := "loop.example/g00687/laws.FnExactFix", spec := "fnExactFix", unfollowed := true, recurses := true, plainKeys := false, apart := false, narrowed := true }
def FnExactFixUptoSaid : Prop := fnExactFixUptoRow.holds Try.pinned (OpenSpec.upto fnExactFixSpec)

/-- 'laws.FnExactAgeOut', WHERE WHAT IT READS IS OF BULK AT MOST 1048576: true; the input reads as it did. -/
def fnExactAgeOutUptoRow : OpenClaim := { program := "ytleebmbnjdoinaa", sum := "c0219f8c5d8771bd62457315e90f0e5f47dbef140a1790c8a9a3960c9119b35f", func := "loop.example/g00687/laws.FnExactAgeOut", spec := "fnExactAgeOut", unfollowed := true, recurses := true, plainKeys := false, apart := false, narrowed := true }
def FnExactAgeOutUptoSaid : Prop := fnExactAgeOutUptoRow.holds Try.pinned (OpenSpec.upto fnExactAgeOutSpec)

/-- 'laws.FnExactFlush', WHERE WHAT IT READS IS OF BULK AT MOST 1048576: true; the input reads as it did. -/
def fnExactFlushUptoRow : OpenClaim := { program := "ytleebmbnjdoinaa", sum := "c0219f8c5d8771bd62457315e90f0e5f47dbef140a1790c8a9a3960c9119b35f", func := "loop.example/g00687/laws.FnExactFlush", spec := "fnExactFlush", unfollowed := true, recurses := true, plainKeys := false, apart := false, narrowed := true }
def FnExactFlushUptoSaid : Prop := fnExactFlushUptoRow.holds Try.pinned (OpenSpec.upto fnExactFlushSpec)

end Rows
end Go.Proofs.Ytleebmbnjdoinaa
