/-
  DERIVED. GIVEN WITH THE SEED: THE CARDS: each row of YtbcpfciegamaeaaDoorRows.lean that lists a variable, with what it lists TIED to the program's text (the seventh form; the later family's looks); each row that meets fmt, with fmt's text TOLD by the authors' own Lean function (tested against real Go, not proved from fmt's source: count such statements apart). THE CARD IS WHAT COUNTS. Prove the row's statement (the work); the ties are given (YtbcpfciegamaeaaDoorTie.lean); close each card by the builder's one call (the guide's Derived/Test/ToyasCard.lean, 'card_holds'). Laid BY PROGRAM, IN A SANDBOX (cutbox-door.mjs). By AI agents, Wed Nov 11 2026. No macro, syntax, notation, axiom, sorry.
-/
import Derived.Test.YtbcpfciegamaeaaDoorRows
import GoSem.ClaimSeven
namespace Go.Proofs.YtbcpfciegamaeaaDoor
namespace Rows

/-- THE TIED CARD OF 'laws.FnThrough'. -/
def fnThroughCard : Claim7 := { stood := { row := fnThroughRow, standIns := [], harness := (true, "88aa2bcfc6acac95aedae89f9447fbcccbe11e269891d8b7550c3403b65123f8"), looks := false }, kinds := [], alts := [], laidByText := true, laidKinds := [.data, .data, .data], laidTests := true, laidLooks := .later }
def FnThroughCardSaid : Prop := Claim7.holds Tryd.pinned (.plain (OpenSpec.ofChange fnThroughSpec)) fnThroughCard

/-- THE TIED CARD OF 'laws.FnExactIdText'. -/
def fnExactIdTextCard : Claim7 := { stood := { row := fnExactIdTextRow, standIns := [], harness := (true, "88aa2bcfc6acac95aedae89f9447fbcccbe11e269891d8b7550c3403b65123f8"), looks := false }, kinds := [], alts := [], laidByText := true, laidKinds := [.data, .data, .data], laidTests := true, laidLooks := .later }
def FnExactIdTextCardSaid : Prop := Claim7.holds Tryd.pinned (.plain (OpenSpec.ofChange fnExactIdTextSpec)) fnExactIdTextCard

/-- THE SECOND FORM's CARD OF 'laws.FnThrough'. -/
def fnThroughUptoCard : Claim7 := { stood := { row := fnThroughUptoRow, standIns := [], harness := (true, "88aa2bcfc6acac95aedae89f9447fbcccbe11e269891d8b7550c3403b65123f8"), looks := false }, kinds := [], alts := [], laidByText := true, laidKinds := [.data, .data, .data], laidTests := true, laidLooks := .later }
def FnThroughUptoCardSaid : Prop := Claim7.holds Tryd.pinned (.plain (OpenSpec.upto fnThroughSpec)) fnThroughUptoCard

/-- THE SECOND FORM's CARD OF 'laws.FnExactIdText'. -/
def fnExactIdTextUptoCard : Claim7 := { stood := { row := fnExactIdTextUptoRow, standIns := [], harness := (true, "88aa2bcfc6acac95aedae89f9447fbcccbe11e269891d8b7550c3403b65123f8"), looks := false }, kinds := [], alts := [], laidByText := true, laidKinds := [.data, .data, .data], laidTests := true, laidLooks := .later }
def FnExactIdTextUptoCardSaid : Prop := Claim7.holds Tryd.pinned (.plain (OpenSpec.upto fnExactIdTextSpec)) fnExactIdTextUptoCard
end Rows
end Go.Proofs.YtbcpfciegamaeaaDoor
