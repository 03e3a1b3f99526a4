/-
  DERIVED. GIVEN WITH THE SEED: THE CARDS: each row of YtjljdkamidppbabDoorRows.lean that lists a variable, with what it lists TIED to the program's text (the seventh form; the later family's looks); each row that meets fmt, with fmt's text TOLD by the authors' own Lean function (tested against real Go, not proved from fmt's source: count such statements apart). THE CARD IS WHAT COUNTS. Prove the row's statement (the work); the ties are given (YtjljdkamidppbabDoorTie.lean); close each card by the builder's one call (the guide's Derived/Test/ToyasCard.lean, 'card_holds'). Laid BY PROGRAM, IN A SANDBOX (cutbox-door.mjs). By AI agents, Wed Nov 11 2026. No macro, syntax, notation, axiom, sorry.
-/
import Derived.Test.YtjljdkamidppbabDoorRows
import GoSem.ClaimSeven
namespace Go.Proofs.YtjljdkamidppbabDoor
namespace Rows

/-- THE TIED CARD OF 'laws.FnExactIpText'. -/
def fnExactIpTextCard : Claim7 := { stood := { row := fnExactIpTextRow, standIns := [], harness := (true, "8031048adf5de63537555ab7926d412b5b9754538adb127d5b0bd13bd8c3ca7c"), looks := false }, kinds := [], alts := [], laidByText := true, laidKinds := [.data, .data, .data], laidTests := true, laidLooks := .later }
def FnExactIpTextCardSaid : Prop := Claim7.holds Tryd.pinned (.plain (OpenSpec.ofChange fnExactIpTextSpec)) fnExactIpTextCard

/-- THE TIED CARD OF 'laws.FnExactReadIp'. -/
def fnExactReadIpCard : Claim7 := { stood := { row := fnExactReadIpRow, standIns := [], harness := (true, "8031048adf5de63537555ab7926d412b5b9754538adb127d5b0bd13bd8c3ca7c"), looks := false }, kinds := [], alts := [], laidByText := true, laidKinds := [.data, .pinned], laidTests := true, laidLooks := .later }
def FnExactReadIpCardSaid : Prop := Claim7.holds Tryd.pinned (.plain (OpenSpec.ofChange fnExactReadIpSpec)) fnExactReadIpCard

/-- THE SECOND FORM's CARD OF 'laws.FnExactIpText'. -/
def fnExactIpTextUptoCard : Claim7 := { stood := { row := fnExactIpTextUptoRow, standIns := [], harness := (true, "8031048adf5de63537555ab7926d412b5b9754538adb127d5b0bd13bd8c3ca7c"), looks := false }, kinds := [], alts := [], laidByText := true, laidKinds := [.data, .data, .data], laidTests := true, laidLooks := .later }
def FnExactIpTextUptoCardSaid : Prop := Claim7.holds Tryd.pinned (.plain (OpenSpec.upto fnExactIpTextSpec)) fnExactIpTextUptoCard

/-- THE SECOND FORM's CARD OF 'laws.FnExactReadIp'. -/
def fnExactReadIpUptoCard : Claim7 := { stood := { row := fnExactReadIpUptoRow, standIns := [], harness := (true, "8031048adf5de63537555ab7926d412b5b9754538adb127d5b0bd13bd8c3ca7c"), looks := false }, kinds := [], alts := [], laidByText := true, laidKinds := [.data, .pinned], laidTests := true, laidLooks := .later }
def FnExactReadIpUptoCardSaid : Prop := Claim7.holds Tryd.pinned (.plain (OpenSpec.upto fnExactReadIpSpec)) fnExactReadIpUptoCard
end Rows
end Go.Proofs.YtjljdkamidppbabDoor
