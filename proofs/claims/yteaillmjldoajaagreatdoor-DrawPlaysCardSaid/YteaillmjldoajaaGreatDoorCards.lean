/-
  DERIVED. GIVEN WITH THE SEED: THE CARDS: each row of YteaillmjldoajaaGreatDoorRows.lean that lists a variable, with what it lists TIED to the program's text (the seventh form; the later family's looks); each row that meets fmt, with fmt's text TOLD by the authors' own Lean function (tested against real Go, not proved from fmt's source: count such statements apart). THE CARD IS WHAT COUNTS. Prove the row's statement (the work); the ties are given (YteaillmjldoajaaGreatDoorTie.lean); close each card by the builder's one call (the guide's Derived/Test/ToyasCard.lean, 'card_holds'). Laid BY PROGRAM, IN A SANDBOX (cutbox-door.mjs). By AI agents, Wed Nov 11 2026. No macro, syntax, notation, axiom, sorry.
-/
import Derived.Test.YteaillmjldoajaaGreatDoorRows
import GoSem.ClaimSeven
namespace Go.Proofs.YteaillmjldoajaaGreatDoor
namespace Rows

/-- THE TIED CARD OF 'sapwoodlaw24.DrawPlays'. -/
def drawPlaysCard : Claim7 := { stood := { row := drawPlaysRow, standIns := [], harness := (true, "bf02baaadbea40c7439e74a0f6b55fbe8632e201e6f980f1493b0b5641d7e901"), looks := true }, kinds := [], alts := [], laidByText := true, laidKinds := [.data, .data, .data, .handle, .data, .data], laidTests := true, laidLooks := .later }
def DrawPlaysCardSaid : Prop := Claim7.holds Tryz.pinned (.plain (OpenSpec.ofChange drawPlaysSpec)) drawPlaysCard

/-- THE TIED CARD OF 'sapwoodlaw24.DrawNone'. -/
def drawNoneCard : Claim7 := { stood := { row := drawNoneRow, standIns := [], harness := (true, "bf02baaadbea40c7439e74a0f6b55fbe8632e201e6f980f1493b0b5641d7e901"), looks := true }, kinds := [], alts := [], laidByText := true, laidKinds := [.data, .data, .data, .handle, .data, .data], laidTests := true, laidLooks := .later }
def DrawNoneCardSaid : Prop := Claim7.holds Tryz.pinned (.plain (OpenSpec.ofChange drawNoneSpec)) drawNoneCard

/-- THE SECOND FORM's CARD OF 'sapwoodlaw24.DrawPlays'. -/
def drawPlaysUptoCard : Claim7 := { stood := { row := drawPlaysUptoRow, standIns := [], harness := (true, "bf02baaadbea40c7439e74a0f6b55fbe8632e201e6f980f1493b0b5641d7e901"), looks := true }, kinds := [], alts := [], laidByText := true, laidKinds := [.data, .data, .data, .handle, .data, .data], laidTests := true, laidLooks := .later }
def DrawPlaysUptoCardSaid : Prop := Claim7.holds Tryz.pinned (.plain (OpenSpec.upto drawPlaysSpec)) drawPlaysUptoCard

/-- THE SECOND FORM's CARD OF 'sapwoodlaw24.DrawNone'. -/
def drawNoneUptoCard : Claim7 := { stood := { row := drawNoneUptoRow, standIns := [], harness := (true, "bf02baaadbea40c7439e74a0f6b55fbe8632e201e6f980f1493b0b5641d7e901"), looks := true }, kinds := [], alts := [], laidByText := true, laidKinds := [.data, .data, .data, .handle, .data, .data], laidTests := true, laidLooks := .later }
def DrawNoneUptoCardSaid : Prop := Claim7.holds Tryz.pinned (.plain (OpenSpec.upto drawNoneSpec)) drawNoneUptoCard
end Rows
end Go.Proofs.YteaillmjldoajaaGreatDoor
