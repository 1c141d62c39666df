/-
  DERIVED. GIVEN WITH THE SEED: THE CARDS: each row of YtnnnljcnnapnnaaGreatDoorRows.lean that lists a variable, with what it lists TIED to the program's text (the seventh form; the later family's looks); each row that meets fmt, with fmt's text TOLD by the authors' own Lean function (tested against real Go, not proved from fmt's source: count such statements apart). THE CARD IS WHAT COUNTS. Prove the row's statement (the work); the ties are given (YtnnnljcnnapnnaaGreatDoorTie.lean); close each card by the builder's one call (the guide's Derived/Test/ToyasCard.lean, 'card_holds'). Laid BY PROGRAM, IN A SANDBOX (cutbox-door.mjs). By AI agents, Wed Nov 11 2026. No macro, syntax, notation, axiom, sorry.
-/
import Derived.Test.YtnnnljcnnapnnaaGreatDoorRows
import GoSem.ClaimSeven
namespace Go.Proofs.YtnnnljcnnapnnaaGreatDoor
namespace Rows

/-- THE TIED CARD OF 'sapwoodlaw25.MailFull'. -/
def mailFullCard : Claim7 := { stood := { row := mailFullRow, standIns := [], harness := (true, "54eed5de7279a419659d8e661f5230bcf3be17a090eadfc42e82d0e681be9850"), looks := true }, kinds := [], alts := [], laidByText := true, laidKinds := [.data, .data, .data, .handle, .data, .data], laidTests := true, laidLooks := .later }
def MailFullCardSaid : Prop := Claim7.holds Tryz.pinned (.plain (OpenSpec.ofChange mailFullSpec)) mailFullCard

/-- THE TIED CARD OF 'sapwoodlaw25.MailNone'. -/
def mailNoneCard : Claim7 := { stood := { row := mailNoneRow, standIns := [], harness := (true, "54eed5de7279a419659d8e661f5230bcf3be17a090eadfc42e82d0e681be9850"), looks := true }, kinds := [], alts := [], laidByText := true, laidKinds := [.data, .data, .data, .handle, .data, .data], laidTests := true, laidLooks := .later }
def MailNoneCardSaid : Prop := Claim7.holds Tryz.pinned (.plain (OpenSpec.ofChange mailNoneSpec)) mailNoneCard

/-- THE TIED CARD OF 'sapwoodlaw26.GroupNone'. -/
def groupNoneCard : Claim7 := { stood := { row := groupNoneRow, standIns := [], harness := (true, "54eed5de7279a419659d8e661f5230bcf3be17a090eadfc42e82d0e681be9850"), looks := true }, kinds := [], alts := [], laidByText := true, laidKinds := [.data, .data, .data, .handle, .data, .data], laidTests := true, laidLooks := .later }
def GroupNoneCardSaid : Prop := Claim7.holds Tryz.pinned (.plain (OpenSpec.ofChange groupNoneSpec)) groupNoneCard

/-- THE SECOND FORM's CARD OF 'sapwoodlaw25.MailFull'. -/
def mailFullUptoCard : Claim7 := { stood := { row := mailFullUptoRow, standIns := [], harness := (true, "54eed5de7279a419659d8e661f5230bcf3be17a090eadfc42e82d0e681be9850"), looks := true }, kinds := [], alts := [], laidByText := true, laidKinds := [.data, .data, .data, .handle, .data, .data], laidTests := true, laidLooks := .later }
def MailFullUptoCardSaid : Prop := Claim7.holds Tryz.pinned (.plain (OpenSpec.upto mailFullSpec)) mailFullUptoCard

/-- THE SECOND FORM's CARD OF 'sapwoodlaw25.MailNone'. -/
def mailNoneUptoCard : Claim7 := { stood := { row := mailNoneUptoRow, standIns := [], harness := (true, "54eed5de7279a419659d8e661f5230bcf3be17a090eadfc42e82d0e681be9850"), looks := true }, kinds := [], alts := [], laidByText := true, laidKinds := [.data, .data, .data, .handle, .data, .data], laidTests := true, laidLooks := .later }
def MailNoneUptoCardSaid : Prop := Claim7.holds Tryz.pinned (.plain (OpenSpec.upto mailNoneSpec)) mailNoneUptoCard

/-- THE SECOND FORM's CARD OF 'sapwoodlaw26.GroupNone'. -/
def groupNoneUptoCard : Claim7 := { stood := { row := groupNoneUptoRow, standIns := [], harness := (true, "54eed5de7279a419659d8e661f5230bcf3be17a090eadfc42e82d0e681be9850"), looks := true }, kinds := [], alts := [], laidByText := true, laidKinds := [.data, .data, .data, .handle, .data, .data], laidTests := true, laidLooks := .later }
def GroupNoneUptoCardSaid : Prop := Claim7.holds Tryz.pinned (.plain (OpenSpec.upto groupNoneSpec)) groupNoneUptoCard
end Rows
end Go.Proofs.YtnnnljcnnapnnaaGreatDoor
