/-
  DERIVED. GIVEN WITH THE SEED: THE CARDS: each row of YteadkbgghidibaaGreatDoorRows.lean that lists a variable, with what it lists TIED to the program's text (the seventh form; the later family's looks); each row that meets fmt, with fmt's text TOLD by the authors' own Lean function (tested against real Go, not proved from fmt's source: count such statements apart). THE CARD IS WHAT COUNTS. Prove the row's statement (the work); the ties are given (YteadkbgghidibaaGreatDoorTie.lean); close each card by the builder's one call (the guide's Derived/Test/ToyasCard.lean, 'card_holds'). Laid BY PROGRAM, IN A SANDBOX (cutbox-door.mjs). By AI agents, Wed Nov 11 2026. No macro, syntax, notation, axiom, sorry.
-/
import Derived.Test.YteadkbgghidibaaGreatDoorRows
import GoSem.ClaimSeven
namespace Go.Proofs.YteadkbgghidibaaGreatDoor
namespace Rows

/-- THE TIED CARD OF 'sapwoodlaw22.MemberForks'. -/
def memberForksCard : Claim7 := { stood := { row := memberForksRow, standIns := [], harness := (true, "516017370578230b8dcce8810a75399a71bed38195ec7e8e3128a21840aca6d5"), looks := true }, kinds := [], alts := [], laidByText := true, laidKinds := [.handle, .data, .data], laidTests := true, laidLooks := .later }
def MemberForksCardSaid : Prop := Claim7.holds Tryz.pinned (.plain (OpenSpec.ofChange memberForksSpec)) memberForksCard

/-- THE TIED CARD OF 'sapwoodlaw22.MemberOnce'. -/
def memberOnceCard : Claim7 := { stood := { row := memberOnceRow, standIns := [], harness := (true, "516017370578230b8dcce8810a75399a71bed38195ec7e8e3128a21840aca6d5"), looks := true }, kinds := [], alts := [], laidByText := true, laidKinds := [.handle, .data, .data], laidTests := true, laidLooks := .later }
def MemberOnceCardSaid : Prop := Claim7.holds Tryz.pinned (.plain (OpenSpec.ofChange memberOnceSpec)) memberOnceCard

/-- THE SECOND FORM's CARD OF 'sapwoodlaw22.MemberForks'. -/
def memberForksUptoCard : Claim7 := { stood := { row := memberForksUptoRow, standIns := [], harness := (true, "516017370578230b8dcce8810a75399a71bed38195ec7e8e3128a21840aca6d5"), looks := true }, kinds := [], alts := [], laidByText := true, laidKinds := [.handle, .data, .data], laidTests := true, laidLooks := .later }
def MemberForksUptoCardSaid : Prop := Claim7.holds Tryz.pinned (.plain (OpenSpec.upto memberForksSpec)) memberForksUptoCard

/-- THE SECOND FORM's CARD OF 'sapwoodlaw22.MemberOnce'. -/
def memberOnceUptoCard : Claim7 := { stood := { row := memberOnceUptoRow, standIns := [], harness := (true, "516017370578230b8dcce8810a75399a71bed38195ec7e8e3128a21840aca6d5"), looks := true }, kinds := [], alts := [], laidByText := true, laidKinds := [.handle, .data, .data], laidTests := true, laidLooks := .later }
def MemberOnceUptoCardSaid : Prop := Claim7.holds Tryz.pinned (.plain (OpenSpec.upto memberOnceSpec)) memberOnceUptoCard
end Rows
end Go.Proofs.YteadkbgghidibaaGreatDoor
