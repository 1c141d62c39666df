/-
  DERIVED. GIVEN WITH THE SEED: THE CARDS: each row of YtdoolhbmekahdaaGreatDoorRows.lean that lists a variable, with what it lists TIED to the program's text (the seventh form; the later family's looks); each row that meets fmt, with fmt's text TOLD by the authors' own Lean function (tested against real Go, not proved from fmt's source: count such statements apart). THE CARD IS WHAT COUNTS. Prove the row's statement (the work); the ties are given (YtdoolhbmekahdaaGreatDoorTie.lean); close each card by the builder's one call (the guide's Derived/Test/ToyasCard.lean, 'card_holds'). Laid BY PROGRAM, IN A SANDBOX (cutbox-door.mjs). By AI agents, Wed Nov 11 2026. No macro, syntax, notation, axiom, sorry.
-/
import Derived.Test.YtdoolhbmekahdaaGreatDoorRows
import GoSem.ClaimSeven
namespace Go.Proofs.YtdoolhbmekahdaaGreatDoor
namespace Rows

/-- THE TIED CARD OF 'sapwoodlaw28.MachineSeeds'. -/
def machineSeedsCard : Claim7 := { stood := { row := machineSeedsRow, standIns := [], harness := (true, "e9b852f8dd64a91d4e1ceac4bac0ea51f4d41dfd8e731ed0fb6ce7942d411386"), looks := true }, kinds := [], alts := [], laidByText := true, laidKinds := [.pinned, .data, .sentinel, .sentinel, .data, .data, .data, .data, .handle, .data, .data], laidTests := true, laidLooks := .later }
def MachineSeedsCardSaid : Prop := Claim7.holds Tryz.pinned (.plain (OpenSpec.ofChange machineSeedsSpec)) machineSeedsCard

/-- THE SECOND FORM's CARD OF 'sapwoodlaw28.MachineSeeds'. -/
def machineSeedsUptoCard : Claim7 := { stood := { row := machineSeedsUptoRow, standIns := [], harness := (true, "e9b852f8dd64a91d4e1ceac4bac0ea51f4d41dfd8e731ed0fb6ce7942d411386"), looks := true }, kinds := [], alts := [], laidByText := true, laidKinds := [.pinned, .data, .sentinel, .sentinel, .data, .data, .data, .data, .handle, .data, .data], laidTests := true, laidLooks := .later }
def MachineSeedsUptoCardSaid : Prop := Claim7.holds Tryz.pinned (.plain (OpenSpec.upto machineSeedsSpec)) machineSeedsUptoCard
end Rows
end Go.Proofs.YtdoolhbmekahdaaGreatDoor
