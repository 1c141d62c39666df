/-
  DERIVED. GIVEN WITH THE SEED: THE CARDS: each row of YtpefpiobcpdeoaaGreatDoorRows.lean that lists a variable, with what it lists TIED to the program's text (the seventh form; the later family's looks); each row that meets fmt, with fmt's text TOLD by the authors' own Lean function (tested against real Go, not proved from fmt's source: count such statements apart). THE CARD IS WHAT COUNTS. Prove the row's statement (the work); the ties are given (YtpefpiobcpdeoaaGreatDoorTie.lean); close each card by the builder's one call (the guide's Derived/Test/ToyasCard.lean, 'card_holds'). Laid BY PROGRAM, IN A SANDBOX (cutbox-door.mjs). By AI agents, Wed Nov 11 2026. No macro, syntax, notation, axiom, sorry.
-/
import Derived.Test.YtpefpiobcpdeoaaGreatDoorRows
import GoSem.ClaimSeven
namespace Go.Proofs.YtpefpiobcpdeoaaGreatDoor
namespace Rows

/-- THE TIED CARD OF 'sapwoodlaw17.BundleBack'. -/
def bundleBackCard : Claim7 := { stood := { row := bundleBackRow, standIns := [], harness := (true, "81dae645ff25e33308769d44a22830eddb53e506be06b5752da4e0a50e28b12c"), looks := true }, kinds := [], alts := [], laidByText := true, laidKinds := [.handle, .data, .data], laidTests := true, laidLooks := .later }
def BundleBackCardSaid : Prop := Claim7.holds Tryz.pinned (.plain (OpenSpec.ofChange bundleBackSpec)) bundleBackCard

/-- THE TIED CARD OF 'sapwoodlaw18.SetupWrites'. -/
def setupWritesCard : Claim7 := { stood := { row := setupWritesRow, standIns := [], harness := (true, "81dae645ff25e33308769d44a22830eddb53e506be06b5752da4e0a50e28b12c"), looks := true }, kinds := [], alts := [], laidByText := true, laidKinds := [.handle, .data, .data], laidTests := true, laidLooks := .later }
def SetupWritesCardSaid : Prop := Claim7.holds Tryz.pinned (.plain (OpenSpec.ofChange setupWritesSpec)) setupWritesCard

/-- THE TIED CARD OF 'sapwoodlaw18.SetupReads'. -/
def setupReadsCard : Claim7 := { stood := { row := setupReadsRow, standIns := [], harness := (true, "81dae645ff25e33308769d44a22830eddb53e506be06b5752da4e0a50e28b12c"), looks := true }, kinds := [], alts := [], laidByText := true, laidKinds := [.handle, .data, .data], laidTests := true, laidLooks := .later }
def SetupReadsCardSaid : Prop := Claim7.holds Tryz.pinned (.plain (OpenSpec.ofChange setupReadsSpec)) setupReadsCard

/-- THE TIED CARD OF 'sapwoodlaw18.SetupBack'. -/
def setupBackCard : Claim7 := { stood := { row := setupBackRow, standIns := [], harness := (true, "81dae645ff25e33308769d44a22830eddb53e506be06b5752da4e0a50e28b12c"), looks := true }, kinds := [], alts := [], laidByText := true, laidKinds := [.handle, .data, .data], laidTests := true, laidLooks := .later }
def SetupBackCardSaid : Prop := Claim7.holds Tryz.pinned (.plain (OpenSpec.ofChange setupBackSpec)) setupBackCard

/-- THE TIED CARD OF 'sapwoodlaw19.UpdateWrites'. -/
def updateWritesCard : Claim7 := { stood := { row := updateWritesRow, standIns := [], harness := (true, "81dae645ff25e33308769d44a22830eddb53e506be06b5752da4e0a50e28b12c"), looks := true }, kinds := [], alts := [], laidByText := true, laidKinds := [.handle, .data, .data], laidTests := true, laidLooks := .later }
def UpdateWritesCardSaid : Prop := Claim7.holds Tryz.pinned (.plain (OpenSpec.ofChange updateWritesSpec)) updateWritesCard

/-- THE TIED CARD OF 'sapwoodlaw19.UpdateReads'. -/
def updateReadsCard : Claim7 := { stood := { row := updateReadsRow, standIns := [], harness := (true, "81dae645ff25e33308769d44a22830eddb53e506be06b5752da4e0a50e28b12c"), looks := true }, kinds := [], alts := [], laidByText := true, laidKinds := [.handle, .data, .data], laidTests := true, laidLooks := .later }
def UpdateReadsCardSaid : Prop := Claim7.holds Tryz.pinned (.plain (OpenSpec.ofChange updateReadsSpec)) updateReadsCard

/-- THE TIED CARD OF 'sapwoodlaw19.UpdateBack'. -/
def updateBackCard : Claim7 := { stood := { row := updateBackRow, standIns := [], harness := (true, "81dae645ff25e33308769d44a22830eddb53e506be06b5752da4e0a50e28b12c"), looks := true }, kinds := [], alts := [], laidByText := true, laidKinds := [.handle, .data, .data], laidTests := true, laidLooks := .later }
def UpdateBackCardSaid : Prop := Claim7.holds Tryz.pinned (.plain (OpenSpec.ofChange updateBackSpec)) updateBackCard

/-- THE TIED CARD OF 'sapwoodlaw20.ChainLinks'. -/
def chainLinksCard : Claim7 := { stood := { row := chainLinksRow, standIns := [], harness := (true, "81dae645ff25e33308769d44a22830eddb53e506be06b5752da4e0a50e28b12c"), looks := true }, kinds := [], alts := [], laidByText := true, laidKinds := [.handle, .data, .data], laidTests := true, laidLooks := .later }
def ChainLinksCardSaid : Prop := Claim7.holds Tryz.pinned (.plain (OpenSpec.ofChange chainLinksSpec)) chainLinksCard

/-- THE TIED CARD OF 'sapwoodlaw20.ChainSame'. -/
def chainSameCard : Claim7 := { stood := { row := chainSameRow, standIns := [], harness := (true, "81dae645ff25e33308769d44a22830eddb53e506be06b5752da4e0a50e28b12c"), looks := true }, kinds := [], alts := [], laidByText := true, laidKinds := [.handle, .data, .data], laidTests := true, laidLooks := .later }
def ChainSameCardSaid : Prop := Claim7.holds Tryz.pinned (.plain (OpenSpec.ofChange chainSameSpec)) chainSameCard

/-- THE SECOND FORM's CARD OF 'sapwoodlaw17.BundleBack'. -/
def bundleBackUptoCard : Claim7 := { stood := { row := bundleBackUptoRow, standIns := [], harness := (true, "81dae645ff25e33308769d44a22830eddb53e506be06b5752da4e0a50e28b12c"), looks := true }, kinds := [], alts := [], laidByText := true, laidKinds := [.handle, .data, .data], laidTests := true, laidLooks := .later }
def BundleBackUptoCardSaid : Prop := Claim7.holds Tryz.pinned (.plain (OpenSpec.upto bundleBackSpec)) bundleBackUptoCard

/-- THE SECOND FORM's CARD OF 'sapwoodlaw18.SetupWrites'. -/
def setupWritesUptoCard : Claim7 := { stood := { row := setupWritesUptoRow, standIns := [], harness := (true, "81dae645ff25e33308769d44a22830eddb53e506be06b5752da4e0a50e28b12c"), looks := true }, kinds := [], alts := [], laidByText := true, laidKinds := [.handle, .data, .data], laidTests := true, laidLooks := .later }
def SetupWritesUptoCardSaid : Prop := Claim7.holds Tryz.pinned (.plain (OpenSpec.upto setupWritesSpec)) setupWritesUptoCard

/-- THE SECOND FORM's CARD OF 'sapwoodlaw18.SetupReads'. -/
def setupReadsUptoCard : Claim7 := { stood := { row := setupReadsUptoRow, standIns := [], harness := (true, "81dae645ff25e33308769d44a22830eddb53e506be06b5752da4e0a50e28b12c"), looks := true }, kinds := [], alts := [], laidByText := true, laidKinds := [.handle, .data, .data], laidTests := true, laidLooks := .later }
def SetupReadsUptoCardSaid : Prop := Claim7.holds Tryz.pinned (.plain (OpenSpec.upto setupReadsSpec)) setupReadsUptoCard

/-- THE SECOND FORM's CARD OF 'sapwoodlaw18.SetupBack'. -/
def setupBackUptoCard : Claim7 := { stood := { row := setupBackUptoRow, standIns := [], harness := (true, "81dae645ff25e33308769d44a22830eddb53e506be06b5752da4e0a50e28b12c"), looks := true }, kinds := [], alts := [], laidByText := true, laidKinds := [.handle, .data, .data], laidTests := true, laidLooks := .later }
def SetupBackUptoCardSaid : Prop := Claim7.holds Tryz.pinned (.plain (OpenSpec.upto setupBackSpec)) setupBackUptoCard

/-- THE SECOND FORM's CARD OF 'sapwoodlaw19.UpdateWrites'. -/
def updateWritesUptoCard : Claim7 := { stood := { row := updateWritesUptoRow, standIns := [], harness := (true, "81dae645ff25e33308769d44a22830eddb53e506be06b5752da4e0a50e28b12c"), looks := true }, kinds := [], alts := [], laidByText := true, laidKinds := [.handle, .data, .data], laidTests := true, laidLooks := .later }
def UpdateWritesUptoCardSaid : Prop := Claim7.holds Tryz.pinned (.plain (OpenSpec.upto updateWritesSpec)) updateWritesUptoCard

/-- THE SECOND FORM's CARD OF 'sapwoodlaw19.UpdateReads'. -/
def updateReadsUptoCard : Claim7 := { stood := { row := updateReadsUptoRow, standIns := [], harness := (true, "81dae645ff25e33308769d44a22830eddb53e506be06b5752da4e0a50e28b12c"), looks := true }, kinds := [], alts := [], laidByText := true, laidKinds := [.handle, .data, .data], laidTests := true, laidLooks := .later }
def UpdateReadsUptoCardSaid : Prop := Claim7.holds Tryz.pinned (.plain (OpenSpec.upto updateReadsSpec)) updateReadsUptoCard

/-- THE SECOND FORM's CARD OF 'sapwoodlaw19.UpdateBack'. -/
def updateBackUptoCard : Claim7 := { stood := { row := updateBackUptoRow, standIns := [], harness := (true, "81dae645ff25e33308769d44a22830eddb53e506be06b5752da4e0a50e28b12c"), looks := true }, kinds := [], alts := [], laidByText := true, laidKinds := [.handle, .data, .data], laidTests := true, laidLooks := .later }
def UpdateBackUptoCardSaid : Prop := Claim7.holds Tryz.pinned (.plain (OpenSpec.upto updateBackSpec)) updateBackUptoCard

/-- THE SECOND FORM's CARD OF 'sapwoodlaw20.ChainLinks'. -/
def chainLinksUptoCard : Claim7 := { stood := { row := chainLinksUptoRow, standIns := [], harness := (true, "81dae645ff25e33308769d44a22830eddb53e506be06b5752da4e0a50e28b12c"), looks := true }, kinds := [], alts := [], laidByText := true, laidKinds := [.handle, .data, .data], laidTests := true, laidLooks := .later }
def ChainLinksUptoCardSaid : Prop := Claim7.holds Tryz.pinned (.plain (OpenSpec.upto chainLinksSpec)) chainLinksUptoCard

/-- THE SECOND FORM's CARD OF 'sapwoodlaw20.ChainSame'. -/
def chainSameUptoCard : Claim7 := { stood := { row := chainSameUptoRow, standIns := [], harness := (true, "81dae645ff25e33308769d44a22830eddb53e506be06b5752da4e0a50e28b12c"), looks := true }, kinds := [], alts := [], laidByText := true, laidKinds := [.handle, .data, .data], laidTests := true, laidLooks := .later }
def ChainSameUptoCardSaid : Prop := Claim7.holds Tryz.pinned (.plain (OpenSpec.upto chainSameSpec)) chainSameUptoCard
end Rows
end Go.Proofs.YtpefpiobcpdeoaaGreatDoor
