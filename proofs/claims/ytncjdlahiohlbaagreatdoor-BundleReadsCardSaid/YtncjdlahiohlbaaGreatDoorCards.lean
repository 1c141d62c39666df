/-
  DERIVED. GIVEN WITH THE SEED: THE CARDS: each row of YtncjdlahiohlbaaGreatDoorRows.lean that lists a variable, with what it lists TIED to the program's text (the seventh form; the later family's looks); each row that meets fmt, with fmt's text TOLD by the authors' own Lean function (tested against real Go, not proved from fmt's source: count such statements apart). THE CARD IS WHAT COUNTS. Prove the row's statement (the work); the ties are given (YtncjdlahiohlbaaGreatDoorTie.lean); close each card by the builder's one call (the guide's Derived/Test/ToyasCard.lean, 'card_holds'). Laid BY PROGRAM, IN A SANDBOX (cutbox-door.mjs). By AI agents, Wed Nov 11 2026. No macro, syntax, notation, axiom, sorry.
-/
import Derived.Test.YtncjdlahiohlbaaGreatDoorRows
import GoSem.ClaimSeven
namespace Go.Proofs.YtncjdlahiohlbaaGreatDoor
namespace Rows

/-- THE TIED CARD OF 'sapwoodlaw16.CodecReads'. -/
def codecReadsCard : Claim7 := { stood := { row := codecReadsRow, standIns := [], harness := (true, "0878e671918e08267f8da68490316ef0e7915345283218276441de2687192c01"), looks := true }, kinds := [], alts := [], laidByText := true, laidKinds := [.handle, .data, .data], laidTests := true, laidLooks := .later }
def CodecReadsCardSaid : Prop := Claim7.holds Tryz.pinned (.plain (OpenSpec.ofChange codecReadsSpec)) codecReadsCard

/-- THE TIED CARD OF 'sapwoodlaw16.CodecWrites'. -/
def codecWritesCard : Claim7 := { stood := { row := codecWritesRow, standIns := [], harness := (true, "0878e671918e08267f8da68490316ef0e7915345283218276441de2687192c01"), looks := true }, kinds := [], alts := [], laidByText := true, laidKinds := [.handle, .data, .data], laidTests := true, laidLooks := .later }
def CodecWritesCardSaid : Prop := Claim7.holds Tryz.pinned (.plain (OpenSpec.ofChange codecWritesSpec)) codecWritesCard

/-- THE TIED CARD OF 'sapwoodlaw17.BundleReads'. -/
def bundleReadsCard : Claim7 := { stood := { row := bundleReadsRow, standIns := [], harness := (true, "0878e671918e08267f8da68490316ef0e7915345283218276441de2687192c01"), looks := true }, kinds := [], alts := [], laidByText := true, laidKinds := [.handle, .data, .data], laidTests := true, laidLooks := .later }
def BundleReadsCardSaid : Prop := Claim7.holds Tryz.pinned (.plain (OpenSpec.ofChange bundleReadsSpec)) bundleReadsCard

/-- THE TIED CARD OF 'sapwoodlaw17.BundleBack'. -/
def bundleBackCard : Claim7 := { stood := { row := bundleBackRow, standIns := [], harness := (true, "0878e671918e08267f8da68490316ef0e7915345283218276441de2687192c01"), looks := true }, kinds := [], alts := [], laidByText := true, laidKinds := [.handle, .data, .data], laidTests := true, laidLooks := .later }
def BundleBackCardSaid : Prop := Claim7.holds Tryz.pinned (.plain (OpenSpec.ofChange bundleBackSpec)) bundleBackCard

/-- THE TIED CARD OF 'sapwoodlaw18.SetupWrites'. -/
def setupWritesCard : Claim7 := { stood := { row := setupWritesRow, standIns := [], harness := (true, "0878e671918e08267f8da68490316ef0e7915345283218276441de2687192c01"), looks := true }, kinds := [], alts := [], laidByText := true, laidKinds := [.handle, .data, .data], laidTests := true, laidLooks := .later }
def SetupWritesCardSaid : Prop := Claim7.holds Tryz.pinned (.plain (OpenSpec.ofChange setupWritesSpec)) setupWritesCard

/-- THE TIED CARD OF 'sapwoodlaw18.SetupReads'. -/
def setupReadsCard : Claim7 := { stood := { row := setupReadsRow, standIns := [], harness := (true, "0878e671918e08267f8da68490316ef0e7915345283218276441de2687192c01"), looks := true }, kinds := [], alts := [], laidByText := true, laidKinds := [.handle, .data, .data], laidTests := true, laidLooks := .later }
def SetupReadsCardSaid : Prop := Claim7.holds Tryz.pinned (.plain (OpenSpec.ofChange setupReadsSpec)) setupReadsCard

/-- THE TIED CARD OF 'sapwoodlaw18.SetupBack'. -/
def setupBackCard : Claim7 := { stood := { row := setupBackRow, standIns := [], harness := (true, "0878e671918e08267f8da68490316ef0e7915345283218276441de2687192c01"), looks := true }, kinds := [], alts := [], laidByText := true, laidKinds := [.handle, .data, .data], laidTests := true, laidLooks := .later }
def SetupBackCardSaid : Prop := Claim7.holds Tryz.pinned (.plain (OpenSpec.ofChange setupBackSpec)) setupBackCard

/-- THE SECOND FORM's CARD OF 'sapwoodlaw16.CodecReads'. -/
def codecReadsUptoCard : Claim7 := { stood := { row := codecReadsUptoRow, standIns := [], harness := (true, "0878e671918e08267f8da68490316ef0e7915345283218276441de2687192c01"), looks := true }, kinds := [], alts := [], laidByText := true, laidKinds := [.handle, .data, .data], laidTests := true, laidLooks := .later }
def CodecReadsUptoCardSaid : Prop := Claim7.holds Tryz.pinned (.plain (OpenSpec.upto codecReadsSpec)) codecReadsUptoCard

/-- THE SECOND FORM's CARD OF 'sapwoodlaw16.CodecWrites'. -/
def codecWritesUptoCard : Claim7 := { stood := { row := codecWritesUptoRow, standIns := [], harness := (true, "0878e671918e08267f8da68490316ef0e7915345283218276441de2687192c01"), looks := true }, kinds := [], alts := [], laidByText := true, laidKinds := [.handle, .data, .data], laidTests := true, laidLooks := .later }
def CodecWritesUptoCardSaid : Prop := Claim7.holds Tryz.pinned (.plain (OpenSpec.upto codecWritesSpec)) codecWritesUptoCard

/-- THE SECOND FORM's CARD OF 'sapwoodlaw17.BundleReads'. -/
def bundleReadsUptoCard : Claim7 := { stood := { row := bundleReadsUptoRow, standIns := [], harness := (true, "0878e671918e08267f8da68490316ef0e7915345283218276441de2687192c01"), looks := true }, kinds := [], alts := [], laidByText := true, laidKinds := [.handle, .data, .data], laidTests := true, laidLooks := .later }
def BundleReadsUptoCardSaid : Prop := Claim7.holds Tryz.pinned (.plain (OpenSpec.upto bundleReadsSpec)) bundleReadsUptoCard

/-- THE SECOND FORM's CARD OF 'sapwoodlaw17.BundleBack'. -/
def bundleBackUptoCard : Claim7 := { stood := { row := bundleBackUptoRow, standIns := [], harness := (true, "0878e671918e08267f8da68490316ef0e7915345283218276441de2687192c01"), looks := true }, kinds := [], alts := [], laidByText := true, laidKinds := [.handle, .data, .data], laidTests := true, laidLooks := .later }
def BundleBackUptoCardSaid : Prop := Claim7.holds Tryz.pinned (.plain (OpenSpec.upto bundleBackSpec)) bundleBackUptoCard

/-- THE SECOND FORM's CARD OF 'sapwoodlaw18.SetupWrites'. -/
def setupWritesUptoCard : Claim7 := { stood := { row := setupWritesUptoRow, standIns := [], harness := (true, "0878e671918e08267f8da68490316ef0e7915345283218276441de2687192c01"), looks := true }, kinds := [], alts := [], laidByText := true, laidKinds := [.handle, .data, .data], laidTests := true, laidLooks := .later }
def SetupWritesUptoCardSaid : Prop := Claim7.holds Tryz.pinned (.plain (OpenSpec.upto setupWritesSpec)) setupWritesUptoCard

/-- THE SECOND FORM's CARD OF 'sapwoodlaw18.SetupReads'. -/
def setupReadsUptoCard : Claim7 := { stood := { row := setupReadsUptoRow, standIns := [], harness := (true, "0878e671918e08267f8da68490316ef0e7915345283218276441de2687192c01"), looks := true }, kinds := [], alts := [], laidByText := true, laidKinds := [.handle, .data, .data], laidTests := true, laidLooks := .later }
def SetupReadsUptoCardSaid : Prop := Claim7.holds Tryz.pinned (.plain (OpenSpec.upto setupReadsSpec)) setupReadsUptoCard

/-- THE SECOND FORM's CARD OF 'sapwoodlaw18.SetupBack'. -/
def setupBackUptoCard : Claim7 := { stood := { row := setupBackUptoRow, standIns := [], harness := (true, "0878e671918e08267f8da68490316ef0e7915345283218276441de2687192c01"), looks := true }, kinds := [], alts := [], laidByText := true, laidKinds := [.handle, .data, .data], laidTests := true, laidLooks := .later }
def SetupBackUptoCardSaid : Prop := Claim7.holds Tryz.pinned (.plain (OpenSpec.upto setupBackSpec)) setupBackUptoCard
end Rows
end Go.Proofs.YtncjdlahiohlbaaGreatDoor
