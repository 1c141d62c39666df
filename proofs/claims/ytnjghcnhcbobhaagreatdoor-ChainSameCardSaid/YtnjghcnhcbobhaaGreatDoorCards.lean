/-
  DERIVED. GIVEN WITH THE SEED: THE CARDS: each row of YtnjghcnhcbobhaaGreatDoorRows.lean that lists a variable, with what it lists TIED to the program's text (the seventh form; the later family's looks); each row that meets fmt, with fmt's text TOLD by the authors' own Lean function (tested against real Go, not proved from fmt's source: count such statements apart). THE CARD IS WHAT COUNTS. Prove the row's statement (the work); the ties are given (YtnjghcnhcbobhaaGreatDoorTie.lean); close each card by the builder's one call (the guide's Derived/Test/ToyasCard.lean, 'card_holds'). Laid BY PROGRAM, IN A SANDBOX (cutbox-door.mjs). By AI agents, Wed Nov 11 2026. No macro, syntax, notation, axiom, sorry.
-/
import Derived.Test.YtnjghcnhcbobhaaGreatDoorRows
import GoSem.ClaimSeven
namespace Go.Proofs.YtnjghcnhcbobhaaGreatDoor
namespace Rows

/-- THE TIED CARD OF 'sapwoodlaw17.BundleBack'. -/
def bundleBackCard : Claim7 := { stood := { row := bundleBackRow, standIns := [], harness := (true, "ff785cb9e9f492282f15787df08ef98d37f12df94559f4a0f0ae7e4a25dcd33d"), looks := true }, kinds := [], alts := [], laidByText := true, laidKinds := [.handle, .data, .data], laidTests := true, laidLooks := .later }
def BundleBackCardSaid : Prop := Claim7.holds Tryz.pinned (.plain (OpenSpec.ofChange bundleBackSpec)) bundleBackCard

/-- THE TIED CARD OF 'sapwoodlaw18.SetupWrites'. -/
def setupWritesCard : Claim7 := { stood := { row := setupWritesRow, standIns := [], harness := (true, "ff785cb9e9f492282f15787df08ef98d37f12df94559f4a0f0ae7e4a25dcd33d"), looks := true }, kinds := [], alts := [], laidByText := true, laidKinds := [.handle, .data, .data], laidTests := true, laidLooks := .later }
def SetupWritesCardSaid : Prop := Claim7.holds Tryz.pinned (.plain (OpenSpec.ofChange setupWritesSpec)) setupWritesCard

/-- THE TIED CARD OF 'sapwoodlaw18.SetupBack'. -/
def setupBackCard : Claim7 := { stood := { row := setupBackRow, standIns := [], harness := (true, "ff785cb9e9f492282f15787df08ef98d37f12df94559f4a0f0ae7e4a25dcd33d"), looks := true }, kinds := [], alts := [], laidByText := true, laidKinds := [.handle, .data, .data], laidTests := true, laidLooks := .later }
def SetupBackCardSaid : Prop := Claim7.holds Tryz.pinned (.plain (OpenSpec.ofChange setupBackSpec)) setupBackCard

/-- THE TIED CARD OF 'sapwoodlaw20.ChainLinks'. -/
def chainLinksCard : Claim7 := { stood := { row := chainLinksRow, standIns := [], harness := (true, "ff785cb9e9f492282f15787df08ef98d37f12df94559f4a0f0ae7e4a25dcd33d"), looks := true }, kinds := [], alts := [], laidByText := true, laidKinds := [.handle, .data, .data], laidTests := true, laidLooks := .later }
def ChainLinksCardSaid : Prop := Claim7.holds Tryz.pinned (.plain (OpenSpec.ofChange chainLinksSpec)) chainLinksCard

/-- THE TIED CARD OF 'sapwoodlaw20.ChainSame'. -/
def chainSameCard : Claim7 := { stood := { row := chainSameRow, standIns := [], harness := (true, "ff785cb9e9f492282f15787df08ef98d37f12df94559f4a0f0ae7e4a25dcd33d"), looks := true }, kinds := [], alts := [], laidByText := true, laidKinds := [.handle, .data, .data], laidTests := true, laidLooks := .later }
def ChainSameCardSaid : Prop := Claim7.holds Tryz.pinned (.plain (OpenSpec.ofChange chainSameSpec)) chainSameCard

/-- THE SECOND FORM's CARD OF 'sapwoodlaw17.BundleBack'. -/
def bundleBackUptoCard : Claim7 := { stood := { row := bundleBackUptoRow, standIns := [], harness := (true, "ff785cb9e9f492282f15787df08ef98d37f12df94559f4a0f0ae7e4a25dcd33d"), looks := true }, kinds := [], alts := [], laidByText := true, laidKinds := [.handle, .data, .data], laidTests := true, laidLooks := .later }
def BundleBackUptoCardSaid : Prop := Claim7.holds Tryz.pinned (.plain (OpenSpec.upto bundleBackSpec)) bundleBackUptoCard

/-- THE SECOND FORM's CARD OF 'sapwoodlaw18.SetupWrites'. -/
def setupWritesUptoCard : Claim7 := { stood := { row := setupWritesUptoRow, standIns := [], harness := (true, "ff785cb9e9f492282f15787df08ef98d37f12df94559f4a0f0ae7e4a25dcd33d"), looks := true }, kinds := [], alts := [], laidByText := true, laidKinds := [.handle, .data, .data], laidTests := true, laidLooks := .later }
def SetupWritesUptoCardSaid : Prop := Claim7.holds Tryz.pinned (.plain (OpenSpec.upto setupWritesSpec)) setupWritesUptoCard

/-- THE SECOND FORM's CARD OF 'sapwoodlaw18.SetupBack'. -/
def setupBackUptoCard : Claim7 := { stood := { row := setupBackUptoRow, standIns := [], harness := (true, "ff785cb9e9f492282f15787df08ef98d37f12df94559f4a0f0ae7e4a25dcd33d"), looks := true }, kinds := [], alts := [], laidByText := true, laidKinds := [.handle, .data, .data], laidTests := true, laidLooks := .later }
def SetupBackUptoCardSaid : Prop := Claim7.holds Tryz.pinned (.plain (OpenSpec.upto setupBackSpec)) setupBackUptoCard

/-- THE SECOND FORM's CARD OF 'sapwoodlaw20.ChainLinks'. -/
def chainLinksUptoCard : Claim7 := { stood := { row := chainLinksUptoRow, standIns := [], harness := (true, "ff785cb9e9f492282f15787df08ef98d37f12df94559f4a0f0ae7e4a25dcd33d"), looks := true }, kinds := [], alts := [], laidByText := true, laidKinds := [.handle, .data, .data], laidTests := true, laidLooks := .later }
def ChainLinksUptoCardSaid : Prop := Claim7.holds Tryz.pinned (.plain (OpenSpec.upto chainLinksSpec)) chainLinksUptoCard

/-- THE SECOND FORM's CARD OF 'sapwoodlaw20.ChainSame'. -/
def chainSameUptoCard : Claim7 := { stood := { row := chainSameUptoRow, standIns := [], harness := (true, "ff785cb9e9f492282f15787df08ef98d37f12df94559f4a0f0ae7e4a25dcd33d"), looks := true }, kinds := [], alts := [], laidByText := true, laidKinds := [.handle, .data, .data], laidTests := true, laidLooks := .later }
def ChainSameUptoCardSaid : Prop := Claim7.holds Tryz.pinned (.plain (OpenSpec.upto chainSameSpec)) chainSameUptoCard
end Rows
end Go.Proofs.YtnjghcnhcbobhaaGreatDoor
