/-
  DERIVED. GIVEN WITH THE SEED: THE CARDS: each row of YtfgbpfapphofdaaGreatDoorRows.lean that lists a variable, with what it lists TIED to the program's text (the seventh form; the later family's looks); each row that meets fmt, with fmt's text TOLD by the authors' own Lean function (tested against real Go, not proved from fmt's source: count such statements apart). THE CARD IS WHAT COUNTS. Prove the row's statement (the work); the ties are given (YtfgbpfapphofdaaGreatDoorTie.lean); close each card by the builder's one call (the guide's Derived/Test/ToyasCard.lean, 'card_holds'). Laid BY PROGRAM, IN A SANDBOX (cutbox-door.mjs). By AI agents, Wed Nov 11 2026. No macro, syntax, notation, axiom, sorry.
-/
import Derived.Test.YtfgbpfapphofdaaGreatDoorRows
import GoSem.ClaimSeven
namespace Go.Proofs.YtfgbpfapphofdaaGreatDoor
namespace Rows

/-- THE TIED CARD OF 'sapwoodlaw11.ShapeTells'. -/
def shapeTellsCard : Claim7 := { stood := { row := shapeTellsRow, standIns := [], harness := (true, "6f0b3f84bed9577943cd078029369737faecfa7498ab26d999b1f68d42baaf0a"), looks := false }, kinds := [], alts := [], laidByText := true, laidKinds := [.data, .data], laidTests := true, laidLooks := .later }
def ShapeTellsCardSaid : Prop := Claim7.holds Tryz.pinned (.plain (OpenSpec.ofChange shapeTellsSpec)) shapeTellsCard

/-- THE TIED CARD OF 'sapwoodlaw11.ShapeCovers'. -/
def shapeCoversCard : Claim7 := { stood := { row := shapeCoversRow, standIns := [], harness := (true, "6f0b3f84bed9577943cd078029369737faecfa7498ab26d999b1f68d42baaf0a"), looks := false }, kinds := [], alts := [], laidByText := true, laidKinds := [.data, .data], laidTests := true, laidLooks := .later }
def ShapeCoversCardSaid : Prop := Claim7.holds Tryz.pinned (.plain (OpenSpec.ofChange shapeCoversSpec)) shapeCoversCard

/-- THE TIED CARD OF 'sapwoodlaw11.ShapeMeets'. -/
def shapeMeetsCard : Claim7 := { stood := { row := shapeMeetsRow, standIns := [], harness := (true, "6f0b3f84bed9577943cd078029369737faecfa7498ab26d999b1f68d42baaf0a"), looks := false }, kinds := [], alts := [], laidByText := true, laidKinds := [.data, .data], laidTests := true, laidLooks := .later }
def ShapeMeetsCardSaid : Prop := Claim7.holds Tryz.pinned (.plain (OpenSpec.ofChange shapeMeetsSpec)) shapeMeetsCard

/-- THE TIED CARD OF 'sapwoodlaw12.NodeMakes'. -/
def nodeMakesCard : Claim7 := { stood := { row := nodeMakesRow, standIns := [], harness := (true, "6f0b3f84bed9577943cd078029369737faecfa7498ab26d999b1f68d42baaf0a"), looks := false }, kinds := [], alts := [], laidByText := true, laidKinds := [.data, .data], laidTests := true, laidLooks := .later }
def NodeMakesCardSaid : Prop := Claim7.holds Tryz.pinned (.plain (OpenSpec.ofChange nodeMakesSpec)) nodeMakesCard

/-- THE TIED CARD OF 'sapwoodlaw12.NodeMeets'. -/
def nodeMeetsCard : Claim7 := { stood := { row := nodeMeetsRow, standIns := [], harness := (true, "6f0b3f84bed9577943cd078029369737faecfa7498ab26d999b1f68d42baaf0a"), looks := false }, kinds := [], alts := [], laidByText := true, laidKinds := [.data, .data], laidTests := true, laidLooks := .later }
def NodeMeetsCardSaid : Prop := Claim7.holds Tryz.pinned (.plain (OpenSpec.ofChange nodeMeetsSpec)) nodeMeetsCard

/-- THE SECOND FORM's CARD OF 'sapwoodlaw11.ShapeTells'. -/
def shapeTellsUptoCard : Claim7 := { stood := { row := shapeTellsUptoRow, standIns := [], harness := (true, "6f0b3f84bed9577943cd078029369737faecfa7498ab26d999b1f68d42baaf0a"), looks := false }, kinds := [], alts := [], laidByText := true, laidKinds := [.data, .data], laidTests := true, laidLooks := .later }
def ShapeTellsUptoCardSaid : Prop := Claim7.holds Tryz.pinned (.plain (OpenSpec.upto shapeTellsSpec)) shapeTellsUptoCard

/-- THE SECOND FORM's CARD OF 'sapwoodlaw11.ShapeCovers'. -/
def shapeCoversUptoCard : Claim7 := { stood := { row := shapeCoversUptoRow, standIns := [], harness := (true, "6f0b3f84bed9577943cd078029369737faecfa7498ab26d999b1f68d42baaf0a"), looks := false }, kinds := [], alts := [], laidByText := true, laidKinds := [.data, .data], laidTests := true, laidLooks := .later }
def ShapeCoversUptoCardSaid : Prop := Claim7.holds Tryz.pinned (.plain (OpenSpec.upto shapeCoversSpec)) shapeCoversUptoCard

/-- THE SECOND FORM's CARD OF 'sapwoodlaw11.ShapeMeets'. -/
def shapeMeetsUptoCard : Claim7 := { stood := { row := shapeMeetsUptoRow, standIns := [], harness := (true, "6f0b3f84bed9577943cd078029369737faecfa7498ab26d999b1f68d42baaf0a"), looks := false }, kinds := [], alts := [], laidByText := true, laidKinds := [.data, .data], laidTests := true, laidLooks := .later }
def ShapeMeetsUptoCardSaid : Prop := Claim7.holds Tryz.pinned (.plain (OpenSpec.upto shapeMeetsSpec)) shapeMeetsUptoCard

/-- THE SECOND FORM's CARD OF 'sapwoodlaw12.NodeMakes'. -/
def nodeMakesUptoCard : Claim7 := { stood := { row := nodeMakesUptoRow, standIns := [], harness := (true, "6f0b3f84bed9577943cd078029369737faecfa7498ab26d999b1f68d42baaf0a"), looks := false }, kinds := [], alts := [], laidByText := true, laidKinds := [.data, .data], laidTests := true, laidLooks := .later }
def NodeMakesUptoCardSaid : Prop := Claim7.holds Tryz.pinned (.plain (OpenSpec.upto nodeMakesSpec)) nodeMakesUptoCard

/-- THE SECOND FORM's CARD OF 'sapwoodlaw12.NodeMeets'. -/
def nodeMeetsUptoCard : Claim7 := { stood := { row := nodeMeetsUptoRow, standIns := [], harness := (true, "6f0b3f84bed9577943cd078029369737faecfa7498ab26d999b1f68d42baaf0a"), looks := false }, kinds := [], alts := [], laidByText := true, laidKinds := [.data, .data], laidTests := true, laidLooks := .later }
def NodeMeetsUptoCardSaid : Prop := Claim7.holds Tryz.pinned (.plain (OpenSpec.upto nodeMeetsSpec)) nodeMeetsUptoCard
end Rows
end Go.Proofs.YtfgbpfapphofdaaGreatDoor
