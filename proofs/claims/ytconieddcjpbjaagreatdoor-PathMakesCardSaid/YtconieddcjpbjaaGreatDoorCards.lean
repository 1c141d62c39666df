/-
  DERIVED. GIVEN WITH THE SEED: THE CARDS: each row of YtconieddcjpbjaaGreatDoorRows.lean that lists a variable, with what it lists TIED to the program's text (the seventh form; the later family's looks); each row that meets fmt, with fmt's text TOLD by the authors' own Lean function (tested against real Go, not proved from fmt's source: count such statements apart). THE CARD IS WHAT COUNTS. Prove the row's statement (the work); the ties are given (YtconieddcjpbjaaGreatDoorTie.lean); close each card by the builder's one call (the guide's Derived/Test/ToyasCard.lean, 'card_holds'). Laid BY PROGRAM, IN A SANDBOX (cutbox-door.mjs). By AI agents, Wed Nov 11 2026. No macro, syntax, notation, axiom, sorry.
-/
import Derived.Test.YtconieddcjpbjaaGreatDoorRows
import GoSem.ClaimSeven
namespace Go.Proofs.YtconieddcjpbjaaGreatDoor
namespace Rows

/-- THE TIED CARD OF 'sapwoodlaw13.BuildMakes'. -/
def buildMakesCard : Claim7 := { stood := { row := buildMakesRow, standIns := [], harness := (true, "a54f6ae69e3c9b8fd91db1d8f3f86b65b333f1b58c11864f2648d79367852227"), looks := false }, kinds := [], alts := [], laidByText := true, laidKinds := [.data, .data], laidTests := true, laidLooks := .later }
def BuildMakesCardSaid : Prop := Claim7.holds Tryz.pinned (.plain (OpenSpec.ofChange buildMakesSpec)) buildMakesCard

/-- THE TIED CARD OF 'sapwoodlaw13.BuildClimbs'. -/
def buildClimbsCard : Claim7 := { stood := { row := buildClimbsRow, standIns := [], harness := (true, "a54f6ae69e3c9b8fd91db1d8f3f86b65b333f1b58c11864f2648d79367852227"), looks := false }, kinds := [], alts := [], laidByText := true, laidKinds := [.data, .data], laidTests := true, laidLooks := .later }
def BuildClimbsCardSaid : Prop := Claim7.holds Tryz.pinned (.plain (OpenSpec.ofChange buildClimbsSpec)) buildClimbsCard

/-- THE TIED CARD OF 'sapwoodlaw13.BuildOrder'. -/
def buildOrderCard : Claim7 := { stood := { row := buildOrderRow, standIns := [], harness := (true, "a54f6ae69e3c9b8fd91db1d8f3f86b65b333f1b58c11864f2648d79367852227"), looks := false }, kinds := [], alts := [], laidByText := true, laidKinds := [.data, .data], laidTests := true, laidLooks := .later }
def BuildOrderCardSaid : Prop := Claim7.holds Tryz.pinned (.plain (OpenSpec.ofChange buildOrderSpec)) buildOrderCard

/-- THE TIED CARD OF 'sapwoodlaw14.PathMakes'. -/
def pathMakesCard : Claim7 := { stood := { row := pathMakesRow, standIns := [], harness := (true, "a54f6ae69e3c9b8fd91db1d8f3f86b65b333f1b58c11864f2648d79367852227"), looks := false }, kinds := [], alts := [], laidByText := true, laidKinds := [.data, .data], laidTests := true, laidLooks := .later }
def PathMakesCardSaid : Prop := Claim7.holds Tryz.pinned (.plain (OpenSpec.ofChange pathMakesSpec)) pathMakesCard

/-- THE TIED CARD OF 'sapwoodlaw14.PathMeets'. -/
def pathMeetsCard : Claim7 := { stood := { row := pathMeetsRow, standIns := [], harness := (true, "a54f6ae69e3c9b8fd91db1d8f3f86b65b333f1b58c11864f2648d79367852227"), looks := false }, kinds := [], alts := [], laidByText := true, laidKinds := [.data, .data], laidTests := true, laidLooks := .later }
def PathMeetsCardSaid : Prop := Claim7.holds Tryz.pinned (.plain (OpenSpec.ofChange pathMeetsSpec)) pathMeetsCard

/-- THE SECOND FORM's CARD OF 'sapwoodlaw13.BuildMakes'. -/
def buildMakesUptoCard : Claim7 := { stood := { row := buildMakesUptoRow, standIns := [], harness := (true, "a54f6ae69e3c9b8fd91db1d8f3f86b65b333f1b58c11864f2648d79367852227"), looks := false }, kinds := [], alts := [], laidByText := true, laidKinds := [.data, .data], laidTests := true, laidLooks := .later }
def BuildMakesUptoCardSaid : Prop := Claim7.holds Tryz.pinned (.plain (OpenSpec.upto buildMakesSpec)) buildMakesUptoCard

/-- THE SECOND FORM's CARD OF 'sapwoodlaw13.BuildClimbs'. -/
def buildClimbsUptoCard : Claim7 := { stood := { row := buildClimbsUptoRow, standIns := [], harness := (true, "a54f6ae69e3c9b8fd91db1d8f3f86b65b333f1b58c11864f2648d79367852227"), looks := false }, kinds := [], alts := [], laidByText := true, laidKinds := [.data, .data], laidTests := true, laidLooks := .later }
def BuildClimbsUptoCardSaid : Prop := Claim7.holds Tryz.pinned (.plain (OpenSpec.upto buildClimbsSpec)) buildClimbsUptoCard

/-- THE SECOND FORM's CARD OF 'sapwoodlaw13.BuildOrder'. -/
def buildOrderUptoCard : Claim7 := { stood := { row := buildOrderUptoRow, standIns := [], harness := (true, "a54f6ae69e3c9b8fd91db1d8f3f86b65b333f1b58c11864f2648d79367852227"), looks := false }, kinds := [], alts := [], laidByText := true, laidKinds := [.data, .data], laidTests := true, laidLooks := .later }
def BuildOrderUptoCardSaid : Prop := Claim7.holds Tryz.pinned (.plain (OpenSpec.upto buildOrderSpec)) buildOrderUptoCard

/-- THE SECOND FORM's CARD OF 'sapwoodlaw14.PathMakes'. -/
def pathMakesUptoCard : Claim7 := { stood := { row := pathMakesUptoRow, standIns := [], harness := (true, "a54f6ae69e3c9b8fd91db1d8f3f86b65b333f1b58c11864f2648d79367852227"), looks := false }, kinds := [], alts := [], laidByText := true, laidKinds := [.data, .data], laidTests := true, laidLooks := .later }
def PathMakesUptoCardSaid : Prop := Claim7.holds Tryz.pinned (.plain (OpenSpec.upto pathMakesSpec)) pathMakesUptoCard

/-- THE SECOND FORM's CARD OF 'sapwoodlaw14.PathMeets'. -/
def pathMeetsUptoCard : Claim7 := { stood := { row := pathMeetsUptoRow, standIns := [], harness := (true, "a54f6ae69e3c9b8fd91db1d8f3f86b65b333f1b58c11864f2648d79367852227"), looks := false }, kinds := [], alts := [], laidByText := true, laidKinds := [.data, .data], laidTests := true, laidLooks := .later }
def PathMeetsUptoCardSaid : Prop := Claim7.holds Tryz.pinned (.plain (OpenSpec.upto pathMeetsSpec)) pathMeetsUptoCard
end Rows
end Go.Proofs.YtconieddcjpbjaaGreatDoor
