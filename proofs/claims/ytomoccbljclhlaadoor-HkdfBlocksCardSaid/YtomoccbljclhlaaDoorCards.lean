/-
  DERIVED. GIVEN WITH THE SEED: THE CARDS: each row of YtomoccbljclhlaaDoorRows.lean that lists a variable, with what it lists TIED to the program's text (the seventh form; the later family's looks); each row that meets fmt, with fmt's text TOLD by the authors' own Lean function (tested against real Go, not proved from fmt's source: count such statements apart). THE CARD IS WHAT COUNTS. Prove the row's statement (the work); the ties are given (YtomoccbljclhlaaDoorTie.lean); close each card by the builder's one call (the guide's Derived/Test/ToyasCard.lean, 'card_holds'). Laid BY PROGRAM, IN A SANDBOX (cutbox-door.mjs). By AI agents, Wed Nov 11 2026. No macro, syntax, notation, axiom, sorry.
-/
import Derived.Test.YtomoccbljclhlaaDoorRows
import GoSem.ClaimSeven
namespace Go.Proofs.YtomoccbljclhlaaDoor
namespace Rows

/-- THE TIED CARD OF 'sapwoodlaw09.HkdfMakes'. -/
def hkdfMakesCard : Claim7 := { stood := { row := hkdfMakesRow, standIns := [], harness := (true, "d58eefa2e3f5734bd53aeef0ff6c4d2bcb31c7e03684c65d8cd39c527bb97271"), looks := false }, kinds := [], alts := [], laidByText := true, laidKinds := [.data, .data], laidTests := true, laidLooks := .later }
def HkdfMakesCardSaid : Prop := Claim7.holds Tryd.pinned (.plain (OpenSpec.ofChange hkdfMakesSpec)) hkdfMakesCard

/-- THE TIED CARD OF 'sapwoodlaw09.HkdfBegins'. -/
def hkdfBeginsCard : Claim7 := { stood := { row := hkdfBeginsRow, standIns := [], harness := (true, "d58eefa2e3f5734bd53aeef0ff6c4d2bcb31c7e03684c65d8cd39c527bb97271"), looks := false }, kinds := [], alts := [], laidByText := true, laidKinds := [.data, .data], laidTests := true, laidLooks := .later }
def HkdfBeginsCardSaid : Prop := Claim7.holds Tryd.pinned (.plain (OpenSpec.ofChange hkdfBeginsSpec)) hkdfBeginsCard

/-- THE TIED CARD OF 'sapwoodlaw09.HkdfBlocks'. -/
def hkdfBlocksCard : Claim7 := { stood := { row := hkdfBlocksRow, standIns := [], harness := (true, "d58eefa2e3f5734bd53aeef0ff6c4d2bcb31c7e03684c65d8cd39c527bb97271"), looks := false }, kinds := [], alts := [], laidByText := true, laidKinds := [.data, .data], laidTests := true, laidLooks := .later }
def HkdfBlocksCardSaid : Prop := Claim7.holds Tryd.pinned (.plain (OpenSpec.ofChange hkdfBlocksSpec)) hkdfBlocksCard

/-- THE SECOND FORM's CARD OF 'sapwoodlaw09.HkdfMakes'. -/
def hkdfMakesUptoCard : Claim7 := { stood := { row := hkdfMakesUptoRow, standIns := [], harness := (true, "d58eefa2e3f5734bd53aeef0ff6c4d2bcb31c7e03684c65d8cd39c527bb97271"), looks := false }, kinds := [], alts := [], laidByText := true, laidKinds := [.data, .data], laidTests := true, laidLooks := .later }
def HkdfMakesUptoCardSaid : Prop := Claim7.holds Tryd.pinned (.plain (OpenSpec.upto hkdfMakesSpec)) hkdfMakesUptoCard

/-- THE SECOND FORM's CARD OF 'sapwoodlaw09.HkdfBegins'. -/
def hkdfBeginsUptoCard : Claim7 := { stood := { row := hkdfBeginsUptoRow, standIns := [], harness := (true, "d58eefa2e3f5734bd53aeef0ff6c4d2bcb31c7e03684c65d8cd39c527bb97271"), looks := false }, kinds := [], alts := [], laidByText := true, laidKinds := [.data, .data], laidTests := true, laidLooks := .later }
def HkdfBeginsUptoCardSaid : Prop := Claim7.holds Tryd.pinned (.plain (OpenSpec.upto hkdfBeginsSpec)) hkdfBeginsUptoCard

/-- THE SECOND FORM's CARD OF 'sapwoodlaw09.HkdfBlocks'. -/
def hkdfBlocksUptoCard : Claim7 := { stood := { row := hkdfBlocksUptoRow, standIns := [], harness := (true, "d58eefa2e3f5734bd53aeef0ff6c4d2bcb31c7e03684c65d8cd39c527bb97271"), looks := false }, kinds := [], alts := [], laidByText := true, laidKinds := [.data, .data], laidTests := true, laidLooks := .later }
def HkdfBlocksUptoCardSaid : Prop := Claim7.holds Tryd.pinned (.plain (OpenSpec.upto hkdfBlocksSpec)) hkdfBlocksUptoCard
end Rows
end Go.Proofs.YtomoccbljclhlaaDoor
