/-
  DERIVED. GIVEN WITH THE SEED: THE CARDS: each row of YtomoccbljclhlaaGreatDoorRows.lean that lists a variable, with what it lists TIED to the program's text (the seventh form; the later family's looks); each row that meets fmt, with fmt's text TOLD by the authors' own Lean function (tested against real Go, not proved from fmt's source: count such statements apart). THE CARD IS WHAT COUNTS. Prove the row's statement (the work); the ties are given (YtomoccbljclhlaaGreatDoorTie.lean); close each card by the builder's one call (the guide's Derived/Test/ToyasCard.lean, 'card_holds'). Laid BY PROGRAM, IN A SANDBOX (cutbox-door.mjs). By AI agents, Wed Nov 11 2026. No macro, syntax, notation, axiom, sorry.
-/
import Derived.Test.YtomoccbljclhlaaGreatDoorRows
import GoSem.ClaimSeven
namespace Go.Proofs.YtomoccbljclhlaaGreatDoor
namespace Rows

/-- THE TIED CARD OF 'sapwoodlaw10.DeriveMakes'. -/
def deriveMakesCard : Claim7 := { stood := { row := deriveMakesRow, standIns := [], harness := (true, "cc19d1034b1596becb7781cbf4016f7b633c0e19d90e7504f422678957289b71"), looks := false }, kinds := [], alts := [], laidByText := true, laidKinds := [.data, .data], laidTests := true, laidLooks := .later }
def DeriveMakesCardSaid : Prop := Claim7.holds Tryz.pinned (.plain (OpenSpec.ofChange deriveMakesSpec)) deriveMakesCard

/-- THE TIED CARD OF 'sapwoodlaw10.DeriveLabels'. -/
def deriveLabelsCard : Claim7 := { stood := { row := deriveLabelsRow, standIns := [], harness := (true, "cc19d1034b1596becb7781cbf4016f7b633c0e19d90e7504f422678957289b71"), looks := false }, kinds := [], alts := [], laidByText := true, laidKinds := [.data, .data], laidTests := true, laidLooks := .later }
def DeriveLabelsCardSaid : Prop := Claim7.holds Tryz.pinned (.plain (OpenSpec.ofChange deriveLabelsSpec)) deriveLabelsCard

/-- THE SECOND FORM's CARD OF 'sapwoodlaw10.DeriveMakes'. -/
def deriveMakesUptoCard : Claim7 := { stood := { row := deriveMakesUptoRow, standIns := [], harness := (true, "cc19d1034b1596becb7781cbf4016f7b633c0e19d90e7504f422678957289b71"), looks := false }, kinds := [], alts := [], laidByText := true, laidKinds := [.data, .data], laidTests := true, laidLooks := .later }
def DeriveMakesUptoCardSaid : Prop := Claim7.holds Tryz.pinned (.plain (OpenSpec.upto deriveMakesSpec)) deriveMakesUptoCard

/-- THE SECOND FORM's CARD OF 'sapwoodlaw10.DeriveLabels'. -/
def deriveLabelsUptoCard : Claim7 := { stood := { row := deriveLabelsUptoRow, standIns := [], harness := (true, "cc19d1034b1596becb7781cbf4016f7b633c0e19d90e7504f422678957289b71"), looks := false }, kinds := [], alts := [], laidByText := true, laidKinds := [.data, .data], laidTests := true, laidLooks := .later }
def DeriveLabelsUptoCardSaid : Prop := Claim7.holds Tryz.pinned (.plain (OpenSpec.upto deriveLabelsSpec)) deriveLabelsUptoCard
end Rows
end Go.Proofs.YtomoccbljclhlaaGreatDoor
