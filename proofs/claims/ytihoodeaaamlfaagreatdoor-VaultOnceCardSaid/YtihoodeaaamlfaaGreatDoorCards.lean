/-
  DERIVED. GIVEN WITH THE SEED: THE CARDS: each row of YtihoodeaaamlfaaGreatDoorRows.lean that lists a variable, with what it lists TIED to the program's text (the seventh form; the later family's looks); each row that meets fmt, with fmt's text TOLD by the authors' own Lean function (tested against real Go, not proved from fmt's source: count such statements apart). THE CARD IS WHAT COUNTS. Prove the row's statement (the work); the ties are given (YtihoodeaaamlfaaGreatDoorTie.lean); close each card by the builder's one call (the guide's Derived/Test/ToyasCard.lean, 'card_holds'). Laid BY PROGRAM, IN A SANDBOX (cutbox-door.mjs). By AI agents, Wed Nov 11 2026. No macro, syntax, notation, axiom, sorry.
-/
import Derived.Test.YtihoodeaaamlfaaGreatDoorRows
import GoSem.ClaimSeven
namespace Go.Proofs.YtihoodeaaamlfaaGreatDoor
namespace Rows

/-- THE TIED CARD OF 'sapwoodlaw21.VaultOnce'. -/
def vaultOnceCard : Claim7 := { stood := { row := vaultOnceRow, standIns := [], harness := (true, "f3382147ac484c951d4cf7e716cc3c29e863f04829dc6171a467cf1201a6289b"), looks := true }, kinds := [], alts := [], laidByText := true, laidKinds := [.handle, .data, .data], laidTests := true, laidLooks := .later }
def VaultOnceCardSaid : Prop := Claim7.holds Tryz.pinned (.plain (OpenSpec.ofChange vaultOnceSpec)) vaultOnceCard

/-- THE SECOND FORM's CARD OF 'sapwoodlaw21.VaultOnce'. -/
def vaultOnceUptoCard : Claim7 := { stood := { row := vaultOnceUptoRow, standIns := [], harness := (true, "f3382147ac484c951d4cf7e716cc3c29e863f04829dc6171a467cf1201a6289b"), looks := true }, kinds := [], alts := [], laidByText := true, laidKinds := [.handle, .data, .data], laidTests := true, laidLooks := .later }
def VaultOnceUptoCardSaid : Prop := Claim7.holds Tryz.pinned (.plain (OpenSpec.upto vaultOnceSpec)) vaultOnceUptoCard
end Rows
end Go.Proofs.YtihoodeaaamlfaaGreatDoor
