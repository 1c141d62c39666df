/-
  DERIVED. GIVEN WITH THE SEED: THE CARDS: each row of YthnehnmdcbgjmaaGreatDoorRows.lean that lists a variable, with what it lists TIED to the program's text (the seventh form; the later family's looks); each row that meets fmt, with fmt's text TOLD by the authors' own Lean function (tested against real Go, not proved from fmt's source: count such statements apart). THE CARD IS WHAT COUNTS. Prove the row's statement (the work); the ties are given (YthnehnmdcbgjmaaGreatDoorTie.lean); close each card by the builder's one call (the guide's Derived/Test/ToyasCard.lean, 'card_holds'). Laid BY PROGRAM, IN A SANDBOX (cutbox-door.mjs). By AI agents, Wed Nov 11 2026. No macro, syntax, notation, axiom, sorry.
-/
import Derived.Test.YthnehnmdcbgjmaaGreatDoorRows
import GoSem.ClaimSeven
namespace Go.Proofs.YthnehnmdcbgjmaaGreatDoor
namespace Rows

/-- THE TIED CARD OF 'sapwoodlaw21.VaultPlays'. -/
def vaultPlaysCard : Claim7 := { stood := { row := vaultPlaysRow, standIns := [], harness := (true, "7c964a1c3293ea26f75fa1cccaa0f249dcedc236e9fa7a70690921f49dd27c90"), looks := true }, kinds := [], alts := [], laidByText := true, laidKinds := [.handle, .data, .data], laidTests := true, laidLooks := .later }
def VaultPlaysCardSaid : Prop := Claim7.holds Tryz.pinned (.plain (OpenSpec.ofChange vaultPlaysSpec)) vaultPlaysCard

/-- THE TIED CARD OF 'sapwoodlaw21.VaultOnce'. -/
def vaultOnceCard : Claim7 := { stood := { row := vaultOnceRow, standIns := [], harness := (true, "7c964a1c3293ea26f75fa1cccaa0f249dcedc236e9fa7a70690921f49dd27c90"), looks := true }, kinds := [], alts := [], laidByText := true, laidKinds := [.handle, .data, .data], laidTests := true, laidLooks := .later }
def VaultOnceCardSaid : Prop := Claim7.holds Tryz.pinned (.plain (OpenSpec.ofChange vaultOnceSpec)) vaultOnceCard

/-- THE TIED CARD OF 'sapwoodlaw22.MemberPlays'. -/
def memberPlaysCard : Claim7 := { stood := { row := memberPlaysRow, standIns := [], harness := (true, "7c964a1c3293ea26f75fa1cccaa0f249dcedc236e9fa7a70690921f49dd27c90"), looks := true }, kinds := [], alts := [], laidByText := true, laidKinds := [.handle, .data, .data], laidTests := true, laidLooks := .later }
def MemberPlaysCardSaid : Prop := Claim7.holds Tryz.pinned (.plain (OpenSpec.ofChange memberPlaysSpec)) memberPlaysCard

/-- THE TIED CARD OF 'sapwoodlaw22.MemberMeets'. -/
def memberMeetsCard : Claim7 := { stood := { row := memberMeetsRow, standIns := [], harness := (true, "7c964a1c3293ea26f75fa1cccaa0f249dcedc236e9fa7a70690921f49dd27c90"), looks := true }, kinds := [], alts := [], laidByText := true, laidKinds := [.handle, .data, .data], laidTests := true, laidLooks := .later }
def MemberMeetsCardSaid : Prop := Claim7.holds Tryz.pinned (.plain (OpenSpec.ofChange memberMeetsSpec)) memberMeetsCard

/-- THE TIED CARD OF 'sapwoodlaw22.MemberNone'. -/
def memberNoneCard : Claim7 := { stood := { row := memberNoneRow, standIns := [], harness := (true, "7c964a1c3293ea26f75fa1cccaa0f249dcedc236e9fa7a70690921f49dd27c90"), looks := true }, kinds := [], alts := [], laidByText := true, laidKinds := [.handle, .data, .data], laidTests := true, laidLooks := .later }
def MemberNoneCardSaid : Prop := Claim7.holds Tryz.pinned (.plain (OpenSpec.ofChange memberNoneSpec)) memberNoneCard

/-- THE TIED CARD OF 'sapwoodlaw22.MemberForks'. -/
def memberForksCard : Claim7 := { stood := { row := memberForksRow, standIns := [], harness := (true, "7c964a1c3293ea26f75fa1cccaa0f249dcedc236e9fa7a70690921f49dd27c90"), looks := true }, kinds := [], alts := [], laidByText := true, laidKinds := [.handle, .data, .data], laidTests := true, laidLooks := .later }
def MemberForksCardSaid : Prop := Claim7.holds Tryz.pinned (.plain (OpenSpec.ofChange memberForksSpec)) memberForksCard

/-- THE TIED CARD OF 'sapwoodlaw22.MemberOnce'. -/
def memberOnceCard : Claim7 := { stood := { row := memberOnceRow, standIns := [], harness := (true, "7c964a1c3293ea26f75fa1cccaa0f249dcedc236e9fa7a70690921f49dd27c90"), looks := true }, kinds := [], alts := [], laidByText := true, laidKinds := [.handle, .data, .data], laidTests := true, laidLooks := .later }
def MemberOnceCardSaid : Prop := Claim7.holds Tryz.pinned (.plain (OpenSpec.ofChange memberOnceSpec)) memberOnceCard

/-- THE SECOND FORM's CARD OF 'sapwoodlaw21.VaultPlays'. -/
def vaultPlaysUptoCard : Claim7 := { stood := { row := vaultPlaysUptoRow, standIns := [], harness := (true, "7c964a1c3293ea26f75fa1cccaa0f249dcedc236e9fa7a70690921f49dd27c90"), looks := true }, kinds := [], alts := [], laidByText := true, laidKinds := [.handle, .data, .data], laidTests := true, laidLooks := .later }
def VaultPlaysUptoCardSaid : Prop := Claim7.holds Tryz.pinned (.plain (OpenSpec.upto vaultPlaysSpec)) vaultPlaysUptoCard

/-- THE SECOND FORM's CARD OF 'sapwoodlaw21.VaultOnce'. -/
def vaultOnceUptoCard : Claim7 := { stood := { row := vaultOnceUptoRow, standIns := [], harness := (true, "7c964a1c3293ea26f75fa1cccaa0f249dcedc236e9fa7a70690921f49dd27c90"), looks := true }, kinds := [], alts := [], laidByText := true, laidKinds := [.handle, .data, .data], laidTests := true, laidLooks := .later }
def VaultOnceUptoCardSaid : Prop := Claim7.holds Tryz.pinned (.plain (OpenSpec.upto vaultOnceSpec)) vaultOnceUptoCard

/-- THE SECOND FORM's CARD OF 'sapwoodlaw22.MemberPlays'. -/
def memberPlaysUptoCard : Claim7 := { stood := { row := memberPlaysUptoRow, standIns := [], harness := (true, "7c964a1c3293ea26f75fa1cccaa0f249dcedc236e9fa7a70690921f49dd27c90"), looks := true }, kinds := [], alts := [], laidByText := true, laidKinds := [.handle, .data, .data], laidTests := true, laidLooks := .later }
def MemberPlaysUptoCardSaid : Prop := Claim7.holds Tryz.pinned (.plain (OpenSpec.upto memberPlaysSpec)) memberPlaysUptoCard

/-- THE SECOND FORM's CARD OF 'sapwoodlaw22.MemberMeets'. -/
def memberMeetsUptoCard : Claim7 := { stood := { row := memberMeetsUptoRow, standIns := [], harness := (true, "7c964a1c3293ea26f75fa1cccaa0f249dcedc236e9fa7a70690921f49dd27c90"), looks := true }, kinds := [], alts := [], laidByText := true, laidKinds := [.handle, .data, .data], laidTests := true, laidLooks := .later }
def MemberMeetsUptoCardSaid : Prop := Claim7.holds Tryz.pinned (.plain (OpenSpec.upto memberMeetsSpec)) memberMeetsUptoCard

/-- THE SECOND FORM's CARD OF 'sapwoodlaw22.MemberNone'. -/
def memberNoneUptoCard : Claim7 := { stood := { row := memberNoneUptoRow, standIns := [], harness := (true, "7c964a1c3293ea26f75fa1cccaa0f249dcedc236e9fa7a70690921f49dd27c90"), looks := true }, kinds := [], alts := [], laidByText := true, laidKinds := [.handle, .data, .data], laidTests := true, laidLooks := .later }
def MemberNoneUptoCardSaid : Prop := Claim7.holds Tryz.pinned (.plain (OpenSpec.upto memberNoneSpec)) memberNoneUptoCard

/-- THE SECOND FORM's CARD OF 'sapwoodlaw22.MemberForks'. -/
def memberForksUptoCard : Claim7 := { stood := { row := memberForksUptoRow, standIns := [], harness := (true, "7c964a1c3293ea26f75fa1cccaa0f249dcedc236e9fa7a70690921f49dd27c90"), looks := true }, kinds := [], alts := [], laidByText := true, laidKinds := [.handle, .data, .data], laidTests := true, laidLooks := .later }
def MemberForksUptoCardSaid : Prop := Claim7.holds Tryz.pinned (.plain (OpenSpec.upto memberForksSpec)) memberForksUptoCard

/-- THE SECOND FORM's CARD OF 'sapwoodlaw22.MemberOnce'. -/
def memberOnceUptoCard : Claim7 := { stood := { row := memberOnceUptoRow, standIns := [], harness := (true, "7c964a1c3293ea26f75fa1cccaa0f249dcedc236e9fa7a70690921f49dd27c90"), looks := true }, kinds := [], alts := [], laidByText := true, laidKinds := [.handle, .data, .data], laidTests := true, laidLooks := .later }
def MemberOnceUptoCardSaid : Prop := Claim7.holds Tryz.pinned (.plain (OpenSpec.upto memberOnceSpec)) memberOnceUptoCard
end Rows
end Go.Proofs.YthnehnmdcbgjmaaGreatDoor
