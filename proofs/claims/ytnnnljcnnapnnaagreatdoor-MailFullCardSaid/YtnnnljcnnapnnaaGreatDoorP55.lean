/-
The law MailFull of layer 25 returns true; the listed tables of package sha and the listed handle of errors' type are tied to the program's text.
-/
import Derived.Test.YtnnnljcnnapnnaaGreatDoorOw
import Derived.Test.YtnnnljcnnapnnaaGreatDoorE15
import Derived.Test.YtnnnljcnnapnnaaGreatDoorZr
set_option linter.unusedVariables false
set_option linter.unusedSimpArgs false
namespace Go.Proofs.YtnnnljcnnapnnaaGreatDoor
open Go.ChangeShapes Go.WideShapes Go.ChangeAt Go.RowKit
open Go.ChangeMaps (open_string shut_string)
theorem mailFull_card : Rows.MailFullCardSaid :=
 Claim7.holds_tied_plain_at .later [] _ _ _ _ mailFull_said (fun _ h => by cases h) zqa (fun _ h => by cases h) mailFull_row_tie rfl ⟨rfl, rfl⟩ zqa rfl
  (fun f fn hf hfn => by
   obtain rfl : f = 3 := Option.some.inj (zq7.symm.trans hf) |>.symm
   obtain rfl : fn = Tryz.f3 := (Option.some.inj (Tryz.func3.symm.trans hfn)).symm;exact ⟨by kernel_rfl, fun j t ht => by
    rw [Tryz.params3] at ht
    simp at ht⟩)
  zql
end Go.Proofs.YtnnnljcnnapnnaaGreatDoor
