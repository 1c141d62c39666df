/-
The law DrawNone of layer 24 returns true; the listed tables of package sha and the listed handle of errors' type are tied to the program's text.
-/
import Derived.Test.YteaillmjldoajaaGreatDoorOw
import Derived.Test.YteaillmjldoajaaGreatDoorE15
import Derived.Test.YteaillmjldoajaaGreatDoorDz
namespace Go.Proofs.YteaillmjldoajaaGreatDoor
open Go.ChangeShapes Go.WideShapes Go.ChangeAt Go.RowKit
open Go.ChangeMaps (open_string shut_string)
set_option linter.unusedVariables false
set_option linter.unusedSimpArgs false
theorem drawNone_card : Rows.DrawNoneCardSaid :=
 Claim7.holds_tied_plain_at .later [] _ _ _ _ drawNone_said (fun _ h => by cases h) (by kernel_rfl) (fun _ h => by cases h) drawNone_row_tie rfl ⟨rfl, rfl⟩ (by kernel_rfl) rfl
  (fun f fn hf hfn => by
   obtain rfl : f = 4 := Option.some.inj (drawNone_fn.symm.trans hf) |>.symm
   obtain rfl : fn = Tryz.f4 := (Option.some.inj (Tryz.func4.symm.trans hfn)).symm
   exact ⟨by kernel_rfl, fun j t ht => by
    rw [Tryz.params4] at ht
    simp at ht⟩)
  drawNone_goes
end Go.Proofs.YteaillmjldoajaaGreatDoor
