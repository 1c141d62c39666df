/-
For every input the law DrawPlays of layer 24 returns true, and each argument reads afterwards as it read before; the listed tables of package sha and the listed handle of errors' type are tied to the program's text.
-/
import Derived.Test.YteaillmjldoajaaGreatDoorOw
import Derived.Test.YteaillmjldoajaaGreatDoorE15
import Derived.Test.YteaillmjldoajaaGreatDoorDy
namespace Go.Proofs.YteaillmjldoajaaGreatDoor
open Go.ChangeShapes Go.WideShapes Go.ChangeAt Go.RowKit
open Go.ChangeMaps (open_string shut_string)
set_option linter.unusedVariables false
set_option linter.unusedSimpArgs false
theorem drawPlays_card : Rows.DrawPlaysCardSaid :=
 Claim7.holds_tied_plain_at .later [] _ _ _ _ drawPlays_said (fun _ h => by cases h) (by kernel_rfl) (fun _ h => by cases h) drawPlays_row_tie rfl ⟨rfl, rfl⟩ (by kernel_rfl) rfl
  (fun f fn hf hfn => by
   obtain rfl : f = 3 := Option.some.inj (drawPlays_fn.symm.trans hf) |>.symm
   obtain rfl : fn = Tryz.f3 := (Option.some.inj (Tryz.func3.symm.trans hfn)).symm
   exact ⟨by kernel_rfl, fun j t ht => by
    rw [Tryz.params3] at ht
    have hm : t ∈ [22, 23] := by simpa using Array.mem_of_getElem? ht
    have hall : ([22, 23].all fun u => !Tryz.prog.wantsStandIn u) = true := by kernel_rfl
    exact (show Tryz.prog.wantsStandIn t = false by simpa using List.all_eq_true.1 hall t hm)⟩)
  drawPlays_goes
end Go.Proofs.YteaillmjldoajaaGreatDoor
