/-
The law MemberOnce of layer 22 returns true for every three keys; the listed tables of package sha and the listed handle of errors' type are tied to the program's text.
-/
import Derived.Test.YteadkbgghidibaaGreatDoorOw
import Derived.Test.YteadkbgghidibaaGreatDoorE15
import Derived.Test.YteadkbgghidibaaGreatDoorQ1
namespace Go.Proofs.YteadkbgghidibaaGreatDoor
open Go.ChangeShapes Go.WideShapes Go.ChangeAt Go.RowKit
open Go.ChangeMaps (open_string shut_string)
set_option linter.unusedVariables false
set_option linter.unusedSimpArgs false
theorem memberOnce_card : Rows.MemberOnceCardSaid :=
 Claim7.holds_tied_plain_at .later [] _ _ _ _ memberOnce_said (fun _ h => by cases h) (by kernel_rfl) (fun _ h => by cases h) memberOnce_row_tie rfl ⟨rfl, rfl⟩ (by kernel_rfl) rfl
  (fun f fn hf hfn => by
   obtain rfl : f = 4 := Option.some.inj (memberOnce_fn.symm.trans hf) |>.symm
   obtain rfl : fn = Tryz.f4 := (Option.some.inj (Tryz.func4.symm.trans hfn)).symm
   exact ⟨by kernel_rfl, fun j t ht => by
    rw [Tryz.params4] at ht
    have hm : t ∈ [23, 23, 23] := by simpa using Array.mem_of_getElem? ht
    have hall : ([23, 23, 23].all fun u => !Tryz.prog.wantsStandIn u) = true := by kernel_rfl
    exact (show Tryz.prog.wantsStandIn t = false by simpa using List.all_eq_true.1 hall t hm)⟩)
  memberOnce_goes
end Go.Proofs.YteadkbgghidibaaGreatDoor
