/-
The law MemberNone of layer 22 returns true; the listed tables of package sha and the listed handle of errors' type are tied to the program's text.
-/
import Derived.Test.YthnehnmdcbgjmaaGreatDoorOw
import Derived.Test.YthnehnmdcbgjmaaGreatDoorE15
import Derived.Test.YthnehnmdcbgjmaaGreatDoorPz
namespace Go.Proofs.YthnehnmdcbgjmaaGreatDoor
open Go.ChangeShapes Go.WideShapes Go.ChangeAt Go.RowKit
open Go.ChangeMaps (open_string shut_string)
set_option linter.unusedVariables false
set_option linter.unusedSimpArgs false
theorem memberNone_card : Rows.MemberNoneCardSaid :=
 Claim7.holds_tied_plain_at .later [] _ _ _ _ memberNone_said (fun _ h => by cases h) (by kernel_rfl) (fun _ h => by cases h) memberNone_row_tie rfl ⟨rfl, rfl⟩ (by kernel_rfl) rfl
  (fun f fn hf hfn => by
   obtain rfl : f = 7 := Option.some.inj (memberNone_fn.symm.trans hf) |>.symm
   obtain rfl : fn = Tryz.f7 := (Option.some.inj (Tryz.func7.symm.trans hfn)).symm
   exact ⟨by kernel_rfl, fun j t ht => by
    rw [Tryz.params7] at ht
    simp at ht⟩)
  memberNone_goes
end Go.Proofs.YthnehnmdcbgjmaaGreatDoor
