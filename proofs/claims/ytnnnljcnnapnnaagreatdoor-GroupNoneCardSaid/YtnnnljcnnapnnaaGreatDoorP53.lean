/-
The law GroupNone of layer 26 returns true; the listed tables of package sha and the listed handle of errors' type are tied to the program's text.
-/
import Derived.Test.YtnnnljcnnapnnaaGreatDoorOw
import Derived.Test.YtnnnljcnnapnnaaGreatDoorE15
import Derived.Test.YtnnnljcnnapnnaaGreatDoorZg
set_option linter.unusedVariables false
set_option linter.unusedSimpArgs false
namespace Go.Proofs.YtnnnljcnnapnnaaGreatDoor
open Go.ChangeShapes Go.WideShapes Go.ChangeAt Go.RowKit
open Go.ChangeMaps (open_string shut_string)
theorem groupNone_card : Rows.GroupNoneCardSaid :=
 Claim7.holds_tied_plain_at .later [] _ _ _ _ groupNone_said (fun _ h => by cases h) zqa (fun _ h => by cases h) groupNone_row_tie rfl ⟨rfl, rfl⟩ zqa rfl
  (fun f fn hf hfn => by
   obtain rfl : f = 5 := Option.some.inj (zqq.symm.trans hf) |>.symm
   obtain rfl : fn = Tryz.f5 := (Option.some.inj (Tryz.func5.symm.trans hfn)).symm;exact ⟨by kernel_rfl, fun j t ht => by
    rw [Tryz.params5] at ht
    simp at ht⟩)
  zqj
end Go.Proofs.YtnnnljcnnapnnaaGreatDoor
