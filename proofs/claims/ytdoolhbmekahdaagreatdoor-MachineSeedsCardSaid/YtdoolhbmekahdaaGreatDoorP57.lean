/-
The law MachineSeeds of layer 28 returns true for every word and every two numbers; the listed tables, script's words, strconv's errors and the listed handle of errors' type are tied to the program's text.
-/
import Derived.Test.YtdoolhbmekahdaaGreatDoorOw
import Derived.Test.YtdoolhbmekahdaaGreatDoorMo
import Derived.Test.YtdoolhbmekahdaaGreatDoorMr
import Derived.Test.YtdoolhbmekahdaaGreatDoorTt
namespace Go.Proofs.YtdoolhbmekahdaaGreatDoor
open Go.ChangeShapes Go.WideShapes Go.ChangeAt Go.RowKit
open Go.ChangeMaps (open_string shut_string)
set_option linter.unusedVariables false
set_option linter.unusedSimpArgs false
theorem machineSeeds_card : Rows.MachineSeedsCardSaid :=
 Claim7.holds_tied_plain_at .later [] _ _ _ _ machineSeeds_said (fun _ h => by cases h) (by kernel_rfl) (fun _ h => by cases h) machineSeeds_row_tie rfl ⟨rfl, rfl⟩ (by kernel_rfl) rfl
  (fun f fn hf hfn => by
   obtain rfl : f = 3 := Option.some.inj (machineSeeds_fn.symm.trans hf) |>.symm
   obtain rfl : fn = Tryz.f3 := (Option.some.inj (Tryz.func3.symm.trans hfn)).symm
   exact ⟨by kernel_rfl, fun j t ht => by
    rw [Tryz.params3] at ht
    have hm : t ∈ [9, 5, 5] := by simpa using Array.mem_of_getElem? ht
    have hall : ([9, 5, 5].all fun u => !Tryz.prog.wantsStandIn u) = true := by kernel_rfl
    exact (show Tryz.prog.wantsStandIn t = false by simpa using List.all_eq_true.1 hall t hm)⟩)
  machineSeeds_goes
end Go.Proofs.YtdoolhbmekahdaaGreatDoor
