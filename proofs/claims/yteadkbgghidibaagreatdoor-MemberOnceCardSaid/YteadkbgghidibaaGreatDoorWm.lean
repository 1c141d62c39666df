/- Wm -/
import Derived.Test.YteadkbgghidibaaGreatDoorL11
import Derived.Test.YteadkbgghidibaaGreatDoorQ9
import Derived.Test.YteadkbgghidibaaGreatDoorE15
import Derived.Test.YteadkbgghidibaaGreatDoorOw
import Derived.Test.YteadkbgghidibaaGreatDoorDh
import Derived.Test.YteadkbgghidibaaGreatDoorBw
import Derived.Test.YteadkbgghidibaaGreatDoorMa
import Derived.Test.YteadkbgghidibaaGreatDoorFrame
namespace Go.Proofs.YteadkbgghidibaaGreatDoor
open Go.RowKit Go.Lib
theorem aw9 (W : World) (h : Tabs W) : Calls Tryz.prog 268 #[] W fun e w' => e = .returned (.bool true) ∧ Below W.heap.size W w' := Awake9_any expandC W h
theorem aw10 (W : World) (h : Tabs W) : Calls Tryz.prog 265 #[] W fun e w' => e = .returned (.bool true) ∧ Below W.heap.size W w' := Awake10_any (fun W h => awake10_any nodeC leafC aw9 W h) W h
end Go.Proofs.YteadkbgghidibaaGreatDoor
