/- Wm -/
import Derived.Test.YtdoolhbmekahdaaGreatDoorL11
import Derived.Test.YtdoolhbmekahdaaGreatDoorQ9
import Derived.Test.YtdoolhbmekahdaaGreatDoorE15
import Derived.Test.YtdoolhbmekahdaaGreatDoorOw
import Derived.Test.YtdoolhbmekahdaaGreatDoorDh
import Derived.Test.YtdoolhbmekahdaaGreatDoorBw
import Derived.Test.YtdoolhbmekahdaaGreatDoorMa
import Derived.Test.YtdoolhbmekahdaaGreatDoorFrame
namespace Go.Proofs.YtdoolhbmekahdaaGreatDoor
open Go.RowKit Go.Lib
theorem aw9 (W : World) (h : Tabs W) : Calls Tryz.prog 419 #[] W fun e w' => e = .returned (.bool true) ∧ Below W.heap.size W w' := Awake9_any expandC W h
theorem aw10 (W : World) (h : Tabs W) : Calls Tryz.prog 416 #[] W fun e w' => e = .returned (.bool true) ∧ Below W.heap.size W w' := Awake10_any (fun W h => awake10_any nodeC leafC aw9 W h) W h
end Go.Proofs.YtdoolhbmekahdaaGreatDoor
