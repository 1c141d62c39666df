/- Wm -/
import Derived.Test.YthnehnmdcbgjmaaGreatDoorL11
import Derived.Test.YthnehnmdcbgjmaaGreatDoorQ9
import Derived.Test.YthnehnmdcbgjmaaGreatDoorE15
import Derived.Test.YthnehnmdcbgjmaaGreatDoorOw
import Derived.Test.YthnehnmdcbgjmaaGreatDoorDh
import Derived.Test.YthnehnmdcbgjmaaGreatDoorBw
import Derived.Test.YthnehnmdcbgjmaaGreatDoorMa
import Derived.Test.YthnehnmdcbgjmaaGreatDoorFrame
namespace Go.Proofs.YthnehnmdcbgjmaaGreatDoor
open Go.RowKit Go.Lib
theorem aw9 (W : World) (h : Tabs W) : Calls Tryz.prog 385 #[] W fun e w' => e = .returned (.bool true) ∧ Below W.heap.size W w' := Awake9_any expandC W h
theorem aw10 (W : World) (h : Tabs W) : Calls Tryz.prog 382 #[] W fun e w' => e = .returned (.bool true) ∧ Below W.heap.size W w' := Awake10_any (fun W h => awake10_any nodeC leafC aw9 W h) W h
end Go.Proofs.YthnehnmdcbgjmaaGreatDoor
