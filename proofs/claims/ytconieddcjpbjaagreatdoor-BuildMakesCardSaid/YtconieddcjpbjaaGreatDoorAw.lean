/- Aw -/
import Derived.Test.YtconieddcjpbjaaGreatDoorL11
import Derived.Test.YtconieddcjpbjaaGreatDoorL12
import Derived.Test.YtconieddcjpbjaaGreatDoorQ9
import Derived.Test.YtconieddcjpbjaaGreatDoorQ11
import Derived.Test.YtconieddcjpbjaaGreatDoorQ12
namespace Go.Proofs.YtconieddcjpbjaaGreatDoor
open Go.ChangeShapes Go.WideShapes Go.ChangeAt Go.RowKit
open Go.ChangeMaps (open_string shut_string)
set_option linter.unusedVariables false
set_option linter.unusedSimpArgs false
theorem aw9 (W : World) (h : Tabs W) : Calls Tryz.prog 159 #[] W fun e w' => e = .returned (.bool true) ∧ Below W.heap.size W w' := zqvc expandC W h
theorem aw10 (W : World) (h : Tabs W) : Calls Tryz.prog 120 #[] W fun e w' => e = .returned (.bool true) ∧ Below W.heap.size W w' := zqr6 (fun W h => zqs5 nodeC leafC aw9 W h) W h
theorem aw11 (W : World) (h : Tabs W) : Calls Tryz.prog 102 #[] W fun e w' => e = .returned (.bool true) ∧ Below W.heap.size W w' := zqs9 allC aw10 W h
theorem aw12 (W : World) (h : Tabs W) : Calls Tryz.prog 70 #[] W fun e w' => e = .returned (.bool true) ∧ Below W.heap.size W w' := zqtd climbC ofC rightC (fun W h => zqta aw11 W h) W h
end Go.Proofs.YtconieddcjpbjaaGreatDoor
