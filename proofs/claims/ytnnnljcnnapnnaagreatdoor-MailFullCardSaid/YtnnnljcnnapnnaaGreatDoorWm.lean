/- Wm -/
import Derived.Test.YtnnnljcnnapnnaaGreatDoorL11
import Derived.Test.YtnnnljcnnapnnaaGreatDoorQ9
import Derived.Test.YtnnnljcnnapnnaaGreatDoorE15
import Derived.Test.YtnnnljcnnapnnaaGreatDoorOw
import Derived.Test.YtnnnljcnnapnnaaGreatDoorDh
import Derived.Test.YtnnnljcnnapnnaaGreatDoorBw
import Derived.Test.YtnnnljcnnapnnaaGreatDoorMa
import Derived.Test.YtnnnljcnnapnnaaGreatDoorFrame
namespace Go.Proofs.YtnnnljcnnapnnaaGreatDoor
open Go.RowKit Go.Lib
theorem aw9 (W : World) (h : Tabs W) : Calls Tryz.prog 359 #[] W (Rt W (.bool true)) := Awake9_any expandC W h
theorem aw10 (W : World) (h : Tabs W) : Calls Tryz.prog 356 #[] W (Rt W (.bool true)) := Awake10_any (fun W h => awake10_any nodeC leafC aw9 W h) W h
end Go.Proofs.YtnnnljcnnapnnaaGreatDoor
