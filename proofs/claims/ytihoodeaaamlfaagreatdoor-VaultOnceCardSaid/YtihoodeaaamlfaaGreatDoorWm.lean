/- Wm -/
import Derived.Test.YtihoodeaaamlfaaGreatDoorL11
import Derived.Test.YtihoodeaaamlfaaGreatDoorQ9
import Derived.Test.YtihoodeaaamlfaaGreatDoorE15
import Derived.Test.YtihoodeaaamlfaaGreatDoorOw
import Derived.Test.YtihoodeaaamlfaaGreatDoorDh
import Derived.Test.YtihoodeaaamlfaaGreatDoorBw
import Derived.Test.YtihoodeaaamlfaaGreatDoorMa
import Derived.Test.YtihoodeaaamlfaaGreatDoorFrame
namespace Go.Proofs.YtihoodeaaamlfaaGreatDoor
open Go.RowKit Go.Lib
theorem aw9 (W : World) (h : Tabs W) : Calls Tryz.prog 208 #[] W (Rt W (.bool true)) := Awake9_any expandC W h
theorem aw10 (W : World) (h : Tabs W) : Calls Tryz.prog 202 #[] W (Rt W (.bool true)) := Awake10_any (fun W h => awake10_any nodeC leafC aw9 W h) W h
end Go.Proofs.YtihoodeaaamlfaaGreatDoor
