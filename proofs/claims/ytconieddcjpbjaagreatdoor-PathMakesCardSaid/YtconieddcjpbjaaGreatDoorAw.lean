/- Aw -/
import Derived.Test.YtconieddcjpbjaaGreatDoorL11
import Derived.Test.YtconieddcjpbjaaGreatDoorL12
import Derived.Test.YtconieddcjpbjaaGreatDoorQ9
import Derived.Test.YtconieddcjpbjaaGreatDoorQ11
import Derived.Test.YtconieddcjpbjaaGreatDoorQ12
set_option linter.unusedVariables false
set_option linter.unusedSimpArgs false
namespace Go.Proofs.YtconieddcjpbjaaGreatDoor
open Go.ChangeShapes Go.WideShapes Go.ChangeAt Go.RowKit
open Go.ChangeMaps (open_string shut_string)
theorem aw9 (W : World) (h : Tabs W) : Calls Tryz.prog 159 #[] W (Rt W (.bool true)) := zqy4 zrd5 W h
theorem aw10 (W : World) (h : Tabs W) : Calls Tryz.prog 120 #[] W (Rt W (.bool true)) := zqvg (fun W h => zqvj zrk8 zrkq aw9 W h) W h
theorem aw11 (W : World) (h : Tabs W) : Calls Tryz.prog 102 #[] W (Rt W (.bool true)) := zqvm allC aw10 W h
theorem aw12 (W : World) (h : Tabs W) : Calls Tryz.prog 70 #[] W (Rt W (.bool true)) := zqus zrgv ofC zrgn (fun W h => zquw aw11 W h) W h
end Go.Proofs.YtconieddcjpbjaaGreatDoor
