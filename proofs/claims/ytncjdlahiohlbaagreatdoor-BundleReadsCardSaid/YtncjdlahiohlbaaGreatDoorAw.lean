/- Aw -/
import Derived.Test.YtncjdlahiohlbaaGreatDoorFrame
import Derived.Test.YtncjdlahiohlbaaGreatDoorNds
import Derived.ChangeSame
import Derived.Test.YtncjdlahiohlbaaGreatDoorR12
import Derived.Test.YtncjdlahiohlbaaGreatDoorRefN
import Derived.Test.YtncjdlahiohlbaaGreatDoorL11
import Derived.Test.YtncjdlahiohlbaaGreatDoorL12
import Derived.Test.YtncjdlahiohlbaaGreatDoorQ9
import Derived.Test.YtncjdlahiohlbaaGreatDoorQ11
import Derived.Test.YtncjdlahiohlbaaGreatDoorQ12
namespace Go.Proofs.YtncjdlahiohlbaaGreatDoor
open Go.ChangeShapes Go.WideShapes Go.ChangeAt Go.RowKit
set_option linter.unusedVariables false
set_option linter.unusedSimpArgs false
end Go.Proofs.YtncjdlahiohlbaaGreatDoor
namespace Go.Proofs.YtncjdlahiohlbaaGreatDoor
open Go.ChangeShapes Go.WideShapes Go.ChangeAt Go.RowKit
set_option linter.unusedVariables false
set_option linter.unusedSimpArgs false
end Go.Proofs.YtncjdlahiohlbaaGreatDoor
namespace Go.Proofs.YtncjdlahiohlbaaGreatDoor
open Go.RowKit
end Go.Proofs.YtncjdlahiohlbaaGreatDoor
namespace Go.Proofs.YtncjdlahiohlbaaGreatDoor
open Go.ChangeShapes Go.WideShapes Go.ChangeAt Go.RowKit
open Go.ChangeMaps (open_string shut_string)
set_option linter.unusedVariables false
set_option linter.unusedSimpArgs false
theorem aw9 (W : World) (h : Tabs W) : Calls Tryz.prog 200 #[] W fun e w' => e = .returned (.bool true) ∧ Below W.heap.size W w' := Awake9_any expandC W h
theorem aw10 (W : World) (h : Tabs W) : Calls Tryz.prog 183 #[] W fun e w' => e = .returned (.bool true) ∧ Below W.heap.size W w' := Awake10_any (fun W h => awake10_any nodeC leafC aw9 W h) W h
theorem aw11 (W : World) (h : Tabs W) : Calls Tryz.prog 177 #[] W fun e w' => e = .returned (.bool true) ∧ Below W.heap.size W w' := awake11_any allC aw10 W h
theorem aw12 (W : World) (h : Tabs W) : Calls Tryz.prog 155 #[] W fun e w' => e = .returned (.bool true) ∧ Below W.heap.size W w' := awake12_any climbC ofC rightC (fun W h => Awake11_any aw11 W h) W h
end Go.Proofs.YtncjdlahiohlbaaGreatDoor
