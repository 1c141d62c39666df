/- Aw -/
import Derived.Test.YtnjghcnhcbobhaaGreatDoorFrame
import Derived.Test.YtnjghcnhcbobhaaGreatDoorNds
import Derived.ChangeSame
import Derived.Test.YtnjghcnhcbobhaaGreatDoorR12
import Derived.Test.YtnjghcnhcbobhaaGreatDoorRefN
import Derived.Test.YtnjghcnhcbobhaaGreatDoorL11
import Derived.Test.YtnjghcnhcbobhaaGreatDoorL12
import Derived.Test.YtnjghcnhcbobhaaGreatDoorQ9
import Derived.Test.YtnjghcnhcbobhaaGreatDoorQ11
import Derived.Test.YtnjghcnhcbobhaaGreatDoorQ12
namespace Go.Proofs.YtnjghcnhcbobhaaGreatDoor
open Go.ChangeShapes Go.WideShapes Go.ChangeAt Go.RowKit
set_option linter.unusedVariables false
set_option linter.unusedSimpArgs false
end Go.Proofs.YtnjghcnhcbobhaaGreatDoor
namespace Go.Proofs.YtnjghcnhcbobhaaGreatDoor
open Go.ChangeShapes Go.WideShapes Go.ChangeAt Go.RowKit
set_option linter.unusedVariables false
set_option linter.unusedSimpArgs false
end Go.Proofs.YtnjghcnhcbobhaaGreatDoor
namespace Go.Proofs.YtnjghcnhcbobhaaGreatDoor
open Go.RowKit
end Go.Proofs.YtnjghcnhcbobhaaGreatDoor
namespace Go.Proofs.YtnjghcnhcbobhaaGreatDoor
open Go.ChangeShapes Go.WideShapes Go.ChangeAt Go.RowKit
open Go.ChangeMaps (open_string shut_string)
set_option linter.unusedVariables false
set_option linter.unusedSimpArgs false
theorem aw9 (W : World) (h : Tabs W) : Calls Tryz.prog 239 #[] W fun e w' => e = .returned (.bool true) ∧ Below W.heap.size W w' := Awake9_any expandC W h
theorem aw10 (W : World) (h : Tabs W) : Calls Tryz.prog 233 #[] W fun e w' => e = .returned (.bool true) ∧ Below W.heap.size W w' := Awake10_any (fun W h => awake10_any nodeC leafC aw9 W h) W h
theorem aw11 (W : World) (h : Tabs W) : Calls Tryz.prog 229 #[] W fun e w' => e = .returned (.bool true) ∧ Below W.heap.size W w' := awake11_any allC aw10 W h
theorem aw12 (W : World) (h : Tabs W) : Calls Tryz.prog 211 #[] W fun e w' => e = .returned (.bool true) ∧ Below W.heap.size W w' := awake12_any climbC ofC rightC (fun W h => Awake11_any aw11 W h) W h
end Go.Proofs.YtnjghcnhcbobhaaGreatDoor
