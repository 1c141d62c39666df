/- Wm -/
import Derived.Test.YteaillmjldoajaaGreatDoorL11
import Derived.Test.YteaillmjldoajaaGreatDoorQ9
import Derived.Test.YteaillmjldoajaaGreatDoorE15
import Derived.Test.YteaillmjldoajaaGreatDoorOw
import Derived.Test.YteaillmjldoajaaGreatDoorDh
import Derived.Test.YteaillmjldoajaaGreatDoorBw
import Derived.Test.YteaillmjldoajaaGreatDoorMa
import Derived.Test.YteaillmjldoajaaGreatDoorFrame
namespace Go.Proofs.YteaillmjldoajaaGreatDoor
open Go.RowKit Go.Lib
theorem aw9 (W : World) (h : Tabs W) : Calls Tryz.prog 291 #[] W fun e w' => e = .returned (.bool true) ∧ Below W.heap.size W w' := Awake9_any expandC W h
theorem aw10 (W : World) (h : Tabs W) : Calls Tryz.prog 288 #[] W fun e w' => e = .returned (.bool true) ∧ Below W.heap.size W w' := Awake10_any (fun W h => awake10_any nodeC leafC aw9 W h) W h
end Go.Proofs.YteaillmjldoajaaGreatDoor
