/- Xy -/
import Derived.Test.YthnehnmdcbgjmaaGreatDoorXx
namespace Go.Proofs.YthnehnmdcbgjmaaGreatDoor
namespace Mc
set_option maxRecDepth 1000000
theorem aw22_KT : KT 27 := run_true aw21_KT.one (by decide +kernel)
end Mc
end Go.Proofs.YthnehnmdcbgjmaaGreatDoor
