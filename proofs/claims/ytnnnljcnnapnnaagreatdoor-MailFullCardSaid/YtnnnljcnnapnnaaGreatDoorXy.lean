/- Xy -/
import Derived.Test.YtnnnljcnnapnnaaGreatDoorXx
namespace Go.Proofs.YtnnnljcnnapnnaaGreatDoor
namespace Mc
set_option maxRecDepth 1000000
theorem zqa6 : KT 194 := run_true zqa3.one (by decide +kernel)
end Mc
end Go.Proofs.YtnnnljcnnapnnaaGreatDoor
