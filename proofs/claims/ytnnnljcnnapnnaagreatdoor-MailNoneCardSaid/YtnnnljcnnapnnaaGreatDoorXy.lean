/- Xy -/
import Derived.Test.YtnnnljcnnapnnaaGreatDoorXx
namespace Go.Proofs.YtnnnljcnnapnnaaGreatDoor
namespace Mc
set_option maxRecDepth 1000000
theorem zqar : KT 194 := run_true zqas.one (by decide +kernel)
end Mc
end Go.Proofs.YtnnnljcnnapnnaaGreatDoor
