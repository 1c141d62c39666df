/- Xt -/
import Derived.Test.YtnnnljcnnapnnaaGreatDoorXy
namespace Go.Proofs.YtnnnljcnnapnnaaGreatDoor
namespace Mc
set_option maxRecDepth 1000000
theorem zqap : KT 86 := run_true zqar.one (by decide +kernel)
theorem zqan : KT 63 := run_true zqap.one (by decide +kernel)
end Mc
end Go.Proofs.YtnnnljcnnapnnaaGreatDoor
