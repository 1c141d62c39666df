/- Ze -/
import Derived.Test.YtnnnljcnnapnnaaGreatDoorZc
namespace Go.Proofs.YtnnnljcnnapnnaaGreatDoor
namespace Mc
set_option maxRecDepth 1000000
theorem aw26_KT : KT 25 := run_trueG zqar.one (by decide +kernel)
end Mc
end Go.Proofs.YtnnnljcnnapnnaaGreatDoor
