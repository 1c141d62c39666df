/- Xx -/
import Derived.Test.YtnnnljcnnapnnaaGreatDoorXq
namespace Go.Proofs.YtnnnljcnnapnnaaGreatDoor
namespace Mc
set_option maxRecDepth 1000000
theorem aw12_KT : KT 351 := run_true aw10_KT.one (by decide +kernel)
theorem aw14_KT : KT 346 := run_true aw12_KT.one (by decide +kernel)
theorem aw15_KT : KT 344 := run_true aw14_KT.one (by decide +kernel)
theorem aw16_KT : KT 342 := run_true aw15_KT.one (by decide +kernel)
theorem aw18_KT : KT 338 := run_true aw16_KT.one (by decide +kernel)
theorem aw19_KT : KT 335 := run_true aw18_KT.one (by decide +kernel)
theorem aw20_KT : KT 308 := run_true aw19_KT.one (by decide +kernel)
theorem zqa3 : KT 263 := run_true aw20_KT.one (by decide +kernel)
end Mc
end Go.Proofs.YtnnnljcnnapnnaaGreatDoor
