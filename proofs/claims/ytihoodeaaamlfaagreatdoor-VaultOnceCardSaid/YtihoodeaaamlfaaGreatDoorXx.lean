/- Xx -/
import Derived.Test.YtihoodeaaamlfaaGreatDoorXq
namespace Go.Proofs.YtihoodeaaamlfaaGreatDoor
namespace Mc
set_option maxRecDepth 1000000
theorem aw12_KT : KT 173 := run_true aw10_KT.one (by decide +kernel)
theorem aw14_KT : KT 128 := run_true aw12_KT.one (by decide +kernel)
theorem aw15_KT : KT 124 := run_true aw14_KT.one (by decide +kernel)
theorem aw16_KT : KT 111 := run_true aw15_KT.one (by decide +kernel)
theorem aw18_KT : KT 52 := run_true aw16_KT.one (by decide +kernel)
theorem aw19_KT : KT 27 := run_true aw18_KT.one (by decide +kernel)
theorem aw20_KT : KT 12 := run_true aw19_KT.one (by decide +kernel)
end Mc
end Go.Proofs.YtihoodeaaamlfaaGreatDoor
