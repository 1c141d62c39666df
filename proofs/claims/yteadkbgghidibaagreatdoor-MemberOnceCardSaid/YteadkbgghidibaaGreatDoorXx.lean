/- Xx -/
import Derived.Test.YteadkbgghidibaaGreatDoorQv
namespace Go.Proofs.YteadkbgghidibaaGreatDoor
namespace Mc
set_option maxRecDepth 1000000
theorem aw12_KT : KT 260 := run_true aw10_KT.one (by decide +kernel)
theorem aw14_KT : KT 246 := run_true aw12_KT.one (by decide +kernel)
theorem aw15_KT : KT 244 := run_true aw14_KT.one (by decide +kernel)
theorem aw16_KT : KT 242 := run_true aw15_KT.one (by decide +kernel)
theorem aw18_KT : KT 219 := run_true aw16_KT.one (by decide +kernel)
theorem aw19_KT : KT 166 := run_true aw18_KT.one (by decide +kernel)
theorem aw20_KT : KT 69 := run_true aw19_KT.one (by decide +kernel)
theorem aw21_KT : KT 19 := run_true aw20_KT.one (by decide +kernel)
end Mc
end Go.Proofs.YteadkbgghidibaaGreatDoor
namespace Go.Proofs.YteadkbgghidibaaGreatDoor
namespace Mc
set_option maxRecDepth 1000000
theorem aw22_KT : KT 5 := run_true aw21_KT.one (by decide +kernel)
end Mc
end Go.Proofs.YteadkbgghidibaaGreatDoor
