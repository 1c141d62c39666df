/- Xx -/
import Derived.Test.YthnehnmdcbgjmaaGreatDoorXq
namespace Go.Proofs.YthnehnmdcbgjmaaGreatDoor
namespace Mc
set_option maxRecDepth 1000000
theorem aw12_KT : KT 377 := run_true aw10_KT.one (by decide +kernel)
theorem aw14_KT : KT 373 := run_true aw12_KT.one (by decide +kernel)
theorem aw15_KT : KT 371 := run_true aw14_KT.one (by decide +kernel)
theorem aw16_KT : KT 368 := run_true aw15_KT.one (by decide +kernel)
theorem aw18_KT : KT 281 := run_true aw16_KT.one (by decide +kernel)
theorem aw19_KT : KT 128 := run_true aw18_KT.one (by decide +kernel)
theorem aw20_KT : KT 47 := run_true aw19_KT.one (by decide +kernel)
theorem aw21_KT : KT 64 := run_true aw20_KT.one (by decide +kernel)
end Mc
end Go.Proofs.YthnehnmdcbgjmaaGreatDoor
