/- Xx -/
import Derived.Test.YtdoolhbmekahdaaGreatDoorXq
namespace Go.Proofs.YtdoolhbmekahdaaGreatDoor
namespace Mc
set_option maxRecDepth 1000000
theorem aw12_KT : KT 411 := run_true aw10_KT.one (by decide +kernel)
theorem aw14_KT : KT 407 := run_true aw12_KT.one (by decide +kernel)
theorem aw15_KT : KT 405 := run_true aw14_KT.one (by decide +kernel)
theorem aw16_KT : KT 403 := run_true aw15_KT.one (by decide +kernel)
theorem aw18_KT : KT 399 := run_true aw16_KT.one (by decide +kernel)
theorem aw19_KT : KT 397 := run_true aw18_KT.one (by decide +kernel)
theorem aw20_KT : KT 394 := run_true aw19_KT.one (by decide +kernel)
theorem aw21_KT : KT 389 := run_true aw20_KT.one (by decide +kernel)
end Mc
end Go.Proofs.YtdoolhbmekahdaaGreatDoor
namespace Go.Proofs.YtdoolhbmekahdaaGreatDoor
namespace Mc
set_option maxRecDepth 1000000
theorem aw22_KT : KT 376 := run_true aw21_KT.one (by decide +kernel)
end Mc
end Go.Proofs.YtdoolhbmekahdaaGreatDoor
