/- Xx -/
import Derived.Test.YteaillmjldoajaaGreatDoorXq
namespace Go.Proofs.YteaillmjldoajaaGreatDoor
namespace Mc
set_option maxRecDepth 1000000
theorem aw12_KT : KT 283 := run_true aw10_KT.one (by decide +kernel)
theorem aw14_KT : KT 273 := run_true aw12_KT.one (by decide +kernel)
theorem aw15_KT : KT 271 := run_true aw14_KT.one (by decide +kernel)
theorem aw16_KT : KT 269 := run_true aw15_KT.one (by decide +kernel)
theorem aw18_KT : KT 245 := run_true aw16_KT.one (by decide +kernel)
theorem aw19_KT : KT 206 := run_true aw18_KT.one (by decide +kernel)
theorem aw20_KT : KT 111 := run_true aw19_KT.one (by decide +kernel)
theorem aw21_KT : KT 55 := run_true aw20_KT.one (by decide +kernel)
end Mc
end Go.Proofs.YteaillmjldoajaaGreatDoor
