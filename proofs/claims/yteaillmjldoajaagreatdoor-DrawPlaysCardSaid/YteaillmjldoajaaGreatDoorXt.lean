/- Xt -/
import Derived.Test.YteaillmjldoajaaGreatDoorXy
namespace Go.Proofs.YteaillmjldoajaaGreatDoor
namespace Mc
set_option maxRecDepth 1000000
theorem aw23_KT : KT 17 := run_true aw22_KT.one (by decide +kernel)
theorem aw24_KT : KT 5 := run_true aw23_KT.one (by decide +kernel)
end Mc
end Go.Proofs.YteaillmjldoajaaGreatDoor
