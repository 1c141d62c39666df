/- Xy -/
import Derived.Test.YteaillmjldoajaaGreatDoorXx
namespace Go.Proofs.YteaillmjldoajaaGreatDoor
namespace Mc
set_option maxRecDepth 1000000
theorem aw22_KT : KT 36 := run_true aw21_KT.one (by decide +kernel)
end Mc
end Go.Proofs.YteaillmjldoajaaGreatDoor
