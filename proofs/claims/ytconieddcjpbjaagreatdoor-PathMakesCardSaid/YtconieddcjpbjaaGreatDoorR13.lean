/- R13 -/
import Derived.Test.YtconieddcjpbjaaGreatDoorR12
import Derived.Test.YtconieddcjpbjaaGreatDoorTrk
import Derived.Test.YtconieddcjpbjaaGreatDoorRel
import Derived.Test.YtconieddcjpbjaaGreatDoorR11
import Derived.Test.YtconieddcjpbjaaGreatDoorQ13
set_option linter.unusedVariables false
set_option linter.unusedSimpArgs false
namespace Go.Proofs.YtconieddcjpbjaaGreatDoor
open Go.RowKit
theorem zq26 (hB : zqt8) (k : Nat -> Int) (W : World) (hk : Bytes 32 k) : Calls Tryz.prog 50 #[.agg (ints .u8 32 k)] W (Rt W (.agg (ints .u8 32 (pubF k)))) := hB k W hk
attribute [local irreducible] zqc4 zqb1 oneF macF shaF strOf keyV shV pubV upF upOK pubF
end Go.Proofs.YtconieddcjpbjaaGreatDoor
namespace Go.Proofs.YtconieddcjpbjaaGreatDoor
open Go.RowKit
attribute [local irreducible] zqc4 zqb1 oneF macF shaF strOf keyV shV pubV upF upOK pubF
end Go.Proofs.YtconieddcjpbjaaGreatDoor
