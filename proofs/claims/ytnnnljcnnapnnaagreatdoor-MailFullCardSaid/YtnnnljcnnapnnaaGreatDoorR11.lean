/- R11 -/
import Derived.Test.YtnnnljcnnapnnaaGreatDoorNds
import Derived.Test.YtnnnljcnnapnnaaGreatDoorFrame
set_option linter.unusedVariables false
set_option linter.unusedSimpArgs false
namespace Go.Proofs.YtnnnljcnnapnnaaGreatDoor
open Go.RowKit
theorem cells_two (a b : Value) : (Value.agg #[a, b]).cells.size = 2 := rfl
theorem ones_two (k k' : IntKind) (a b : Int) : (#[Value.int k a, Value.int k' b] : Array Value).all (·.oneCell') = true := by simp [Value.oneCell']
end Go.Proofs.YtnnnljcnnapnnaaGreatDoor
