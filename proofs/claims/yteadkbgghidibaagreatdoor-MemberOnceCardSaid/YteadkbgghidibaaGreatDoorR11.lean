/- R11 -/
import Derived.Test.YteadkbgghidibaaGreatDoorNds
import Derived.Test.YteadkbgghidibaaGreatDoorFrame
namespace Go.Proofs.YteadkbgghidibaaGreatDoor
open Go.RowKit
set_option linter.unusedVariables false
set_option linter.unusedSimpArgs false
end Go.Proofs.YteadkbgghidibaaGreatDoor
namespace Go.Proofs.YteadkbgghidibaaGreatDoor
open Go.RowKit
set_option linter.unusedVariables false
set_option linter.unusedSimpArgs false
end Go.Proofs.YteadkbgghidibaaGreatDoor
namespace Go.Proofs.YteadkbgghidibaaGreatDoor
open Go.RowKit
set_option linter.unusedVariables false
set_option linter.unusedSimpArgs false
theorem cells_two (a b : Value) : (Value.agg #[a, b]).cells.size = 2 := rfl
theorem ones_two (k k' : IntKind) (a b : Int) : (#[Value.int k a, Value.int k' b] : Array Value).all (·.oneCell') = true := by simp [Value.oneCell']
end Go.Proofs.YteadkbgghidibaaGreatDoor
