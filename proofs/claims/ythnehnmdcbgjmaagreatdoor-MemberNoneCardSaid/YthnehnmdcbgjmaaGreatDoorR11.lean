/- R11 -/
import Derived.Test.YthnehnmdcbgjmaaGreatDoorNds
import Derived.Test.YthnehnmdcbgjmaaGreatDoorFrame
namespace Go.Proofs.YthnehnmdcbgjmaaGreatDoor
open Go.RowKit
set_option linter.unusedVariables false
set_option linter.unusedSimpArgs false
@[go_sem ↓ high] theorem append_rnodes (ty : TypeId) (cs : Array Bool) (args : Array Value) : builtin .append #[356, 356] ty cs args = appendNext #[356, 356] ty args := by unfold appendNext; rfl
end Go.Proofs.YthnehnmdcbgjmaaGreatDoor
namespace Go.Proofs.YthnehnmdcbgjmaaGreatDoor
open Go.RowKit
set_option linter.unusedVariables false
set_option linter.unusedSimpArgs false
end Go.Proofs.YthnehnmdcbgjmaaGreatDoor
namespace Go.Proofs.YthnehnmdcbgjmaaGreatDoor
open Go.RowKit
set_option linter.unusedVariables false
set_option linter.unusedSimpArgs false
theorem cells_two (a b : Value) : (Value.agg #[a, b]).cells.size = 2 := rfl
theorem ones_two (k k' : IntKind) (a b : Int) : (#[Value.int k a, Value.int k' b] : Array Value).all (·.oneCell') = true := by simp [Value.oneCell']
theorem zero_rnode (w : World) : (zeroValue 358).run Tryz.prog w = .ok (.agg #[.int .i64 0, .int .i64 0]) w := by kernel_rfl
end Go.Proofs.YthnehnmdcbgjmaaGreatDoor
