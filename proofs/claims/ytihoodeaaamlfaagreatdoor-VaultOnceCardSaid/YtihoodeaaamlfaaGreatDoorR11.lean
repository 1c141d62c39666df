/- R11 -/
import Derived.Test.YtihoodeaaamlfaaGreatDoorNds
import Derived.Test.YtihoodeaaamlfaaGreatDoorFrame
set_option linter.unusedVariables false
set_option linter.unusedSimpArgs false
namespace Go.Proofs.YtihoodeaaamlfaaGreatDoor
open Go.RowKit
theorem zqam (g j : Nat) : (⟨g, j, none⟩ : Addr) = (⟨g, 0, none⟩ : Addr).add j := by unfold Addr.add; split <;> simp_all
theorem cells_two (a b : Value) : (Value.agg #[a, b]).cells.size = 2 := rfl
theorem ones_two (k k' : IntKind) (a b : Int) : (#[Value.int k a, Value.int k' b] : Array Value).all (·.oneCell') = true := by simp [Value.oneCell']
end Go.Proofs.YtihoodeaaamlfaaGreatDoor
