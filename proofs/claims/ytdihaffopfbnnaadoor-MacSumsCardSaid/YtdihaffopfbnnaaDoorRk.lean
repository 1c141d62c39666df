/- The reference of layer 7: the table of words, as a slice. -/
import Derived.Test.YtdihaffopfbnnaaDoorOw
namespace Go.Proofs.YtdihaffopfbnnaaDoor
open Go.RowKit
set_option linter.unusedVariables false
set_option linter.unusedSimpArgs false

set_option maxRecDepth 100000 in
set_option maxHeartbeats 1000000 in
theorem k_any (w : World) : Calls Tryd.prog 44 #[] w fun e w' => e = .returned (.slice (some ⟨w.heap.size, 0, none⟩) 64 64) ∧ objAt w' w.heap.size = some (.cells (ints .u32 64 cubeF) 28) ∧ Below w.heap.size w w' := by
  go_enter Tryd.func44, Tryd.ntmps44
  go_wp2
  go_ret
  refine ⟨rfl, ?_, Grew.alloc (Grew.refl w) _⟩
  have e := objAt_alloc_at w (.cells (ints .u32 64 cubeF) 28) w.heap.size rfl
  refine Eq.trans ?_ e
  congr 3
  kernel_rfl
end Go.Proofs.YtdihaffopfbnnaaDoor
