/- Rs -/
import Derived.Test.YtonmancgalencaaGreatDoorBk
import Derived.Test.YtonmancgalencaaGreatDoorOw
import Derived.Test.YtonmancgalencaaGreatDoorMa
namespace Go.Proofs.YtonmancgalencaaGreatDoor
open Go.RowKit
set_option linter.unusedVariables false
set_option linter.unusedSimpArgs false
attribute [local irreducible] strOf shaF zerosB padB fullB hashT
def WordsSame (f g : Nat → Int) : Prop := ∀ i, i < 8 → f i = g i
theorem WordsAt.same {w : World} {g o : Nat} {G G' : Nat → Int} (h : WordsAt w g o 8 G) (e : WordsSame G' G) : WordsAt w g o 8 G' := ⟨h.1, fun i hi => by rw [e i hi]; exact h.2 i hi⟩
end Go.Proofs.YtonmancgalencaaGreatDoor
namespace Go.Proofs.YtonmancgalencaaGreatDoor
open Go.RowKit
set_option linter.unusedVariables false
set_option linter.unusedSimpArgs false
attribute [local irreducible] strOf shaF zerosB padB fullB hashT
@[go_sem high] theorem slice_row32 (w : World) (g : Nat) : (Instr.sliceAt 23 (.pointer (some ⟨g, 0, none⟩)) none none none).run Tryz.prog w = .ok (.slice (some ⟨g, 0, none⟩) 32 32) w := by kernel_rfl
end Go.Proofs.YtonmancgalencaaGreatDoor
