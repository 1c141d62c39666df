/- The reference of layer 7: the words behind a block. -/
import Derived.Test.YtonmancgalencaaGreatDoorOw
import Derived.Test.YtonmancgalencaaGreatDoorSw
namespace Go.Proofs.YtonmancgalencaaGreatDoor
open Go.RowKit
set_option linter.unusedVariables false
set_option linter.unusedSimpArgs false
attribute [local irreducible] strOf shaF zerosB padB fullB hashT
theorem objAt_val {k : IntKind} {w : World} {g : Nat} {x y : Int} {t : TypeId} (h : Full g #[.int k x] t w) (e : x = y) : objAt w g = some (.cells #[.int k y] t) := by subst e; exact h
theorem cell_same {w w' : World} {g i : Nat} {v : Value} (hb : Below w.heap.size w w') (hg : g < w.heap.size) (h : cellOf (objAt w g) i = some v) : cellOf (objAt w' g) i = some v := by
 rw [show objAt w' g = objAt w g from hb.block g hg]; exact h
def BytesAt (w : World) (g o n : Nat) (G : Nat → Int) : Prop := g < w.heap.size ∧ ∀ i, i < n → cellOf (objAt w g) (o + i) = some (.int .u8 (G i))
theorem BytesAt.later {w w' : World} {g o n : Nat} {G : Nat → Int} (h : BytesAt w g o n G) (hb : Below w.heap.size w w') : BytesAt w' g o n G :=
 ⟨Nat.lt_of_lt_of_le h.1 hb.size, fun i hi => cell_same hb h.1 (h.2 i hi)⟩
theorem words_ints {w : World} {g n : Nat} {G : Nat → Int} {t : TypeId} {fr : Nat × Nat} (h : objAt w g = some (.cells (ints .u32 n G) t fr)) : WordsAt w g 0 n G :=
 ⟨lt_of_objAt h, fun i hi => by rw [h, cellOf_cells, Nat.zero_add, ints_get _ _ _ _ hi]⟩
theorem WordsAt.at0 {w : World} {g n : Nat} {G : Nat → Int} (h : WordsAt w g 0 n G) (i : Nat) (hi : i < n) : cellOf (objAt w g) i = some (.int .u32 (G i)) := by
 have := h.2 i hi
 rwa [Nat.zero_add] at this
end Go.Proofs.YtonmancgalencaaGreatDoor
