/- Q12 -/
import Derived.Test.YteadkbgghidibaaGreatDoorL11
import Derived.Shelf.Small.Bits
import Derived.Shelf.SlicesQ.Reverse
import Derived.Test.YteadkbgghidibaaGreatDoorQ9
import Derived.Test.YteadkbgghidibaaGreatDoorRel
import Derived.Test.YteadkbgghidibaaGreatDoorR12
namespace Go.Proofs.YteadkbgghidibaaGreatDoor
open Go.RowKit
set_option linter.unusedVariables false
set_option linter.unusedSimpArgs false
end Go.Proofs.YteadkbgghidibaaGreatDoor
namespace Go.Proofs.YteadkbgghidibaaGreatDoor
open Go.RowKit
set_option linter.unusedVariables false
set_option linter.unusedSimpArgs false
attribute [local irreducible] nodeF labelF oneF macF shaF strOf keyV shV pubV
def KeyRow (w : World) (oa : Option Addr) : Prop := ∀ ad, oa = some ad → ∃ cur fr, objAt w ad.block = some (.cells cur 23 fr)
theorem KeyRow.later {w w' : World} {oa : Option Addr} (h : KeyRow w oa) (hb : Below w.heap.size w w') : KeyRow w' oa := fun ad e => by
 obtain ⟨cur, fr, h1⟩ := h ad e
 exact ⟨cur, fr, keep_below hb h1⟩
def SecAt (w : World) (oa : Option Addr) (n : Nat) (F : Nat → Nat → Int) : Prop := K32At w oa n F ∧ KeyRow w oa
theorem SecAt.later {w w' : World} {oa : Option Addr} {n : Nat} {F : Nat → Nat → Int} (h : SecAt w oa n F) (hb : Below w.heap.size w w') : SecAt w' oa n F := ⟨h.1.later hb, h.2.later hb⟩
end Go.Proofs.YteadkbgghidibaaGreatDoor
namespace Go.Proofs.YteadkbgghidibaaGreatDoor
open Go.RowKit
set_option linter.unusedVariables false
set_option linter.unusedSimpArgs false
section
variable {P : Program} {md : Region.Mode} {ops : Array Oper} {C : World → Prop} {V : Vals} {γ : Nat → Nat} {Q : Exit → Act → World → Prop}
end
end Go.Proofs.YteadkbgghidibaaGreatDoor
namespace Go.Proofs.YteadkbgghidibaaGreatDoor
open Go.RowKit
set_option linter.unusedVariables false
set_option linter.unusedSimpArgs false
section
variable {P : Program} {Q : Exit → Act → World → Prop}
end
end Go.Proofs.YteadkbgghidibaaGreatDoor
namespace Go.Proofs.YteadkbgghidibaaGreatDoor
open Go.RowKit
set_option linter.unusedVariables false
set_option linter.unusedSimpArgs false
@[go_sem] theorem none_kpair (w : World) : (noneNext 143).run Tryz.prog w = .ok (.value (.agg (ints .u8 64 (keysF nought nought)))) w := by kernel_rfl
@[go_sem] theorem none_tree (w : World) : (noneNext 85).run Tryz.prog w = .ok (.value (.agg #[.slice none 0 0])) w := by kernel_rfl
def Row64 (w : World) (g m : Nat) (F : Nat → Nat → Int) : Prop :=
 ∃ cur, objAt w g = some (.cells cur 143 (0, 0)) ∧ m * 64 ≤ cur.size ∧ ∀ j, j < m → ∀ i, i < 64 → cur[j * 64 + i]? = some (.int .u8 (F j i))
theorem Row64.lt {w : World} {g m : Nat} {F : Nat → Nat → Int} (h : Row64 w g m F) : g < w.heap.size := by
 obtain ⟨cur, h, _⟩ := h
 exact lt_of_objAt h
theorem Row64.later {w w' : World} {g m : Nat} {F : Nat → Nat → Int} (h : Row64 w g m F) (hb : Below w.heap.size w w') : Row64 w' g m F := by
 obtain ⟨cur, h, r⟩ := h
 exact ⟨cur, keep_below hb h, r⟩
theorem Row64.cell {w : World} {g m : Nat} {F : Nat → Nat → Int} (h : Row64 w g m F) {j i : Nat} (hj : j < m) (hi : i < 64) : w.cell? ⟨g, j * 64 + i, none⟩ = some (.int .u8 (F j i)) := by
 obtain ⟨cur, h, hs, hc⟩ := h
 unfold objAt at h
 rw [cell_of_row w g _ _ _ _ h, hc j hj i hi]
end Go.Proofs.YteadkbgghidibaaGreatDoor
namespace Go.Proofs.YteadkbgghidibaaGreatDoor
open Go.RowKit
set_option linter.unusedVariables false
set_option linter.unusedSimpArgs false
def Row32 (T : TypeId) (w : World) (g m : Nat) (F : Nat → Nat → Int) : Prop :=
 ∃ cur, objAt w g = some (.cells cur T (0, 0)) ∧ m * 32 ≤ cur.size ∧ ∀ j, j < m → ∀ i, i < 32 → cur[j * 32 + i]? = some (.int .u8 (F j i))
theorem Row32.lt {T : TypeId} {w : World} {g m : Nat} {F : Nat → Nat → Int} (h : Row32 T w g m F) : g < w.heap.size := by
 obtain ⟨cur, h, _⟩ := h
 exact lt_of_objAt h
theorem Row32.later {T : TypeId} {w w' : World} {g m : Nat} {F : Nat → Nat → Int} (h : Row32 T w g m F) (hb : Below w.heap.size w w') : Row32 T w' g m F := by
 obtain ⟨cur, h, r⟩ := h
 exact ⟨cur, keep_below hb h, r⟩
@[go_sem ↓ high] theorem append_pairs (ty : TypeId) (cs : Array Bool) (args : Array Value) : builtin .append #[83, 83] ty cs args = appendNext #[83, 83] ty args := by unfold appendNext; rfl
end Go.Proofs.YteadkbgghidibaaGreatDoor
