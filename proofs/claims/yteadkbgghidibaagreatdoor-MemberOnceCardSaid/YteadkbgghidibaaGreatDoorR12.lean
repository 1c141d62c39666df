/- R12 -/
import Derived.Test.YteadkbgghidibaaGreatDoorFrame
import Derived.Test.YteadkbgghidibaaGreatDoorR11
import Derived.Test.YteadkbgghidibaaGreatDoorR10
import Derived.Test.YteadkbgghidibaaGreatDoorDh
set_option maxRecDepth 100000
set_option maxHeartbeats 4000000
namespace Go.Proofs.YteadkbgghidibaaGreatDoor
open Go.ChangeShapes Go.WideShapes Go.ChangeAt Go.RowKit
set_option linter.unusedVariables false
set_option linter.unusedSimpArgs false
def K32At (w : World) (oa : Option Addr) (n : Nat) (F : Nat → Nat → Int) : Prop :=
 n = 0 ∨ ∃ ad : Addr, oa = some ad ∧ ∀ w', Below w.heap.size w w' → ∀ j, j < n → ∀ i, i < 32 → w'.cell? (ad.add (j * 32 + i)) = some (.int .u8 (F j i))
theorem K32At.later {w w' : World} {oa : Option Addr} {n : Nat} {F : Nat → Nat → Int} (h : K32At w oa n F) (hb : Below w.heap.size w w') : K32At w' oa n F := by
 rcases h with h | ⟨ad, ho, hl⟩
 ·exact .inl h
 ·exact .inr ⟨ad, ho, fun w'' hb' => hl w'' (Grew.trans hb hb')⟩
theorem K32At.nil (w : World) (F : Nat → Nat → Int) : K32At w none 0 F := .inl rfl
theorem build1k (a : Nat → Int) (W : World) : (Instr.buildSlice 43 1 #[(0, .agg (ints .u8 32 a))]).run Tryz.prog W = .ok (.slice (some ⟨W.heap.size, 0, none⟩) 1 1) (W.alloc (.cells (ints .u8 32 a) 23)) := by kernel_rfl
def buildK1 (v : Value) : Sem Next := do pure (.value (← Instr.buildSlice 43 1 #[(0, v)]))
def buildK2 (u v : Value) : Sem Next := do pure (.value (← Instr.buildSlice 43 2 #[(0, u), (1, v)]))
@[go_sem ↓ high] theorem op_buildK1 (ρ : Operand → Value) (d : Option Tmp) (x : Operand) (t : TypeId) (pos : String) (af : Array Edge) (g : Option (Nat × Bool)) :
  execOp ρ ⟨d, .buildSlice 43 1 #[(0, x)], t, pos, af, g⟩ = buildK1 (ρ x) := by
 unfold execOp buildK1
 simp
@[go_sem high] theorem op_buildK1' (ρ : Operand → Value) (d : Option Tmp) (x : Operand) (t : TypeId) (pos : String) (af : Array Edge) (g : Option (Nat × Bool)) :
  execOp ρ ⟨d, .buildSlice 43 1 #[(0, x)], t, pos, af, g⟩ = buildK1 (ρ x) := op_buildK1 ρ d x t pos af g
@[go_sem ↓ high] theorem op_buildK2 (ρ : Operand → Value) (d : Option Tmp) (x y : Operand) (t : TypeId) (pos : String) (af : Array Edge) (g : Option (Nat × Bool)) :
  execOp ρ ⟨d, .buildSlice 43 2 #[(0, x), (1, y)], t, pos, af, g⟩ = buildK2 (ρ x) (ρ y) := by
 unfold execOp buildK2
 simp
@[go_sem high] theorem op_buildK2' (ρ : Operand → Value) (d : Option Tmp) (x y : Operand) (t : TypeId) (pos : String) (af : Array Edge) (g : Option (Nat × Bool)) :
  execOp ρ ⟨d, .buildSlice 43 2 #[(0, x), (1, y)], t, pos, af, g⟩ = buildK2 (ρ x) (ρ y) := op_buildK2 ρ d x y t pos af g
@[go_sem] theorem run_buildK1 (a : Nat → Int) (W : World) : (buildK1 (.agg (ints .u8 32 a))).run Tryz.prog W = .ok (.value (.slice (some ⟨W.heap.size, 0, none⟩) 1 1)) (W.alloc (.cells (ints .u8 32 a) 23)) := by
 unfold buildK1
 simp only [Sem.run_bind, build1k, Result.andThen_ok, Sem.run_pure]
@[go_sem] theorem run_buildK2 (a b : Nat → Int) (W : World) : (buildK2 (.agg (ints .u8 32 a)) (.agg (ints .u8 32 b))).run Tryz.prog W = .ok (.value (.slice (some ⟨W.heap.size, 0, none⟩) 2 2)) (W.alloc (.cells (ints .u8 64 (rowK (two a b))) 23)) := by
 unfold buildK2
 simp only [Sem.run_bind, build2k, Result.andThen_ok, Sem.run_pure]
attribute [irreducible] buildK1 buildK2
@[go_sem ↓ high] theorem append_keys (ty : TypeId) (cs : Array Bool) (args : Array Value) : builtin .append #[43, 43] ty cs args = appendNext #[43, 43] ty args := by unfold appendNext; rfl
end Go.Proofs.YteadkbgghidibaaGreatDoor
namespace Go.Proofs.YteadkbgghidibaaGreatDoor
open Go.RowKit
set_option linter.unusedVariables false
set_option linter.unusedSimpArgs false
@[go_sem] theorem none_row32 (w : World) : (noneNext 22).run Tryz.prog w = .ok (.value (.agg (ints .u8 32 nought))) w := by kernel_rfl
attribute [local irreducible] nodeF labelF oneF macF shaF strOf keyV shV pubV
end Go.Proofs.YteadkbgghidibaaGreatDoor
