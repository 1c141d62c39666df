/- Ow -/
import Derived.Test.YtnjghcnhcbobhaaGreatDoorSi
import Derived.Lib.AppendStr
import Derived.Deep.AppendLies
import Derived.Test.YtnjghcnhcbobhaaGreatDoorRel
import Derived.Test.YtnjghcnhcbobhaaGreatDoorSw
namespace Go.Proofs.YtnjghcnhcbobhaaGreatDoor
open Go.RowKit Go.Lib
set_option linter.unusedVariables false
set_option linter.unusedSimpArgs false
theorem grown_of_below' {w w' : World} (hb : Below w.heap.size w w') : w.grownBy w' none := ⟨hb.os, hb.tape, hb.output, hb.size, fun k hk _ => hb.block k hk⟩
theorem own_later {w w' : World} {base : Nat} {e : TypeId} {size : Nat} {v : Value} {n : Nat} {xs : List Value} (h : w.ownsRow base e size v n xs) (hb : Below w.heap.size w w') : w'.ownsRow base e size v n xs :=
 h.kept (grown_of_below' hb) (by cases v.ownBlock <;> simp)
@[go_sem ↓ high] theorem append_text (ty : TypeId) (cs : Array Bool) (args : Array Value) : builtin .append #[144, 9] ty cs args = appendNext #[144, 9] ty args := by unfold appendNext; rfl
@[go_sem ↓ high] theorem append_words (ty : TypeId) (cs : Array Bool) (args : Array Value) : builtin .append #[228, 228] ty cs args = appendNext #[228, 228] ty args := by unfold appendNext; rfl
theorem build1b (x : Int) (W : World) : (Instr.buildSlice 144 1 #[(0, .int .u8 x)]).run Tryz.prog W = .ok (.slice (some ⟨W.heap.size, 0, none⟩) 1 1) (W.alloc (.cells #[.int .u8 x] 5)) := by kernel_rfl
theorem build1w (x : Int) (W : World) : (Instr.buildSlice 228 1 #[(0, .int .u32 x)]).run Tryz.prog W = .ok (.slice (some ⟨W.heap.size, 0, none⟩) 1 1) (W.alloc (.cells #[.int .u32 x] 22)) := by kernel_rfl
def buildB1 (v : Value) : Sem Next := do pure (.value (← Instr.buildSlice 144 1 #[(0, v)]))
@[go_sem ↓ high] theorem op_buildB1 (ρ : Operand → Value) (d : Option Tmp) (x : Operand) (t : TypeId) (pos : String) (af : Array Edge) (g : Option (Nat × Bool)) :
  execOp ρ ⟨d, .buildSlice 144 1 #[(0, x)], t, pos, af, g⟩ = buildB1 (ρ x) := by
 unfold execOp buildB1
 simp
@[go_sem high] theorem op_buildB1' (ρ : Operand → Value) (d : Option Tmp) (x : Operand) (t : TypeId) (pos : String) (af : Array Edge) (g : Option (Nat × Bool)) :
  execOp ρ ⟨d, .buildSlice 144 1 #[(0, x)], t, pos, af, g⟩ = buildB1 (ρ x) := op_buildB1 ρ d x t pos af g
@[go_sem] theorem run_buildB1 (x : Int) (W : World) : (buildB1 (.int .u8 x)).run Tryz.prog W = .ok (.value (.slice (some ⟨W.heap.size, 0, none⟩) 1 1)) (W.alloc (.cells #[.int .u8 x] 5)) := by
 unfold buildB1
 simp only [Sem.run_bind, build1b, Result.andThen_ok, Sem.run_pure]
def buildW1 (v : Value) : Sem Next := do pure (.value (← Instr.buildSlice 228 1 #[(0, v)]))
@[go_sem ↓ high] theorem op_buildW1 (ρ : Operand → Value) (d : Option Tmp) (x : Operand) (t : TypeId) (pos : String) (af : Array Edge) (g : Option (Nat × Bool)) :
  execOp ρ ⟨d, .buildSlice 228 1 #[(0, x)], t, pos, af, g⟩ = buildW1 (ρ x) := by
 unfold execOp buildW1
 simp
@[go_sem high] theorem op_buildW1' (ρ : Operand → Value) (d : Option Tmp) (x : Operand) (t : TypeId) (pos : String) (af : Array Edge) (g : Option (Nat × Bool)) :
  execOp ρ ⟨d, .buildSlice 228 1 #[(0, x)], t, pos, af, g⟩ = buildW1 (ρ x) := op_buildW1 ρ d x t pos af g
@[go_sem] theorem run_buildW1 (x : Int) (W : World) : (buildW1 (.int .u32 x)).run Tryz.prog W = .ok (.value (.slice (some ⟨W.heap.size, 0, none⟩) 1 1)) (W.alloc (.cells #[.int .u32 x] 22)) := by
 unfold buildW1
 simp only [Sem.run_bind, build1w, Result.andThen_ok, Sem.run_pure]
attribute [irreducible] buildB1 buildW1
end Go.Proofs.YtnjghcnhcbobhaaGreatDoor
namespace Go.Proofs.YtnjghcnhcbobhaaGreatDoor
open Go.RowKit
set_option linter.unusedVariables false
set_option linter.unusedSimpArgs false
attribute [local irreducible] strOf shaF zerosB padB fullB hashT
end Go.Proofs.YtnjghcnhcbobhaaGreatDoor
namespace Go.Proofs.YtnjghcnhcbobhaaGreatDoor
open Go.RowKit
set_option linter.unusedVariables false
set_option linter.unusedSimpArgs false
end Go.Proofs.YtnjghcnhcbobhaaGreatDoor
namespace Go.Proofs.YtnjghcnhcbobhaaGreatDoor
open Go.RowKit Go.Lib
set_option linter.unusedVariables false
set_option linter.unusedSimpArgs false
section
variable {ops : Array Oper} {o : Oper} {a : Act} {K : Act → World → Prop} {Q : Exit → Act → World → Prop} {E : Prop}
end
section
variable {ops : Array Oper} {o : Oper} {a : Act} {K : Act → World → Prop} {Q : Exit → Act → World → Prop} {E : Prop}
end
def WordsAt (w : World) (g o n : Nat) (G : Nat → Int) : Prop := g < w.heap.size ∧ ∀ i, i < n → cellOf (objAt w g) (o + i) = some (.int .u32 (G i))
theorem WordsAt.later {w w' : World} {g o n : Nat} {G : Nat → Int} (h : WordsAt w g o n G) (hb : Below w.heap.size w w') : WordsAt w' g o n G := by
 refine ⟨Nat.lt_of_lt_of_le h.1 hb.size, fun i hi => ?_⟩
 rw [show objAt w' g = objAt w g from hb.block g h.1]
 exact h.2 i hi
end Go.Proofs.YtnjghcnhcbobhaaGreatDoor
