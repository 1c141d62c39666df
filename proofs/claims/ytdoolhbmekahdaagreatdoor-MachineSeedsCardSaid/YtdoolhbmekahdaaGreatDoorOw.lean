/- Ow -/
import Derived.Test.YtdoolhbmekahdaaGreatDoorFrame
import Derived.Test.YtdoolhbmekahdaaGreatDoorSt
import Derived.Test.YtdoolhbmekahdaaGreatDoorCards
import Derived.ProofKit
import Derived.LaidMore
import Derived.Lay
import Derived.SevenTiedAt
import Derived.Stop.Joined
import Derived.Test.YtdoolhbmekahdaaGreatDoorSi
import Derived.Lib.AppendStr
import Derived.Deep.AppendLies
import Derived.Test.YtdoolhbmekahdaaGreatDoorRel
import Derived.Test.YtdoolhbmekahdaaGreatDoorSw
namespace Go.Proofs.YtdoolhbmekahdaaGreatDoor
open Go.ChangeShapes Go.WideShapes Go.ChangeAt Go.RowKit
open Go.ChangeMaps (open_string shut_string)
set_option linter.unusedVariables false
set_option linter.unusedSimpArgs false
theorem open_table {enc : TypeId × Value → Unit} {P : Program} {W : World} {base : Nat} {sp : Nat → Bool} {held : Bool} {t e : TypeId} {n fuel : Nat} {cs : Array Value} {l : List Int} {p : List MemPlace}
  (hu : P.underlying t = some (.array n e)) (he : P.underlying e = some (.int .u32)) (hc : P.cellsOf e = 1) (hs : P.cellsOf t = n)
  (h : DataW.trod enc P W base sp held fuel t cs.toList = some (.agg (l.map fun z => .lit (.int .u32 z)), p)) : cs = ints .u32 n (fun i => l.getD i 0) := by
 obtain ⟨xs, m, _, hx, hlen, hn, hel⟩ := DataW.trod_array hu h
 simp only [Prod.mk.injEq, DataW.agg.injEq] at hx
 have hsz : cs.size = n := by rw [← hs]; simpa using hlen
 apply Array.ext_getElem?
 intro i
 by_cases hi : i < n
 ·rw [ints_get _ _ _ _ hi]
  have h1 := hel i hi
  rw [hc, Nat.mul_one, List.getElem?_eq_getElem (by omega)] at h1
  obtain ⟨z, e1, e2, _⟩ := DataW.trod_int he h1
  have e3 := congrArg (fun l => l[i]?) hx.1
  simp only [List.getElem?_map] at e3
  rw [List.getElem?_eq_getElem (by omega : i < xs.length), e2] at e3
  cases hl : l[i]? with
  | none => rw [hl] at e3; simp at e3
  | some y =>
   rw [hl] at e3
   simp only [Option.map_some, Option.some.injEq, DataW.lit.injEq, Lit.int.injEq, true_and] at e3
   rw [List.getD_eq_getElem?_getD, hl, Option.getD_some, e3]
   have h2 : ((cs.toList.drop i).take 1)[0]? = some (.int .u32 z) := by rw [e1]; rfl
   simpa using h2
 ·rw [Array.getElem?_eq_none (by omega), Array.getElem?_eq_none (by rw [ints_size]; omega)]
theorem obj_of_var {P : Program} {W : World} {nm : String} {g : Nat} {cs : Array Value} (hg : P.globalNamed nm = some g) (hv : W.var? P nm = some cs) (hf : ∀ c t fr, W.heap[g]? = some (.cells c t fr) → fr = (0, 0)) : ∃ t, objAt W g = some (.cells cs t (0, 0)) := by
 unfold World.var? at hv
 rw [hg] at hv
 simp only [Option.bind_some] at hv
 split at hv
 ·rename_i c t fr hh
  obtain rfl := Option.some.inj hv
  obtain rfl := hf _ _ _ hh
  exact ⟨t, hh⟩
 ·cases hv
theorem tabs_of_laid {W : World} (h : laidMetH Tryz.prog [("sapwood/sha.square", Rows.laid_sapwood_sha_square), ("sapwood/sha.cube", Rows.laid_sapwood_sha_cube)] W) : Tabs W := by
 rw [MakeChecks.laidMetH_plain _ _ _ (by kernel_rfl)] at h
 obtain ⟨ps, ⟨g0, t0, cs0, f0, p0, q0, hg0, ht0, hv0, hd0, ⟨g1, t1, cs1, f1, p1, q1, hg1, ht1, hv1, hd1, hq1, hq0⟩, hps⟩, _, hcell⟩ := h
 have G0 : Tryz.prog.globalNamed "sapwood/sha.square" = some 1 := by kernel_rfl
 have G1 : Tryz.prog.globalNamed "sapwood/sha.cube" = some 4 := by kernel_rfl
 obtain rfl := Option.some.inj (G0.symm.trans hg0)
 obtain rfl := Option.some.inj (G1.symm.trans hg1)
 have T0 : (Tryz.prog.globals[1]?).map (·.type) = some 126 := by kernel_rfl
 have T1 : (Tryz.prog.globals[4]?).map (·.type) = some 261 := by kernel_rfl
 obtain rfl := Option.some.inj (T0.symm.trans ht0)
 obtain rfl := Option.some.inj (T1.symm.trans ht1)
 have e0 := open_table (l := squareL) Tryz.underlying126 Tryz.underlying71 (by kernel_rfl) (by kernel_rfl) hd0
 have e1 := open_table (l := cubeL) Tryz.underlying261 Tryz.underlying71 (by kernel_rfl) (by kernel_rfl) hd1
 subst e0
 subst e1
 refine ⟨obj_of_var G0 hv0 fun c t fr hh => ?_, obj_of_var G1 hv1 fun c t fr hh => ?_⟩
 ·have hm : MemPlace.cell 1 0 ∈ ps := by
   rw [hps]
   refine List.mem_append_left _ (List.mem_append_left _ (List.mem_map.2 ⟨0, ?_, rfl⟩))
   rw [List.mem_range, ints_size]; decide
  obtain ⟨⟨c', t', hh'⟩, _⟩ := hcell _ _ hm
  rw [hh] at hh'
  cases hh'
  rfl
 ·have hm : MemPlace.cell 4 0 ∈ ps := by
   rw [hps, hq0]
   refine List.mem_append_right _ (List.mem_append_left _ (List.mem_append_left _ (List.mem_map.2 ⟨0, ?_, rfl⟩)))
   rw [List.mem_range, ints_size]; decide
  obtain ⟨⟨c', t', hh'⟩, _⟩ := hcell _ _ hm
  rw [hh] at hh'
  cases hh'
  rfl
end Go.Proofs.YtdoolhbmekahdaaGreatDoor
namespace Go.Proofs.YtdoolhbmekahdaaGreatDoor
open Go.RowKit Go.Lib
set_option linter.unusedVariables false
set_option linter.unusedSimpArgs false
theorem grown_of_below' {w w' : World} (hb : Below w.heap.size w w') : w.grownBy w' none := ⟨hb.os, hb.tape, hb.output, hb.size, fun k hk _ => hb.block k hk⟩
theorem own_later {w w' : World} {base : Nat} {e : TypeId} {size : Nat} {v : Value} {n : Nat} {xs : List Value} (h : w.ownsRow base e size v n xs) (hb : Below w.heap.size w w') : w'.ownsRow base e size v n xs :=
 h.kept (grown_of_below' hb) (by cases v.ownBlock <;> simp)
@[go_sem ↓ high] theorem append_text (ty : TypeId) (cs : Array Bool) (args : Array Value) : builtin .append #[36, 9] ty cs args = appendNext #[36, 9] ty args := by unfold appendNext; rfl
@[go_sem ↓ high] theorem append_words (ty : TypeId) (cs : Array Bool) (args : Array Value) : builtin .append #[101, 101] ty cs args = appendNext #[101, 101] ty args := by unfold appendNext; rfl
theorem build1b (x : Int) (W : World) : (Instr.buildSlice 36 1 #[(0, .int .u8 x)]).run Tryz.prog W = .ok (.slice (some ⟨W.heap.size, 0, none⟩) 1 1) (W.alloc (.cells #[.int .u8 x] 5)) := by kernel_rfl
theorem build1w (x : Int) (W : World) : (Instr.buildSlice 101 1 #[(0, .int .u32 x)]).run Tryz.prog W = .ok (.slice (some ⟨W.heap.size, 0, none⟩) 1 1) (W.alloc (.cells #[.int .u32 x] 71)) := by kernel_rfl
def buildB1 (v : Value) : Sem Next := do pure (.value (← Instr.buildSlice 36 1 #[(0, v)]))
@[go_sem ↓ high] theorem op_buildB1 (ρ : Operand → Value) (d : Option Tmp) (x : Operand) (t : TypeId) (pos : String) (af : Array Edge) (g : Option (Nat × Bool)) :
  execOp ρ ⟨d, .buildSlice 36 1 #[(0, x)], t, pos, af, g⟩ = buildB1 (ρ x) := by
 unfold execOp buildB1
 simp
@[go_sem high] theorem op_buildB1' (ρ : Operand → Value) (d : Option Tmp) (x : Operand) (t : TypeId) (pos : String) (af : Array Edge) (g : Option (Nat × Bool)) :
  execOp ρ ⟨d, .buildSlice 36 1 #[(0, x)], t, pos, af, g⟩ = buildB1 (ρ x) := op_buildB1 ρ d x t pos af g
@[go_sem] theorem run_buildB1 (x : Int) (W : World) : (buildB1 (.int .u8 x)).run Tryz.prog W = .ok (.value (.slice (some ⟨W.heap.size, 0, none⟩) 1 1)) (W.alloc (.cells #[.int .u8 x] 5)) := by
 unfold buildB1
 simp only [Sem.run_bind, build1b, Result.andThen_ok, Sem.run_pure]
def buildW1 (v : Value) : Sem Next := do pure (.value (← Instr.buildSlice 101 1 #[(0, v)]))
@[go_sem ↓ high] theorem op_buildW1 (ρ : Operand → Value) (d : Option Tmp) (x : Operand) (t : TypeId) (pos : String) (af : Array Edge) (g : Option (Nat × Bool)) :
  execOp ρ ⟨d, .buildSlice 101 1 #[(0, x)], t, pos, af, g⟩ = buildW1 (ρ x) := by
 unfold execOp buildW1
 simp
@[go_sem high] theorem op_buildW1' (ρ : Operand → Value) (d : Option Tmp) (x : Operand) (t : TypeId) (pos : String) (af : Array Edge) (g : Option (Nat × Bool)) :
  execOp ρ ⟨d, .buildSlice 101 1 #[(0, x)], t, pos, af, g⟩ = buildW1 (ρ x) := op_buildW1 ρ d x t pos af g
@[go_sem] theorem run_buildW1 (x : Int) (W : World) : (buildW1 (.int .u32 x)).run Tryz.prog W = .ok (.value (.slice (some ⟨W.heap.size, 0, none⟩) 1 1)) (W.alloc (.cells #[.int .u32 x] 71)) := by
 unfold buildW1
 simp only [Sem.run_bind, build1w, Result.andThen_ok, Sem.run_pure]
attribute [irreducible] buildB1 buildW1
end Go.Proofs.YtdoolhbmekahdaaGreatDoor
namespace Go.Proofs.YtdoolhbmekahdaaGreatDoor
open Go.RowKit
set_option linter.unusedVariables false
set_option linter.unusedSimpArgs false
attribute [local irreducible] strOf shaF zerosB padB fullB hashT
end Go.Proofs.YtdoolhbmekahdaaGreatDoor
namespace Go.Proofs.YtdoolhbmekahdaaGreatDoor
open Go.RowKit
set_option linter.unusedVariables false
set_option linter.unusedSimpArgs false
end Go.Proofs.YtdoolhbmekahdaaGreatDoor
namespace Go.Proofs.YtdoolhbmekahdaaGreatDoor
open Go.RowKit Go.Lib
set_option linter.unusedVariables false
set_option linter.unusedSimpArgs false
section
variable {ops : Array Oper} {o : Oper} {a : Act} {K : Act → World → Prop} {Q : Exit → Act → World → Prop} {E : Prop}
end
section
variable {ops : Array Oper} {o : Oper} {a : Act} {K : Act → World → Prop} {Q : Exit → Act → World → Prop} {E : Prop}
end
def WordsAt (w : World) (g o n : Nat) (G : Nat → Int) : Prop := g < w.heap.size ∧ ∀ i, i < n → cellOf (objAt w g) (o + i) = some (.int .u32 (G i))
theorem WordsAt.later {w w' : World} {g o n : Nat} {G : Nat → Int} (h : WordsAt w g o n G) (hb : Below w.heap.size w w') : WordsAt w' g o n G := by
 refine ⟨Nat.lt_of_lt_of_le h.1 hb.size, fun i hi => ?_⟩
 rw [show objAt w' g = objAt w g from hb.block g h.1]
 exact h.2 i hi
end Go.Proofs.YtdoolhbmekahdaaGreatDoor
