/- Ow -/
import Derived.Test.YtfglcifnjaknnaaGreatDoorFrame
import Derived.Test.YtfglcifnjaknnaaGreatDoorSt
import Derived.Test.YtfglcifnjaknnaaGreatDoorTie
import Derived.Test.YtfglcifnjaknnaaGreatDoorCards
import Derived.ProofKit
import Derived.LaidMore
import Derived.Lay
import Derived.SevenTiedAt
import Derived.Stop.Joined
import Derived.Test.YtfglcifnjaknnaaGreatDoorSi
import Derived.Lib.AppendStr
import Derived.Deep.AppendLies
import Derived.Test.YtfglcifnjaknnaaGreatDoorRel
import Derived.Test.YtfglcifnjaknnaaGreatDoorSw
set_option linter.unusedVariables false
set_option linter.unusedSimpArgs false
namespace Go.Proofs.YtfglcifnjaknnaaGreatDoor
open Go.ChangeShapes Go.WideShapes Go.ChangeAt Go.RowKit
open Go.ChangeMaps (open_string shut_string)
theorem open_table {enc : TypeId × Value -> Unit} {P : Program} {W : World} {base : Nat} {sp : Nat -> Bool} {held : Bool} {t e : TypeId} {n fuel : Nat} {cs : Array Value} {l : List Int} {p : List MemPlace}
  (hu : P.underlying t = some (.array n e)) (he : P.underlying e = some (.int .u32)) (hc : P.cellsOf e = 1) (hs : P.cellsOf t = n)
  (h : DataW.trod enc P W base sp held fuel t cs.toList = some (.agg (l.map fun z => .lit (.int .u32 z)), p)) : cs = ints .u32 n (fun i => l.getD i 0) := by
 obtain ⟨xs, m, _, hx, hlen, hn, hel⟩ := DataW.trod_array hu h
 simp only [Prod.mk.injEq, DataW.agg.injEq] at hx
 have hsz : cs.size = n := by rw [<- hs]; simpa using hlen
 apply Array.ext_getElem?
 intro i
 by_cases hi : i < n
 ·rw [zqal _ _ _ _ hi]
  have h1 := hel i hi;rw [hc, Nat.mul_one, List.getElem?_eq_getElem (by omega)] at h1;obtain ⟨z, e1, e2, _⟩ := DataW.trod_int he h1;have e3 := congrArg (fun l => l[i]?) hx.1
  simp only [List.getElem?_map] at e3
  rw [List.getElem?_eq_getElem (by omega : i < xs.length), e2] at e3
  cases hl : l[i]? with
  | none => rw [hl] at e3; simp at e3
  | some y =>
   rw [hl] at e3
   simp only [Option.map_some, Option.some.injEq, DataW.lit.injEq, Lit.int.injEq, true_and] at e3
   rw [List.getD_eq_getElem?_getD, hl, Option.getD_some, e3];have h2 : ((cs.toList.drop i).take 1)[0]? = some (.int .u32 z) := by rw [e1]; rfl
   simpa using h2
 ·rw [Array.getElem?_eq_none (by omega), Array.getElem?_eq_none (by rw [zqi]; omega)]
theorem zqno {P : Program} {W : World} {nm : String} {g : Nat} {cs : Array Value} (hg : P.globalNamed nm = some g) (hv : W.var? P nm = some cs) (hf : ∀ c t fr, W.heap[g]? = some (.cells c t fr) -> fr = (0, 0)) : ∃ t, zqe W g = some (.cells cs t (0, 0)) := by
 unfold World.var? at hv;rw [hg] at hv
 simp only [Option.bind_some] at hv
 split at hv
 ·rename_i c t fr hh
  obtain rfl := Option.some.inj hv;obtain rfl := hf _ _ _ hh;exact ⟨t, hh⟩
 ·cases hv
theorem zqqg {W : World} (h : laidMetH Tryz.prog [("sapwood/sha.square", Rows.laid_sapwood_sha_square), ("sapwood/sha.cube", Rows.laid_sapwood_sha_cube)] W) : Tabs W := by
 rw [MakeChecks.laidMetH_plain _ _ _ zqb] at h;obtain ⟨ps, ⟨g0, t0, cs0, f0, p0, q0, hg0, ht0, hv0, hd0, ⟨g1, t1, cs1, f1, p1, q1, hg1, ht1, hv1, hd1, hq1, hq0⟩, hps⟩, _, hcell⟩ := h;have G0 : Tryz.prog.globalNamed "sapwood/sha.square" = some 1 := by kernel_rfl
 have G1 : Tryz.prog.globalNamed "sapwood/sha.cube" = some 2 := by kernel_rfl
 obtain rfl := Option.some.inj (G0.symm.trans hg0);obtain rfl := Option.some.inj (G1.symm.trans hg1);have T0 : (Tryz.prog.globals[1]?).map (·.type) = some 198 := by kernel_rfl
 have T1 : (Tryz.prog.globals[2]?).map (·.type) = some 274 := by kernel_rfl
 obtain rfl := Option.some.inj (T0.symm.trans ht0);obtain rfl := Option.some.inj (T1.symm.trans ht1);have e0 := open_table (l := zqzz) Tryz.underlying198 Tryz.underlying23 zqb zqb hd0;have e1 := open_table (l := zrdy) Tryz.underlying274 Tryz.underlying23 zqb zqb hd1;subst e0;subst e1;refine ⟨zqno G0 hv0 fun c t fr hh => ?_, zqno G1 hv1 fun c t fr hh => ?_⟩
 ·have hm : MemPlace.cell 1 0 ∈ ps := by
   rw [hps];refine List.mem_append_left _ (List.mem_append_left _ (List.mem_map.2 ⟨0, ?_, rfl⟩));rw [List.mem_range, zqi]; decide
  obtain ⟨⟨c', t', hh'⟩, _⟩ := hcell _ _ hm;rw [hh] at hh'
  cases hh'
  rfl
 ·have hm : MemPlace.cell 2 0 ∈ ps := by
   rw [hps, hq0];refine List.mem_append_right _ (List.mem_append_left _ (List.mem_append_left _ (List.mem_map.2 ⟨0, ?_, rfl⟩)));rw [List.mem_range, zqi]; decide
  obtain ⟨⟨c', t', hh'⟩, _⟩ := hcell _ _ hm;rw [hh] at hh'
  cases hh'
  rfl
end Go.Proofs.YtfglcifnjaknnaaGreatDoor
namespace Go.Proofs.YtfglcifnjaknnaaGreatDoor
open Go.RowKit Go.Lib
theorem zqlx {w w' : World} (hb : Below w.heap.size w w') : w.grownBy w' none := ⟨hb.os, hb.tape, hb.output, hb.size, fun k hk _ => hb.block k hk⟩
theorem zqey {w w' : World} {base : Nat} {e : TypeId} {size : Nat} {v : Value} {n : Nat} {xs : List Value} (h : w.ownsRow base e size v n xs) (hb : Below w.heap.size w w') : w'.ownsRow base e size v n xs :=
 h.kept (zqlx hb) (by cases v.ownBlock <;> simp)
@[go_sem ↓ high] theorem zq95 (ty : TypeId) (cs : Array Bool) (args : Array Value) : builtin .append #[157, 9] ty cs args = zqr #[157, 9] ty args := by unfold zqr; rfl
@[go_sem ↓ high] theorem zq71 (ty : TypeId) (cs : Array Bool) (args : Array Value) : builtin .append #[59, 59] ty cs args = zqr #[59, 59] ty args := by unfold zqr; rfl
theorem zqsj (x : Int) (W : World) : (Instr.buildSlice 157 1 #[(0, .int .u8 x)]).run Tryz.prog W = .ok (.slice (some ⟨W.heap.size, 0, none⟩) 1 1) (W.alloc (.cells #[.int .u8 x] 5)) := by kernel_rfl
theorem zrcb (x : Int) (W : World) : (Instr.buildSlice 59 1 #[(0, .int .u32 x)]).run Tryz.prog W = .ok (.slice (some ⟨W.heap.size, 0, none⟩) 1 1) (W.alloc (.cells #[.int .u32 x] 23)) := by kernel_rfl
def zqjs (v : Value) : Sem Next := do pure (.value (<- Instr.buildSlice 157 1 #[(0, v)]))
@[go_sem ↓ high] theorem zqyh (ρ : Operand -> Value) (d : Option Tmp) (x : Operand) (t : TypeId) (pos : String) (af : Array Edge) (g : Option (Nat × Bool)) :
  execOp ρ ⟨d, .buildSlice 157 1 #[(0, x)], t, pos, af, g⟩ = zqjs (ρ x) := by
 unfold execOp zqjs
 simp
@[go_sem high] theorem zraj (ρ : Operand -> Value) (d : Option Tmp) (x : Operand) (t : TypeId) (pos : String) (af : Array Edge) (g : Option (Nat × Bool)) :
  execOp ρ ⟨d, .buildSlice 157 1 #[(0, x)], t, pos, af, g⟩ = zqjs (ρ x) := zqyh ρ d x t pos af g
@[go_sem] theorem zq8x (x : Int) (W : World) : (zqjs (.int .u8 x)).run Tryz.prog W = .ok (.value (.slice (some ⟨W.heap.size, 0, none⟩) 1 1)) (W.alloc (.cells #[.int .u8 x] 5)) := by
 unfold zqjs
 simp only [Sem.run_bind, zqsj, Result.andThen_ok, Sem.run_pure]
def zqj3 (v : Value) : Sem Next := do pure (.value (<- Instr.buildSlice 59 1 #[(0, v)]))
@[go_sem ↓ high] theorem zqye (ρ : Operand -> Value) (d : Option Tmp) (x : Operand) (t : TypeId) (pos : String) (af : Array Edge) (g : Option (Nat × Bool)) :
  execOp ρ ⟨d, .buildSlice 59 1 #[(0, x)], t, pos, af, g⟩ = zqj3 (ρ x) := by
 unfold execOp zqj3
 simp
@[go_sem high] theorem zral (ρ : Operand -> Value) (d : Option Tmp) (x : Operand) (t : TypeId) (pos : String) (af : Array Edge) (g : Option (Nat × Bool)) :
  execOp ρ ⟨d, .buildSlice 59 1 #[(0, x)], t, pos, af, g⟩ = zqj3 (ρ x) := zqye ρ d x t pos af g
@[go_sem] theorem zra3 (x : Int) (W : World) : (zqj3 (.int .u32 x)).run Tryz.prog W = .ok (.value (.slice (some ⟨W.heap.size, 0, none⟩) 1 1)) (W.alloc (.cells #[.int .u32 x] 23)) := by
 unfold zqj3
 simp only [Sem.run_bind, zrcb, Result.andThen_ok, Sem.run_pure]
attribute [irreducible] zqjs zqj3
end Go.Proofs.YtfglcifnjaknnaaGreatDoor
namespace Go.Proofs.YtfglcifnjaknnaaGreatDoor
open Go.RowKit
attribute [local irreducible] strOf shaF zqcd padB zqc0 zqbv
end Go.Proofs.YtfglcifnjaknnaaGreatDoor
namespace Go.Proofs.YtfglcifnjaknnaaGreatDoor
open Go.RowKit

end Go.Proofs.YtfglcifnjaknnaaGreatDoor
namespace Go.Proofs.YtfglcifnjaknnaaGreatDoor
open Go.RowKit Go.Lib
section
variable {ops : Array Oper} {o : Oper} {a : Act} {K : Act -> World -> Prop} {Q : Exit -> Act -> World -> Prop} {E : Prop}
end
section
variable {ops : Array Oper} {o : Oper} {a : Act} {K : Act -> World -> Prop} {Q : Exit -> Act -> World -> Prop} {E : Prop}
end
def WordsAt (w : World) (g o n : Nat) (G : Nat -> Int) : Prop := g < w.heap.size /\ ∀ i, i < n -> cellOf (zqe w g) (o + i) = some (.int .u32 (G i))
theorem WordsAt.later {w w' : World} {g o n : Nat} {G : Nat -> Int} (h : WordsAt w g o n G) (hb : Below w.heap.size w w') : WordsAt w' g o n G := by
 refine ⟨Nat.lt_of_lt_of_le h.1 hb.size, fun i hi => ?_⟩;rw [show zqe w' g = zqe w g from hb.block g h.1];exact h.2 i hi
end Go.Proofs.YtfglcifnjaknnaaGreatDoor
