/- Nds -/
import Derived.Test.YtdoolhbmekahdaaGreatDoorOw
import Derived.Test.YtdoolhbmekahdaaGreatDoorBase
import Derived.Test.YtdoolhbmekahdaaGreatDoorMem
namespace Go.Proofs.YtdoolhbmekahdaaGreatDoor
open Go.RowKit Go.Lib
set_option linter.unusedVariables false
set_option linter.unusedSimpArgs false
theorem own_nextS {w W w' : World} {base : Nat} {e : TypeId} {size : Nat} {v : Value} {n : Nat} {xs : List Value} (own : W.ownsRow base e size v n xs) (hg : W.grownBy w' v.ownBlock) (hG : Below w.heap.size w W) (hwb : w.heap.size ≤ base) :
  Below w.heap.size w w' ∧ ∀ m o, m < base → objAt W m = some o → objAt w' m = some o := by
 refine ⟨hG.grown hg hG.size (fun k hk => ?_), fun m o hm hob => ?_⟩
 ·have := (own.lt k hk).1; omega
 ·have hlt := lt_of_objAt hob
  refine (hg.block m hlt fun e => ?_).trans hob
  have := (own.lt m e.symm).1
  omega
section
variable {ops : Array Oper} {o : Oper} {a : Act} {K : Act → World → Prop} {Q : Exit → Act → World → Prop} {E : Prop}
end
theorem own_cell {w : World} {base g n c size : Nat} {xs : List Value} {t : TypeId} (h : w.ownsRow base t size (.slice (some ⟨g, 0, none⟩) n c) n xs) (i : Nat) (u : Value) (hu : xs[i]? = some u) : g < w.heap.size ∧ ∀ w', Below w.heap.size w w' → w'.cell? ⟨g, i, none⟩ = some u := by
 rcases h.2 with ⟨h0, _⟩ | ⟨g', cap, cur, h0, hb, hg, hnc, hcm, hcs, htake⟩
 ·cases h0
 ·cases h0
  have hlt : g < w.heap.size := lt_of_objAt (show objAt w g = _ from hg)
  refine ⟨hlt, fun w' hb' => ?_⟩
  have h' := keep_below hb' (show objAt w g = _ from hg)
  rw [cell_of_row w' g i _ _ _ h']
  have h2 : i < n * size := by
   rcases Nat.lt_or_ge i (n * size) with h2 | h2
   ·exact h2
   ·rw [← htake, List.getElem?_take, if_neg (by omega)] at hu; cases hu
  rw [← htake, List.getElem?_take, if_pos h2] at hu
  simpa using hu
end Go.Proofs.YtdoolhbmekahdaaGreatDoor
namespace Go.Proofs.YtdoolhbmekahdaaGreatDoor
set_option linter.unusedVariables false
set_option linter.unusedSimpArgs false
structure Nd where
 f : Nat
 s : Nat
def Nd.has (v : Nd) (j : Nat) : Prop := v.f ≤ j ∧ j < v.f + v.s
instance (v : Nd) (j : Nat) : Decidable (v.has j) := by unfold Nd.has; infer_instance
theorem has_iff (v : Nd) (j : Nat) : decide (v.has j) = true ↔ v.f ≤ j ∧ j < v.f + v.s := by rw [decide_eq_true_eq]; exact Iff.rfl
section
variable {K : Type} (up : K → K → K) (pub : K → K)
variable (hc : ∀ a b, up a (pub b) = up b (pub a))
include hc
end
end Go.Proofs.YtdoolhbmekahdaaGreatDoor
namespace Go.Proofs.YtdoolhbmekahdaaGreatDoor
open Go.RowKit Go.Lib
set_option linter.unusedVariables false
set_option linter.unusedSimpArgs false
def NdsAt (w : World) (oa : Option Addr) (l : List Nd) : Prop :=
 l = [] ∨ ∃ g o, oa = some ⟨g, o, none⟩ ∧ g < w.heap.size ∧ ∀ i v, l[i]? = some v → cellOf (objAt w g) (o + 2 * i) = some (.int .i64 v.f) ∧ cellOf (objAt w g) (o + 2 * i + 1) = some (.int .i64 v.s)
theorem NdsAt.later {w w' : World} {oa : Option Addr} {l : List Nd} (h : NdsAt w oa l) (hb : Below w.heap.size w w') : NdsAt w' oa l := by
 rcases h with h | ⟨g, o, e, hg, hl⟩
 ·exact .inl h
 ·refine .inr ⟨g, o, e, Nat.lt_of_lt_of_le hg hb.size, fun i v hv => ?_⟩
  rw [show objAt w' g = objAt w g from hb.block g hg]
  exact hl i v hv
end Go.Proofs.YtdoolhbmekahdaaGreatDoor
namespace Go.Proofs.YtdoolhbmekahdaaGreatDoor
open Go.RowKit
set_option linter.unusedVariables false
set_option linter.unusedSimpArgs false
def keysF (x z : Nat → Int) : Nat → Int := fun i => if i < 32 then x i else z (i - 32)
@[go_sem ↓ high] theorem load_kpair (ρ : Operand → Value) (d : Option Tmp) (x : Operand) (t : TypeId) (pos : String) (af : Array Edge) (g : Option (Nat × Bool)) :
  execOp ρ ⟨d, .load 338 x, t, pos, af, g⟩ = loadNext 338 (ρ x) := op_load _ ρ d x t pos af g
@[go_sem high] theorem load_kpair' (ρ : Operand → Value) (d : Option Tmp) (x : Operand) (t : TypeId) (pos : String) (af : Array Edge) (g : Option (Nat × Bool)) :
  execOp ρ ⟨d, .load 338 x, t, pos, af, g⟩ = loadNext 338 (ρ x) := op_load _ ρ d x t pos af g
@[go_sem] theorem load_kpair_at (g : Nat) (w : World) : (loadNext 338 (.pointer (some ⟨g, 0, none⟩))).run Tryz.prog w = (loadOf Tryz.prog 338 g 64 w (objAt w g)).andThen fun v w' => .ok (.value v) w' := by
 rw [run_loadNext, loadRow_eq Tryz.underlying338 rfl (by kernel_rfl) g w]
@[go_sem] theorem load_kpair_of (g : Nat) (w : World) (cs : Array Value) (t' : TypeId) (fr : Nat × Nat) (h : cs.size = 64) : loadOf Tryz.prog 338 g 64 w (some (.cells cs t' fr)) = .ok (.agg cs) w := loadOf_cells cs t' fr h
@[go_sem ↓ high] theorem store_kpair (ρ : Operand → Value) (d : Option Tmp) (x y : Operand) (t : TypeId) (pos : String) (af : Array Edge) (g : Option (Nat × Bool)) :
  execOp ρ ⟨d, .store 338 x y, t, pos, af, g⟩ = storeNext 338 (ρ x) (ρ y) := op_store _ ρ d x y t pos af g
@[go_sem high] theorem store_kpair' (ρ : Operand → Value) (d : Option Tmp) (x y : Operand) (t : TypeId) (pos : String) (af : Array Edge) (g : Option (Nat × Bool)) :
  execOp ρ ⟨d, .store 338 x y, t, pos, af, g⟩ = storeNext 338 (ρ x) (ρ y) := op_store _ ρ d x y t pos af g
@[go_sem] theorem store_kpair_at (g : Nat) (cs : Array Value) (w : World) : (storeNext 338 (.pointer (some ⟨g, 0, none⟩)) (.agg cs)).run Tryz.prog w = (storeOf Tryz.prog 338 g 64 (.agg cs) w (objAt w g)).andThen fun _ w' => .ok .skip w' := by
 rw [run_storeNext, storeRow_eq (by kernel_rfl) g cs w]
@[go_sem] theorem store_kpair_of (g : Nat) (w : World) (old cs : Array Value) (t' : TypeId) (h1 : old.size = 64) (h2 : cs.size = 64) (h3 : oneCells cs = true) :
  storeOf Tryz.prog 338 g 64 (.agg cs) w (some (.cells old t' (0, 0))) = .ok () (w.setRow g cs) := storeOf_cells old cs t' h1 h2 h3
@[go_sem high] theorem zero_kpair' (w : World) : (zeroValue 338).run Tryz.prog w = .ok (.agg (ints .u8 64 (keysF nought nought))) w := by kernel_rfl
@[go_sem ↓ high] theorem zero_kpair (w : World) : (zeroValue 338).run Tryz.prog w = .ok (.agg (ints .u8 64 (keysF nought nought))) w := by kernel_rfl
theorem kextract_0 (x z : Nat → Int) : (ints .u8 64 (keysF x z)).extract 0 32 = ints .u8 32 x := by kernel_rfl
theorem kextract_1 (x z : Nat → Int) : (ints .u8 64 (keysF x z)).extract 32 (32 + 32) = ints .u8 32 z := by kernel_rfl
theorem kput_0 (x z a : Nat → Int) : putAll (ints .u8 64 (keysF x z)) 0 (ints .u8 32 a).toList = ints .u8 64 (keysF a z) := by kernel_rfl
theorem kput_1 (x z a : Nat → Int) : putAll (ints .u8 64 (keysF x z)) 32 (ints .u8 32 a).toList = ints .u8 64 (keysF x a) := by kernel_rfl
@[go_sem] theorem load_kpart0 (g : Nat) (w : World) (x z : Nat → Int) (t' : TypeId) (fr : Nat × Nat) : loadOf Tryz.prog 27 g 32 w (some (.cells (ints .u8 64 (keysF x z)) t' fr)) = .ok (.agg (ints .u8 32 x)) w := by
 unfold loadOf
 simp only [ints_size]
 rw [if_neg (by decide), if_pos (by decide), kextract_0]
@[go_sem] theorem store_kpart0 (g : Nat) (w : World) (x z a : Nat → Int) (t' : TypeId) : storeOf Tryz.prog 27 g 32 (.agg (ints .u8 32 a)) w (some (.cells (ints .u8 64 (keysF x z)) t' (0, 0))) = .ok () (w.setRow g (ints .u8 64 (keysF a z))) := by
 unfold storeOf
 simp only [ints_size]
 rw [if_neg (fun h => absurd h.1 (by decide)), if_pos ⟨by decide, by trivial, ints_one _ _ _⟩, kput_0]
@[go_sem] theorem load_key_mid (g : Nat) (w : World) : (loadNext 27 (.pointer (some ⟨g, 32, none⟩))).run Tryz.prog w = (loadMid Tryz.prog 27 g 32 32 w (objAt w g)).andThen fun v w' => .ok (.value v) w' := by
 rw [run_loadNext, loadMid_eq Tryz.underlying27 rfl (by kernel_rfl) g 32 w]
@[go_sem] theorem load_kpart1 (g : Nat) (w : World) (x z : Nat → Int) (t' : TypeId) (fr : Nat × Nat) : loadMid Tryz.prog 27 g 32 32 w (some (.cells (ints .u8 64 (keysF x z)) t' fr)) = .ok (.agg (ints .u8 32 z)) w := by
 unfold loadMid
 simp only [ints_size]
 rw [if_pos (by decide), kextract_1]
@[go_sem] theorem store_key_mid (g : Nat) (cs : Array Value) (w : World) : (storeNext 27 (.pointer (some ⟨g, 32, none⟩)) (.agg cs)).run Tryz.prog w = (storeMid Tryz.prog 27 g 32 32 (.agg cs) w (objAt w g)).andThen fun _ w' => .ok .skip w' := by
 rw [run_storeNext, storeMid_eq (by kernel_rfl) g 32 cs w]
@[go_sem] theorem store_kpart1 (g : Nat) (w : World) (x z a : Nat → Int) (t' : TypeId) : storeMid Tryz.prog 27 g 32 32 (.agg (ints .u8 32 a)) w (some (.cells (ints .u8 64 (keysF x z)) t' (0, 0))) = .ok () (w.setRow g (ints .u8 64 (keysF x a))) := by
 unfold storeMid
 simp only [ints_size]
 rw [if_pos ⟨by decide, by trivial, ints_one _ _ _⟩, kput_1]
@[go_sem] theorem field_kpair0 (x z : Nat → Int) (w : World) : (Instr.field 338 (.agg (ints .u8 64 (keysF x z))) 0).run Tryz.prog w = .ok (.agg (ints .u8 32 x)) w := by kernel_rfl
@[go_sem] theorem field_kpair1 (x z : Nat → Int) (w : World) : (Instr.field 338 (.agg (ints .u8 64 (keysF x z))) 1).run Tryz.prog w = .ok (.agg (ints .u8 32 z)) w := by kernel_rfl
def kpairNext (x z : Value) : Sem Next := do pure (.value (← Instr.build 338 #[(0, x), (1, z)]))
def kpairOne (x : Value) : Sem Next := do pure (.value (← Instr.build 338 #[(0, x)]))
@[go_sem ↓ high] theorem op_kpair (ρ : Operand → Value) (d : Option Tmp) (x y : Operand) (t : TypeId) (pos : String) (af : Array Edge) (g : Option (Nat × Bool)) :
  execOp ρ ⟨d, .build 338 #[(0, x), (1, y)], t, pos, af, g⟩ = kpairNext (ρ x) (ρ y) := by simp [execOp, kpairNext]
@[go_sem high] theorem op_kpair' (ρ : Operand → Value) (d : Option Tmp) (x y : Operand) (t : TypeId) (pos : String) (af : Array Edge) (g : Option (Nat × Bool)) :
  execOp ρ ⟨d, .build 338 #[(0, x), (1, y)], t, pos, af, g⟩ = kpairNext (ρ x) (ρ y) := by simp [execOp, kpairNext]
@[go_sem ↓ high] theorem op_kpair1 (ρ : Operand → Value) (d : Option Tmp) (x : Operand) (t : TypeId) (pos : String) (af : Array Edge) (g : Option (Nat × Bool)) :
  execOp ρ ⟨d, .build 338 #[(0, x)], t, pos, af, g⟩ = kpairOne (ρ x) := by simp [execOp, kpairOne]
@[go_sem high] theorem op_kpair1' (ρ : Operand → Value) (d : Option Tmp) (x : Operand) (t : TypeId) (pos : String) (af : Array Edge) (g : Option (Nat × Bool)) :
  execOp ρ ⟨d, .build 338 #[(0, x)], t, pos, af, g⟩ = kpairOne (ρ x) := by simp [execOp, kpairOne]
@[go_sem] theorem run_kpair (x z : Nat → Int) (w : World) : (kpairNext (.agg (ints .u8 32 x)) (.agg (ints .u8 32 z))).run Tryz.prog w = .ok (.value (.agg (ints .u8 64 (keysF x z)))) w := by kernel_rfl
@[go_sem] theorem run_kpair1 (x : Nat → Int) (w : World) : (kpairOne (.agg (ints .u8 32 x))).run Tryz.prog w = .ok (.value (.agg (ints .u8 64 (keysF x nought)))) w := by kernel_rfl
attribute [irreducible] kpairNext kpairOne
end Go.Proofs.YtdoolhbmekahdaaGreatDoor
