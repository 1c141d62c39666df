/- R12 -/
import Derived.Test.YtihoodeaaamlfaaGreatDoorFrame
import Derived.Test.YtihoodeaaamlfaaGreatDoorR11
import Derived.Test.YtihoodeaaamlfaaGreatDoorR10
import Derived.Test.YtihoodeaaamlfaaGreatDoorDh
set_option linter.unusedVariables false
set_option linter.unusedSimpArgs false
set_option maxRecDepth 100000
set_option maxHeartbeats 4000000
namespace Go.Proofs.YtihoodeaaamlfaaGreatDoor
open Go.ChangeShapes Go.WideShapes Go.ChangeAt Go.RowKit
def k32L (F : Nat -> Nat -> Int) (n : Nat) : List Value := (List.range n).flatMap fun j => (ints .u8 32 (F j)).toList
theorem zq4 (F : Nat -> Nat -> Int) (n : Nat) : k32L F (n + 1) = k32L F n ++ (ints .u8 32 (F n)).toList := by
 unfold k32L;rw [List.range_succ, List.flatMap_append]
 simp
theorem zqf (F : Nat -> Nat -> Int) : ∀ n, (k32L F n).length = n * 32
 | 0 => rfl
 | n + 1 => by rw [zq4, List.length_append, zqf F n, Array.length_toList, ints_size]; omega
theorem zqj (F : Nat -> Nat -> Int) (j i : Nat) (hi : i < 32) : ∀ n, j < n -> (k32L F n)[j * 32 + i]? = some (.int .u8 (F j i))
 | 0, h => by omega
 | n + 1, h => by
  rw [zq4]
  rcases (by omega : j < n \/ j = n) with h' | rfl
  ·rw [List.getElem?_append_left (by rw [zqf]; omega), zqj F j i hi n h']
  ·rw [List.getElem?_append_right (by rw [zqf]; omega), zqf, show j * 32 + i - j * 32 = i by omega, Array.getElem?_toList, ints_get _ _ _ _ hi]
def K32At (w : World) (oa : Option Addr) (n : Nat) (F : Nat -> Nat -> Int) : Prop :=
 n = 0 \/ ∃ ad : Addr, oa = some ad /\ ∀ w', Below w.heap.size w w' -> ∀ j, j < n -> ∀ i, i < 32 -> w'.cell? (ad.add (j * 32 + i)) = some (.int .u8 (F j i))
theorem K32At.later {w w' : World} {oa : Option Addr} {n : Nat} {F : Nat -> Nat -> Int} (h : K32At w oa n F) (hb : Below w.heap.size w w') : K32At w' oa n F := by
 rcases h with h | ⟨ad, ho, hl⟩
 ·exact .inl h
 ·exact .inr ⟨ad, ho, fun w'' hb' => hl w'' (Grew.trans hb hb')⟩
theorem K32At.nil (w : World) (F : Nat -> Nat -> Int) : K32At w none 0 F := .inl rfl
theorem zqal {W : World} {g n N : Nat} {f : Nat -> Int} {t : TypeId} {fr : Nat × Nat} {F : Nat -> Nat -> Int} (h : objAt W g = some (.cells (ints .u8 N f) t fr)) (hN : n * 32 <= N) (hf : ∀ j, j < n -> ∀ i, i < 32 -> f (j * 32 + i) = F j i) : K32At W (some ⟨g, 0, none⟩) n F := by
 refine .inr ⟨_, rfl, fun w' hb j hj i hi => ?_⟩;have h' := keep_below hb h;unfold objAt at h';rw [<- zqam, cell_of_row w' g _ _ _ _ h', ints_get _ _ _ _ (by omega), hf j hj i hi]
theorem zqbb (a : Nat -> Int) : ∀ j, j < 1 -> ∀ i, i < 32 -> a (j * 32 + i) = (fun _ => a) j i := fun j hj i _ => by
 obtain rfl : j = 0 := by omega
 show a (0 * 32 + i) = a i
 rw [Nat.zero_mul, Nat.zero_add]
theorem build1k (a : Nat -> Int) (W : World) : (Instr.buildSlice 39 1 #[(0, .agg (ints .u8 32 a))]).run Tryz.prog W = .ok (.slice (some ⟨W.heap.size, 0, none⟩) 1 1) (W.alloc (.cells (ints .u8 32 a) 29)) := by kernel_rfl
def buildK1 (v : Value) : Sem Next := do pure (.value (<- Instr.buildSlice 39 1 #[(0, v)]))
def buildK2 (u v : Value) : Sem Next := do pure (.value (<- Instr.buildSlice 39 2 #[(0, u), (1, v)]))
@[go_sem ↓ high] theorem op_buildK1 (ρ : Operand -> Value) (d : Option Tmp) (x : Operand) (t : TypeId) (pos : String) (af : Array Edge) (g : Option (Nat × Bool)) :
  execOp ρ ⟨d, .buildSlice 39 1 #[(0, x)], t, pos, af, g⟩ = buildK1 (ρ x) := by
 unfold execOp buildK1
 simp
@[go_sem high] theorem op_buildK1' (ρ : Operand -> Value) (d : Option Tmp) (x : Operand) (t : TypeId) (pos : String) (af : Array Edge) (g : Option (Nat × Bool)) :
  execOp ρ ⟨d, .buildSlice 39 1 #[(0, x)], t, pos, af, g⟩ = buildK1 (ρ x) := op_buildK1 ρ d x t pos af g
@[go_sem ↓ high] theorem op_buildK2 (ρ : Operand -> Value) (d : Option Tmp) (x y : Operand) (t : TypeId) (pos : String) (af : Array Edge) (g : Option (Nat × Bool)) :
  execOp ρ ⟨d, .buildSlice 39 2 #[(0, x), (1, y)], t, pos, af, g⟩ = buildK2 (ρ x) (ρ y) := by
 unfold execOp buildK2
 simp
@[go_sem high] theorem op_buildK2' (ρ : Operand -> Value) (d : Option Tmp) (x y : Operand) (t : TypeId) (pos : String) (af : Array Edge) (g : Option (Nat × Bool)) :
  execOp ρ ⟨d, .buildSlice 39 2 #[(0, x), (1, y)], t, pos, af, g⟩ = buildK2 (ρ x) (ρ y) := op_buildK2 ρ d x y t pos af g
@[go_sem] theorem run_buildK1 (a : Nat -> Int) (W : World) : (buildK1 (.agg (ints .u8 32 a))).run Tryz.prog W = .ok (.value (.slice (some ⟨W.heap.size, 0, none⟩) 1 1)) (W.alloc (.cells (ints .u8 32 a) 29)) := by
 unfold buildK1
 simp only [Sem.run_bind, build1k, Result.andThen_ok, Sem.run_pure]
@[go_sem] theorem run_buildK2 (a b : Nat -> Int) (W : World) : (buildK2 (.agg (ints .u8 32 a)) (.agg (ints .u8 32 b))).run Tryz.prog W = .ok (.value (.slice (some ⟨W.heap.size, 0, none⟩) 2 2)) (W.alloc (.cells (ints .u8 64 (rowK (two a b))) 29)) := by
 unfold buildK2
 simp only [Sem.run_bind, build2k, Result.andThen_ok, Sem.run_pure]
attribute [irreducible] buildK1 buildK2
@[go_sem ↓ high] theorem append_keys (ty : TypeId) (cs : Array Bool) (args : Array Value) : builtin .append #[39, 39] ty cs args = appendNext #[39, 39] ty args := by unfold appendNext; rfl
end Go.Proofs.YtihoodeaaamlfaaGreatDoor
namespace Go.Proofs.YtihoodeaaamlfaaGreatDoor
open Go.RowKit
@[go_sem] theorem none_row32 (w : World) : (noneNext 28).run Tryz.prog w = .ok (.value (.agg (ints .u8 32 nought))) w := by kernel_rfl
attribute [local irreducible] nodeF labelF oneF macF shaF strOf keyV shV
end Go.Proofs.YtihoodeaaamlfaaGreatDoor
