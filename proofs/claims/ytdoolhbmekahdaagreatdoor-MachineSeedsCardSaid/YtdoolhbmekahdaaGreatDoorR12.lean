/- R12 -/
import Derived.Test.YtdoolhbmekahdaaGreatDoorFrame
import Derived.Test.YtdoolhbmekahdaaGreatDoorR11
import Derived.Test.YtdoolhbmekahdaaGreatDoorR9
import Derived.Test.YtdoolhbmekahdaaGreatDoorDh
set_option maxRecDepth 100000
set_option maxHeartbeats 4000000
namespace Go.Proofs.YtdoolhbmekahdaaGreatDoor
open Go.ChangeShapes Go.WideShapes Go.ChangeAt Go.RowKit
set_option linter.unusedVariables false
set_option linter.unusedSimpArgs false
def k32L (F : Nat → Nat → Int) (n : Nat) : List Value := (List.range n).flatMap fun j => (ints .u8 32 (F j)).toList
theorem k32L_succ (F : Nat → Nat → Int) (n : Nat) : k32L F (n + 1) = k32L F n ++ (ints .u8 32 (F n)).toList := by
 unfold k32L
 rw [List.range_succ, List.flatMap_append]
 simp
theorem k32L_len (F : Nat → Nat → Int) : ∀ n, (k32L F n).length = n * 32
 | 0 => rfl
 | n + 1 => by rw [k32L_succ, List.length_append, k32L_len F n, Array.length_toList, ints_size]; omega
theorem k32L_get (F : Nat → Nat → Int) (j i : Nat) (hi : i < 32) : ∀ n, j < n → (k32L F n)[j * 32 + i]? = some (.int .u8 (F j i))
 | 0, h => by omega
 | n + 1, h => by
  rw [k32L_succ]
  rcases (by omega : j < n ∨ j = n) with h' | rfl
  ·rw [List.getElem?_append_left (by rw [k32L_len]; omega), k32L_get F j i hi n h']
  ·rw [List.getElem?_append_right (by rw [k32L_len]; omega), k32L_len, show j * 32 + i - j * 32 = i by omega, Array.getElem?_toList, ints_get _ _ _ _ hi]
def K32At (w : World) (oa : Option Addr) (n : Nat) (F : Nat → Nat → Int) : Prop :=
 n = 0 ∨ ∃ ad : Addr, oa = some ad ∧ ∀ w', Below w.heap.size w w' → ∀ j, j < n → ∀ i, i < 32 → w'.cell? (ad.add (j * 32 + i)) = some (.int .u8 (F j i))
theorem K32At.later {w w' : World} {oa : Option Addr} {n : Nat} {F : Nat → Nat → Int} (h : K32At w oa n F) (hb : Below w.heap.size w w') : K32At w' oa n F := by
 rcases h with h | ⟨ad, ho, hl⟩
 ·exact .inl h
 ·exact .inr ⟨ad, ho, fun w'' hb' => hl w'' (Grew.trans hb hb')⟩
theorem K32At.nil (w : World) (F : Nat → Nat → Int) : K32At w none 0 F := .inl rfl
theorem K32At.addr {w : World} {oa : Option Addr} {n : Nat} {F : Nat → Nat → Int} (h : K32At w oa n F) (hn : 0 < n) : ∃ ad, oa = some ad := by
 rcases h with h | ⟨ad, ho, _⟩
 ·omega
 ·exact ⟨ad, ho⟩
theorem K32At.at {w : World} {ad : Addr} {n : Nat} {F : Nat → Nat → Int} (h : K32At w (some ad) n F) {j : Nat} (hj : j < n) {w' : World} (hb : Below w.heap.size w w') : ∀ i, i < 32 → w'.cell? ((ad.add (j * 32)).add i) = (ints .u8 32 (F j))[i]? := fun i hi => by
 rcases h with h | ⟨ad', ho, hl⟩
 ·omega
 ·cases ho
  rw [Go.Deep.add_add, hl w' hb j hj i hi, ints_get _ _ _ _ hi]
theorem K32At.loadK {w : World} {ad : Addr} {n : Nat} {F : Nat → Nat → Int} (h : K32At w (some ad) n F) {j : Nat} (hj : j < n) {w' : World} (hb : Below w.heap.size w w') : (loadNext 27 (.pointer (some (ad.add (j * 32))))).run Tryz.prog w' = .ok (.value (.agg (ints .u8 32 (F j)))) w' :=
 run_load_row Tryz.underlying27 rfl (by kernel_rfl) w' _ (ints .u8 32 (F j)) (ints_size _ _ _) (h.at hj hb)
theorem k32_of_own {w : World} {base n : Nat} {v : Value} {F : Nat → Nat → Int} {t : TypeId} (h : w.ownsRow base t 32 v n (k32L F n)) : ∃ oa c, v = .slice oa n c ∧ n ≤ c ∧ K32At w oa n F := by
 have hh := h
 rcases h.2 with ⟨rfl, h0⟩ | ⟨g, cap, cur, rfl, hb, hg, hnc, hcm, hcs, htake⟩
 ·subst h0
  exact ⟨none, 0, rfl, Nat.le_refl _, .inl rfl⟩
 ·refine ⟨some ⟨g, 0, none⟩, cap, rfl, hnc, .inr ⟨_, rfl, fun w' hb j hj i hi => ?_⟩⟩
  rw [← addr_plain]
  exact (own_cell hh (j * 32 + i) _ (k32L_get F j i hi n hj)).2 w' hb
theorem build1k (a : Nat → Int) (W : World) : (Instr.buildSlice 23 1 #[(0, .agg (ints .u8 32 a))]).run Tryz.prog W = .ok (.slice (some ⟨W.heap.size, 0, none⟩) 1 1) (W.alloc (.cells (ints .u8 32 a) 27)) := by kernel_rfl
def buildK1 (v : Value) : Sem Next := do pure (.value (← Instr.buildSlice 23 1 #[(0, v)]))
def buildK2 (u v : Value) : Sem Next := do pure (.value (← Instr.buildSlice 23 2 #[(0, u), (1, v)]))
@[go_sem ↓ high] theorem op_buildK1 (ρ : Operand → Value) (d : Option Tmp) (x : Operand) (t : TypeId) (pos : String) (af : Array Edge) (g : Option (Nat × Bool)) :
  execOp ρ ⟨d, .buildSlice 23 1 #[(0, x)], t, pos, af, g⟩ = buildK1 (ρ x) := by
 unfold execOp buildK1
 simp
@[go_sem high] theorem op_buildK1' (ρ : Operand → Value) (d : Option Tmp) (x : Operand) (t : TypeId) (pos : String) (af : Array Edge) (g : Option (Nat × Bool)) :
  execOp ρ ⟨d, .buildSlice 23 1 #[(0, x)], t, pos, af, g⟩ = buildK1 (ρ x) := op_buildK1 ρ d x t pos af g
@[go_sem ↓ high] theorem op_buildK2 (ρ : Operand → Value) (d : Option Tmp) (x y : Operand) (t : TypeId) (pos : String) (af : Array Edge) (g : Option (Nat × Bool)) :
  execOp ρ ⟨d, .buildSlice 23 2 #[(0, x), (1, y)], t, pos, af, g⟩ = buildK2 (ρ x) (ρ y) := by
 unfold execOp buildK2
 simp
@[go_sem high] theorem op_buildK2' (ρ : Operand → Value) (d : Option Tmp) (x y : Operand) (t : TypeId) (pos : String) (af : Array Edge) (g : Option (Nat × Bool)) :
  execOp ρ ⟨d, .buildSlice 23 2 #[(0, x), (1, y)], t, pos, af, g⟩ = buildK2 (ρ x) (ρ y) := op_buildK2 ρ d x y t pos af g
@[go_sem] theorem run_buildK1 (a : Nat → Int) (W : World) : (buildK1 (.agg (ints .u8 32 a))).run Tryz.prog W = .ok (.value (.slice (some ⟨W.heap.size, 0, none⟩) 1 1)) (W.alloc (.cells (ints .u8 32 a) 27)) := by
 unfold buildK1
 simp only [Sem.run_bind, build1k, Result.andThen_ok, Sem.run_pure]
@[go_sem] theorem run_buildK2 (a b : Nat → Int) (W : World) : (buildK2 (.agg (ints .u8 32 a)) (.agg (ints .u8 32 b))).run Tryz.prog W = .ok (.value (.slice (some ⟨W.heap.size, 0, none⟩) 2 2)) (W.alloc (.cells (ints .u8 64 (rowK (two a b))) 27)) := by
 unfold buildK2
 simp only [Sem.run_bind, build2k, Result.andThen_ok, Sem.run_pure]
attribute [irreducible] buildK1 buildK2
@[go_sem ↓ high] theorem append_keys (ty : TypeId) (cs : Array Bool) (args : Array Value) : builtin .append #[23, 23] ty cs args = appendNext #[23, 23] ty args := by unfold appendNext; rfl
end Go.Proofs.YtdoolhbmekahdaaGreatDoor
namespace Go.Proofs.YtdoolhbmekahdaaGreatDoor
open Go.RowKit
set_option linter.unusedVariables false
set_option linter.unusedSimpArgs false
@[go_sem] theorem none_row32 (w : World) : (noneNext 26).run Tryz.prog w = .ok (.value (.agg (ints .u8 32 nought))) w := by kernel_rfl
attribute [local irreducible] nodeF labelF oneF macF shaF strOf keyV shV
end Go.Proofs.YtdoolhbmekahdaaGreatDoor
