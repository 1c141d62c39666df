/- Math02 -/
import Derived.Test.YtdoolhbmekahdaaGreatDoorMem
import Derived.Deep.LoopGhost
import Derived.Test.YtdoolhbmekahdaaGreatDoorBase
import Derived.Test.YtdoolhbmekahdaaGreatDoorLimb
import Derived.Test.YtdoolhbmekahdaaGreatDoorLaw02
set_option maxRecDepth 100000
set_option maxHeartbeats 4000000
namespace Go.Proofs.YtdoolhbmekahdaaGreatDoor
open Go.RowKit
set_option linter.unusedVariables false
set_option linter.unusedSimpArgs false
def dval (f : Nat → Int) : Nat → Int
 | 0 => 0
 | k + 1 => dval f k + f k * 65536 ^ k
def Digits (f : Nat → Int) : Prop := ∀ i, i < 16 → 0 ≤ f i ∧ f i < 65536
theorem dval_congr {f g : Nat → Int} : ∀ k, (∀ i, i < k → f i = g i) → dval f k = dval g k
 | 0, _ => rfl
 | k + 1, h => by
  show dval f k + f k * 65536 ^ k = dval g k + g k * 65536 ^ k
  rw [dval_congr k (fun i hi => h i (by omega)), h k (by omega)]
def cp (a : Nat → Int) : Nat → Int
 | 0 => 0
 | k + 1 => (a k + cp a k) / 65536
def passEnd (a : Nat → Int) : Nat → Int := fun j => if j = 0 then a 0 % 65536 + 38 * cp a 16 else (a j + cp a j) % 65536
def Small50 (a : Nat → Int) : Prop := ∀ i, i < 16 → 0 ≤ a i ∧ a i ≤ 2251799813685248
theorem cp_bd {a : Nat → Int} (ha : Small50 a) : ∀ k, k ≤ 16 → 0 ≤ cp a k ∧ cp a k ≤ 34360262665
 | 0, _ => by simp [cp]
 | k + 1, hk => by
  have := cp_bd ha k (by omega); have := ha k (by omega)
  unfold cp; omega
theorem pass_val (a : Nat → Int) : ∀ k, dval (fun j => (a j + cp a j) % 65536) k + cp a k * 65536 ^ k = dval a k
 | 0 => by simp [dval, cp]
 | k + 1 => by
  have ih := pass_val a k
  have e : (65536 : Int) ^ (k + 1) = 65536 * 65536 ^ k := by rw [Int.pow_succ, Int.mul_comm]
  show dval (fun j => (a j + cp a j) % 65536) k + (a k + cp a k) % 65536 * 65536 ^ k + cp a (k + 1) * 65536 ^ (k + 1) = dval a k + a k * 65536 ^ k
  rw [e, ← ih, cp]
  generalize (65536 : Int) ^ k = m
  have h := Int.emod_add_mul_ediv (a k + cp a k) 65536
  have h2 : (a k + cp a k) % 65536 * m + (a k + cp a k) / 65536 * (65536 * m) = (a k + cp a k) * m := by
   rw [← Int.mul_assoc, ← Int.add_mul, Int.mul_comm ((a k + cp a k) / 65536) 65536, h]
  rw [Int.add_mul] at h2
  omega
theorem dval_zero (f g : Nat → Int) (h : ∀ i, 0 < i → f i = g i) : ∀ k, 0 < k → dval f k = dval g k + (f 0 - g 0)
 | 0, h0 => absurd h0 (by omega)
 | 1, _ => by simp [dval]; omega
 | k + 2, _ => by
  show dval f (k + 1) + f (k + 1) * 65536 ^ (k + 1) = dval g (k + 1) + g (k + 1) * 65536 ^ (k + 1) + (f 0 - g 0)
  rw [dval_zero f g h (k + 1) (by omega), h (k + 1) (by omega)]
  omega
theorem passEnd_val (a : Nat → Int) : dval (passEnd a) 16 = dval a 16 - cp a 16 * 115792089237316195423570985008687907853269984665640564039457584007913129639898 := by
 have h1 := pass_val a 16
 have h2 := dval_zero (passEnd a) (fun j => (a j + cp a j) % 65536) (fun i hi => by unfold passEnd; rw [if_neg (by omega)]) 16 (by decide)
 have h3 : passEnd a 0 = a 0 % 65536 + 38 * cp a 16 := rfl
 have h4 : cp a 0 = 0 := rfl
 rw [h2, h3]
 simp only [h4, Int.add_zero]
 have e : (65536 : Int) ^ 16 = 115792089237316195423570985008687907853269984665640564039457584007913129639936 := by decide
 rw [e] at h1
 omega
theorem passEnd_small {a : Nat → Int} (ha : Small50 a) : Small50 (passEnd a) := fun i hi => by
 have := cp_bd ha 16 (by omega)
 unfold passEnd; split <;> omega
theorem passEnd_digits {a : Nat → Int} (h : cp a 16 = 0) : Digits (passEnd a) := fun i hi => by
 unfold passEnd; split <;> omega
def numN (v : Int) : Nat → Int := fun i => v / 65536 ^ i % 65536
theorem numN_digits (v : Int) : Digits (numN v) := fun i _ => by unfold numN; omega
theorem emod_split (v m : Int) (hm : 0 < m) : v % (m * 65536) = v % m + v / m % 65536 * m := by
 have h1 := Int.emod_add_mul_ediv v m
 have h2 := Int.emod_add_mul_ediv (v / m) 65536
 have a1 := Int.emod_nonneg v (show m ≠ 0 by omega)
 have a2 := Int.emod_lt_of_pos v hm
 have b1 := Int.emod_nonneg (v / m) (show (65536 : Int) ≠ 0 by decide)
 have b2 := Int.emod_lt_of_pos (v / m) (show (0 : Int) < 65536 by decide)
 have e : v = (v % m + v / m % 65536 * m) + (m * 65536) * (v / m / 65536) := by
  have h3 : m * (v / m) = m * (v / m % 65536) + m * (65536 * (v / m / 65536)) := by rw [← Int.mul_add, h2]
  rw [Int.mul_comm (v / m % 65536) m, Int.mul_assoc]
  omega
 have c1 : 0 ≤ v / m % 65536 * m := Int.mul_nonneg b1 (by omega)
 have c2 : v / m % 65536 * m ≤ 65535 * m := Int.mul_le_mul_of_nonneg_right (by omega) (by omega)
 have hr : (v % m + v / m % 65536 * m) % (m * 65536) = v % m + v / m % 65536 * m := Int.emod_eq_of_lt (by omega) (by omega)
 have hs := Int.add_mul_emod_self_left (v % m + v / m % 65536 * m) (m * 65536) (v / m / 65536)
 rw [← e, hr] at hs
 exact hs
theorem numN_val (v : Int) : ∀ k, dval (numN v) k = v % 65536 ^ k
 | 0 => by simp [dval, Int.emod_one]
 | k + 1 => by
  show dval (numN v) k + v / 65536 ^ k % 65536 * 65536 ^ k = _
  rw [numN_val v k, Int.pow_succ, emod_split v _ (Int.pow_pos (by decide))]
structure FoldRel (l A : Nat → Int) (o : Int) (g : Nat) : Prop where
 small : Small50 A
 over : 0 ≤ o
 digits : o = 0 → Digits A
 same : dval A 16 % 57896044618658097711785492504343953926634992332820282019728792003956564819949 = dval l 16 % 57896044618658097711785492504343953926634992332820282019728792003956564819949
 val : 0 ≤ dval A 16
 left : g = 2 * (dval A 16).toNat + if o = 0 then 0 else 1
theorem dval_nonneg {f : Nat → Int} (hf : Small50 f) : ∀ k, k ≤ 16 → 0 ≤ dval f k
 | 0, _ => by simp [dval]
 | k + 1, hk => by
  have h0 := dval_nonneg hf k (by omega)
  have hm : 0 ≤ f k * 65536 ^ k := Int.mul_nonneg (hf k (by omega)).1 (Int.le_of_lt (Int.pow_pos (by decide)))
  show 0 ≤ dval f k + f k * 65536 ^ k
  omega
theorem FoldRel.next {l A : Nat → Int} {o : Int} {g : Nat} (h : FoldRel l A o g) (ho : 0 < o) : ∃ g', g' < g ∧ FoldRel l (passEnd A) (cp A 16) g' := by
 obtain ⟨hA, _, _, hM, hV, hG⟩ := h
 rw [if_neg (by omega)] at hG
 have hc := cp_bd hA 16 (by decide)
 have hv := passEnd_val A
 have hs := passEnd_small hA
 have hn := dval_nonneg hs 16 (by decide)
 refine ⟨2 * (dval (passEnd A) 16).toNat + if cp A 16 = 0 then 0 else 1, ?_, hs, hc.1, passEnd_digits, ?_, hn, rfl⟩
 ·split <;> omega
 ·rw [← hM, hv]; omega
end Go.Proofs.YtdoolhbmekahdaaGreatDoor
namespace Go.Proofs.YtdoolhbmekahdaaGreatDoor
open Go.RowKit
set_option linter.unusedVariables false
set_option linter.unusedSimpArgs false
@[go_sem] theorem make16 (w : World) : (Instr.makeSlice 44 (.int .i64 16) (.int .i64 16)).run Tryz.prog w = .ok (.slice (some ⟨w.heap.size, 0, none⟩) 16 16) (w.alloc (.cells (ints .i64 16 nought) 3)) := by kernel_rfl
theorem num_val {x : Int} (h0 : 0 ≤ x) (h1 : x < 57896044618658097711785492504343953926634992332820282019728792003956564819949) : dval (numN x) 16 = x := by
 rw [numN_val, Int.emod_eq_of_lt h0]
 have e : (65536 : Int) ^ 16 = 115792089237316195423570985008687907853269984665640564039457584007913129639936 := by decide
 rw [e]; omega
def bytesN (a : Nat → Int) : Nat → Int := fun i => if i % 2 = 0 then a (i / 2) % 256 else a (i / 2) / 256
def ofL (k : Nat → Int) : Nat → Int := fun i => if i = 15 then (k 30 + 256 * k 31) % 32768 else k (2 * i) + 256 * k (2 * i + 1)
def pairs (k : Nat → Int) : Nat → Int := fun i => k (2 * i) + 256 * k (2 * i + 1)
end Go.Proofs.YtdoolhbmekahdaaGreatDoor
namespace Go.Proofs.YtdoolhbmekahdaaGreatDoor
open Go.RowKit
set_option linter.unusedVariables false
set_option linter.unusedSimpArgs false
def four (x0 x1 x2 x3 : Int) : Nat → Int := fun i => if i = 0 then x0 else if i = 1 then x1 else if i = 2 then x2 else if i = 3 then x3 else 0
theorem zeroCells_get (n i : Nat) : (Builtin.zeroCells #[Value.int .i64 0] n)[i]? = if i < n then some (.int .i64 0) else none := by
 unfold Builtin.zeroCells
 by_cases h : i < n
 ·rw [if_pos h]
  have : i % 1 = 0 := Nat.mod_one i
  simp [h, this]
 ·rw [if_neg h]; simp; omega
theorem four_cells (x0 x1 x2 x3 : Int) (g : Nat) (hg : 16 ≤ g) :
  #[Value.int .i64 x0, .int .i64 x1, .int .i64 x2, .int .i64 x3] ++ Builtin.zeroCells #[Value.int .i64 0] 12 ++ Builtin.zeroCells #[Value.int .i64 0] (g - 16) = ints .i64 g (four x0 x1 x2 x3) := by
 have hz : ∀ n, (Builtin.zeroCells #[Value.int .i64 0] n).size = n := fun n => by simp [Builtin.zeroCells]
 apply Array.ext_getElem?
 intro i
 by_cases h4 : i < 4
 ·rw [ints_get _ _ _ _ (by omega), Array.getElem?_append_left (by simp [hz]; omega), Array.getElem?_append_left (by simpa using h4)]
  rcases (by omega : i = 0 ∨ i = 1 ∨ i = 2 ∨ i = 3) with rfl | rfl | rfl | rfl <;> rfl
 ·have hf : four x0 x1 x2 x3 i = 0 := by unfold four; rw [if_neg (by omega), if_neg (by omega), if_neg (by omega), if_neg (by omega)]
  by_cases h16 : i < 16
  ·rw [ints_get _ _ _ _ (by omega), Array.getElem?_append_left (by simp [hz]; omega), Array.getElem?_append_right (by simp; omega), zeroCells_get, hf]
   rw [if_pos (by simp; omega)]
  ·rw [Array.getElem?_append_right (by simp [hz]; omega), zeroCells_get]
   by_cases hg' : i < g
   ·rw [ints_get _ _ _ _ hg', hf, if_pos (by simp [hz]; omega)]
   ·rw [if_neg (by simp [hz]; omega), Array.getElem?_eq_none (by rw [ints_size]; omega)]
def zerosOf (P : Program) (ats : Array TypeId) (ty : TypeId) (b : Nat) (w : World) (o : Option Obj) : Result Next :=
 match o with
 | some (.cells _ _ _) => (appendNext ats ty #[.slice (some ⟨b, 0, none⟩) 4 4, .int .i64 12]).run P w
 | _ => (appendNext ats ty #[.slice (some ⟨b, 0, none⟩) 4 4, .int .i64 12]).run P w
@[go_sem high] theorem append_zeros' (ty : TypeId) (cs : Array Bool) (args : Array Value) : builtin .append #[44, 3] ty cs args = appendNext #[44, 3] ty args := by unfold appendNext; rfl
@[go_sem ↓ high] theorem append_zeros (ty : TypeId) (cs : Array Bool) (args : Array Value) : builtin .append #[44, 3] ty cs args = appendNext #[44, 3] ty args := by unfold appendNext; rfl
theorem append_zeros_run (ty : TypeId) (b : Nat) (w : World) (x0 x1 x2 x3 : Int) (t : TypeId) (fr : Nat × Nat) (hb : objAt w b = some (.cells #[.int .i64 x0, .int .i64 x1, .int .i64 x2, .int .i64 x3] t fr)) :
  (appendNext #[44, 3] ty #[.slice (some ⟨b, 0, none⟩) 4 4, .int .i64 12]).run Tryz.prog w =
   .ok (.value (.slice (some ⟨w.heap.size, 0, none⟩) 16 (grownCap w 16 4 3))) (w.drew.alloc (.cells (ints .i64 (grownCap w 16 4 3) (four x0 x1 x2 x3)) 3)) := by
 unfold objAt at hb
 have hi : ∃ i, Tryz.prog.info? 3 = some i ∧ i.size = 1 ∧ i.bytes = 8 ∧ i.zero = some (.int .i64 0) := ⟨(Tryz.prog.info? 3).get (by kernel_rfl), by kernel_rfl, by kernel_rfl, by kernel_rfl, by kernel_rfl⟩
 obtain ⟨i, hi, hs, hby, hz⟩ := hi
 have hfo := run_firstCells_some (P := Tryz.prog) w.drew i.size 4 ⟨b, 0, none⟩ 4 4 [Value.int .i64 x0, .int .i64 x1, .int .i64 x2, .int .i64 x3] (by simp [hs]) (fun j u hj => by
  have hadd : (⟨b, 0, none⟩ : Addr).add j = ⟨b, j, none⟩ := by unfold Addr.add; split <;> simp_all
  rw [hadd]
  show w.cell? ⟨b, j, none⟩ = some u
  rw [cell_of_row w b j _ _ _ hb]
  simpa using hj)
 rw [hs] at hfo
 rw [← four_cells x0 x1 x2 x3 _ (grownCap_ge w 16 4 3)]
 unfold appendNext
 simp [Builtin.append_, run_underlying Tryz.underlying44, run_underlying Tryz.underlying3, sizeOf, typeInfo, zeroValue, hi, hz, hs, hby, asInt, asIntOf, Question.forced, hfo, newRow, grownCap, IntKind.wrap_i64, Builtin.nextslicecap, Value.cells]
 intro h
 exact absurd h (by decide)
theorem zerosOf_eq (ty : TypeId) (b : Nat) (w : World) : (appendNext #[44, 3] ty #[.slice (some ⟨b, 0, none⟩) 4 4, .int .i64 12]).run Tryz.prog w = zerosOf Tryz.prog #[44, 3] ty b w (objAt w b) := by
 unfold zerosOf; split <;> rfl
theorem zerosOf_lit (ty : TypeId) (b : Nat) (w : World) (x0 x1 x2 x3 : Int) (t : TypeId) (fr : Nat × Nat) (hb : objAt w b = some (.cells #[.int .i64 x0, .int .i64 x1, .int .i64 x2, .int .i64 x3] t fr)) :
  zerosOf Tryz.prog #[44, 3] ty b w (some (.cells #[.int .i64 x0, .int .i64 x1, .int .i64 x2, .int .i64 x3] t fr)) =
   .ok (.value (.slice (some ⟨w.heap.size, 0, none⟩) 16 (grownCap w 16 4 3))) (w.drew.alloc (.cells (ints .i64 (grownCap w 16 4 3) (four x0 x1 x2 x3)) 3)) :=
 append_zeros_run ty b w x0 x1 x2 x3 t fr hb
attribute [irreducible] zerosOf
attribute [go_sem] zerosOf_eq zerosOf_lit
def putRow (P : Program) (g : Nat) (cs : Array Value) (w : World) (o : Option Obj) : Result Unit :=
 match o with
 | some (.cells old _ (0, 0)) => if old.size = cs.size ∧ oneCells cs = true then .ok () (w.setRow g cs) else (storeCells ⟨g, 0, none⟩ cs.toList).run P w
 | _ => (storeCells ⟨g, 0, none⟩ cs.toList).run P w
theorem all_oneCell {cs : Array Value} (h : oneCells cs = true) : ∀ v ∈ cs.toList, v.oneCell' = true := by
 unfold oneCells at h
 rw [Array.all_eq_true] at h
 intro v hv
 obtain ⟨i, hi, rfl⟩ := List.getElem_of_mem hv
 exact h i (by simpa using hi)
@[go_sem] theorem putRow_eq {P : Program} (k : IntKind) (n : Nat) (f : Nat → Int) (g : Nat) (w : World) : (storeCells ⟨g, 0, none⟩ (ints k n f).toList).run P w = putRow P g (ints k n f) w (objAt w g) := by
 unfold objAt putRow
 split
 ·rename_i old t' hg
  split
  ·rename_i h
   have := run_storeCells_from (P := P) g t' (ints k n f).toList 0 old w hg (by simp [h.1]) (all_oneCell h.2)
   simpa using this
  ·rfl
 ·rfl
@[go_sem] theorem putRow_cells {P : Program} {g : Nat} {w : World} (old cs : Array Value) (t' : TypeId) (h1 : old.size = cs.size) (h3 : oneCells cs = true) :
  putRow P g cs w (some (.cells old t' (0, 0))) = .ok () (w.setRow g cs) := by
 simp only [putRow]
 rw [if_pos ⟨h1, h3⟩]
attribute [irreducible] putRow
def hv (e : Nat → Int) : Nat → Int
 | 0 => 0
 | s + 1 => (hv e s * 2251799813685248 % 57896044618658097711785492504343953926634992332820282019728792003956564819949 + e (4 - s) % 57896044618658097711785492504343953926634992332820282019728792003956564819949) % 57896044618658097711785492504343953926634992332820282019728792003956564819949
def dbl (v : Int) : Nat → Int
 | 0 => v
 | j + 1 => (dbl v j + dbl v j) % 57896044618658097711785492504343953926634992332820282019728792003956564819949
end Go.Proofs.YtdoolhbmekahdaaGreatDoor
namespace Go.Proofs.YtdoolhbmekahdaaGreatDoor
open Go.RowKit
set_option linter.unusedVariables false
set_option linter.unusedSimpArgs false
theorem of_val (k : Nat → Int) (hk : Bytes 32 k) : valE (ofF k) = dval (ofL k) 16 := by
 have hk' : ∀ i, i < 32 → 0 ≤ k i ∧ k i < 256 := fun i hi => by have := hk i hi; omega
 have e0 : ofF k 0 = k 0 + k 1 * 256 + k 2 * 65536 + k 3 * 16777216 + k 4 * 4294967296 + k 5 * 1099511627776 + k 6 % 8 * 281474976710656 := by
  obtain ⟨a0, b0⟩ := hk' 0 (by decide)
  obtain ⟨a1, b1⟩ := hk' 1 (by decide)
  obtain ⟨a2, b2⟩ := hk' 2 (by decide)
  obtain ⟨a3, b3⟩ := hk' 3 (by decide)
  obtain ⟨a4, b4⟩ := hk' 4 (by decide)
  obtain ⟨a5, b5⟩ := hk' 5 (by decide)
  obtain ⟨a6, b6⟩ := hk' 6 (by decide)
  obtain ⟨a7, b7⟩ := hk' 7 (by decide)
  show wsum k 0 8 % 2251799813685248 = _
  simp only [wsum, Nat.zero_add]
  omega
 have e1 : ofF k 1 = k 6 / 8 + k 7 * 32 + k 8 * 8192 + k 9 * 2097152 + k 10 * 536870912 + k 11 * 137438953472 + k 12 % 64 * 35184372088832 := by
  obtain ⟨a0, b0⟩ := hk' 6 (by decide)
  obtain ⟨a1, b1⟩ := hk' 7 (by decide)
  obtain ⟨a2, b2⟩ := hk' 8 (by decide)
  obtain ⟨a3, b3⟩ := hk' 9 (by decide)
  obtain ⟨a4, b4⟩ := hk' 10 (by decide)
  obtain ⟨a5, b5⟩ := hk' 11 (by decide)
  obtain ⟨a6, b6⟩ := hk' 12 (by decide)
  obtain ⟨a7, b7⟩ := hk' 13 (by decide)
  show wsum k 6 8 / 8 % 2251799813685248 = _
  simp only [wsum, Nat.reduceAdd]
  omega
 have e2 : ofF k 2 = k 12 / 64 + k 13 * 4 + k 14 * 1024 + k 15 * 262144 + k 16 * 67108864 + k 17 * 17179869184 + k 18 * 4398046511104 + k 19 % 2 * 1125899906842624 := by
  obtain ⟨a0, b0⟩ := hk' 12 (by decide)
  obtain ⟨a1, b1⟩ := hk' 13 (by decide)
  obtain ⟨a2, b2⟩ := hk' 14 (by decide)
  obtain ⟨a3, b3⟩ := hk' 15 (by decide)
  obtain ⟨a4, b4⟩ := hk' 16 (by decide)
  obtain ⟨a5, b5⟩ := hk' 17 (by decide)
  obtain ⟨a6, b6⟩ := hk' 18 (by decide)
  obtain ⟨a7, b7⟩ := hk' 19 (by decide)
  show wsum k 12 8 / 64 % 2251799813685248 = _
  simp only [wsum, Nat.reduceAdd]
  omega
 have e3 : ofF k 3 = k 19 / 2 + k 20 * 128 + k 21 * 32768 + k 22 * 8388608 + k 23 * 2147483648 + k 24 * 549755813888 + k 25 % 16 * 140737488355328 := by
  obtain ⟨a0, b0⟩ := hk' 19 (by decide)
  obtain ⟨a1, b1⟩ := hk' 20 (by decide)
  obtain ⟨a2, b2⟩ := hk' 21 (by decide)
  obtain ⟨a3, b3⟩ := hk' 22 (by decide)
  obtain ⟨a4, b4⟩ := hk' 23 (by decide)
  obtain ⟨a5, b5⟩ := hk' 24 (by decide)
  obtain ⟨a6, b6⟩ := hk' 25 (by decide)
  obtain ⟨a7, b7⟩ := hk' 26 (by decide)
  show wsum k 19 8 / 2 % 2251799813685248 = _
  simp only [wsum, Nat.reduceAdd]
  omega
 have e4 : ofF k 4 = k 25 / 16 + k 26 * 16 + k 27 * 4096 + k 28 * 1048576 + k 29 * 268435456 + k 30 * 68719476736 + k 31 % 128 * 17592186044416 := by
  obtain ⟨a0, b0⟩ := hk' 24 (by decide)
  obtain ⟨a1, b1⟩ := hk' 25 (by decide)
  obtain ⟨a2, b2⟩ := hk' 26 (by decide)
  obtain ⟨a3, b3⟩ := hk' 27 (by decide)
  obtain ⟨a4, b4⟩ := hk' 28 (by decide)
  obtain ⟨a5, b5⟩ := hk' 29 (by decide)
  obtain ⟨a6, b6⟩ := hk' 30 (by decide)
  obtain ⟨a7, b7⟩ := hk' 31 (by decide)
  show wsum k 24 8 / 4096 % 2251799813685248 = _
  simp only [wsum, Nat.reduceAdd]
  omega
 obtain ⟨a0, b0⟩ := hk' 30 (by decide)
 have l15 : ofL k 15 = k 30 + 256 * (k 31 % 128) := by
  show (k 30 + 256 * k 31) % 32768 = _
  omega
 have l : ∀ i, i < 15 → ofL k i = k (2 * i) + 256 * k (2 * i + 1) := fun i hi => by unfold ofL; rw [if_neg (by omega)]
 simp only [dval, l15, l 0 (by decide), l 1 (by decide), l 2 (by decide), l 3 (by decide), l 4 (by decide), l 5 (by decide), l 6 (by decide), l 7 (by decide), l 8 (by decide), l 9 (by decide), l 10 (by decide), l 11 (by decide), l 12 (by decide), l 13 (by decide), l 14 (by decide)]
 unfold valE
 rw [e0, e1, e2, e3, e4]
 simp only [Nat.reduceMul, Nat.reduceAdd]
 have q6 := Int.emod_add_mul_ediv (k 6) 8
 have q12 := Int.emod_add_mul_ediv (k 12) 64
 have q19 := Int.emod_add_mul_ediv (k 19) 2
 have q25 := Int.emod_add_mul_ediv (k 25) 16
 clear e0 e1 e2 e3 e4 l l15 hk hk'
 omega
theorem word_val (v : Int) (h0 : 0 ≤ v) (h1 : v < 57896044618658097711785492504343953926634992332820282019728792003956564819968) (j : Nat) (hj : j < 4) : wordD (digN v) j = v / 18446744073709551616 ^ j % 18446744073709551616 := by
 rcases (by omega : j = 0 ∨ j = 1 ∨ j = 2 ∨ j = 3) with rfl | rfl | rfl | rfl
 ·show (v % 2251799813685248 + v / 2251799813685248 % 2251799813685248 * 2251799813685248) % 18446744073709551616 = _
  omega
 ·show (v / 2251799813685248 % 2251799813685248 / 8192 + v / 5070602400912917605986812821504 % 2251799813685248 * 274877906944) % 18446744073709551616 = _
  omega
 ·show (v / 5070602400912917605986812821504 % 2251799813685248 / 67108864 + v / 11417981541647679048466287755595961091061972992 % 2251799813685248 * 33554432) % 18446744073709551616 = _
  omega
 ·show v / 11417981541647679048466287755595961091061972992 % 2251799813685248 / 549755813888 + v / 25711008708143844408671393477458601640355247900524685364822016 % 2251799813685248 * 4096 = _
  omega
theorem key_bytes (v : Int) (h0 : 0 ≤ v) (h1 : v < 57896044618658097711785492504343953926634992332820282019728792003956564819968) (i : Nat) (hi : i < 32) : keyN v i = bytesN (numN v) i := by
 have hw := word_val v h0 h1
 rcases (by omega : i = 0 ∨ i = 1 ∨ i = 2 ∨ i = 3 ∨ i = 4 ∨ i = 5 ∨ i = 6 ∨ i = 7 ∨ i = 8 ∨ i = 9 ∨ i = 10 ∨ i = 11 ∨ i = 12 ∨ i = 13 ∨ i = 14 ∨ i = 15 ∨ i = 16 ∨ i = 17 ∨ i = 18 ∨ i = 19 ∨ i = 20 ∨ i = 21 ∨ i = 22 ∨ i = 23 ∨ i = 24 ∨ i = 25 ∨ i = 26 ∨ i = 27 ∨ i = 28 ∨ i = 29 ∨ i = 30 ∨ i = 31) with rfl | rfl | rfl | rfl | rfl | rfl | rfl | rfl | rfl | rfl | rfl | rfl | rfl | rfl | rfl | rfl | rfl | rfl | rfl | rfl | rfl | rfl | rfl | rfl | rfl | rfl | rfl | rfl | rfl | rfl | rfl | rfl
 ·show wordD (digN v) 0 / 2 ^ 0 % 256 = numN v 0 % 256
  rw [hw 0 (by decide)]
  simp only [numN, Nat.reduceMul, Nat.reducePow, Int.reducePow, Nat.reduceAdd]
  omega
 ·show wordD (digN v) 0 / 2 ^ 8 % 256 = numN v 0 / 256
  rw [hw 0 (by decide)]
  simp only [numN, Nat.reduceMul, Nat.reducePow, Int.reducePow, Nat.reduceAdd]
  omega
 ·show wordD (digN v) 0 / 2 ^ 16 % 256 = numN v 1 % 256
  rw [hw 0 (by decide)]
  simp only [numN, Nat.reduceMul, Nat.reducePow, Int.reducePow, Nat.reduceAdd]
  omega
 ·show wordD (digN v) 0 / 2 ^ 24 % 256 = numN v 1 / 256
  rw [hw 0 (by decide)]
  simp only [numN, Nat.reduceMul, Nat.reducePow, Int.reducePow, Nat.reduceAdd]
  omega
 ·show wordD (digN v) 0 / 2 ^ 32 % 256 = numN v 2 % 256
  rw [hw 0 (by decide)]
  simp only [numN, Nat.reduceMul, Nat.reducePow, Int.reducePow, Nat.reduceAdd]
  omega
 ·show wordD (digN v) 0 / 2 ^ 40 % 256 = numN v 2 / 256
  rw [hw 0 (by decide)]
  simp only [numN, Nat.reduceMul, Nat.reducePow, Int.reducePow, Nat.reduceAdd]
  omega
 ·show wordD (digN v) 0 / 2 ^ 48 % 256 = numN v 3 % 256
  rw [hw 0 (by decide)]
  simp only [numN, Nat.reduceMul, Nat.reducePow, Int.reducePow, Nat.reduceAdd]
  omega
 ·show wordD (digN v) 0 / 2 ^ 56 % 256 = numN v 3 / 256
  rw [hw 0 (by decide)]
  simp only [numN, Nat.reduceMul, Nat.reducePow, Int.reducePow, Nat.reduceAdd]
  omega
 ·show wordD (digN v) 1 / 2 ^ 0 % 256 = numN v 4 % 256
  rw [hw 1 (by decide)]
  simp only [numN, Nat.reduceMul, Nat.reducePow, Int.reducePow, Nat.reduceAdd]
  omega
 ·show wordD (digN v) 1 / 2 ^ 8 % 256 = numN v 4 / 256
  rw [hw 1 (by decide)]
  simp only [numN, Nat.reduceMul, Nat.reducePow, Int.reducePow, Nat.reduceAdd]
  omega
 ·show wordD (digN v) 1 / 2 ^ 16 % 256 = numN v 5 % 256
  rw [hw 1 (by decide)]
  simp only [numN, Nat.reduceMul, Nat.reducePow, Int.reducePow, Nat.reduceAdd]
  omega
 ·show wordD (digN v) 1 / 2 ^ 24 % 256 = numN v 5 / 256
  rw [hw 1 (by decide)]
  simp only [numN, Nat.reduceMul, Nat.reducePow, Int.reducePow, Nat.reduceAdd]
  omega
 ·show wordD (digN v) 1 / 2 ^ 32 % 256 = numN v 6 % 256
  rw [hw 1 (by decide)]
  simp only [numN, Nat.reduceMul, Nat.reducePow, Int.reducePow, Nat.reduceAdd]
  omega
 ·show wordD (digN v) 1 / 2 ^ 40 % 256 = numN v 6 / 256
  rw [hw 1 (by decide)]
  simp only [numN, Nat.reduceMul, Nat.reducePow, Int.reducePow, Nat.reduceAdd]
  omega
 ·show wordD (digN v) 1 / 2 ^ 48 % 256 = numN v 7 % 256
  rw [hw 1 (by decide)]
  simp only [numN, Nat.reduceMul, Nat.reducePow, Int.reducePow, Nat.reduceAdd]
  omega
 ·show wordD (digN v) 1 / 2 ^ 56 % 256 = numN v 7 / 256
  rw [hw 1 (by decide)]
  simp only [numN, Nat.reduceMul, Nat.reducePow, Int.reducePow, Nat.reduceAdd]
  omega
 ·show wordD (digN v) 2 / 2 ^ 0 % 256 = numN v 8 % 256
  rw [hw 2 (by decide)]
  simp only [numN, Nat.reduceMul, Nat.reducePow, Int.reducePow, Nat.reduceAdd]
  omega
 ·show wordD (digN v) 2 / 2 ^ 8 % 256 = numN v 8 / 256
  rw [hw 2 (by decide)]
  simp only [numN, Nat.reduceMul, Nat.reducePow, Int.reducePow, Nat.reduceAdd]
  omega
 ·show wordD (digN v) 2 / 2 ^ 16 % 256 = numN v 9 % 256
  rw [hw 2 (by decide)]
  simp only [numN, Nat.reduceMul, Nat.reducePow, Int.reducePow, Nat.reduceAdd]
  omega
 ·show wordD (digN v) 2 / 2 ^ 24 % 256 = numN v 9 / 256
  rw [hw 2 (by decide)]
  simp only [numN, Nat.reduceMul, Nat.reducePow, Int.reducePow, Nat.reduceAdd]
  omega
 ·show wordD (digN v) 2 / 2 ^ 32 % 256 = numN v 10 % 256
  rw [hw 2 (by decide)]
  simp only [numN, Nat.reduceMul, Nat.reducePow, Int.reducePow, Nat.reduceAdd]
  omega
 ·show wordD (digN v) 2 / 2 ^ 40 % 256 = numN v 10 / 256
  rw [hw 2 (by decide)]
  simp only [numN, Nat.reduceMul, Nat.reducePow, Int.reducePow, Nat.reduceAdd]
  omega
 ·show wordD (digN v) 2 / 2 ^ 48 % 256 = numN v 11 % 256
  rw [hw 2 (by decide)]
  simp only [numN, Nat.reduceMul, Nat.reducePow, Int.reducePow, Nat.reduceAdd]
  omega
 ·show wordD (digN v) 2 / 2 ^ 56 % 256 = numN v 11 / 256
  rw [hw 2 (by decide)]
  simp only [numN, Nat.reduceMul, Nat.reducePow, Int.reducePow, Nat.reduceAdd]
  omega
 ·show wordD (digN v) 3 / 2 ^ 0 % 256 = numN v 12 % 256
  rw [hw 3 (by decide)]
  simp only [numN, Nat.reduceMul, Nat.reducePow, Int.reducePow, Nat.reduceAdd]
  omega
 ·show wordD (digN v) 3 / 2 ^ 8 % 256 = numN v 12 / 256
  rw [hw 3 (by decide)]
  simp only [numN, Nat.reduceMul, Nat.reducePow, Int.reducePow, Nat.reduceAdd]
  omega
 ·show wordD (digN v) 3 / 2 ^ 16 % 256 = numN v 13 % 256
  rw [hw 3 (by decide)]
  simp only [numN, Nat.reduceMul, Nat.reducePow, Int.reducePow, Nat.reduceAdd]
  omega
 ·show wordD (digN v) 3 / 2 ^ 24 % 256 = numN v 13 / 256
  rw [hw 3 (by decide)]
  simp only [numN, Nat.reduceMul, Nat.reducePow, Int.reducePow, Nat.reduceAdd]
  omega
 ·show wordD (digN v) 3 / 2 ^ 32 % 256 = numN v 14 % 256
  rw [hw 3 (by decide)]
  simp only [numN, Nat.reduceMul, Nat.reducePow, Int.reducePow, Nat.reduceAdd]
  omega
 ·show wordD (digN v) 3 / 2 ^ 40 % 256 = numN v 14 / 256
  rw [hw 3 (by decide)]
  simp only [numN, Nat.reduceMul, Nat.reducePow, Int.reducePow, Nat.reduceAdd]
  omega
 ·show wordD (digN v) 3 / 2 ^ 48 % 256 = numN v 15 % 256
  rw [hw 3 (by decide)]
  simp only [numN, Nat.reduceMul, Nat.reducePow, Int.reducePow, Nat.reduceAdd]
  omega
 ·show wordD (digN v) 3 / 2 ^ 56 % 256 = numN v 15 / 256
  rw [hw 3 (by decide)]
  simp only [numN, Nat.reduceMul, Nat.reducePow, Int.reducePow, Nat.reduceAdd]
  omega
end Go.Proofs.YtdoolhbmekahdaaGreatDoor
namespace Go.Proofs.YtdoolhbmekahdaaGreatDoor
open Go.RowKit
set_option linter.unusedVariables false
set_option linter.unusedSimpArgs false
end Go.Proofs.YtdoolhbmekahdaaGreatDoor
namespace Go.Proofs.YtdoolhbmekahdaaGreatDoor
open Go.RowKit
set_option linter.unusedVariables false
set_option linter.unusedSimpArgs false
end Go.Proofs.YtdoolhbmekahdaaGreatDoor
namespace Go.Proofs.YtdoolhbmekahdaaGreatDoor
open Go.RowKit
set_option linter.unusedVariables false
set_option linter.unusedSimpArgs false
def sumF (F : Nat → Nat → Int) : Nat → Nat → Int
 | 0 => nought
 | j + 1 => carryF (plus (sumF F j) (F j))
theorem loose_sum (F : Nat → Nat → Int) : ∀ n, (∀ j, j < n → Under 18014398509481984 (F j)) → Under 18014398509481984 (sumF F n)
 | 0, _ => loose_nought
 | n + 1, h => loose_plus _ _ (loose_sum F n fun j hj => h j (by omega)) (h n (by omega))
def ElemsAt (w : World) (oa : Option Addr) (n : Nat) (F : Nat → Nat → Int) : Prop :=
 n = 0 ∨ ∃ ad : Addr, oa = some ad ∧ ∀ w', Below w.heap.size w w' → ∀ j, j < n → (loadNext 386 (.pointer (some (ad.add (j * 5))))).run Tryz.prog w' = .ok (.value (.agg (ints .u64 5 (F j)))) w'
theorem ElemsAt.later {w w' : World} {oa : Option Addr} {n : Nat} {F : Nat → Nat → Int} (h : ElemsAt w oa n F) (hb : Below w.heap.size w w') : ElemsAt w' oa n F := by
 rcases h with h | ⟨ad, ho, hl⟩
 ·exact .inl h
 ·exact .inr ⟨ad, ho, fun w'' hb' => hl w'' (Grew.trans hb hb')⟩
end Go.Proofs.YtdoolhbmekahdaaGreatDoor
namespace Go.Proofs.YtdoolhbmekahdaaGreatDoor
open Go.RowKit
set_option linter.unusedVariables false
set_option linter.unusedSimpArgs false
theorem keyD_bytes (d : Nat → Int) : Bytes 32 (keyD d) := fun i _ => by unfold keyD; omega
theorem val_small (n : Int) (h0 : 0 ≤ n) (h1 : n ≤ 4294967295) : valE (upd nought 0 n) % 57896044618658097711785492504343953926634992332820282019728792003956564819949 = n := by
 show (n + 0 * _ + 0 * _ + 0 * _ + 0 * _) % _ = _
 omega
theorem of_key (v : Int) (h0 : 0 ≤ v) (h1 : v < 57896044618658097711785492504343953926634992332820282019728792003956564819949) : valE (ofF (keyN v)) = v := by
 rw [of_val (keyN v) (keyD_bytes _)]
 have e : dval (ofL (keyN v)) 16 = dval (numN v) 16 := dval_congr 16 fun i hi => by
  have d := numN_digits v i hi
  have kb := fun j hj => key_bytes v h0 (by omega) j hj
  by_cases h : i = 15
  ·subst h
   show (keyN v 30 + 256 * keyN v 31) % 32768 = _
   rw [kb 30 (by decide), kb 31 (by decide)]
   show (numN v 15 % 256 + 256 * (numN v 15 / 256)) % 32768 = _
   have hn : numN v 15 < 32768 := by
    show v / 65536 ^ 15 % 65536 < _
    omega
   omega
  ·unfold ofL
   rw [if_neg h, kb (2 * i) (by omega), kb (2 * i + 1) (by omega)]
   unfold bytesN
   rw [if_pos (by omega), if_neg (by omega), show 2 * i / 2 = i by omega, show (2 * i + 1) / 2 = i by omega]
   omega
 rw [e, num_val h0 h1]
end Go.Proofs.YtdoolhbmekahdaaGreatDoor
namespace Go.Proofs.YtdoolhbmekahdaaGreatDoor
open Go.RowKit
set_option linter.unusedVariables false
set_option linter.unusedSimpArgs false
end Go.Proofs.YtdoolhbmekahdaaGreatDoor
namespace Go.Proofs.YtdoolhbmekahdaaGreatDoor
open Go.RowKit
set_option linter.unusedVariables false
set_option linter.unusedSimpArgs false
def nv (f : Nat → Int) : Int := valE f % 57896044618658097711785492504343953926634992332820282019728792003956564819949
theorem nv_bd (f : Nat → Int) : 0 ≤ nv f ∧ nv f < 57896044618658097711785492504343953926634992332820282019728792003956564819949 := by unfold nv; omega
theorem nv_carry (f : Nat → Int) : nv (carryF f) = nv f := val_carry f
theorem nv_plus (a b : Nat → Int) : nv (carryF (plus a b)) = (nv a + nv b) % 57896044618658097711785492504343953926634992332820282019728792003956564819949 := by
 rw [nv_carry]; unfold nv; rw [val_plus]; omega
theorem nv_minus (a b : Nat → Int) : nv (carryF (minus a b)) = (nv a - nv b) % 57896044618658097711785492504343953926634992332820282019728792003956564819949 := by
 rw [nv_carry]; unfold nv; rw [val_minus, val_modl]; omega
theorem nv_nought : nv nought = 0 := by unfold nv; rw [val_nought]; rfl
def keyV (x : Int) : Nat → Int := keyN x
theorem keyV_any (f : Nat → Int) (w : World) (hf : Under 18014398509481984 f) :
  Calls Tryz.prog 308 #[.agg (ints .u64 5 f)] w fun e w' => e = .returned (.agg (ints .u8 32 (keyV (nv f)))) ∧ Below w.heap.size w w' := by
 have := key_any f w hf
 rw [key_val f hf] at this
 exact this
theorem keyV_same {x y : Int} (h : x = y) : same 32 (keyV x) (keyV y) = true := by rw [h]; exact same_refl _ _
theorem loose_tight {f : Nat → Int} (h : Under 4503599627370496 f) : Under 18014398509481984 f := fun i hi => by have := h i hi; omega
end Go.Proofs.YtdoolhbmekahdaaGreatDoor
