/- What five limbs stand for, by the reference. -/
import Derived.Test.YtfapmpnkemogkaaRef02b
namespace Go.Proofs.Ytfapmpnkemogkaa
open Go.RowKit
set_option linter.unusedVariables false
set_option linter.unusedSimpArgs false

def four (x0 x1 x2 x3 : Int) : Nat → Int := fun i => if i = 0 then x0 else if i = 1 then x1 else if i = 2 then x2 else if i = 3 then x3 else 0
theorem zeroCells_get (n i : Nat) : (Builtin.zeroCells #[Value.int .i64 0] n)[i]? = if i < n then some (.int .i64 0) else none := by
  unfold Builtin.zeroCells
  by_cases h : i < n
  · rw [if_pos h]
    have : i % 1 = 0 := Nat.mod_one i
    simp [h, this]
  · rw [if_neg h]; simp; omega
theorem four_cells (x0 x1 x2 x3 : Int) (g : Nat) (hg : 16 ≤ g) :
    #[Value.int .i64 x0, .int .i64 x1, .int .i64 x2, .int .i64 x3] ++ Builtin.zeroCells #[Value.int .i64 0] 12 ++ Builtin.zeroCells #[Value.int .i64 0] (g - 16) = ints .i64 g (four x0 x1 x2 x3) := by
  have hz : ∀ n, (Builtin.zeroCells #[Value.int .i64 0] n).size = n := fun n => by simp [Builtin.zeroCells]
  apply Array.ext_getElem?
  intro i
  by_cases h4 : i < 4
  · rw [ints_get _ _ _ _ (by omega), Array.getElem?_append_left (by simp [hz]; omega), Array.getElem?_append_left (by simpa using h4)]
    rcases (by omega : i = 0 ∨ i = 1 ∨ i = 2 ∨ i = 3) with rfl | rfl | rfl | rfl <;> rfl
  · have hf : four x0 x1 x2 x3 i = 0 := by unfold four; rw [if_neg (by omega), if_neg (by omega), if_neg (by omega), if_neg (by omega)]
    by_cases h16 : i < 16
    · rw [ints_get _ _ _ _ (by omega), Array.getElem?_append_left (by simp [hz]; omega), Array.getElem?_append_right (by simp; omega), zeroCells_get, hf]
      rw [if_pos (by simp; omega)]
    · rw [Array.getElem?_append_right (by simp [hz]; omega), zeroCells_get]
      by_cases hg' : i < g
      · rw [ints_get _ _ _ _ hg', hf, if_pos (by simp [hz]; omega)]
      · rw [if_neg (by simp [hz]; omega), Array.getElem?_eq_none (by rw [ints_size]; omega)]
def zerosOf (P : Program) (ats : Array TypeId) (ty : TypeId) (b : Nat) (w : World) (o : Option Obj) : Result Next :=
  match o with
  | some (.cells _ _ _) => (appendNext ats ty #[.slice (some ⟨b, 0, none⟩) 4 4, .int .i64 12]).run P w
  | _ => (appendNext ats ty #[.slice (some ⟨b, 0, none⟩) 4 4, .int .i64 12]).run P w
@[go_sem high] theorem append_zeros' (ty : TypeId) (cs : Array Bool) (args : Array Value) : builtin .append #[103, 3] ty cs args = appendNext #[103, 3] ty args := by unfold appendNext; rfl
@[go_sem ↓ high] theorem append_zeros (ty : TypeId) (cs : Array Bool) (args : Array Value) : builtin .append #[103, 3] ty cs args = appendNext #[103, 3] ty args := by unfold appendNext; rfl
theorem append_zeros_run (ty : TypeId) (b : Nat) (w : World) (x0 x1 x2 x3 : Int) (t : TypeId) (fr : Nat × Nat) (hb : objAt w b = some (.cells #[.int .i64 x0, .int .i64 x1, .int .i64 x2, .int .i64 x3] t fr)) :
    (appendNext #[103, 3] ty #[.slice (some ⟨b, 0, none⟩) 4 4, .int .i64 12]).run Try.prog w =
      .ok (.value (.slice (some ⟨w.heap.size, 0, none⟩) 16 (grownCap w 16 4 3))) (w.drew.alloc (.cells (ints .i64 (grownCap w 16 4 3) (four x0 x1 x2 x3)) 3)) := by
  unfold objAt at hb
  have hi : ∃ i, Try.prog.info? 3 = some i ∧ i.size = 1 ∧ i.bytes = 8 ∧ i.zero = some (.int .i64 0) := ⟨(Try.prog.info? 3).get (by kernel_rfl), by kernel_rfl, by kernel_rfl, by kernel_rfl, by kernel_rfl⟩
  obtain ⟨i, hi, hs, hby, hz⟩ := hi
  have hfo := run_firstCells_some (P := Try.prog) w.drew i.size 4 ⟨b, 0, none⟩ 4 4 [Value.int .i64 x0, .int .i64 x1, .int .i64 x2, .int .i64 x3] (by simp [hs]) (fun j u hj => by
    have hadd : (⟨b, 0, none⟩ : Addr).add j = ⟨b, j, none⟩ := by unfold Addr.add; split <;> simp_all
    rw [hadd]
    show w.cell? ⟨b, j, none⟩ = some u
    rw [cell_of_row w b j _ _ _ hb]
    simpa using hj)
  rw [hs] at hfo
  rw [← four_cells x0 x1 x2 x3 _ (grownCap_ge w 16 4 3)]
  unfold appendNext
  simp [Builtin.append_, run_underlying Try.underlying103, run_underlying Try.underlying3, sizeOf, typeInfo, zeroValue, hi, hz, hs, hby, asInt, asIntOf, Question.forced, hfo, newRow, grownCap, IntKind.wrap_i64, Builtin.nextslicecap, Value.cells]
  intro h
  exact absurd h (by decide)
theorem zerosOf_eq (ty : TypeId) (b : Nat) (w : World) : (appendNext #[103, 3] ty #[.slice (some ⟨b, 0, none⟩) 4 4, .int .i64 12]).run Try.prog w = zerosOf Try.prog #[103, 3] ty b w (objAt w b) := by
  unfold zerosOf; split <;> rfl
theorem zerosOf_lit (ty : TypeId) (b : Nat) (w : World) (x0 x1 x2 x3 : Int) (t : TypeId) (fr : Nat × Nat) (hb : objAt w b = some (.cells #[.int .i64 x0, .int .i64 x1, .int .i64 x2, .int .i64 x3] t fr)) :
    zerosOf Try.prog #[103, 3] ty b w (some (.cells #[.int .i64 x0, .int .i64 x1, .int .i64 x2, .int .i64 x3] t fr)) =
      .ok (.value (.slice (some ⟨w.heap.size, 0, none⟩) 16 (grownCap w 16 4 3))) (w.drew.alloc (.cells (ints .i64 (grownCap w 16 4 3) (four x0 x1 x2 x3)) 3)) :=
  append_zeros_run ty b w x0 x1 x2 x3 t fr hb
attribute [irreducible] zerosOf
attribute [go_sem] zerosOf_eq zerosOf_lit
theorem fold_call (x0 x1 x2 x3 : Int) (b c : Nat) (w0 : World) (m0 : More) (o : Obj) (t : TypeId) (fr : Nat × Nat) (hF : Small50 (four x0 x1 x2 x3)) (hb : b = ((more w0 m0).alloc o).heap.size) (hc : 16 ≤ c) :
    Calls Try.prog 87 #[.slice (some ⟨b, 0, none⟩) 16 c] (((more w0 m0).alloc o).alloc (.cells (#[Value.int .i64 x0, .int .i64 x1, .int .i64 x2, .int .i64 x3] ++ (Builtin.zeroCells #[Value.int .i64 0] 12 ++ Builtin.zeroCells #[Value.int .i64 0] (c - 16))) t fr)).drew.drew
      fun e w' => e = .returned (.agg (ints .i64 16 (numN (dval (four x0 x1 x2 x3) 16 % 57896044618658097711785492504343953926634992332820282019728792003956564819949)))) ∧ ∃ m', w' = more w0 m' := by
  rw [← Array.append_assoc, four_cells x0 x1 x2 x3 c hc]
  refine (fold16_any _ b c c t fr (((more w0 m0).alloc o).alloc (Obj.cells (ints .i64 c (four x0 x1 x2 x3)) t fr)).drew.drew hF (objAt_alloc_at ((more w0 m0).alloc o) _ _ hb) hc).mono ?_
  rintro e1 w1 ⟨h1, h2⟩
  refine ⟨h1, more_of_below ?_⟩
  have a0 : Below w0.heap.size w0 (more w0 m0) := below_more w0 m0
  have a1 := a0.alloc a0.size o
  have a2 := a1.alloc a1.size (Obj.cells (ints .i64 c (four x0 x1 x2 x3)) t fr)
  have a3 := a2.drew.drew
  exact a3.trans (h2.mono a3.size)
def putRow (P : Program) (g : Nat) (cs : Array Value) (w : World) (o : Option Obj) : Result Unit :=
  match o with
  | some (.cells old _ (0, 0)) => if old.size = cs.size ∧ oneCells cs = true then .ok () (w.setRow g cs) else (storeCells ⟨g, 0, none⟩ cs.toList).run P w
  | _ => (storeCells ⟨g, 0, none⟩ cs.toList).run P w
theorem all_oneCell {cs : Array Value} (h : oneCells cs = true) : ∀ v ∈ cs.toList, v.oneCell' = true := by
  unfold oneCells at h
  rw [Array.all_eq_true] at h
  intro v hv
  obtain ⟨i, hi, rfl⟩ := List.getElem_of_mem hv
  exact h i (by simpa using hi)
@[go_sem] theorem putRow_eq {P : Program} (k : IntKind) (n : Nat) (f : Nat → Int) (g : Nat) (w : World) : (storeCells ⟨g, 0, none⟩ (ints k n f).toList).run P w = putRow P g (ints k n f) w (objAt w g) := by
  unfold objAt putRow
  split
  · rename_i old t' hg
    split
    · rename_i h
      have := run_storeCells_from (P := P) g t' (ints k n f).toList 0 old w hg (by simp [h.1]) (all_oneCell h.2)
      simpa using this
    · rfl
  · rfl
@[go_sem] theorem putRow_cells {P : Program} {g : Nat} {w : World} (old cs : Array Value) (t' : TypeId) (h1 : old.size = cs.size) (h3 : oneCells cs = true) :
    putRow P g cs w (some (.cells old t' (0, 0))) = .ok () (w.setRow g cs) := by
  simp only [putRow]
  rw [if_pos ⟨h1, h3⟩]
attribute [irreducible] putRow
theorem refAdd_open (a b : Nat → Int) (w0 : World) (m0 : More) (ha : Digits a) (hb : Digits b) :
    Calls Try.prog 44 #[.agg #[.int .i64 (a 0), .int .i64 (a 1), .int .i64 (a 2), .int .i64 (a 3), .int .i64 (a 4), .int .i64 (a 5), .int .i64 (a 6), .int .i64 (a 7), .int .i64 (a 8), .int .i64 (a 9), .int .i64 (a 10), .int .i64 (a 11), .int .i64 (a 12), .int .i64 (a 13), .int .i64 (a 14), .int .i64 (a 15)], .agg (ints .i64 16 b)] (more w0 m0) fun e w' => e = .returned (.agg (ints .i64 16 (numN ((dval a 16 + dval b 16) % 57896044618658097711785492504343953926634992332820282019728792003956564819949)))) ∧ ∃ m', w' = more w0 m' := by
  have h : #[Value.int .i64 (a 0), .int .i64 (a 1), .int .i64 (a 2), .int .i64 (a 3), .int .i64 (a 4), .int .i64 (a 5), .int .i64 (a 6), .int .i64 (a 7), .int .i64 (a 8), .int .i64 (a 9), .int .i64 (a 10), .int .i64 (a 11), .int .i64 (a 12), .int .i64 (a 13), .int .i64 (a 14), .int .i64 (a 15)] = ints .i64 16 a := by unfold ints; rfl
  rw [h]
  refine (refAdd_any a b _ ha hb).mono ?_
  rintro e1 w1 ⟨h1, h2⟩
  exact ⟨h1, more_on h2⟩
theorem four_val (x0 x1 x2 x3 : Int) : dval (four x0 x1 x2 x3) 16 = x0 + x1 * 65536 + x2 * 4294967296 + x3 * 281474976710656 := by
  have st : ∀ k, dval (four x0 x1 x2 x3) (4 + k) = x0 + x1 * 65536 + x2 * 4294967296 + x3 * 281474976710656 := by
    intro k
    induction k with
    | zero =>
      show 0 + x0 * 65536 ^ 0 + x1 * 65536 ^ 1 + x2 * 65536 ^ 2 + x3 * 65536 ^ 3 = _
      omega
    | succ k ih =>
      have z : four x0 x1 x2 x3 (4 + k) = 0 := by unfold four; rw [if_neg (by omega), if_neg (by omega), if_neg (by omega), if_neg (by omega)]
      show dval _ (4 + k) + four x0 x1 x2 x3 (4 + k) * 65536 ^ (4 + k) = _
      rw [ih, z]; omega
  exact st 12
theorem rel_more {A B : Prop} {X W : World} (a : A) (b : B) (h : Below X.heap.size X W) : ∃ m, A ∧ B ∧ W = more X m := by
  obtain ⟨m, rfl⟩ := more_of_below h
  exact ⟨m, a, b, rfl⟩
theorem four_small (x : Int) (h0 : 0 ≤ x) (h1 : x ≤ 18446744073709551615) : Small50 (four (x % 65536) (x / 65536 % 65536) (x / 4294967296 % 65536) (x / 281474976710656)) := fun i hi => by
  unfold four
  split
  · omega
  · split
    · omega
    · split
      · omega
      · split <;> omega
theorem four_all (x : Int) : dval (four (x % 65536) (x / 65536 % 65536) (x / 4294967296 % 65536) (x / 281474976710656)) 16 = x := by
  rw [four_val]; omega
/-- what the limbs from the highest on stand for -/
def hv (e : Nat → Int) : Nat → Int
  | 0 => 0
  | s + 1 => (hv e s * 2251799813685248 % 57896044618658097711785492504343953926634992332820282019728792003956564819949 + e (4 - s) % 57896044618658097711785492504343953926634992332820282019728792003956564819949) % 57896044618658097711785492504343953926634992332820282019728792003956564819949
def dbl (v : Int) : Nat → Int
  | 0 => v
  | j + 1 => (dbl v j + dbl v j) % 57896044618658097711785492504343953926634992332820282019728792003956564819949
theorem dbl_bd (v : Int) (h0 : 0 ≤ v) (h1 : v < 57896044618658097711785492504343953926634992332820282019728792003956564819949) : ∀ j, 0 ≤ dbl v j ∧ dbl v j < 57896044618658097711785492504343953926634992332820282019728792003956564819949
  | 0 => ⟨h0, h1⟩
  | j + 1 => by unfold dbl; omega
theorem dbl_val (v : Int) (h0 : 0 ≤ v) (h1 : v < 57896044618658097711785492504343953926634992332820282019728792003956564819949) : ∀ j, dbl v j = v * 2 ^ j % 57896044618658097711785492504343953926634992332820282019728792003956564819949
  | 0 => by simp [dbl]; omega
  | j + 1 => by
    rw [dbl, dbl_val v h0 h1 j, Int.pow_succ, ← Int.mul_assoc]
    generalize v * 2 ^ j = x
    omega
theorem hv_bd (e : Nat → Int) : ∀ s, 0 ≤ hv e s ∧ hv e s < 57896044618658097711785492504343953926634992332820282019728792003956564819949
  | 0 => by simp [hv]
  | s + 1 => by unfold hv; omega
set_option maxRecDepth 100000 in
set_option maxHeartbeats 1000000 in
theorem limbs_any (e : Nat → Int) (w : World) (he : ∀ i, i < 5 → 0 ≤ e i ∧ e i ≤ 18446744073709551615) :
    Calls Try.prog 43 #[.agg (ints .u64 5 e)] w fun e' w' => e' = .returned (.agg (ints .i64 16 (numN (hv e 5)))) ∧ Below w.heap.size w w' := by
  have n0 : ints .i64 16 nought = ints .i64 16 (numN (hv e 0)) := ints_congr fun i _ => by simp [nought, hv, numN]
  have N0 : Hid (ints .i64 16 nought = ints .i64 16 (numN (hv e 0))) := n0
  clear n0
  go_enter Try.func43, Try.ntmps43
  go_wp2
  go_loopw [4] (fun i wr => ∃ s : Nat, ∃ m : More, s ≤ 5 ∧ i = .int .i64 (4 - (s : Int)) ∧ wr = more (((w.alloc (.cells (ints .u64 5 e) 36)).alloc (.cells (ints .i64 16 nought) 41)).alloc (.cells (ints .i64 16 (numN (hv e s))) 41)) m) (fun i _ => (intOf i + 1).toNat)
  case atStart => exact ⟨0, _, by omega, rfl, by rw [← N0.out]; exact (more_self _).symm⟩
  case round =>
    obtain ⟨s, m, hs, rfl, rfl⟩ := hrel
    clear N0
    by_cases h5 : s = 5
    · subst h5
      go_wp2
      refine ret_row rfl (w.heap.size + 1) 41 (ints .i64 16 (numN (hv e 5))) (0, 0) _ rfl (by (repeat (first | assumption | exact objAt_alloc_at _ _ _ rfl | (refine objAt_alloc_at _ _ _ ?_; (simp; done)) | refine keep_alloc _ ?_ | refine keep_drewN _ ?_ | refine keep_more _ ?_ | exact keep_row _ (by assumption) | refine keep_setRow _ _ ?_ (by first | omega | (simp; omega) | simp)))) Try.underlying41 rfl (by rw [ints_size]; kernel_rfl) rfl ⟨rfl, by (repeat (first | assumption | exact Grew.refl _ | refine Grew.more ?_ _ | refine Grew.alloc ?_ _ | refine Grew.drewN ?_ _ | refine Grew.setRow ?_ _ _ (by omega) | refine Grew.setRow ?_ _ _ (by simp; omega) | refine Grew.setRow ?_ _ _ (by simp)))⟩
    · obtain ⟨r, hr⟩ : ∃ r : Nat, 4 - (s : Int) = (r : Int) := ⟨4 - s, by omega⟩
      have hr5 : r < 5 := by omega
      obtain ⟨v0, v1⟩ := hv_bd e s
      have hb := dbl_bd (hv e s) v0 v1
      rw [hr]
      have HR : Hid (4 - (s : Int) = (r : Int)) := hr
      clear hr h5
      go_wp2
      go_loopw [5] (fun j wr => ∃ k : Nat, ∃ m : More, k ≤ 51 ∧ j = .int .i64 k ∧ wr = more (((w.alloc (.cells (ints .u64 5 e) 36)).alloc (.cells (ints .i64 16 nought) 41)).alloc (.cells (ints .i64 16 (numN (dbl (hv e s) k))) 41)) m) (fun j _ => 51 - (intOf j).toNat)
      case atStart => exact ⟨0, m, by omega, rfl, rfl⟩
      case round =>
        obtain ⟨k, m, hk, rfl, rfl⟩ := hrel
        by_cases hlt : k < 51
        · obtain ⟨d0, d1⟩ := hb k
          go_wp2_with fail
          refine (double_any _ _ d0 d1).mono ?_
          rintro e1 w1 ⟨rfl, hb1⟩
          obtain ⟨m1, rfl⟩ := more_on hb1
          clear hb1
          go_wp2
          go_roundw
          case rel => exact ⟨k + 1, _, by omega, by go_num, rfl⟩
          case measure => simp [intOf] <;> omega
        · obtain rfl : k = 51 := by omega
          clear hlt
          obtain ⟨x0, x1⟩ := he r hr5
          have hF := four_small (e r) x0 x1
          obtain ⟨d0, d1⟩ := hb 51
          have HV : Hid ((dval (numN (dbl (hv e s) 51)) 16 + dval (numN (dval (four (e r % 65536) (e r / 65536 % 65536) (e r / 4294967296 % 65536) (e r / 281474976710656)) 16 % 57896044618658097711785492504343953926634992332820282019728792003956564819949)) 16) % 57896044618658097711785492504343953926634992332820282019728792003956564819949 = hv e (s + 1)) := by
            show _ = _
            rw [num_val d0 d1, four_all, num_val (by omega) (by omega), dbl_val _ v0 v1]
            have hr4 : 4 - s = r := by have := HR.out; omega
            rw [hv, hr4]
            omega
          clear hb
          go_wp2
          clear d0 d1 x0 x1 v0 v1 he
          go_region_with (first | (go_at_call 87; refine (fold_call _ _ _ _ _ _ _ _ _ _ _ hF (by simp) (by simp [Question.cut])).mono ?_; rintro e1 w1 ⟨rfl, m1, rfl⟩) | (go_at_call 44; refine (refAdd_open (numN (dbl (hv e s) 51)) _ _ _ (numN_digits _) (numN_digits _)).mono ?_; rintro e1 w1 ⟨rfl, m2, rfl⟩))

          all_goals
            go_wp2
            go_roundw
            case rel => exact ⟨s + 1, _, by (have := HR.out; omega), by (have := HR.out; go_num), by rw [← HV.out]⟩
            case measure => simp [intOf] <;> omega
end Go.Proofs.Ytfapmpnkemogkaa
