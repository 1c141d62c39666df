/- Mul -/
import Derived.Test.YtdoolhbmekahdaaGreatDoorMulf
import Derived.Test.YtdoolhbmekahdaaGreatDoorMath02
import Derived.Test.YtdoolhbmekahdaaGreatDoorFrame
set_option maxRecDepth 100000
set_option maxHeartbeats 4000000
namespace Go.Proofs.YtdoolhbmekahdaaGreatDoor
open Go.RowKit
set_option linter.unusedVariables false
set_option linter.unusedSimpArgs false
theorem prod_bd (x y : Int) (hx : 0 ≤ x ∧ x ≤ 18014398509481984) (hy : 0 ≤ y ∧ y ≤ 18014398509481984) : 0 ≤ x * y ∧ x * y ≤ 324518553658426726783156020576256 :=
 ⟨Int.mul_nonneg hx.1 hy.1, by have := Int.mul_le_mul hx.2 hy.2 hy.1 (by decide); simpa using this⟩
theorem plus_zero (a b : Int) (w : World) (ha : 0 ≤ a ∧ a ≤ 18446744073709551615) (hb : 0 ≤ b ∧ b ≤ 18446744073709551615) :
  Calls Tryz.prog 386 #[.agg #[.int .u64 0, .int .u64 0], .int .u64 a, .int .u64 b] w fun e w' => e = .returned (wideV (a * b)) ∧ Below w.heap.size w w' := by
 have hs := Int.mul_le_mul ha.2 hb.2 hb.1 (by decide)
 have := plus_any 0 a b w (by decide) ha hb (by omega)
 rw [Int.zero_add] at this
 have e : wideV 0 = .agg #[.int .u64 0, .int .u64 0] := by unfold wideV; rfl
 rw [e] at this
 exact this
def mulW (a b : Nat → Int) : Nat → Int := fun i => if i = 0 then a 0 * b 0 + 19 * a 1 * b 4 + 19 * a 2 * b 3 + 19 * a 3 * b 2 + 19 * a 4 * b 1 else if i = 1 then a 0 * b 1 + a 1 * b 0 + 19 * a 2 * b 4 + 19 * a 3 * b 3 + 19 * a 4 * b 2 else if i = 2 then a 0 * b 2 + a 1 * b 1 + a 2 * b 0 + 19 * a 3 * b 4 + 19 * a 4 * b 3 else if i = 3 then a 0 * b 3 + a 1 * b 2 + a 2 * b 1 + a 3 * b 0 + 19 * a 4 * b 4 else a 0 * b 4 + a 1 * b 3 + a 2 * b 2 + a 3 * b 1 + a 4 * b 0
def mulF (a b : Nat → Int) : Nat → Int := carryF (carryF (mulW a b))
theorem mulW_bd (a b : Nat → Int) (ha : Under 18014398509481984 a) (hb : Under 18014398509481984 b) : (0 ≤ mulW a b 0 ∧ mulW a b 0 < 24987928631698857962303013584371713) ∧ (0 ≤ mulW a b 1 ∧ mulW a b 1 < 24987928631698857962303013584371713) ∧ (0 ≤ mulW a b 2 ∧ mulW a b 2 < 24987928631698857962303013584371713) ∧ (0 ≤ mulW a b 3 ∧ mulW a b 3 < 24987928631698857962303013584371713) ∧ (0 ≤ mulW a b 4 ∧ mulW a b 4 < 1622592768292133633915780102881281) := by
 obtain A0 := ha 0 (by decide)
 obtain B0 := hb 0 (by decide)
 obtain A1 := ha 1 (by decide)
 obtain B1 := hb 1 (by decide)
 obtain A2 := ha 2 (by decide)
 obtain B2 := hb 2 (by decide)
 obtain A3 := ha 3 (by decide)
 obtain B3 := hb 3 (by decide)
 obtain A4 := ha 4 (by decide)
 obtain B4 := hb 4 (by decide)
 have p00 := prod_bd (a 0) (b 0) A0 B0
 have p01 := prod_bd (a 0) (b 1) A0 B1
 have p02 := prod_bd (a 0) (b 2) A0 B2
 have p03 := prod_bd (a 0) (b 3) A0 B3
 have p04 := prod_bd (a 0) (b 4) A0 B4
 have p10 := prod_bd (a 1) (b 0) A1 B0
 have p11 := prod_bd (a 1) (b 1) A1 B1
 have p12 := prod_bd (a 1) (b 2) A1 B2
 have p13 := prod_bd (a 1) (b 3) A1 B3
 have p14 := prod_bd (a 1) (b 4) A1 B4
 have q14 : 0 ≤ 19 * a 1 * b 4 ∧ 19 * a 1 * b 4 ≤ 6165852519510107808879964390948864 := by rw [Int.mul_assoc]; omega
 have p20 := prod_bd (a 2) (b 0) A2 B0
 have p21 := prod_bd (a 2) (b 1) A2 B1
 have p22 := prod_bd (a 2) (b 2) A2 B2
 have p23 := prod_bd (a 2) (b 3) A2 B3
 have q23 : 0 ≤ 19 * a 2 * b 3 ∧ 19 * a 2 * b 3 ≤ 6165852519510107808879964390948864 := by rw [Int.mul_assoc]; omega
 have p24 := prod_bd (a 2) (b 4) A2 B4
 have q24 : 0 ≤ 19 * a 2 * b 4 ∧ 19 * a 2 * b 4 ≤ 6165852519510107808879964390948864 := by rw [Int.mul_assoc]; omega
 have p30 := prod_bd (a 3) (b 0) A3 B0
 have p31 := prod_bd (a 3) (b 1) A3 B1
 have p32 := prod_bd (a 3) (b 2) A3 B2
 have q32 : 0 ≤ 19 * a 3 * b 2 ∧ 19 * a 3 * b 2 ≤ 6165852519510107808879964390948864 := by rw [Int.mul_assoc]; omega
 have p33 := prod_bd (a 3) (b 3) A3 B3
 have q33 : 0 ≤ 19 * a 3 * b 3 ∧ 19 * a 3 * b 3 ≤ 6165852519510107808879964390948864 := by rw [Int.mul_assoc]; omega
 have p34 := prod_bd (a 3) (b 4) A3 B4
 have q34 : 0 ≤ 19 * a 3 * b 4 ∧ 19 * a 3 * b 4 ≤ 6165852519510107808879964390948864 := by rw [Int.mul_assoc]; omega
 have p40 := prod_bd (a 4) (b 0) A4 B0
 have p41 := prod_bd (a 4) (b 1) A4 B1
 have q41 : 0 ≤ 19 * a 4 * b 1 ∧ 19 * a 4 * b 1 ≤ 6165852519510107808879964390948864 := by rw [Int.mul_assoc]; omega
 have p42 := prod_bd (a 4) (b 2) A4 B2
 have q42 : 0 ≤ 19 * a 4 * b 2 ∧ 19 * a 4 * b 2 ≤ 6165852519510107808879964390948864 := by rw [Int.mul_assoc]; omega
 have p43 := prod_bd (a 4) (b 3) A4 B3
 have q43 : 0 ≤ 19 * a 4 * b 3 ∧ 19 * a 4 * b 3 ≤ 6165852519510107808879964390948864 := by rw [Int.mul_assoc]; omega
 have p44 := prod_bd (a 4) (b 4) A4 B4
 have q44 : 0 ≤ 19 * a 4 * b 4 ∧ 19 * a 4 * b 4 ≤ 6165852519510107808879964390948864 := by rw [Int.mul_assoc]; omega
 refine ⟨?_, ?_, ?_, ?_, ?_⟩
 ·show 0 ≤ a 0 * b 0 + 19 * a 1 * b 4 + 19 * a 2 * b 3 + 19 * a 3 * b 2 + 19 * a 4 * b 1 ∧ a 0 * b 0 + 19 * a 1 * b 4 + 19 * a 2 * b 3 + 19 * a 3 * b 2 + 19 * a 4 * b 1 < _
  omega
 ·show 0 ≤ a 0 * b 1 + a 1 * b 0 + 19 * a 2 * b 4 + 19 * a 3 * b 3 + 19 * a 4 * b 2 ∧ a 0 * b 1 + a 1 * b 0 + 19 * a 2 * b 4 + 19 * a 3 * b 3 + 19 * a 4 * b 2 < _
  omega
 ·show 0 ≤ a 0 * b 2 + a 1 * b 1 + a 2 * b 0 + 19 * a 3 * b 4 + 19 * a 4 * b 3 ∧ a 0 * b 2 + a 1 * b 1 + a 2 * b 0 + 19 * a 3 * b 4 + 19 * a 4 * b 3 < _
  omega
 ·show 0 ≤ a 0 * b 3 + a 1 * b 2 + a 2 * b 1 + a 3 * b 0 + 19 * a 4 * b 4 ∧ a 0 * b 3 + a 1 * b 2 + a 2 * b 1 + a 3 * b 0 + 19 * a 4 * b 4 < _
  omega
 ·show 0 ≤ a 0 * b 4 + a 1 * b 3 + a 2 * b 2 + a 3 * b 1 + a 4 * b 0 ∧ a 0 * b 4 + a 1 * b 3 + a 2 * b 2 + a 3 * b 1 + a 4 * b 0 < _
  omega
theorem mul_any (a b : Nat → Int) (w : World) (ha : Under 18014398509481984 a) (hb : Under 18014398509481984 b) :
  Calls Tryz.prog 366 #[.agg (ints .u64 5 a), .agg (ints .u64 5 b)] w fun e w' => e = .returned (.agg (ints .u64 5 (mulF a b))) ∧ Below w.heap.size w w' := by
 obtain ⟨z0, z1, z2, z3, z4⟩ := mulW_bd a b ha hb
 have ht := fun w => tight_from (mulW a b) w z0 z1 z2 z3 z4
 have Z : Hid (mulF a b = carryF (carryF (mulW a b))) := rfl
 obtain A0 := ha 0 (by decide)
 obtain B0 := hb 0 (by decide)
 obtain A1 := ha 1 (by decide)
 obtain B1 := hb 1 (by decide)
 obtain A2 := ha 2 (by decide)
 obtain B2 := hb 2 (by decide)
 obtain A3 := ha 3 (by decide)
 obtain B3 := hb 3 (by decide)
 obtain A4 := ha 4 (by decide)
 obtain B4 := hb 4 (by decide)
 have p00 := prod_bd (a 0) (b 0) A0 B0
 have p01 := prod_bd (a 0) (b 1) A0 B1
 have p02 := prod_bd (a 0) (b 2) A0 B2
 have p03 := prod_bd (a 0) (b 3) A0 B3
 have p04 := prod_bd (a 0) (b 4) A0 B4
 have p10 := prod_bd (a 1) (b 0) A1 B0
 have p11 := prod_bd (a 1) (b 1) A1 B1
 have p12 := prod_bd (a 1) (b 2) A1 B2
 have p13 := prod_bd (a 1) (b 3) A1 B3
 have p14 := prod_bd (a 1) (b 4) A1 B4
 have q14 : 0 ≤ 19 * a 1 * b 4 ∧ 19 * a 1 * b 4 ≤ 6165852519510107808879964390948864 := by rw [Int.mul_assoc]; omega
 have p20 := prod_bd (a 2) (b 0) A2 B0
 have p21 := prod_bd (a 2) (b 1) A2 B1
 have p22 := prod_bd (a 2) (b 2) A2 B2
 have p23 := prod_bd (a 2) (b 3) A2 B3
 have q23 : 0 ≤ 19 * a 2 * b 3 ∧ 19 * a 2 * b 3 ≤ 6165852519510107808879964390948864 := by rw [Int.mul_assoc]; omega
 have p24 := prod_bd (a 2) (b 4) A2 B4
 have q24 : 0 ≤ 19 * a 2 * b 4 ∧ 19 * a 2 * b 4 ≤ 6165852519510107808879964390948864 := by rw [Int.mul_assoc]; omega
 have p30 := prod_bd (a 3) (b 0) A3 B0
 have p31 := prod_bd (a 3) (b 1) A3 B1
 have p32 := prod_bd (a 3) (b 2) A3 B2
 have q32 : 0 ≤ 19 * a 3 * b 2 ∧ 19 * a 3 * b 2 ≤ 6165852519510107808879964390948864 := by rw [Int.mul_assoc]; omega
 have p33 := prod_bd (a 3) (b 3) A3 B3
 have q33 : 0 ≤ 19 * a 3 * b 3 ∧ 19 * a 3 * b 3 ≤ 6165852519510107808879964390948864 := by rw [Int.mul_assoc]; omega
 have p34 := prod_bd (a 3) (b 4) A3 B4
 have q34 : 0 ≤ 19 * a 3 * b 4 ∧ 19 * a 3 * b 4 ≤ 6165852519510107808879964390948864 := by rw [Int.mul_assoc]; omega
 have p40 := prod_bd (a 4) (b 0) A4 B0
 have p41 := prod_bd (a 4) (b 1) A4 B1
 have q41 : 0 ≤ 19 * a 4 * b 1 ∧ 19 * a 4 * b 1 ≤ 6165852519510107808879964390948864 := by rw [Int.mul_assoc]; omega
 have p42 := prod_bd (a 4) (b 2) A4 B2
 have q42 : 0 ≤ 19 * a 4 * b 2 ∧ 19 * a 4 * b 2 ≤ 6165852519510107808879964390948864 := by rw [Int.mul_assoc]; omega
 have p43 := prod_bd (a 4) (b 3) A4 B3
 have q43 : 0 ≤ 19 * a 4 * b 3 ∧ 19 * a 4 * b 3 ≤ 6165852519510107808879964390948864 := by rw [Int.mul_assoc]; omega
 have p44 := prod_bd (a 4) (b 4) A4 B4
 have q44 : 0 ≤ 19 * a 4 * b 4 ∧ 19 * a 4 * b 4 ≤ 6165852519510107808879964390948864 := by rw [Int.mul_assoc]; omega
 have c00 := fun w => plus_zero (a 0) (b 0) w ⟨by omega, by omega⟩ ⟨by omega, by omega⟩
 have c01 := fun w => plus_any (a 0 * b 0) (19 * a 1) (b 4) w (by omega) ⟨by omega, by omega⟩ ⟨by omega, by omega⟩ (by omega)
 have c02 := fun w => plus_any (a 0 * b 0 + 19 * a 1 * b 4) (19 * a 2) (b 3) w (by omega) ⟨by omega, by omega⟩ ⟨by omega, by omega⟩ (by omega)
 have c03 := fun w => plus_any (a 0 * b 0 + 19 * a 1 * b 4 + 19 * a 2 * b 3) (19 * a 3) (b 2) w (by omega) ⟨by omega, by omega⟩ ⟨by omega, by omega⟩ (by omega)
 have c04 := fun w => plus_any (a 0 * b 0 + 19 * a 1 * b 4 + 19 * a 2 * b 3 + 19 * a 3 * b 2) (19 * a 4) (b 1) w (by omega) ⟨by omega, by omega⟩ ⟨by omega, by omega⟩ (by omega)
 have c10 := fun w => plus_zero (a 0) (b 1) w ⟨by omega, by omega⟩ ⟨by omega, by omega⟩
 have c11 := fun w => plus_any (a 0 * b 1) (a 1) (b 0) w (by omega) ⟨by omega, by omega⟩ ⟨by omega, by omega⟩ (by omega)
 have c12 := fun w => plus_any (a 0 * b 1 + a 1 * b 0) (19 * a 2) (b 4) w (by omega) ⟨by omega, by omega⟩ ⟨by omega, by omega⟩ (by omega)
 have c13 := fun w => plus_any (a 0 * b 1 + a 1 * b 0 + 19 * a 2 * b 4) (19 * a 3) (b 3) w (by omega) ⟨by omega, by omega⟩ ⟨by omega, by omega⟩ (by omega)
 have c14 := fun w => plus_any (a 0 * b 1 + a 1 * b 0 + 19 * a 2 * b 4 + 19 * a 3 * b 3) (19 * a 4) (b 2) w (by omega) ⟨by omega, by omega⟩ ⟨by omega, by omega⟩ (by omega)
 have c20 := fun w => plus_zero (a 0) (b 2) w ⟨by omega, by omega⟩ ⟨by omega, by omega⟩
 have c21 := fun w => plus_any (a 0 * b 2) (a 1) (b 1) w (by omega) ⟨by omega, by omega⟩ ⟨by omega, by omega⟩ (by omega)
 have c22 := fun w => plus_any (a 0 * b 2 + a 1 * b 1) (a 2) (b 0) w (by omega) ⟨by omega, by omega⟩ ⟨by omega, by omega⟩ (by omega)
 have c23 := fun w => plus_any (a 0 * b 2 + a 1 * b 1 + a 2 * b 0) (19 * a 3) (b 4) w (by omega) ⟨by omega, by omega⟩ ⟨by omega, by omega⟩ (by omega)
 have c24 := fun w => plus_any (a 0 * b 2 + a 1 * b 1 + a 2 * b 0 + 19 * a 3 * b 4) (19 * a 4) (b 3) w (by omega) ⟨by omega, by omega⟩ ⟨by omega, by omega⟩ (by omega)
 have c30 := fun w => plus_zero (a 0) (b 3) w ⟨by omega, by omega⟩ ⟨by omega, by omega⟩
 have c31 := fun w => plus_any (a 0 * b 3) (a 1) (b 2) w (by omega) ⟨by omega, by omega⟩ ⟨by omega, by omega⟩ (by omega)
 have c32 := fun w => plus_any (a 0 * b 3 + a 1 * b 2) (a 2) (b 1) w (by omega) ⟨by omega, by omega⟩ ⟨by omega, by omega⟩ (by omega)
 have c33 := fun w => plus_any (a 0 * b 3 + a 1 * b 2 + a 2 * b 1) (a 3) (b 0) w (by omega) ⟨by omega, by omega⟩ ⟨by omega, by omega⟩ (by omega)
 have c34 := fun w => plus_any (a 0 * b 3 + a 1 * b 2 + a 2 * b 1 + a 3 * b 0) (19 * a 4) (b 4) w (by omega) ⟨by omega, by omega⟩ ⟨by omega, by omega⟩ (by omega)
 have c40 := fun w => plus_zero (a 0) (b 4) w ⟨by omega, by omega⟩ ⟨by omega, by omega⟩
 have c41 := fun w => plus_any (a 0 * b 4) (a 1) (b 3) w (by omega) ⟨by omega, by omega⟩ ⟨by omega, by omega⟩ (by omega)
 have c42 := fun w => plus_any (a 0 * b 4 + a 1 * b 3) (a 2) (b 2) w (by omega) ⟨by omega, by omega⟩ ⟨by omega, by omega⟩ (by omega)
 have c43 := fun w => plus_any (a 0 * b 4 + a 1 * b 3 + a 2 * b 2) (a 3) (b 1) w (by omega) ⟨by omega, by omega⟩ ⟨by omega, by omega⟩ (by omega)
 have c44 := fun w => plus_any (a 0 * b 4 + a 1 * b 3 + a 2 * b 2 + a 3 * b 1) (a 4) (b 0) w (by omega) ⟨by omega, by omega⟩ ⟨by omega, by omega⟩ (by omega)
 clear p00 p01 p02 p03 p04 p10 p11 p12 p13 p14 p20 p21 p22 p23 p24 p30 p31 p32 p33 p34 p40 p41 p42 p43 p44 q14 q23 q24 q32 q33 q34 q41 q42 q43 q44
 clear z0 z1 z2 z3 z4 ha hb
 have hG := Grew.refl w
 go_enter Tryz.func366, Tryz.ntmps366
 go_wp2_with fail
 ((first | (with_reducible refine wp_region_on (by kernel_rfl) (by kernel_rfl) ?_) | refine wp_region_more (by kernel_rfl) (by kernel_rfl) ?_); (repeat (first | go_big_quiet_skip | (go_big_quiet_want; go_big_quiet_op; first | go_big_quiet_on | (apply Exists.intro; refine ⟨fun _ => ?_, ?_⟩; (focus (fail)); go_big_quiet_on)))); refine wpQuiet_nil ?_; rintro _ ⟨mq, rfl⟩)
 go_wp2_with fail
 ((first | (with_reducible refine wp_region_on (by kernel_rfl) (by kernel_rfl) ?_) | refine wp_region_more (by kernel_rfl) (by kernel_rfl) ?_); (repeat (first | go_big_quiet_skip | (go_big_quiet_want; go_big_quiet_op; first | go_big_quiet_on | (apply Exists.intro; refine ⟨fun _ => ?_, ?_⟩; (focus (fail)); go_big_quiet_on)))); refine wpQuiet_nil ?_; rintro _ ⟨mq, rfl⟩)
 replace hG : Below w.heap.size w (more (((w.alloc (.cells (ints .u64 5 a) 386)).alloc (.cells (ints .u64 5 b) 386)).alloc (.cells (ints .u64 5 nought) 386)) mq) := by exact grew_auto
 have fr : objAt (more (((w.alloc (.cells (ints .u64 5 a) 386)).alloc (.cells (ints .u64 5 b) 386)).alloc (.cells (ints .u64 5 nought) 386)) mq) (w.heap.size + 1 + 1) = some (.cells (ints .u64 5 nought) 386) := by exact keep_auto
 generalize more (((w.alloc (.cells (ints .u64 5 a) 386)).alloc (.cells (ints .u64 5 b) 386)).alloc (.cells (ints .u64 5 nought) 386)) mq = w2 at *
 clear mq
 go_wp2_with ((first | (with_reducible refine (c00 _).mono ?_) | (with_reducible refine (c01 _).mono ?_) | (with_reducible refine (c02 _).mono ?_) | (with_reducible refine (c03 _).mono ?_) | (with_reducible refine (c04 _).mono ?_) | (with_reducible refine (c10 _).mono ?_) | (with_reducible refine (c11 _).mono ?_) | (with_reducible refine (c12 _).mono ?_) | (with_reducible refine (c13 _).mono ?_) | (with_reducible refine (c14 _).mono ?_) | (with_reducible refine (c20 _).mono ?_) | (with_reducible refine (c21 _).mono ?_) | (with_reducible refine (c22 _).mono ?_) | (with_reducible refine (c23 _).mono ?_) | (with_reducible refine (c24 _).mono ?_) | (with_reducible refine (c30 _).mono ?_) | (with_reducible refine (c31 _).mono ?_) | (with_reducible refine (c32 _).mono ?_) | (with_reducible refine (c33 _).mono ?_) | (with_reducible refine (c34 _).mono ?_) | (with_reducible refine (c40 _).mono ?_) | (with_reducible refine (c41 _).mono ?_) | (with_reducible refine (c42 _).mono ?_) | (with_reducible refine (c43 _).mono ?_) | (with_reducible refine (c44 _).mono ?_)); rintro e w' ⟨rfl, hb⟩; replace fr := keep_below hb fr; replace hG := Grew.trans hG hb; clear hb)
 refine (ht _).mono ?_
 rintro e wt ⟨rfl, hb⟩
 replace fr := keep_below hb fr
 replace hG := Grew.trans hG hb
 clear hb ht c00 c01 c02 c03 c04 c10 c11 c12 c13 c14 c20 c21 c22 c23 c24 c30 c31 c32 c33 c34 c40 c41 c42 c43 c44
 rw [← Z.out]
 have lfr := lt_of_objAt fr
 go_wp2
 refine ret_row rfl _ 386 _ (0, 0) _ rfl (keep_row _ fr) Tryz.underlying386 rfl (by rw [ints_size]; kernel_rfl) rfl ⟨rfl, by exact grew_auto⟩
theorem tight_two (f : Nat → Int) (hf : Under 18446744073709551615 (carryF f)) : Under 4503599627370496 (carryF (carryF f)) := fun i hi => by
 obtain ⟨a0, b0⟩ := hf 0 (by decide)
 obtain ⟨a1, b1⟩ := hf 1 (by decide)
 obtain ⟨a2, b2⟩ := hf 2 (by decide)
 obtain ⟨a3, b3⟩ := hf 3 (by decide)
 obtain ⟨a4, b4⟩ := hf 4 (by decide)
 rcases (by omega : i = 0 ∨ i = 1 ∨ i = 2 ∨ i = 3 ∨ i = 4) with rfl | rfl | rfl | rfl | rfl
 ·rw [carry_0]; omega
 ·rw [carry_1]; omega
 ·rw [carry_2]; omega
 ·rw [carry_3]; omega
 ·rw [carry_4]; omega
theorem carry_word (f : Nat → Int) (h0 : 0 ≤ f 0 ∧ f 0 ≤ 24987928631698857962303013584371712) (h1 : 0 ≤ f 1 ∧ f 1 ≤ 24987928631698857962303013584371712) (h2 : 0 ≤ f 2 ∧ f 2 ≤ 24987928631698857962303013584371712) (h3 : 0 ≤ f 3 ∧ f 3 ≤ 24987928631698857962303013584371712) (h4 : 0 ≤ f 4 ∧ f 4 ≤ 1622592768292133633915780102881280) : Under 18446744073709551615 (carryF f) := fun i hi => by
 rcases (by omega : i = 0 ∨ i = 1 ∨ i = 2 ∨ i = 3 ∨ i = 4) with rfl | rfl | rfl | rfl | rfl
 ·rw [carry_0]; omega
 ·rw [carry_1]; omega
 ·rw [carry_2]; omega
 ·rw [carry_3]; omega
 ·rw [carry_4]; omega
theorem tight_mul (a b : Nat → Int) (ha : Under 18014398509481984 a) (hb : Under 18014398509481984 b) : Under 4503599627370496 (mulF a b) := by
 obtain ⟨z0, z1, z2, z3, z4⟩ := mulW_bd a b ha hb
 exact tight_two _ (carry_word _ (by omega) (by omega) (by omega) (by omega) (by omega))
theorem val_mulW (a b : Nat → Int) : valE a * valE b = valE (mulW a b) + 57896044618658097711785492504343953926634992332820282019728792003956564819949 * ((a 1 * b 4 + a 2 * b 3 + a 3 * b 2 + a 4 * b 1) + (a 2 * b 4 + a 3 * b 3 + a 4 * b 2) * 2251799813685248 + (a 3 * b 4 + a 4 * b 3) * 5070602400912917605986812821504 + (a 4 * b 4) * 11417981541647679048466287755595961091061972992) := by
 show (a 0 + a 1 * 2251799813685248 + a 2 * 5070602400912917605986812821504 + a 3 * 11417981541647679048466287755595961091061972992 + a 4 * 25711008708143844408671393477458601640355247900524685364822016) * (b 0 + b 1 * 2251799813685248 + b 2 * 5070602400912917605986812821504 + b 3 * 11417981541647679048466287755595961091061972992 + b 4 * 25711008708143844408671393477458601640355247900524685364822016) =
  ((a 0 * b 0 + 19 * a 1 * b 4 + 19 * a 2 * b 3 + 19 * a 3 * b 2 + 19 * a 4 * b 1) + (a 0 * b 1 + a 1 * b 0 + 19 * a 2 * b 4 + 19 * a 3 * b 3 + 19 * a 4 * b 2) * 2251799813685248 + (a 0 * b 2 + a 1 * b 1 + a 2 * b 0 + 19 * a 3 * b 4 + 19 * a 4 * b 3) * 5070602400912917605986812821504 + (a 0 * b 3 + a 1 * b 2 + a 2 * b 1 + a 3 * b 0 + 19 * a 4 * b 4) * 11417981541647679048466287755595961091061972992 + (a 0 * b 4 + a 1 * b 3 + a 2 * b 2 + a 3 * b 1 + a 4 * b 0) * 25711008708143844408671393477458601640355247900524685364822016) + _
 grind
theorem nv_mul (a b : Nat → Int) : nv (mulF a b) = nv a * nv b % 57896044618658097711785492504343953926634992332820282019728792003956564819949 := by
 unfold mulF
 rw [nv_carry, nv_carry]
 unfold nv
 rw [← Int.mul_emod, val_mulW, Int.add_mul_emod_self_left]
end Go.Proofs.YtdoolhbmekahdaaGreatDoor
namespace Go.Proofs.YtdoolhbmekahdaaGreatDoor
open Go.RowKit
set_option linter.unusedVariables false
set_option linter.unusedSimpArgs false
theorem loose_mul (a b : Nat → Int) (ha : Under 18014398509481984 a) (hb : Under 18014398509481984 b) : Under 18014398509481984 (mulF a b) := loose_tight (tight_mul a b ha hb)
set_option maxHeartbeats 400000 in
theorem square_any (a : Nat → Int) (w : World) (ha : Under 18014398509481984 a) :
  Calls Tryz.prog 365 #[.agg (ints .u64 5 a)] w fun e w' => e = .returned (.agg (ints .u64 5 (mulF a a))) ∧ Below w.heap.size w w' := by
 have hG := Grew.refl w
 have fr : True := trivial
 go_enter Tryz.func365, Tryz.ntmps365
 go_wp2_with fail
 (refine (mul_any a a _ ha ha).mono ?_; rintro e w1 ⟨rfl, hb⟩; replace fr : objAt w1 (w.heap.size + 1) = some (.cells (ints .u64 5 nought) 386) := keep_below hb (by exact keep_auto); have lfr := lt_of_objAt fr; replace hG : Below w.heap.size w w1 := Grew.trans (by exact grew_auto) hb; clear hb)
 go_wp2
 refine ret_row rfl _ 386 _ (0, 0) _ rfl (keep_row _ fr) Tryz.underlying386 rfl (by rw [ints_size]; kernel_rfl) rfl ⟨rfl, by exact grew_auto⟩
def timesF (a : Nat → Int) (n : Int) : Nat → Int := carryF (carryF fun i => a i * n)
theorem times_bd (x n : Int) (hx : 0 ≤ x ∧ x ≤ 18014398509481984) (hn : 0 ≤ n ∧ n ≤ 4294967295) : 0 ≤ x * n ∧ x * n ≤ 77371252455336262886195200 :=
 ⟨Int.mul_nonneg hx.1 hn.1, by have := Int.mul_le_mul hx.2 hn.2 hn.1 (by decide); omega⟩
theorem tight_times (a : Nat → Int) (n : Int) (ha : Under 18014398509481984 a) (hn : 0 ≤ n ∧ n ≤ 4294967295) : Under 4503599627370496 (timesF a n) := by
 have t0 := times_bd (a 0) n (ha 0 (by decide)) hn
 have t1 := times_bd (a 1) n (ha 1 (by decide)) hn
 have t2 := times_bd (a 2) n (ha 2 (by decide)) hn
 have t3 := times_bd (a 3) n (ha 3 (by decide)) hn
 have t4 := times_bd (a 4) n (ha 4 (by decide)) hn
 exact tight_two _ (carry_word _ (by omega) (by omega) (by omega) (by omega) (by omega))
theorem nv_times (a : Nat → Int) (n : Int) : nv (timesF a n) = nv a * n % 57896044618658097711785492504343953926634992332820282019728792003956564819949 := by
 unfold timesF
 rw [nv_carry, nv_carry]
 unfold nv
 rw [Int.mul_emod (valE a % _) n, Int.emod_emod, ← Int.mul_emod, show valE (fun i => a i * n) = valE a * n by unfold valE; grind]
set_option maxHeartbeats 1000000 in
theorem times_any (a : Nat → Int) (n : Int) (w : World) (ha : Under 18014398509481984 a) (hn : 0 ≤ n ∧ n ≤ 4294967295) :
  Calls Tryz.prog 367 #[.agg (ints .u64 5 a), .int .u32 n] w fun e w' => e = .returned (.agg (ints .u64 5 (timesF a n))) ∧ Below w.heap.size w w' := by
 have A0 := ha 0 (by decide)
 have A1 := ha 1 (by decide)
 have A2 := ha 2 (by decide)
 have A3 := ha 3 (by decide)
 have A4 := ha 4 (by decide)
 have t0 := times_bd (a 0) n A0 hn
 have t1 := times_bd (a 1) n A1 hn
 have t2 := times_bd (a 2) n A2 hn
 have t3 := times_bd (a 3) n A3 hn
 have t4 := times_bd (a 4) n A4 hn
 have c0 := fun w => plus_zero (a 0) n w (by omega) (by omega)
 have c1 := fun w => plus_zero (a 1) n w (by omega) (by omega)
 have c2 := fun w => plus_zero (a 2) n w (by omega) (by omega)
 have c3 := fun w => plus_zero (a 3) n w (by omega) (by omega)
 have c4 := fun w => plus_zero (a 4) n w (by omega) (by omega)
 have ht : ∀ w, Calls Tryz.prog 385 #[wideV (a 0 * n), wideV (a 1 * n), wideV (a 2 * n), wideV (a 3 * n), wideV (a 4 * n)] w fun e w' => e = .returned (.agg (ints .u64 5 (timesF a n))) ∧ Below w.heap.size w w' :=
  fun w => tight_from (fun i => a i * n) w (by constructor <;> (show _; omega)) (by constructor <;> (show _; omega)) (by constructor <;> (show _; omega)) (by constructor <;> (show _; omega)) (by constructor <;> (show _; omega))
 obtain ⟨n0, n1⟩ := hn
 clear t0 t1 t2 t3 t4 A0 A1 A2 A3 A4 ha
 have hG := Grew.refl w
 go_enter Tryz.func367, Tryz.ntmps367
 go_wp2_with fail
 ((first | (with_reducible refine wp_region_tail_on 26 (by kernel_rfl) (by kernel_rfl) (by kernel_rfl) (by kernel_rfl) (by kernel_rfl) ?_) | refine wp_region_tail_more 26 (by kernel_rfl) (by kernel_rfl) (by kernel_rfl) (by kernel_rfl) (by kernel_rfl) ?_); simp only [List.take_succ_cons, List.take_zero]; (repeat (first | go_big_quiet_skip | (go_big_quiet_want; go_big_quiet_op; first | go_big_quiet_on | (apply Exists.intro; refine ⟨fun _ => ?_, ?_⟩; (focus (first | (with_reducible exact Calls.of_more (c0 _)) | (with_reducible exact Calls.of_more (c1 _)) | (with_reducible exact Calls.of_more (c2 _)) | (with_reducible exact Calls.of_more (c3 _)) | (with_reducible exact Calls.of_more (c4 _)) | (with_reducible exact Calls.of_more (ht _)))); go_big_quiet_on)))); refine wpQuiet_nil ?_; rintro _ ⟨mq, rfl⟩)
 (refine tail_one (i := 26) (fuel := 0) (by kernel_rfl) rfl ?_; intro K hK; go_simp; refine hK _ _ ?_; clear hK K)
 (refine wpAny_done (by kernel_rfl) ?_ _)
 go_wp2
 refine ret_row rfl _ 386 _ (0, 0) _ rfl (by simp [go_sem]) Tryz.underlying386 rfl (by rw [ints_size]; kernel_rfl) rfl ⟨rfl, by exact grew_auto⟩
def prodF (F : Nat → Nat → Int) : Nat → Nat → Int
 | 0 => upd nought 0 1
 | j + 1 => mulF (prodF F j) (F j)
theorem tight_one : Under 4503599627370496 (upd nought 0 1) := fun i _ => by unfold upd nought; split <;> omega
theorem tight_prod (F : Nat → Nat → Int) : ∀ n, (∀ j, j < n → Under 18014398509481984 (F j)) → Under 4503599627370496 (prodF F n)
 | 0, _ => tight_one
 | n + 1, h => tight_mul _ _ (loose_tight (tight_prod F n fun j hj => h j (by omega))) (h n (by omega))
end Go.Proofs.YtdoolhbmekahdaaGreatDoor
namespace Go.Proofs.YtdoolhbmekahdaaGreatDoor
open Go.RowKit
set_option linter.unusedVariables false
set_option linter.unusedSimpArgs false
theorem md_mulL (a b : Int) : (a % 57896044618658097711785492504343953926634992332820282019728792003956564819949 * b) % 57896044618658097711785492504343953926634992332820282019728792003956564819949 = (a * b) % 57896044618658097711785492504343953926634992332820282019728792003956564819949 := by rw [Int.mul_emod (a % 57896044618658097711785492504343953926634992332820282019728792003956564819949) b, Int.emod_emod, ← Int.mul_emod]
theorem md_mulR (a b : Int) : (a * (b % 57896044618658097711785492504343953926634992332820282019728792003956564819949)) % 57896044618658097711785492504343953926634992332820282019728792003956564819949 = (a * b) % 57896044618658097711785492504343953926634992332820282019728792003956564819949 := by rw [Int.mul_emod a (b % 57896044618658097711785492504343953926634992332820282019728792003956564819949), Int.emod_emod, ← Int.mul_emod]
theorem nv_ofV (x : Int) (h0 : 0 ≤ x) (h1 : x < 57896044618658097711785492504343953926634992332820282019728792003956564819949) : nv (ofF (keyV x)) = x := by
 show valE (ofF (keyN x)) % 57896044618658097711785492504343953926634992332820282019728792003956564819949 = x
 rw [of_key x h0 h1]; omega
theorem keyV_bytes (x : Int) : Bytes 32 (keyV x) := keyD_bytes _
theorem ofV_any (x : Int) (w : World) :
  Calls Tryz.prog 307 #[.agg (ints .u8 32 (keyV x))] w fun e w' => e = .returned (.agg (ints .u64 5 (ofF (keyV x)))) ∧ Below w.heap.size w w' := of_any _ w (keyV_bytes x)
theorem nv_small (n : Int) (h0 : 0 ≤ n) (h1 : n ≤ 4294967295) : nv (upd nought 0 n) = n := val_small n h0 h1
theorem nv_one : nv (upd nought 0 1) = 1 := nv_small 1 (by decide) (by decide)
theorem loose_three' {a b c : Nat → Int} (ha : Under 18014398509481984 a) (hb : Under 18014398509481984 b) (hc : Under 18014398509481984 c) : ∀ j, j < 3 → Under 18014398509481984 (three a b c j) := fun j hj => by
 rcases (by omega : j = 0 ∨ j = 1 ∨ j = 2) with rfl | rfl | rfl
 ·exact ha
 ·exact hb
 ·exact hc
theorem loose_prod3 {a b c : Nat → Int} (ha : Under 18014398509481984 a) (hb : Under 18014398509481984 b) (hc : Under 18014398509481984 c) : Under 18014398509481984 (prodF (three a b c) 3) := loose_tight (tight_prod _ 3 (loose_three' ha hb hc))
theorem loose_sum3 {a b c : Nat → Int} (ha : Under 18014398509481984 a) (hb : Under 18014398509481984 b) (hc : Under 18014398509481984 c) : Under 18014398509481984 (sumF (three a b c) 3) := loose_sum _ 3 (loose_three' ha hb hc)
theorem loose_times (a : Nat → Int) (n : Int) (ha : Under 18014398509481984 a) (hn : 0 ≤ n ∧ n ≤ 4294967295) : Under 18014398509481984 (timesF a n) := loose_tight (tight_times a n ha hn)
theorem loose_one : Under 18014398509481984 (upd nought 0 1) := loose_tight tight_one
theorem Awake2_any (w : World) :
  Calls Tryz.prog 434 #[] w fun e w' => e = .returned (.bool true) ∧ Below w.heap.size w w' := by
 have hG := Grew.refl w
 go_enter Tryz.func434, Tryz.ntmps434
 go_wp2_with fail
 (refine (awake2_any _).mono ?_; rintro e w1 ⟨rfl, hb⟩; replace hG : Below w.heap.size w w1 := Grew.trans (by exact grew_auto) hb; clear hb)
 go_wp2
 go_ret
 exact ⟨rfl, by exact grew_auto⟩
theorem half_bytes : Bytes 32 (upd nought 31 64) := fun i _ => by unfold upd nought; split <;> omega
theorem loose_two : Under 18014398509481984 (upd nought 0 2) := loose_small 2 (by decide) (by decide)
set_option maxHeartbeats 400000 in
theorem awake3_any (w : World) :
  Calls Tryz.prog 433 #[] w fun e w' => e = .returned (.bool true) ∧ Below w.heap.size w w' := by
 have s1 : same 32 (keyV (nv (mulF (upd nought 0 2) (ofF (upd nought 31 64))))) (upd nought 0 19) = true := by kernel_rfl
 have hG := Grew.refl w
 go_enter Tryz.func433, Tryz.ntmps433
 go_wp2_with fail
 (refine (Awake2_any _).mono ?_; rintro e w1 ⟨rfl, hb⟩; replace hG : Below w.heap.size w w1 := Grew.trans (by exact grew_auto) hb; clear hb)
 go_wp2_with fail
 (refine (small_any 2 _ (by decide) (by decide)).mono ?_; rintro e w2 ⟨rfl, hb⟩; replace hG : Below w.heap.size w w2 := Grew.trans (by exact grew_auto) hb; clear hb)
 go_wp2_with fail
 (refine (of_any _ _ half_bytes).mono ?_; rintro e w3 ⟨rfl, hb⟩; replace hG : Below w.heap.size w w3 := Grew.trans (by exact grew_auto) hb; clear hb)
 go_wp2_with fail
 (refine (mul_any _ _ _ loose_two (loose_of _)).mono ?_; rintro e w4 ⟨rfl, hb⟩; replace hG : Below w.heap.size w w4 := Grew.trans (by exact grew_auto) hb; clear hb)
 go_wp2_with fail
 (refine (keyV_any _ _ (loose_mul _ _ loose_two (loose_of _))).mono ?_; rintro e w5 ⟨rfl, hb⟩; replace hG : Below w.heap.size w w5 := Grew.trans (by exact grew_auto) hb; clear hb)
 go_wp2
 go_ret
 exact ⟨rfl, by exact grew_auto⟩
theorem Awake3_any (w : World) :
  Calls Tryz.prog 432 #[] w fun e w' => e = .returned (.bool true) ∧ Below w.heap.size w w' := by
 have hG := Grew.refl w
 go_enter Tryz.func432, Tryz.ntmps432
 go_wp2_with fail
 (refine (awake3_any _).mono ?_; rintro e w1 ⟨rfl, hb⟩; replace hG : Below w.heap.size w w1 := Grew.trans (by exact grew_auto) hb; clear hb)
 go_wp2
 go_ret
 exact ⟨rfl, by exact grew_auto⟩
end Go.Proofs.YtdoolhbmekahdaaGreatDoor
