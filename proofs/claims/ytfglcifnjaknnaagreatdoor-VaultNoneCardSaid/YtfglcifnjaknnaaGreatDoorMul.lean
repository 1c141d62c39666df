/- Mul -/
import Derived.Test.YtfglcifnjaknnaaGreatDoorMulf
import Derived.Test.YtfglcifnjaknnaaGreatDoorMath02
import Derived.Test.YtfglcifnjaknnaaGreatDoorFrame
set_option linter.unusedVariables false
set_option linter.unusedSimpArgs false
set_option maxRecDepth 100000
set_option maxHeartbeats 4000000
namespace Go.Proofs.YtfglcifnjaknnaaGreatDoor
open Go.RowKit
theorem zqai (x y : Int) (hx : 0 <= x /\ x <= 18014398509481984) (hy : 0 <= y /\ y <= 18014398509481984) : 0 <= x * y /\ x * y <= 324518553658426726783156020576256 :=
 ⟨Int.mul_nonneg hx.1 hy.1, by have := Int.mul_le_mul hx.2 hy.2 hy.1 (by decide); simpa using this⟩
theorem zqde (a b : Int) (w : World) (ha : 0 <= a /\ a <= 18446744073709551615) (hb : 0 <= b /\ b <= 18446744073709551615) :
  Calls Tryz.prog 145 #[.agg #[.int .u64 0, .int .u64 0], .int .u64 a, .int .u64 b] w (Rt w (zqfn (a * b))) := by
 have hs := Int.mul_le_mul ha.2 hb.2 hb.1 (by decide);have := zqbn 0 a b w (by decide) ha hb (by omega);rw [Int.zero_add] at this;have e : zqfn 0 = .agg #[.int .u64 0, .int .u64 0] := by unfold zqfn; rfl
 rw [e] at this;exact this
def mulW (a b : Nat -> Int) : Nat -> Int := fun i => if i = 0 then a 0 * b 0 + 19 * a 1 * b 4 + 19 * a 2 * b 3 + 19 * a 3 * b 2 + 19 * a 4 * b 1 else if i = 1 then a 0 * b 1 + a 1 * b 0 + 19 * a 2 * b 4 + 19 * a 3 * b 3 + 19 * a 4 * b 2 else if i = 2 then a 0 * b 2 + a 1 * b 1 + a 2 * b 0 + 19 * a 3 * b 4 + 19 * a 4 * b 3 else if i = 3 then a 0 * b 3 + a 1 * b 2 + a 2 * b 1 + a 3 * b 0 + 19 * a 4 * b 4 else a 0 * b 4 + a 1 * b 3 + a 2 * b 2 + a 3 * b 1 + a 4 * b 0
def mulF (a b : Nat -> Int) : Nat -> Int := zqaq (zqaq (mulW a b))
theorem zqyu (a b : Nat -> Int) (ha : zq8 18014398509481984 a) (hb : zq8 18014398509481984 b) : (0 <= mulW a b 0 /\ mulW a b 0 < 24987928631698857962303013584371713) /\ (0 <= mulW a b 1 /\ mulW a b 1 < 24987928631698857962303013584371713) /\ (0 <= mulW a b 2 /\ mulW a b 2 < 24987928631698857962303013584371713) /\ (0 <= mulW a b 3 /\ mulW a b 3 < 24987928631698857962303013584371713) /\ (0 <= mulW a b 4 /\ mulW a b 4 < 1622592768292133633915780102881281) := by
 obtain A0 := ha 0 (by decide);obtain B0 := hb 0 (by decide);obtain A1 := ha 1 (by decide);obtain B1 := hb 1 (by decide);obtain A2 := ha 2 (by decide);obtain B2 := hb 2 (by decide);obtain A3 := ha 3 (by decide);obtain B3 := hb 3 (by decide);obtain A4 := ha 4 (by decide);obtain B4 := hb 4 (by decide);have p00 := zqai (a 0) (b 0) A0 B0;have p01 := zqai (a 0) (b 1) A0 B1;have p02 := zqai (a 0) (b 2) A0 B2;have p03 := zqai (a 0) (b 3) A0 B3;have p04 := zqai (a 0) (b 4) A0 B4;have p10 := zqai (a 1) (b 0) A1 B0;have p11 := zqai (a 1) (b 1) A1 B1;have p12 := zqai (a 1) (b 2) A1 B2;have p13 := zqai (a 1) (b 3) A1 B3;have p14 := zqai (a 1) (b 4) A1 B4;have q14 : 0 <= 19 * a 1 * b 4 /\ 19 * a 1 * b 4 <= 6165852519510107808879964390948864 := by rw [Int.mul_assoc]; omega
 have p20 := zqai (a 2) (b 0) A2 B0;have p21 := zqai (a 2) (b 1) A2 B1;have p22 := zqai (a 2) (b 2) A2 B2;have p23 := zqai (a 2) (b 3) A2 B3;have q23 : 0 <= 19 * a 2 * b 3 /\ 19 * a 2 * b 3 <= 6165852519510107808879964390948864 := by rw [Int.mul_assoc]; omega
 have p24 := zqai (a 2) (b 4) A2 B4;have q24 : 0 <= 19 * a 2 * b 4 /\ 19 * a 2 * b 4 <= 6165852519510107808879964390948864 := by rw [Int.mul_assoc]; omega
 have p30 := zqai (a 3) (b 0) A3 B0;have p31 := zqai (a 3) (b 1) A3 B1;have p32 := zqai (a 3) (b 2) A3 B2;have q32 : 0 <= 19 * a 3 * b 2 /\ 19 * a 3 * b 2 <= 6165852519510107808879964390948864 := by rw [Int.mul_assoc]; omega
 have p33 := zqai (a 3) (b 3) A3 B3;have q33 : 0 <= 19 * a 3 * b 3 /\ 19 * a 3 * b 3 <= 6165852519510107808879964390948864 := by rw [Int.mul_assoc]; omega
 have p34 := zqai (a 3) (b 4) A3 B4;have q34 : 0 <= 19 * a 3 * b 4 /\ 19 * a 3 * b 4 <= 6165852519510107808879964390948864 := by rw [Int.mul_assoc]; omega
 have p40 := zqai (a 4) (b 0) A4 B0;have p41 := zqai (a 4) (b 1) A4 B1;have q41 : 0 <= 19 * a 4 * b 1 /\ 19 * a 4 * b 1 <= 6165852519510107808879964390948864 := by rw [Int.mul_assoc]; omega
 have p42 := zqai (a 4) (b 2) A4 B2;have q42 : 0 <= 19 * a 4 * b 2 /\ 19 * a 4 * b 2 <= 6165852519510107808879964390948864 := by rw [Int.mul_assoc]; omega
 have p43 := zqai (a 4) (b 3) A4 B3;have q43 : 0 <= 19 * a 4 * b 3 /\ 19 * a 4 * b 3 <= 6165852519510107808879964390948864 := by rw [Int.mul_assoc]; omega
 have p44 := zqai (a 4) (b 4) A4 B4;have q44 : 0 <= 19 * a 4 * b 4 /\ 19 * a 4 * b 4 <= 6165852519510107808879964390948864 := by rw [Int.mul_assoc]; omega
 refine ⟨?_, ?_, ?_, ?_, ?_⟩
 ·show 0 <= a 0 * b 0 + 19 * a 1 * b 4 + 19 * a 2 * b 3 + 19 * a 3 * b 2 + 19 * a 4 * b 1 /\ a 0 * b 0 + 19 * a 1 * b 4 + 19 * a 2 * b 3 + 19 * a 3 * b 2 + 19 * a 4 * b 1 < _
  omega
 ·show 0 <= a 0 * b 1 + a 1 * b 0 + 19 * a 2 * b 4 + 19 * a 3 * b 3 + 19 * a 4 * b 2 /\ a 0 * b 1 + a 1 * b 0 + 19 * a 2 * b 4 + 19 * a 3 * b 3 + 19 * a 4 * b 2 < _
  omega
 ·show 0 <= a 0 * b 2 + a 1 * b 1 + a 2 * b 0 + 19 * a 3 * b 4 + 19 * a 4 * b 3 /\ a 0 * b 2 + a 1 * b 1 + a 2 * b 0 + 19 * a 3 * b 4 + 19 * a 4 * b 3 < _
  omega
 ·show 0 <= a 0 * b 3 + a 1 * b 2 + a 2 * b 1 + a 3 * b 0 + 19 * a 4 * b 4 /\ a 0 * b 3 + a 1 * b 2 + a 2 * b 1 + a 3 * b 0 + 19 * a 4 * b 4 < _
  omega
 ·show 0 <= a 0 * b 4 + a 1 * b 3 + a 2 * b 2 + a 3 * b 1 + a 4 * b 0 /\ a 0 * b 4 + a 1 * b 3 + a 2 * b 2 + a 3 * b 1 + a 4 * b 0 < _
  omega
theorem mul_any (a b : Nat -> Int) (w : World) (ha : zq8 18014398509481984 a) (hb : zq8 18014398509481984 b) :
  Calls Tryz.prog 118 #[.agg (ints .u64 5 a), .agg (ints .u64 5 b)] w (Rt w (.agg (ints .u64 5 (mulF a b)))) := by
 obtain ⟨z0, z1, z2, z3, z4⟩ := zqyu a b ha hb;have ht := fun w => zqnp (mulW a b) w z0 z1 z2 z3 z4;have Z : Hid (mulF a b = zqaq (zqaq (mulW a b))) := rfl;obtain A0 := ha 0 (by decide);obtain B0 := hb 0 (by decide);obtain A1 := ha 1 (by decide);obtain B1 := hb 1 (by decide);obtain A2 := ha 2 (by decide);obtain B2 := hb 2 (by decide);obtain A3 := ha 3 (by decide);obtain B3 := hb 3 (by decide);obtain A4 := ha 4 (by decide);obtain B4 := hb 4 (by decide);have p00 := zqai (a 0) (b 0) A0 B0;have p01 := zqai (a 0) (b 1) A0 B1;have p02 := zqai (a 0) (b 2) A0 B2;have p03 := zqai (a 0) (b 3) A0 B3;have p04 := zqai (a 0) (b 4) A0 B4;have p10 := zqai (a 1) (b 0) A1 B0;have p11 := zqai (a 1) (b 1) A1 B1;have p12 := zqai (a 1) (b 2) A1 B2;have p13 := zqai (a 1) (b 3) A1 B3;have p14 := zqai (a 1) (b 4) A1 B4
 have q14 : 0 <= 19 * a 1 * b 4 /\ 19 * a 1 * b 4 <= 6165852519510107808879964390948864 := by rw [Int.mul_assoc]; omega
 have p20 := zqai (a 2) (b 0) A2 B0;have p21 := zqai (a 2) (b 1) A2 B1;have p22 := zqai (a 2) (b 2) A2 B2;have p23 := zqai (a 2) (b 3) A2 B3;have q23 : 0 <= 19 * a 2 * b 3 /\ 19 * a 2 * b 3 <= 6165852519510107808879964390948864 := by rw [Int.mul_assoc]; omega
 have p24 := zqai (a 2) (b 4) A2 B4;have q24 : 0 <= 19 * a 2 * b 4 /\ 19 * a 2 * b 4 <= 6165852519510107808879964390948864 := by rw [Int.mul_assoc]; omega
 have p30 := zqai (a 3) (b 0) A3 B0;have p31 := zqai (a 3) (b 1) A3 B1;have p32 := zqai (a 3) (b 2) A3 B2;have q32 : 0 <= 19 * a 3 * b 2 /\ 19 * a 3 * b 2 <= 6165852519510107808879964390948864 := by rw [Int.mul_assoc]; omega
 have p33 := zqai (a 3) (b 3) A3 B3;have q33 : 0 <= 19 * a 3 * b 3 /\ 19 * a 3 * b 3 <= 6165852519510107808879964390948864 := by rw [Int.mul_assoc]; omega
 have p34 := zqai (a 3) (b 4) A3 B4;have q34 : 0 <= 19 * a 3 * b 4 /\ 19 * a 3 * b 4 <= 6165852519510107808879964390948864 := by rw [Int.mul_assoc]; omega
 have p40 := zqai (a 4) (b 0) A4 B0;have p41 := zqai (a 4) (b 1) A4 B1;have q41 : 0 <= 19 * a 4 * b 1 /\ 19 * a 4 * b 1 <= 6165852519510107808879964390948864 := by rw [Int.mul_assoc]; omega
 have p42 := zqai (a 4) (b 2) A4 B2;have q42 : 0 <= 19 * a 4 * b 2 /\ 19 * a 4 * b 2 <= 6165852519510107808879964390948864 := by rw [Int.mul_assoc]; omega
 have p43 := zqai (a 4) (b 3) A4 B3;have q43 : 0 <= 19 * a 4 * b 3 /\ 19 * a 4 * b 3 <= 6165852519510107808879964390948864 := by rw [Int.mul_assoc]; omega
 have p44 := zqai (a 4) (b 4) A4 B4;have q44 : 0 <= 19 * a 4 * b 4 /\ 19 * a 4 * b 4 <= 6165852519510107808879964390948864 := by rw [Int.mul_assoc]; omega
 have c00 := fun w => zqde (a 0) (b 0) w ⟨by omega, by omega⟩ ⟨by omega, by omega⟩;have c01 := fun w => zqbn (a 0 * b 0) (19 * a 1) (b 4) w (by omega) ⟨by omega, by omega⟩ ⟨by omega, by omega⟩ (by omega);have c02 := fun w => zqbn (a 0 * b 0 + 19 * a 1 * b 4) (19 * a 2) (b 3) w (by omega) ⟨by omega, by omega⟩ ⟨by omega, by omega⟩ (by omega);have c03 := fun w => zqbn (a 0 * b 0 + 19 * a 1 * b 4 + 19 * a 2 * b 3) (19 * a 3) (b 2) w (by omega) ⟨by omega, by omega⟩ ⟨by omega, by omega⟩ (by omega);have c04 := fun w => zqbn (a 0 * b 0 + 19 * a 1 * b 4 + 19 * a 2 * b 3 + 19 * a 3 * b 2) (19 * a 4) (b 1) w (by omega) ⟨by omega, by omega⟩ ⟨by omega, by omega⟩ (by omega);have c10 := fun w => zqde (a 0) (b 1) w ⟨by omega, by omega⟩ ⟨by omega, by omega⟩;have c11 := fun w => zqbn (a 0 * b 1) (a 1) (b 0) w (by omega) ⟨by omega, by omega⟩ ⟨by omega, by omega⟩ (by omega)
 have c12 := fun w => zqbn (a 0 * b 1 + a 1 * b 0) (19 * a 2) (b 4) w (by omega) ⟨by omega, by omega⟩ ⟨by omega, by omega⟩ (by omega);have c13 := fun w => zqbn (a 0 * b 1 + a 1 * b 0 + 19 * a 2 * b 4) (19 * a 3) (b 3) w (by omega) ⟨by omega, by omega⟩ ⟨by omega, by omega⟩ (by omega);have c14 := fun w => zqbn (a 0 * b 1 + a 1 * b 0 + 19 * a 2 * b 4 + 19 * a 3 * b 3) (19 * a 4) (b 2) w (by omega) ⟨by omega, by omega⟩ ⟨by omega, by omega⟩ (by omega);have c20 := fun w => zqde (a 0) (b 2) w ⟨by omega, by omega⟩ ⟨by omega, by omega⟩;have c21 := fun w => zqbn (a 0 * b 2) (a 1) (b 1) w (by omega) ⟨by omega, by omega⟩ ⟨by omega, by omega⟩ (by omega);have c22 := fun w => zqbn (a 0 * b 2 + a 1 * b 1) (a 2) (b 0) w (by omega) ⟨by omega, by omega⟩ ⟨by omega, by omega⟩ (by omega)
 have c23 := fun w => zqbn (a 0 * b 2 + a 1 * b 1 + a 2 * b 0) (19 * a 3) (b 4) w (by omega) ⟨by omega, by omega⟩ ⟨by omega, by omega⟩ (by omega);have c24 := fun w => zqbn (a 0 * b 2 + a 1 * b 1 + a 2 * b 0 + 19 * a 3 * b 4) (19 * a 4) (b 3) w (by omega) ⟨by omega, by omega⟩ ⟨by omega, by omega⟩ (by omega);have c30 := fun w => zqde (a 0) (b 3) w ⟨by omega, by omega⟩ ⟨by omega, by omega⟩;have c31 := fun w => zqbn (a 0 * b 3) (a 1) (b 2) w (by omega) ⟨by omega, by omega⟩ ⟨by omega, by omega⟩ (by omega);have c32 := fun w => zqbn (a 0 * b 3 + a 1 * b 2) (a 2) (b 1) w (by omega) ⟨by omega, by omega⟩ ⟨by omega, by omega⟩ (by omega);have c33 := fun w => zqbn (a 0 * b 3 + a 1 * b 2 + a 2 * b 1) (a 3) (b 0) w (by omega) ⟨by omega, by omega⟩ ⟨by omega, by omega⟩ (by omega)
 have c34 := fun w => zqbn (a 0 * b 3 + a 1 * b 2 + a 2 * b 1 + a 3 * b 0) (19 * a 4) (b 4) w (by omega) ⟨by omega, by omega⟩ ⟨by omega, by omega⟩ (by omega);have c40 := fun w => zqde (a 0) (b 4) w ⟨by omega, by omega⟩ ⟨by omega, by omega⟩;have c41 := fun w => zqbn (a 0 * b 4) (a 1) (b 3) w (by omega) ⟨by omega, by omega⟩ ⟨by omega, by omega⟩ (by omega);have c42 := fun w => zqbn (a 0 * b 4 + a 1 * b 3) (a 2) (b 2) w (by omega) ⟨by omega, by omega⟩ ⟨by omega, by omega⟩ (by omega);have c43 := fun w => zqbn (a 0 * b 4 + a 1 * b 3 + a 2 * b 2) (a 3) (b 1) w (by omega) ⟨by omega, by omega⟩ ⟨by omega, by omega⟩ (by omega);have c44 := fun w => zqbn (a 0 * b 4 + a 1 * b 3 + a 2 * b 2 + a 3 * b 1) (a 4) (b 0) w (by omega) ⟨by omega, by omega⟩ ⟨by omega, by omega⟩ (by omega)
 clear p00 p01 p02 p03 p04 p10 p11 p12 p13 p14 p20 p21 p22 p23 p24 p30 p31 p32 p33 p34 p40 p41 p42 p43 p44 q14 q23 q24 q32 q33 q34 q41 q42 q43 q44;clear z0 z1 z2 z3 z4 ha hb;have hG := Grew.refl w
 go_enter Tryz.func118, Tryz.ntmps118
 go_wp2_with fail
 ((first | (with_reducible refine zqab zqb zqb ?_) | refine zq2 zqb zqb ?_); (refine zAi ?_); refine wpQuiet_nil ?_; rintro _ ⟨mq, rfl⟩)
 go_wp2_with fail
 ((first | (with_reducible refine zqab zqb zqb ?_) | refine zq2 zqb zqb ?_); (refine zAi ?_); refine wpQuiet_nil ?_; rintro _ ⟨mq, rfl⟩)
 replace hG : Below w.heap.size w (more (((w.alloc (.cells (ints .u64 5 a) 136)).alloc (.cells (ints .u64 5 b) 136)).alloc (.cells (ints .u64 5 zqd) 136)) mq) := by exact zqf
 have fr : zqe (more (((w.alloc (.cells (ints .u64 5 a) 136)).alloc (.cells (ints .u64 5 b) 136)).alloc (.cells (ints .u64 5 zqd) 136)) mq) (w.heap.size + 1 + 1) = some (.cells (ints .u64 5 zqd) 136) := by exact zqh
 generalize more (((w.alloc (.cells (ints .u64 5 a) 136)).alloc (.cells (ints .u64 5 b) 136)).alloc (.cells (ints .u64 5 zqd) 136)) mq = w2 at *;clear mq
 go_wp2_with ((first | (with_reducible refine (c00 _).mono ?_) | (with_reducible refine (c01 _).mono ?_) | (with_reducible refine (c02 _).mono ?_) | (with_reducible refine (c03 _).mono ?_) | (with_reducible refine (c04 _).mono ?_) | (with_reducible refine (c10 _).mono ?_) | (with_reducible refine (c11 _).mono ?_) | (with_reducible refine (c12 _).mono ?_) | (with_reducible refine (c13 _).mono ?_) | (with_reducible refine (c14 _).mono ?_) | (with_reducible refine (c20 _).mono ?_) | (with_reducible refine (c21 _).mono ?_) | (with_reducible refine (c22 _).mono ?_) | (with_reducible refine (c23 _).mono ?_) | (with_reducible refine (c24 _).mono ?_) | (with_reducible refine (c30 _).mono ?_) | (with_reducible refine (c31 _).mono ?_) | (with_reducible refine (c32 _).mono ?_) | (with_reducible refine (c33 _).mono ?_) | (with_reducible refine (c34 _).mono ?_) | (with_reducible refine (c40 _).mono ?_) | (with_reducible refine (c41 _).mono ?_) | (with_reducible refine (c42 _).mono ?_) | (with_reducible refine (c43 _).mono ?_) | (with_reducible refine (c44 _).mono ?_)); rintro e w' ⟨rfl, hb⟩; replace fr := zqc hb fr; replace hG := Grew.trans hG hb; clear hb)
 refine (ht _).mono ?_
 rintro e wt ⟨rfl, hb⟩;replace fr := zqc hb fr;replace hG := Grew.trans hG hb;clear hb ht c00 c01 c02 c03 c04 c10 c11 c12 c13 c14 c20 c21 c22 c23 c24 c30 c31 c32 c33 c34 c40 c41 c42 c43 c44;rw [<- Z.out];have lfr := zqa fr;go_wp2;refine zqag rfl _ 136 _ (0, 0) _ rfl (zqq _ fr) Tryz.underlying136 rfl (by rw [zqi]; kernel_rfl) rfl ⟨rfl, by exact zqf⟩
theorem zqpz (f : Nat -> Int) (hf : zq8 18446744073709551615 (zqaq f)) : zq8 4503599627370496 (zqaq (zqaq f)) := fun i hi => by
 obtain ⟨a0, b0⟩ := hf 0 (by decide);obtain ⟨a1, b1⟩ := hf 1 (by decide);obtain ⟨a2, b2⟩ := hf 2 (by decide);obtain ⟨a3, b3⟩ := hf 3 (by decide);obtain ⟨a4, b4⟩ := hf 4 (by decide)
 rcases (by omega : i = 0 \/ i = 1 \/ i = 2 \/ i = 3 \/ i = 4) with rfl | rfl | rfl | rfl | rfl
 ·rw [zql4]; omega
 ·rw [zql3]; omega
 ·rw [zqmc]; omega
 ·rw [zqla]; omega
 ·rw [zqln]; omega
theorem zqng (f : Nat -> Int) (h0 : 0 <= f 0 /\ f 0 <= 24987928631698857962303013584371712) (h1 : 0 <= f 1 /\ f 1 <= 24987928631698857962303013584371712) (h2 : 0 <= f 2 /\ f 2 <= 24987928631698857962303013584371712) (h3 : 0 <= f 3 /\ f 3 <= 24987928631698857962303013584371712) (h4 : 0 <= f 4 /\ f 4 <= 1622592768292133633915780102881280) : zq8 18446744073709551615 (zqaq f) := fun i hi => by
 rcases (by omega : i = 0 \/ i = 1 \/ i = 2 \/ i = 3 \/ i = 4) with rfl | rfl | rfl | rfl | rfl
 ·rw [zql4]; omega
 ·rw [zql3]; omega
 ·rw [zqmc]; omega
 ·rw [zqla]; omega
 ·rw [zqln]; omega
theorem zqez (a b : Nat -> Int) (ha : zq8 18014398509481984 a) (hb : zq8 18014398509481984 b) : zq8 4503599627370496 (mulF a b) := by
 obtain ⟨z0, z1, z2, z3, z4⟩ := zqyu a b ha hb;exact zqpz _ (zqng _ (by omega) (by omega) (by omega) (by omega) (by omega))
theorem zq3w (a b : Nat -> Int) : valE a * valE b = valE (mulW a b) + 57896044618658097711785492504343953926634992332820282019728792003956564819949 * ((a 1 * b 4 + a 2 * b 3 + a 3 * b 2 + a 4 * b 1) + (a 2 * b 4 + a 3 * b 3 + a 4 * b 2) * 2251799813685248 + (a 3 * b 4 + a 4 * b 3) * 5070602400912917605986812821504 + (a 4 * b 4) * 11417981541647679048466287755595961091061972992) := by
 show (a 0 + a 1 * 2251799813685248 + a 2 * 5070602400912917605986812821504 + a 3 * 11417981541647679048466287755595961091061972992 + a 4 * 25711008708143844408671393477458601640355247900524685364822016) * (b 0 + b 1 * 2251799813685248 + b 2 * 5070602400912917605986812821504 + b 3 * 11417981541647679048466287755595961091061972992 + b 4 * 25711008708143844408671393477458601640355247900524685364822016) =
  ((a 0 * b 0 + 19 * a 1 * b 4 + 19 * a 2 * b 3 + 19 * a 3 * b 2 + 19 * a 4 * b 1) + (a 0 * b 1 + a 1 * b 0 + 19 * a 2 * b 4 + 19 * a 3 * b 3 + 19 * a 4 * b 2) * 2251799813685248 + (a 0 * b 2 + a 1 * b 1 + a 2 * b 0 + 19 * a 3 * b 4 + 19 * a 4 * b 3) * 5070602400912917605986812821504 + (a 0 * b 3 + a 1 * b 2 + a 2 * b 1 + a 3 * b 0 + 19 * a 4 * b 4) * 11417981541647679048466287755595961091061972992 + (a 0 * b 4 + a 1 * b 3 + a 2 * b 2 + a 3 * b 1 + a 4 * b 0) * 25711008708143844408671393477458601640355247900524685364822016) + _
 grind
theorem zql1 (a b : Nat -> Int) : nv (mulF a b) = nv a * nv b % 57896044618658097711785492504343953926634992332820282019728792003956564819949 := by
 unfold mulF;rw [zqhc, zqhc];unfold nv;rw [<- Int.mul_emod, zq3w, Int.add_mul_emod_self_left]
theorem zqbr (a b : Nat -> Int) (ha : zq8 18014398509481984 a) (hb : zq8 18014398509481984 b) : zq8 18014398509481984 (mulF a b) := zqb5 (zqez a b ha hb)
set_option maxHeartbeats 400000 in
theorem zqd0 (a : Nat -> Int) (w : World) (ha : zq8 18014398509481984 a) :
  Calls Tryz.prog 117 #[.agg (ints .u64 5 a)] w (Rt w (.agg (ints .u64 5 (mulF a a)))) := by
 have hG := Grew.refl w;have fr : True := trivial
 go_enter Tryz.func117, Tryz.ntmps117
 go_wp2_with fail
 (refine (mul_any a a _ ha ha).mono ?_; rintro e w1 ⟨rfl, hb⟩; replace fr : zqe w1 (w.heap.size + 1) = some (.cells (ints .u64 5 zqd) 136) := zqc hb (by exact zqh); have lfr := zqa fr; replace hG : Below w.heap.size w w1 := Grew.trans (by exact zqf) hb; clear hb)
 go_wp2;refine zqag rfl _ 136 _ (0, 0) _ rfl (zqq _ fr) Tryz.underlying136 rfl (by rw [zqi]; kernel_rfl) rfl ⟨rfl, by exact zqf⟩
def zqfh (a : Nat -> Int) (n : Int) : Nat -> Int := zqaq (zqaq fun i => a i * n)
theorem zqd4 (x n : Int) (hx : 0 <= x /\ x <= 18014398509481984) (hn : 0 <= n /\ n <= 4294967295) : 0 <= x * n /\ x * n <= 77371252455336262886195200 :=
 ⟨Int.mul_nonneg hx.1 hn.1, by have := Int.mul_le_mul hx.2 hn.2 hn.1 (by decide); omega⟩
theorem zqto (a : Nat -> Int) (n : Int) (ha : zq8 18014398509481984 a) (hn : 0 <= n /\ n <= 4294967295) : zq8 4503599627370496 (zqfh a n) := by
 have t0 := zqd4 (a 0) n (ha 0 (by decide)) hn;have t1 := zqd4 (a 1) n (ha 1 (by decide)) hn;have t2 := zqd4 (a 2) n (ha 2 (by decide)) hn;have t3 := zqd4 (a 3) n (ha 3 (by decide)) hn;have t4 := zqd4 (a 4) n (ha 4 (by decide)) hn;exact zqpz _ (zqng _ (by omega) (by omega) (by omega) (by omega) (by omega))
theorem zq56 (a : Nat -> Int) (n : Int) : nv (zqfh a n) = nv a * n % 57896044618658097711785492504343953926634992332820282019728792003956564819949 := by
 unfold zqfh;rw [zqhc, zqhc];unfold nv;rw [Int.mul_emod (valE a % _) n, Int.emod_emod, <- Int.mul_emod, show valE (fun i => a i * n) = valE a * n by unfold valE; grind]
set_option maxHeartbeats 1000000 in
theorem times_any (a : Nat -> Int) (n : Int) (w : World) (ha : zq8 18014398509481984 a) (hn : 0 <= n /\ n <= 4294967295) :
  Calls Tryz.prog 119 #[.agg (ints .u64 5 a), .int .u32 n] w (Rt w (.agg (ints .u64 5 (zqfh a n)))) := by
 have A0 := ha 0 (by decide);have A1 := ha 1 (by decide);have A2 := ha 2 (by decide);have A3 := ha 3 (by decide);have A4 := ha 4 (by decide);have t0 := zqd4 (a 0) n A0 hn;have t1 := zqd4 (a 1) n A1 hn;have t2 := zqd4 (a 2) n A2 hn;have t3 := zqd4 (a 3) n A3 hn;have t4 := zqd4 (a 4) n A4 hn;have c0 := fun w => zqde (a 0) n w (by omega) (by omega);have c1 := fun w => zqde (a 1) n w (by omega) (by omega);have c2 := fun w => zqde (a 2) n w (by omega) (by omega);have c3 := fun w => zqde (a 3) n w (by omega) (by omega);have c4 := fun w => zqde (a 4) n w (by omega) (by omega);have ht : ∀ w, Calls Tryz.prog 144 #[zqfn (a 0 * n), zqfn (a 1 * n), zqfn (a 2 * n), zqfn (a 3 * n), zqfn (a 4 * n)] w (Rt w (.agg (ints .u64 5 (zqfh a n)))) :=
  fun w => zqnp (fun i => a i * n) w (by constructor <;> (show _; omega)) (by constructor <;> (show _; omega)) (by constructor <;> (show _; omega)) (by constructor <;> (show _; omega)) (by constructor <;> (show _; omega))
 obtain ⟨n0, n1⟩ := hn;clear t0 t1 t2 t3 t4 A0 A1 A2 A3 A4 ha;have hG := Grew.refl w
 go_enter Tryz.func119, Tryz.ntmps119
 go_wp2_with fail
 ((first | (with_reducible refine zqav 26 zqb zqb zqb zqb zqb ?_) | refine zqan 26 zqb zqb zqb zqb zqb ?_); simp only [List.take_succ_cons, List.take_zero]; (repeat (first | go_big_quiet_skip | (go_big_quiet_want; go_big_quiet_op; first | go_big_quiet_on | (apply Exists.intro; refine ⟨fun _ => ?_, ?_⟩; (focus (first | (with_reducible exact Calls.of_more (c0 _)) | (with_reducible exact Calls.of_more (c1 _)) | (with_reducible exact Calls.of_more (c2 _)) | (with_reducible exact Calls.of_more (c3 _)) | (with_reducible exact Calls.of_more (c4 _)) | (with_reducible exact Calls.of_more (ht _)))); go_big_quiet_on)))); refine wpQuiet_nil ?_; rintro _ ⟨mq, rfl⟩)
 (refine zqt (i := 26) (fuel := 0) zqb rfl ?_; intro K hK; go_simp; refine hK _ _ ?_; clear hK K)
 (refine wpAny_done zqb ?_ _)
 go_wp2;refine zqag rfl _ 136 _ (0, 0) _ rfl (by simp [go_sem]) Tryz.underlying136 rfl (by rw [zqi]; kernel_rfl) rfl ⟨rfl, by exact zqf⟩
def zq81 (F : Nat -> Nat -> Int) : Nat -> Nat -> Int
 | 0 => upd zqd 0 1
 | j + 1 => mulF (zq81 F j) (F j)
theorem zqk6 : zq8 4503599627370496 (upd zqd 0 1) := fun i _ => by unfold upd zqd; split <;> omega
theorem zqnm (F : Nat -> Nat -> Int) : ∀ n, (∀ j, j < n -> zq8 18014398509481984 (F j)) -> zq8 4503599627370496 (zq81 F n)
 | 0, _ => zqk6
 | n + 1, h => zqez _ _ (zqb5 (zqnm F n fun j hj => h j (by omega))) (h n (by omega))
theorem zql2 (a b : Int) : (a % 57896044618658097711785492504343953926634992332820282019728792003956564819949 * b) % 57896044618658097711785492504343953926634992332820282019728792003956564819949 = (a * b) % 57896044618658097711785492504343953926634992332820282019728792003956564819949 := by rw [Int.mul_emod (a % 57896044618658097711785492504343953926634992332820282019728792003956564819949) b, Int.emod_emod, <- Int.mul_emod]
theorem zqtu (a b : Int) : (a * (b % 57896044618658097711785492504343953926634992332820282019728792003956564819949)) % 57896044618658097711785492504343953926634992332820282019728792003956564819949 = (a * b) % 57896044618658097711785492504343953926634992332820282019728792003956564819949 := by rw [Int.mul_emod a (b % 57896044618658097711785492504343953926634992332820282019728792003956564819949), Int.emod_emod, <- Int.mul_emod]
theorem zq7j (x : Int) (h0 : 0 <= x) (h1 : x < 57896044618658097711785492504343953926634992332820282019728792003956564819949) : nv (ofF (keyV x)) = x := by
 show valE (ofF (keyN x)) % 57896044618658097711785492504343953926634992332820282019728792003956564819949 = x
 rw [zrdk x h0 h1]; omega
theorem zqc4 (x : Int) : Bytes 32 (keyV x) := zqnj _
theorem zq21 (x : Int) (w : World) :
  Calls Tryz.prog 66 #[.agg (ints .u8 32 (keyV x))] w (Rt w (.agg (ints .u64 5 (ofF (keyV x))))) := zqvg _ w (zqc4 x)
theorem zqos (n : Int) (h0 : 0 <= n) (h1 : n <= 4294967295) : nv (upd zqd 0 n) = n := zq18 n h0 h1
theorem zq1b : nv (upd zqd 0 1) = 1 := zqos 1 (by decide) (by decide)
theorem zqj6 {a b c : Nat -> Int} (ha : zq8 18014398509481984 a) (hb : zq8 18014398509481984 b) (hc : zq8 18014398509481984 c) : ∀ j, j < 3 -> zq8 18014398509481984 (three a b c j) := fun j hj => by
 rcases (by omega : j = 0 \/ j = 1 \/ j = 2) with rfl | rfl | rfl
 ·exact ha
 ·exact hb
 ·exact hc
theorem zqsn {a b c : Nat -> Int} (ha : zq8 18014398509481984 a) (hb : zq8 18014398509481984 b) (hc : zq8 18014398509481984 c) : zq8 18014398509481984 (zq81 (three a b c) 3) := zqb5 (zqnm _ 3 (zqj6 ha hb hc))
theorem zqw2 {a b c : Nat -> Int} (ha : zq8 18014398509481984 a) (hb : zq8 18014398509481984 b) (hc : zq8 18014398509481984 c) : zq8 18014398509481984 (sumF (three a b c) 3) := zqpd _ 3 (zqj6 ha hb hc)
theorem zqhz (a : Nat -> Int) (n : Int) (ha : zq8 18014398509481984 a) (hn : 0 <= n /\ n <= 4294967295) : zq8 18014398509481984 (zqfh a n) := zqb5 (zqto a n ha hn)
theorem zqio : zq8 18014398509481984 (upd zqd 0 1) := zqb5 zqk6
theorem zqw1 (w : World) :
  Calls Tryz.prog 262 #[] w (Rt w (.bool true)) := by
 have hG := Grew.refl w
 go_enter Tryz.func262, Tryz.ntmps262
 go_wp2_with fail
 (refine (zqyj _).mono ?_; rintro e w1 ⟨rfl, hb⟩; replace hG : Below w.heap.size w w1 := Grew.trans (by exact zqf) hb; clear hb)
 go_wp2;go_ret;exact ⟨rfl, by exact zqf⟩
theorem zqwr : Bytes 32 (upd zqd 31 64) := fun i _ => by unfold upd zqd; split <;> omega
theorem zqdb : zq8 18014398509481984 (upd zqd 0 2) := zqew 2 (by decide) (by decide)
set_option maxHeartbeats 400000 in
theorem zqvs (w : World) :
  Calls Tryz.prog 261 #[] w (Rt w (.bool true)) := by
 have s1 : same 32 (keyV (nv (mulF (upd zqd 0 2) (ofF (upd zqd 31 64))))) (upd zqd 0 19) = true := by kernel_rfl
 have hG := Grew.refl w
 go_enter Tryz.func261, Tryz.ntmps261
 go_wp2_with fail
 (refine (zqw1 _).mono ?_; rintro e w1 ⟨rfl, hb⟩; replace hG : Below w.heap.size w w1 := Grew.trans (by exact zqf) hb; clear hb)
 go_wp2_with fail
 (refine (zqcq 2 _ (by decide) (by decide)).mono ?_; rintro e w2 ⟨rfl, hb⟩; replace hG : Below w.heap.size w w2 := Grew.trans (by exact zqf) hb; clear hb)
 go_wp2_with fail
 (refine (zqvg _ _ zqwr).mono ?_; rintro e w3 ⟨rfl, hb⟩; replace hG : Below w.heap.size w w3 := Grew.trans (by exact zqf) hb; clear hb)
 go_wp2_with fail
 (refine (mul_any _ _ _ zqdb (zqg9 _)).mono ?_; rintro e w4 ⟨rfl, hb⟩; replace hG : Below w.heap.size w w4 := Grew.trans (by exact zqf) hb; clear hb)
 go_wp2_with fail
 (refine (zqf0 _ _ (zqbr _ _ zqdb (zqg9 _))).mono ?_; rintro e w5 ⟨rfl, hb⟩; replace hG : Below w.heap.size w w5 := Grew.trans (by exact zqf) hb; clear hb)
 go_wp2;go_ret;exact ⟨rfl, by exact zqf⟩
theorem zqvy (w : World) :
  Calls Tryz.prog 260 #[] w (Rt w (.bool true)) := by
 have hG := Grew.refl w
 go_enter Tryz.func260, Tryz.ntmps260
 go_wp2_with fail
 (refine (zqvs _).mono ?_; rintro e w1 ⟨rfl, hb⟩; replace hG : Below w.heap.size w w1 := Grew.trans (by exact zqf) hb; clear hb)
 go_wp2;go_ret;exact ⟨rfl, by exact zqf⟩
end Go.Proofs.YtfglcifnjaknnaaGreatDoor
