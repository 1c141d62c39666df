/- Mulf -/
import Derived.Test.YtdoolhbmekahdaaGreatDoorLimb
import Derived.Test.YtdoolhbmekahdaaGreatDoorShelf
import Derived.Laws.Externs
set_option maxRecDepth 100000
set_option maxHeartbeats 4000000
namespace Go.Proofs.YtdoolhbmekahdaaGreatDoor
open Go.RowKit
set_option linter.unusedVariables false
set_option linter.unusedSimpArgs false
@[go_sem] theorem add64_at (x y c : Int) (hx : 0 ≤ x) (hy : 0 ≤ y) (hc0 : 0 ≤ c) (hc : c ≤ 1) (w : World) :
  (callFunc 392 #[.int .u64 x, .int .u64 y, .int .u64 c]).run Tryz.prog w =
   .ok (.value (.tuple #[.int .u64 ((x + y + c) % 18446744073709551616), .int .u64 ((x + y + c) / 18446744073709551616)])) w := by
 rw [run_callFunc_extern Tryz.func392 (by kernel_rfl) (by kernel_rfl) (by kernel_rfl) (e := add64Entry) (by kernel_rfl), run_add64 x y c hx hy hc0 hc]
 rfl
theorem ret_int {k : IntKind} {a b : Int} (h : a = b) : Ending.returned (.int k a) = .returned (.int k b) := by rw [h]
theorem u64_or_low (x y : Int) (h0 : 0 ≤ x) (h1 : x < 2251799813685248) (h2 : 0 ≤ y) (h3 : y < 8192) : bits .or .u64 (x * 8192) y = x * 8192 + y := by
 obtain ⟨X, rfl⟩ := Int.eq_ofNat_of_zero_le h0
 obtain ⟨Y, rfl⟩ := Int.eq_ofNat_of_zero_le h2
 have h := (bits_nat .u64 64 (by decide) wraps_u64 (2 ^ 13 * X) Y (by omega) (by omega)).2
 rw [← Nat.two_pow_add_eq_or_of_lt (by omega : Y < 2 ^ 13)] at h
 have e : ((2 ^ 13 * X : Nat) : Int) = (X : Int) * 8192 := by omega
 rw [e] at h
 rw [h]
 omega
def wideV (W : Int) : Value := .agg #[.int .u64 (W / 18446744073709551616), .int .u64 (W % 18446744073709551616)]
theorem mul64_is (a b : Int) (ha : 0 ≤ a ∧ a ≤ 18446744073709551615) (hb : 0 ≤ b ∧ b ≤ 18446744073709551615) (w : World) :
  Calls Tryz.prog 187 #[.int .u64 a, .int .u64 b] w fun e w' => e = .returned (.tuple #[.int .u64 (a * b / 18446744073709551616), .int .u64 (a * b % 18446744073709551616)]) ∧ w' = w := by
 obtain ⟨A, rfl⟩ := Int.eq_ofNat_of_zero_le ha.1
 obtain ⟨B, rfl⟩ := Int.eq_ofNat_of_zero_le hb.1
 refine (Tryz.bits_Mul64 A B (by omega) (by omega) w).mono fun e w' ⟨he, hw⟩ => ⟨?_, hw⟩
 rw [he]
 simp
set_option maxHeartbeats 400000 in
theorem plus_parts (u l a b ph pl : Int) (w : World) (hu : 0 ≤ u) (hl : 0 ≤ l ∧ l < 18446744073709551616) (ha : 0 ≤ a ∧ a ≤ 18446744073709551615) (hb : 0 ≤ b ∧ b ≤ 18446744073709551615) (h1 : a * b / 18446744073709551616 = ph) (h2 : a * b % 18446744073709551616 = pl)
  (p0 : 0 ≤ ph) (p1 : 0 ≤ pl ∧ pl < 18446744073709551616) (hs : u + ph + (l + pl) / 18446744073709551616 < 18446744073709551616) :
  Calls Tryz.prog 386 #[.agg #[.int .u64 u, .int .u64 l], .int .u64 a, .int .u64 b] w fun e w' => e = .returned (.agg #[.int .u64 (u + ph + (l + pl) / 18446744073709551616), .int .u64 ((l + pl) % 18446744073709551616)]) ∧ Below w.heap.size w w' := by
 have hm := fun w => mul64_is a b ha hb w
 rw [h1, h2] at hm
 clear h1 h2
 obtain ⟨l0, l1⟩ := hl
 obtain ⟨q0, q1⟩ := p1
 have c0 : 0 ≤ (l + pl) / 18446744073709551616 := by omega
 have c1 : (l + pl) / 18446744073709551616 ≤ 1 := by omega
 have E : Hid ((u + ph + (l + pl) / 18446744073709551616) % 18446744073709551616 = u + ph + (l + pl) / 18446744073709551616) := by show _ = _; omega
 go_enter Tryz.func386, Tryz.ntmps386
 go_wp2_with ((with_reducible refine (hm _).mono ?_); rintro e w' ⟨rfl, rfl⟩)
 refine ret_row rfl _ 454 _ (0, 0) _ rfl (by simp [go_sem]; rfl) Tryz.underlying454 rfl (by kernel_rfl) rfl ⟨?_, by exact grew_auto⟩
 rw [E.out]
theorem plus_any (W a b : Int) (w : World) (hW : 0 ≤ W) (ha : 0 ≤ a ∧ a ≤ 18446744073709551615) (hb : 0 ≤ b ∧ b ≤ 18446744073709551615) (hs : W + a * b < 340282366920938463463374607431768211456) :
  Calls Tryz.prog 386 #[wideV W, .int .u64 a, .int .u64 b] w fun e w' => e = .returned (wideV (W + a * b)) ∧ Below w.heap.size w w' := by
 have hp : 0 ≤ a * b := Int.mul_nonneg ha.1 hb.1
 have h := plus_parts (W / 18446744073709551616) (W % 18446744073709551616) a b _ _ w (by omega) (by omega) ha hb rfl rfl
 generalize a * b = P at *
 have h' := h (by omega) (by omega) (by omega)
 rw [show W / 18446744073709551616 + P / 18446744073709551616 + (W % 18446744073709551616 + P % 18446744073709551616) / 18446744073709551616 = (W + P) / 18446744073709551616 by omega,
  show (W % 18446744073709551616 + P % 18446744073709551616) % 18446744073709551616 = (W + P) % 18446744073709551616 by omega] at h'
 exact h'
theorem rest_any (W : Int) (w : World) (hW : 0 ≤ W) :
  Calls Tryz.prog 390 #[wideV W] w fun e w' => e = .returned (.int .u64 (W % 2251799813685248)) ∧ Below w.heap.size w w' := by
 have m0 := u64_and51 (W % 18446744073709551616) (by omega) (by omega)
 rw [show W % 2251799813685248 = W % 18446744073709551616 % 2251799813685248 by omega]
 unfold wideV
 go_enter Tryz.func390, Tryz.ntmps390
 go_wp2
 go_ret
 exact ⟨ret_int (by omega), by exact grew_auto⟩
theorem over_any (W : Int) (w : World) (hW : 0 ≤ W) (hW1 : W < 41538374868278621028243970633760768) :
  Calls Tryz.prog 391 #[wideV W] w fun e w' => e = .returned (.int .u64 (W / 2251799813685248)) ∧ Below w.heap.size w w' := by
 have q0 : 0 ≤ W / 18446744073709551616 := by omega
 have q1 : W / 18446744073709551616 < 2251799813685248 := by omega
 have r0 : 0 ≤ W % 18446744073709551616 := by omega
 have r1 : W % 18446744073709551616 < 18446744073709551616 := by omega
 unfold wideV
 go_enter Tryz.func391, Tryz.ntmps391
 go_wp2
 go_ret
 exact ⟨ret_int (by rw [u64_or_low _ _ q0 q1 (by omega) (by omega)]; omega), by exact grew_auto⟩
@[go_sem ↓ high] theorem load_wide (ρ : Operand → Value) (d : Option Tmp) (x : Operand) (t : TypeId) (pos : String) (af : Array Edge) (g : Option (Nat × Bool)) :
  execOp ρ ⟨d, .load 454 x, t, pos, af, g⟩ = loadNext 454 (ρ x) := op_load _ ρ d x t pos af g
@[go_sem high] theorem load_wide' (ρ : Operand → Value) (d : Option Tmp) (x : Operand) (t : TypeId) (pos : String) (af : Array Edge) (g : Option (Nat × Bool)) :
  execOp ρ ⟨d, .load 454 x, t, pos, af, g⟩ = loadNext 454 (ρ x) := op_load _ ρ d x t pos af g
@[go_sem] theorem load_wide_at (g : Nat) (w : World) : (loadNext 454 (.pointer (some ⟨g, 0, none⟩))).run Tryz.prog w = (loadOf Tryz.prog 454 g 2 w (objAt w g)).andThen fun v w' => .ok (.value v) w' := by
 rw [run_loadNext, loadRow_eq Tryz.underlying454 rfl (by kernel_rfl) g w]
@[go_sem] theorem load_wide_of (g : Nat) (w : World) (cs : Array Value) (t' : TypeId) (fr : Nat × Nat) (h : cs.size = 2) : loadOf Tryz.prog 454 g 2 w (some (.cells cs t' fr)) = .ok (.agg cs) w := loadOf_cells cs t' fr h
set_option maxHeartbeats 1000000 in
theorem tight_from (W : Nat → Int) (w : World) (g0 : 0 ≤ W 0 ∧ W 0 < 24987928631698857962303013584371713) (g1 : 0 ≤ W 1 ∧ W 1 < 24987928631698857962303013584371713) (g2 : 0 ≤ W 2 ∧ W 2 < 24987928631698857962303013584371713)
  (g3 : 0 ≤ W 3 ∧ W 3 < 24987928631698857962303013584371713) (g4 : 0 ≤ W 4 ∧ W 4 < 1622592768292133633915780102881281) :
  Calls Tryz.prog 385 #[wideV (W 0), wideV (W 1), wideV (W 2), wideV (W 3), wideV (W 4)] w fun e w' => e = .returned (.agg (ints .u64 5 (carryF (carryF W)))) ∧ Below w.heap.size w w' := by
 have hr0 := fun w => rest_any (W 0) w g0.1
 have hr1 := fun w => rest_any (W 1) w g1.1
 have hr2 := fun w => rest_any (W 2) w g2.1
 have hr3 := fun w => rest_any (W 3) w g3.1
 have hr4 := fun w => rest_any (W 4) w g4.1
 have ho0 := fun w => over_any (W 0) w g0.1 (by omega)
 have ho1 := fun w => over_any (W 1) w g1.1 (by omega)
 have ho2 := fun w => over_any (W 2) w g2.1 (by omega)
 have ho3 := fun w => over_any (W 3) w g3.1 (by omega)
 have ho4 := fun w => over_any (W 4) w g4.1 (by omega)
 unfold wideV at *
 generalize W 0 / 18446744073709551616 = u0 at *
 generalize W 0 % 18446744073709551616 = v0 at *
 generalize W 1 / 18446744073709551616 = u1 at *
 generalize W 1 % 18446744073709551616 = v1 at *
 generalize W 2 / 18446744073709551616 = u2 at *
 generalize W 2 % 18446744073709551616 = v2 at *
 generalize W 3 / 18446744073709551616 = u3 at *
 generalize W 3 % 18446744073709551616 = v3 at *
 generalize W 4 / 18446744073709551616 = u4 at *
 generalize W 4 % 18446744073709551616 = v4 at *
 go_enter Tryz.func385, Tryz.ntmps385
 go_wp2_with fail
 ((first | (with_reducible refine wp_region_on (by kernel_rfl) (by kernel_rfl) ?_) | refine wp_region_more (by kernel_rfl) (by kernel_rfl) ?_); (repeat (first | go_big_quiet_skip | (go_big_quiet_want; go_big_quiet_op; first | go_big_quiet_on | (apply Exists.intro; refine ⟨fun _ => ?_, ?_⟩; (focus (first | (with_reducible exact Calls.of_more (hr0 _)) | (with_reducible exact Calls.of_more (ho4 _)))); go_big_quiet_on)))); refine wpQuiet_nil ?_; rintro _ ⟨mq, rfl⟩)
 go_wp2_with fail
 ((first | (with_reducible refine wp_region_on (by kernel_rfl) (by kernel_rfl) ?_) | refine wp_region_more (by kernel_rfl) (by kernel_rfl) ?_); (repeat (first | go_big_quiet_skip | (go_big_quiet_want; go_big_quiet_op; first | go_big_quiet_on | (apply Exists.intro; refine ⟨fun _ => ?_, ?_⟩; (focus (first | (with_reducible exact Calls.of_more (hr1 _)) | (with_reducible exact Calls.of_more (ho0 _)))); go_big_quiet_on)))); refine wpQuiet_nil ?_; rintro _ ⟨mq, rfl⟩)
 go_wp2_with fail
 ((first | (with_reducible refine wp_region_on (by kernel_rfl) (by kernel_rfl) ?_) | refine wp_region_more (by kernel_rfl) (by kernel_rfl) ?_); (repeat (first | go_big_quiet_skip | (go_big_quiet_want; go_big_quiet_op; first | go_big_quiet_on | (apply Exists.intro; refine ⟨fun _ => ?_, ?_⟩; (focus (first | (with_reducible exact Calls.of_more (hr2 _)) | (with_reducible exact Calls.of_more (ho1 _)))); go_big_quiet_on)))); refine wpQuiet_nil ?_; rintro _ ⟨mq, rfl⟩)
 go_wp2_with fail
 ((first | (with_reducible refine wp_region_on (by kernel_rfl) (by kernel_rfl) ?_) | refine wp_region_more (by kernel_rfl) (by kernel_rfl) ?_); (repeat (first | go_big_quiet_skip | (go_big_quiet_want; go_big_quiet_op; first | go_big_quiet_on | (apply Exists.intro; refine ⟨fun _ => ?_, ?_⟩; (focus (first | (with_reducible exact Calls.of_more (hr3 _)) | (with_reducible exact Calls.of_more (ho2 _)))); go_big_quiet_on)))); refine wpQuiet_nil ?_; rintro _ ⟨mq, rfl⟩)
 go_wp2_with fail
 ((first | (with_reducible refine wp_region_on (by kernel_rfl) (by kernel_rfl) ?_) | refine wp_region_more (by kernel_rfl) (by kernel_rfl) ?_); (repeat (first | go_big_quiet_skip | (go_big_quiet_want; go_big_quiet_op; first | go_big_quiet_on | (apply Exists.intro; refine ⟨fun _ => ?_, ?_⟩; (focus (first | (with_reducible exact Calls.of_more (hr4 _)) | (with_reducible exact Calls.of_more (ho3 _)))); go_big_quiet_on)))); refine wpQuiet_nil ?_; rintro _ ⟨mq, rfl⟩)
 clear hr0 hr1 hr2 hr3 hr4 ho0 ho1 ho2 ho3 ho4
 have m0 := u64_and51 (W 0 % 2251799813685248 + 19 * (W 4 / 2251799813685248)) (by omega) (by omega)
 have m1 := u64_and51 (W 1 % 2251799813685248 + W 0 / 2251799813685248) (by omega) (by omega)
 have m2 := u64_and51 (W 2 % 2251799813685248 + W 1 / 2251799813685248) (by omega) (by omega)
 have m3 := u64_and51 (W 3 % 2251799813685248 + W 2 / 2251799813685248) (by omega) (by omega)
 have m4 := u64_and51 (W 4 % 2251799813685248 + W 3 / 2251799813685248) (by omega) (by omega)
 go_wp2
 refine ret_row rfl _ 386 _ (0, 0) _ rfl (by simp [go_sem]; rfl) Tryz.underlying386 rfl (by rw [ints_size]; kernel_rfl) rfl ⟨?_, by exact grew_auto⟩
 congr 2
 refine ints_congr fun i hi => ?_
 rcases (by omega : i = 0 ∨ i = 1 ∨ i = 2 ∨ i = 3 ∨ i = 4) with rfl | rfl | rfl | rfl | rfl <;> (simp [upd, carryF])
end Go.Proofs.YtdoolhbmekahdaaGreatDoor
