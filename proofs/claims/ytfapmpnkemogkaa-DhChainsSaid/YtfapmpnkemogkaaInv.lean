/- Two elements, swapped or not; whether two stand for one number. -/
import Derived.Test.YtfapmpnkemogkaaCt
import Derived.Test.YtfapmpnkemogkaaField
namespace Go.Proofs.Ytfapmpnkemogkaa
open Go.RowKit
set_option linter.unusedVariables false
set_option linter.unusedSimpArgs false

theorem u64_and_nat (a b : Nat) (ha : a < 18446744073709551616) (hb : b < 18446744073709551616) : bits .and .u64 (a : Int) (b : Int) = ((a &&& b : Nat) : Int) := (bits_nat .u64 64 (by decide) wraps_u64 a b ha hb).1
theorem u64_xor_nat (a b : Nat) (ha : a < 18446744073709551616) (hb : b < 18446744073709551616) : bits .xor .u64 (a : Int) (b : Int) = ((a ^^^ b : Nat) : Int) := by
  have h1 : (BitVec.ofInt 64 (a : Int)).toNat = a := by rw [BitVec.ofInt_natCast, BitVec.toNat_ofNat]; exact Nat.mod_eq_of_lt (by omega)
  have h2 : (BitVec.ofInt 64 (b : Int)).toNat = b := by rw [BitVec.ofInt_natCast, BitVec.toNat_ofNat]; exact Nat.mod_eq_of_lt (by omega)
  have hx : a ^^^ b < 2 ^ 64 := Nat.xor_lt_two_pow (by omega) (by omega)
  show IntKind.u64.wrap ((BitVec.ofInt 64 (a : Int) ^^^ BitVec.ofInt 64 (b : Int)).toNat : Int) = _
  rw [BitVec.toNat_xor, h1, h2]
  exact wraps_u64 _ (by omega) (by omega)
theorem u64_nat (x : Int) (h0 : 0 ≤ x) (h1 : x ≤ 18446744073709551615) : ∃ a : Nat, x = a ∧ a < 18446744073709551616 := ⟨x.toNat, by omega, by omega⟩
/-- all bits, or none -/
def maskOf (b : Int) : Int := -(b % 2) % 18446744073709551616
def differ (b x y : Int) : Int := bits .and .u64 (maskOf b) (bits .xor .u64 x y)
theorem differ_first (b x y : Int) (hx : 0 ≤ x ∧ x ≤ 18446744073709551615) (hy : 0 ≤ y ∧ y ≤ 18446744073709551615) : bits .xor .u64 x (differ b x y) = if b % 2 = 0 then x else y := by
  obtain ⟨p, rfl, hp⟩ := u64_nat x hx.1 hx.2
  obtain ⟨q, rfl, hq⟩ := u64_nat y hy.1 hy.2
  have h1 : p ^^^ q < 2 ^ 64 := Nat.xor_lt_two_pow (by omega) (by omega)
  unfold differ maskOf
  rw [u64_xor_nat p q hp hq]
  by_cases hb : b % 2 = 0
  · rw [if_pos hb, hb]
    show bits .xor .u64 (p : Int) (bits .and .u64 ((0 : Nat) : Int) ((p ^^^ q : Nat) : Int)) = p
    rw [u64_and_nat 0 _ (by decide) (by omega), Nat.zero_and, u64_xor_nat p 0 hp (by decide), Nat.xor_zero]
  · have hb1 : b % 2 = 1 := by omega
    rw [if_neg hb, hb1]
    show bits .xor .u64 (p : Int) (bits .and .u64 ((18446744073709551615 : Nat) : Int) ((p ^^^ q : Nat) : Int)) = q
    have h2 : 18446744073709551615 &&& (p ^^^ q) = p ^^^ q := by
      rw [Nat.and_comm, show (18446744073709551615 : Nat) = 2 ^ 64 - 1 from rfl, Nat.and_two_pow_sub_one_eq_mod]
      omega
    rw [u64_and_nat _ _ (by decide) (by omega), h2, u64_xor_nat p _ hp (by omega), nat_xor_back]
theorem differ_other (b x y : Int) (hx : 0 ≤ x ∧ x ≤ 18446744073709551615) (hy : 0 ≤ y ∧ y ≤ 18446744073709551615) : bits .xor .u64 y (differ b x y) = if b % 2 = 0 then y else x := by
  have h : differ b x y = differ b y x := by
    obtain ⟨p, rfl, hp⟩ := u64_nat x hx.1 hx.2
    obtain ⟨q, rfl, hq⟩ := u64_nat y hy.1 hy.2
    unfold differ
    rw [u64_xor_nat p q hp hq, u64_xor_nat q p hq hp, Nat.xor_comm]
  rw [h]
  exact differ_first b y x hy hx
theorem oneOf_at (b : Int) (x y : Nat → Int) (k : Nat) : oneOf b x y k = if b % 2 = 0 then x k else y k := by
  unfold oneOf; split <;> rfl
def W64 (n : Nat) (a : Nat → Int) : Prop := ∀ i, i < n → 0 ≤ a i ∧ a i ≤ 18446744073709551615
set_option maxHeartbeats 1000000 in
theorem swapE_any (b : Int) (x y : Nat → Int) (w : World) (hx : W64 5 x) (hy : W64 5 y) :
    Calls Try.prog 57 #[.int .i64 b, .agg (ints .u64 5 x), .agg (ints .u64 5 y)] w fun e w' => e = .returned (.tuple #[.agg (ints .u64 5 (oneOf b x y)), .agg (ints .u64 5 (oneOf b y x))]) ∧ Below w.heap.size w w' := by
  have hb2 := i64_and1 b
  have hb3 : IntKind.u64.wrap (-(b % 2)) = maskOf b := by unfold maskOf; exact IntKind.wrap_u64 _
  go_enter Try.func57, Try.ntmps57
  go_wp2
  go_loopw [15] (fun i wr => ∃ k : Nat, ∃ m : More, k ≤ 5 ∧ i = .int .i64 k ∧ wr = more ((((w.alloc (.cells (ints .u64 5 (mix (oneOf b x y) x k)) 37)).alloc (.cells (ints .u64 5 (mix (oneOf b y x) y k)) 37)).alloc (.cells (ints .u64 5 nought) 37)).alloc (.cells (ints .u64 5 nought) 37)) m) (fun i _ => 5 - (intOf i).toNat)
  case atStart => exact ⟨0, _, by omega, rfl, by rw [mix_zero, mix_zero]; exact (more_self _).symm⟩
  case round =>
    obtain ⟨k, m, hk, rfl, rfl⟩ := hrel
    by_cases hlt : k < 5
    · have hm1 := mix_at (oneOf b x y) x k
      have hm2 := mix_at (oneOf b y x) y k
      have s1 := mix_succ (oneOf b x y) x k
      have s2 := mix_succ (oneOf b y x) y k
      have e1 := differ_first b (x k) (y k) (hx k hlt) (hy k hlt)
      have e2 := differ_other b (x k) (y k) (hx k hlt) (hy k hlt)
      rw [← oneOf_at] at e1 e2
      have hd : bits .and .u64 (maskOf b) (bits .xor .u64 (x k) (y k)) = differ b (x k) (y k) := rfl
      generalize differ b (x k) (y k) = D at *
      have S1 : Hid (upd (mix (oneOf b x y) x k) k (oneOf b x y k) = mix (oneOf b x y) x (k + 1)) := s1
      have S2 : Hid (upd (mix (oneOf b y x) y k) k (oneOf b y x k) = mix (oneOf b y x) y (k + 1)) := s2
      clear s1 s2
      go_wp2
      ((first | (with_reducible refine wp_region_on (by kernel_rfl) (by kernel_rfl) ?_) | refine wp_region_more (by kernel_rfl) (by kernel_rfl) ?_); (repeat (first | go_big_quiet_skip | (go_big_quiet_want; go_big_quiet_op; first | go_big_quiet_on | (apply Exists.intro; refine ⟨fun _ => ?_, ?_⟩; (focus (fail)); go_big_quiet_on)))); refine wpQuiet_nil ?_; rintro _ ⟨mq, rfl⟩)
      go_wp2
      go_roundw
      case rel => exact ⟨k + 1, _, by omega, by go_num, by rw [← S1.out, ← S2.out]⟩
      case measure => simp [intOf]; omega
    · obtain rfl : k = 5 := by omega
      rw [ints_mix, ints_mix]
      go_wp2
      go_region
      all_goals
       go_wp2
       refine ret_row2 rfl _ _ 37 37 _ _ (0, 0) (0, 0) _ _ rfl rfl (by simp [go_sem]) (by simp [go_sem]) Try.underlying37 rfl (by rw [ints_size]; kernel_rfl) Try.underlying37 rfl (by rw [ints_size]; kernel_rfl) rfl ⟨rfl, by (repeat (first | assumption | exact Grew.refl _ | refine Grew.more ?_ _ | refine Grew.alloc ?_ _ | refine Grew.drewN ?_ _ | refine Grew.setRow ?_ _ _ (by omega) | refine Grew.setRow ?_ _ _ (by simp; omega) | refine Grew.setRow ?_ _ _ (by simp)))⟩
/-! whether two are one number -/
theorem keyV_inj {x y : Int} (hx : 0 ≤ x ∧ x < 57896044618658097711785492504343953926634992332820282019728792003956564819949) (hy : 0 ≤ y ∧ y < 57896044618658097711785492504343953926634992332820282019728792003956564819949) (h : same 32 (keyV x) (keyV y) = true) : x = y := by
  have hs := (same_iff _ _ _).1 h
  rw [← num_val hx.1 hx.2, ← num_val hy.1 hy.2]
  refine dval_congr 16 fun i hi => ?_
  have h0 := hs (2 * i) (by omega)
  have h1 := hs (2 * i + 1) (by omega)
  unfold keyV at h0 h1
  rw [key_bytes x hx.1 (by omega) _ (by omega), key_bytes y hy.1 (by omega) _ (by omega)] at h0 h1
  unfold bytesN at h0 h1
  rw [if_pos (by omega), if_pos (by omega), show 2 * i / 2 = i by omega] at h0
  rw [if_neg (by omega), if_neg (by omega), show (2 * i + 1) / 2 = i by omega] at h1
  have d1 := numN_digits x i hi
  have d2 := numN_digits y i hi
  omega
theorem same_nv (a b : Nat → Int) : same 32 (keyV (nv a)) (keyV (nv b)) = decide (nv a = nv b) := by
  by_cases h : nv a = nv b
  · rw [keyV_same h, decide_eq_true h]
  · rw [decide_eq_false h]
    cases hh : same 32 (keyV (nv a)) (keyV (nv b)) with
    | false => rfl
    | true => exact absurd (keyV_inj (nv_bd a) (nv_bd b) hh) h
theorem same_nv0 (a : Nat → Int) : same 32 (keyV (nv a)) nought = decide (nv a = 0) := by
  have e : ∀ i, i < 32 → keyV 0 i = nought i := (same_iff _ _ _).1 (by kernel_rfl)
  have h1 : same 32 (keyV (nv a)) nought = same 32 (keyV (nv a)) (keyV 0) := by
    rw [Bool.eq_iff_iff, same_iff, same_iff]
    exact ⟨fun h i hi => (h i hi).trans (e i hi).symm, fun h i hi => (h i hi).trans (e i hi)⟩
  rw [h1, ← nv_nought, same_nv, nv_nought]
theorem equalE_any (a b : Nat → Int) (w : World) (ha : Under 18014398509481984 a) (hb : Under 18014398509481984 b) :
    Calls Try.prog 62 #[.agg (ints .u64 5 a), .agg (ints .u64 5 b)] w fun e w' => e = .returned (.bool (decide (nv a = nv b))) ∧ Below w.heap.size w w' := by
  rw [← same_nv]
  have hs := fun w => same_any (keyV (nv a)) (keyV (nv b)) w (keyV_bytes _) (keyV_bytes _)
  generalize same 32 (keyV (nv a)) (keyV (nv b)) = S at *
  go_enter Try.func62, Try.ntmps62
  go_wp2
  ((first | (with_reducible refine wp_region_on (by kernel_rfl) (by kernel_rfl) ?_) | refine wp_region_more (by kernel_rfl) (by kernel_rfl) ?_); (repeat (first | go_big_quiet_skip | (go_big_quiet_want; go_big_quiet_op; first | go_big_quiet_on | (apply Exists.intro; refine ⟨fun _ => ?_, ?_⟩; (focus (first | (with_reducible exact Calls.of_more (keyV_any _ _ ha)) | (with_reducible exact Calls.of_more (keyV_any _ _ hb)) | (with_reducible exact Calls.of_more (hs _)))); go_big_quiet_on)))); refine wpQuiet_nil ?_; rintro _ ⟨mq, rfl⟩)
  go_wp2
  go_ret
  exact ⟨rfl, by (repeat (first | assumption | exact Grew.refl _ | refine Grew.more ?_ _ | refine Grew.alloc ?_ _ | refine Grew.drewN ?_ _ | refine Grew.setRow ?_ _ _ (by omega) | refine Grew.setRow ?_ _ _ (by simp; omega) | refine Grew.setRow ?_ _ _ (by simp)))⟩
theorem zeroE_any (a : Nat → Int) (w : World) (ha : Under 18014398509481984 a) :
    Calls Try.prog 63 #[.agg (ints .u64 5 a)] w fun e w' => e = .returned (.bool (decide (nv a = 0))) ∧ Below w.heap.size w w' := by
  rw [← same_nv0]
  have hs := fun w => zero_any (keyV (nv a)) w (keyV_bytes _)
  generalize same 32 (keyV (nv a)) nought = S at *
  have hG := Grew.refl w
  go_enter Try.func63, Try.ntmps63
  go_wp2_with fail
  (refine (keyV_any _ _ ha).mono ?_; rintro e w1 ⟨rfl, hb⟩; replace hG : Below w.heap.size w w1 := Grew.trans (by (repeat (first | assumption | exact Grew.refl _ | refine Grew.more ?_ _ | refine Grew.alloc ?_ _ | refine Grew.drewN ?_ _ | refine Grew.setRow ?_ _ _ (by omega) | refine Grew.setRow ?_ _ _ (by simp; omega) | refine Grew.setRow ?_ _ _ (by simp)))) hb; clear hb)
  go_wp2_with fail
  (refine (hs _).mono ?_; rintro e w2 ⟨rfl, hb⟩; replace hG : Below w.heap.size w w2 := Grew.trans (by (repeat (first | assumption | exact Grew.refl _ | refine Grew.more ?_ _ | refine Grew.alloc ?_ _ | refine Grew.drewN ?_ _ | refine Grew.setRow ?_ _ _ (by omega) | refine Grew.setRow ?_ _ _ (by simp; omega) | refine Grew.setRow ?_ _ _ (by simp)))) hb; clear hb)
  go_wp2
  go_ret
  exact ⟨rfl, by (repeat (first | assumption | exact Grew.refl _ | refine Grew.more ?_ _ | refine Grew.alloc ?_ _ | refine Grew.drewN ?_ _ | refine Grew.setRow ?_ _ _ (by omega) | refine Grew.setRow ?_ _ _ (by simp; omega) | refine Grew.setRow ?_ _ _ (by simp)))⟩
end Go.Proofs.Ytfapmpnkemogkaa
