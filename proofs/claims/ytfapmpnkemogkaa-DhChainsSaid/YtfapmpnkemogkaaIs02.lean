/- Is an element tight, and does it stand for a number? -/
import Derived.Test.YtfapmpnkemogkaaMath02
import Derived.Test.YtfapmpnkemogkaaLaw02
namespace Go.Proofs.Ytfapmpnkemogkaa
open Go.RowKit
set_option linter.unusedVariables false
set_option linter.unusedSimpArgs false

theorem val_p (x : Int) : 0 ≤ x % 57896044618658097711785492504343953926634992332820282019728792003956564819949 ∧ x % 57896044618658097711785492504343953926634992332820282019728792003956564819949 < 57896044618658097711785492504343953926634992332820282019728792003956564819968 := by omega
theorem same_of_ints {k : IntKind} {n : Nat} {f g : Nat → Int} (h : ∀ i, i < n → f i = g i) : same n f g = true := (same_iff n f g).2 h
theorem tight_true (f : Nat → Int) (w : World) (h : underB 4503599627370496 f = true) :
    Calls Try.prog 34 #[.agg (ints .u64 5 f)] w fun e w' => e = .returned (.bool true) ∧ Below w.heap.size w w' := by
  have := tight_any f w
  rw [h] at this
  exact this
theorem loose_true (f : Nat → Int) (w : World) (h : underB 18014398509481984 f = true) :
    Calls Try.prog 35 #[.agg (ints .u64 5 f)] w fun e w' => e = .returned (.bool true) ∧ Below w.heap.size w w' := by
  have := loose_any f w
  rw [h] at this
  exact this
set_option maxHeartbeats 400000 in
theorem is_any (e : Nat → Int) (x : Int) (w : World) (he : Under 4503599627370496 e) (hx : valE e % 57896044618658097711785492504343953926634992332820282019728792003956564819949 = x) :
    Calls Try.prog 36 #[.agg (ints .u64 5 e), .agg (ints .i64 16 (numN x))] w fun e' w' => e' = .returned (.bool true) ∧ Below w.heap.size w w' := by
  have hl : Under 18014398509481984 e := fun i hi => by have := he i hi; omega
  have hb : ∀ i, i < 5 → 0 ≤ e i ∧ e i ≤ 18446744073709551615 := fun i hi => by have := he i hi; omega
  have t1 : underB 4503599627370496 e = true := (underB_iff _ _).2 fun i hi => (he i hi).2
  have t2 : underB 18014398509481984 e = true := (underB_iff _ _).2 fun i hi => (hl i hi).2
  have s1 : same 32 (keyD (digF (carryF e))) (bytesN (numN x)) = true := by
    rw [key_val e hl, hx]
    obtain ⟨x0, x1⟩ := val_p (valE e)
    rw [hx] at x0 x1
    exact (same_iff _ _ _).2 fun i hi => key_bytes x x0 x1 i hi
  have s2 : same 16 (numN (hv e 5)) (numN x) = true := by
    rw [hv_val, hx]; exact same_refl _ _
  clear hx
  go_enter Try.func36, Try.ntmps36
  go_wp2
  ((first | (with_reducible refine wp_region_on (by kernel_rfl) (by kernel_rfl) ?_) | refine wp_region_more (by kernel_rfl) (by kernel_rfl) ?_); (repeat (first | go_big_quiet_skip | (go_big_quiet_want; go_big_quiet_op; first | go_big_quiet_on | (apply Exists.intro; refine ⟨fun _ => ?_, ?_⟩; (focus (first | (with_reducible exact Calls.of_more (tight_true e _ t1)) | (with_reducible exact Calls.of_more (loose_true e _ t2)) | (with_reducible exact Calls.of_more (key_any e _ hl)) | (with_reducible exact Calls.of_more (refKey_any (numN x) _ (numN_digits _))) | (with_reducible exact Calls.of_more (limbs_any e _ hb)))); go_big_quiet_on)))); refine wpQuiet_nil ?_; rintro _ ⟨mq, rfl⟩)
  go_wp2
  go_ret
  exact ⟨rfl, by (repeat (first | assumption | exact Grew.refl _ | refine Grew.more ?_ _ | refine Grew.alloc ?_ _ | refine Grew.drewN ?_ _ | refine Grew.setRow ?_ _ _ (by omega) | refine Grew.setRow ?_ _ _ (by simp; omega) | refine Grew.setRow ?_ _ _ (by simp)))⟩
end Go.Proofs.Ytfapmpnkemogkaa
