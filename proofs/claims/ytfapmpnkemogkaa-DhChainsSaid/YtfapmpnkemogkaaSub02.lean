/- What one number less another is, by the reference of layer 2. -/
import Derived.Test.YtfapmpnkemogkaaIs02
namespace Go.Proofs.Ytfapmpnkemogkaa
open Go.RowKit
set_option linter.unusedVariables false
set_option linter.unusedSimpArgs false

def bigP : Int := 57896044618658097711785492504343953926634992332820282019728792003956564819949
theorem minus_num (x y : Int) (h0 : 0 ≤ y) (h1 : y ≤ x) (h2 : x < 57896044618658097711785492504343953926634992332820282019728792003956564819950) : ints .i64 16 (minusF (numN x) (numN y)) = ints .i64 16 (numN (x - y)) := by
  have hd := minus_digits (numN_digits x) (numN_digits y)
  rw [numN_of hd]
  have hv := minus_val (numN x) (numN y) 16
  have e : (65536 : Int) ^ 16 = 115792089237316195423570985008687907853269984665640564039457584007913129639936 := by decide
  have h3 := dval_bd hd 16 (by decide)
  have h4 := borrow_bd (numN x) (numN y) 16
  rw [numN_val, numN_val, e] at hv
  rw [e] at h3
  have : dval (minusF (numN x) (numN y)) 16 = x - y := by omega
  rw [this]
theorem minusN_any (x y : Int) (w : World) (h0 : 0 ≤ y) (h1 : y ≤ x) (h2 : x < 57896044618658097711785492504343953926634992332820282019728792003956564819950) :
    Calls Try.prog 92 #[.agg (ints .i64 16 (numN x)), .agg (ints .i64 16 (numN y))] w fun e w' => e = .returned (.agg (ints .i64 16 (numN (x - y)))) ∧ Below w.heap.size w w' := by
  have := minus_any (numN x) (numN y) w (numN_digits x) (numN_digits y)
  rw [minus_num x y h0 h1 h2] at this
  exact this
theorem primeN_any (w : World) :
    Calls Try.prog 93 #[] w fun e w' => e = .returned (.agg (ints .i64 16 (numN 57896044618658097711785492504343953926634992332820282019728792003956564819949))) ∧ Below w.heap.size w w' := by
  have := prime_any w
  rw [numN_of prime_digits, prime_val] at this
  exact this
theorem lessN_any (x y : Int) (w : World) {T : Bool} (hx : 0 ≤ x ∧ x < 57896044618658097711785492504343953926634992332820282019728792003956564819949) (hy : 0 ≤ y ∧ y < 57896044618658097711785492504343953926634992332820282019728792003956564819949) (h : decide (x < y) = T) :
    Calls Try.prog 91 #[.agg (ints .i64 16 (numN x)), .agg (ints .i64 16 (numN y))] w fun e w' => e = .returned (.bool T) ∧ Below w.heap.size w w' := by
  have := less_any (numN x) (numN y) w (numN_digits x) (numN_digits y)
  have e : lessB (numN x) (numN y) = T := by
    rw [← h]
    show decide (dval (numN x) 16 < dval (numN y) 16) = _
    rw [num_val hx.1 hx.2, num_val hy.1 hy.2]
  rw [e] at this
  exact this
set_option maxHeartbeats 400000 in
theorem refSub_any (x y : Int) (w : World) (hx : 0 ≤ x ∧ x < 57896044618658097711785492504343953926634992332820282019728792003956564819949) (hy : 0 ≤ y ∧ y < 57896044618658097711785492504343953926634992332820282019728792003956564819949) :
    Calls Try.prog 47 #[.agg (ints .i64 16 (numN x)), .agg (ints .i64 16 (numN y))] w fun e w' => e = .returned (.agg (ints .i64 16 (numN ((x - y) % 57896044618658097711785492504343953926634992332820282019728792003956564819949)))) ∧ Below w.heap.size w w' := by
  by_cases hlt : x < y
  · have hT : decide (x < y) = true := decide_eq_true hlt
    have m1 := fun w => minusN_any y x w hx.1 (by omega) (by omega)
    have m2 := fun w => minusN_any 57896044618658097711785492504343953926634992332820282019728792003956564819949 (y - x) w (by omega) (by omega) (by omega)
    have E : Hid (57896044618658097711785492504343953926634992332820282019728792003956564819949 - (y - x) = (x - y) % 57896044618658097711785492504343953926634992332820282019728792003956564819949) := by
      show _ = _
      omega
    have hG := Grew.refl w
    have fa : True := trivial
    have fb : True := trivial
    have fr : True := trivial
    go_enter Try.func47, Try.ntmps47
    go_wp2_with fail
    (refine (lessN_any x y _ hx hy hT).mono ?_; rintro e w1 ⟨rfl, hb⟩; replace fa : objAt w1 (w.heap.size) = some (.cells (ints .i64 16 (numN x)) 41) := keep_below hb (by (repeat (first | assumption | exact objAt_alloc_at _ _ _ rfl | (refine objAt_alloc_at _ _ _ ?_; (simp; done)) | refine keep_alloc _ ?_ | refine keep_drewN _ ?_ | refine keep_more _ ?_ | exact keep_row _ (by assumption) | refine keep_setRow _ _ ?_ (by first | omega | (simp; omega) | simp)))); have lfa := lt_of_objAt fa; replace fb : objAt w1 (w.heap.size + 1) = some (.cells (ints .i64 16 (numN y)) 41) := keep_below hb (by (repeat (first | assumption | exact objAt_alloc_at _ _ _ rfl | (refine objAt_alloc_at _ _ _ ?_; (simp; done)) | refine keep_alloc _ ?_ | refine keep_drewN _ ?_ | refine keep_more _ ?_ | exact keep_row _ (by assumption) | refine keep_setRow _ _ ?_ (by first | omega | (simp; omega) | simp)))); have lfb := lt_of_objAt fb; replace fr : objAt w1 (w.heap.size + 1 + 1) = some (.cells (ints .i64 16 nought) 41) := keep_below hb (by (repeat (first | assumption | exact objAt_alloc_at _ _ _ rfl | (refine objAt_alloc_at _ _ _ ?_; (simp; done)) | refine keep_alloc _ ?_ | refine keep_drewN _ ?_ | refine keep_more _ ?_ | exact keep_row _ (by assumption) | refine keep_setRow _ _ ?_ (by first | omega | (simp; omega) | simp)))); have lfr := lt_of_objAt fr; replace hG : Below w.heap.size w w1 := Grew.trans (by (repeat (first | assumption | exact Grew.refl _ | refine Grew.more ?_ _ | refine Grew.alloc ?_ _ | refine Grew.drewN ?_ _ | refine Grew.setRow ?_ _ _ (by omega) | refine Grew.setRow ?_ _ _ (by simp; omega) | refine Grew.setRow ?_ _ _ (by simp)))) hb; clear hb)
    go_wp2_with fail
    ((first | (with_reducible refine wp_region_tail_on 5 (by kernel_rfl) (by kernel_rfl) (by kernel_rfl) (by kernel_rfl) (by kernel_rfl) ?_) | refine wp_region_tail_more 5 (by kernel_rfl) (by kernel_rfl) (by kernel_rfl) (by kernel_rfl) (by kernel_rfl) ?_); simp only [List.take_succ_cons, List.take_zero]; (repeat (first | go_big_quiet_skip | (go_big_quiet_want; go_big_quiet_op; first | go_big_quiet_on | (apply Exists.intro; refine ⟨fun _ => ?_, ?_⟩; (focus (first | (with_reducible exact Calls.of_more (m1 _)) | (with_reducible exact Calls.of_more (m2 _)) | (with_reducible exact Calls.of_more (primeN_any _)))); go_big_quiet_on)))); refine wpQuiet_nil ?_; rintro _ ⟨mq, rfl⟩)
    (refine tail_one (i := 5) (fuel := 0) (by kernel_rfl) rfl ?_; intro K hK; go_simp; refine hK _ _ ?_; clear hK K)
    (refine wpAny_done (by kernel_rfl) ?_ _)
    go_wp2
    refine ret_row rfl (w.heap.size + 1 + 1) 41 _ (0, 0) _ rfl (by first | exact keep_row _ fr | ((repeat (first | assumption | exact objAt_alloc_at _ _ _ rfl | (refine objAt_alloc_at _ _ _ ?_; (simp; done)) | refine keep_alloc _ ?_ | refine keep_drewN _ ?_ | refine keep_more _ ?_ | exact keep_row _ (by assumption) | refine keep_setRow _ _ ?_ (by first | omega | (simp; omega) | simp))))) Try.underlying41 rfl (by rw [ints_size]; kernel_rfl) rfl ⟨by rw [E.out], by (repeat (first | assumption | exact Grew.refl _ | refine Grew.more ?_ _ | refine Grew.alloc ?_ _ | refine Grew.drewN ?_ _ | refine Grew.setRow ?_ _ _ (by omega) | refine Grew.setRow ?_ _ _ (by simp; omega) | refine Grew.setRow ?_ _ _ (by simp)))⟩
  · have hT : decide (x < y) = false := decide_eq_false hlt
    have m1 := fun w => minusN_any x y w hy.1 (by omega) (by omega)
    have E : Hid (x - y = (x - y) % 57896044618658097711785492504343953926634992332820282019728792003956564819949) := by
      show _ = _
      omega
    have hG := Grew.refl w
    have fa : True := trivial
    have fb : True := trivial
    have fr : True := trivial
    go_enter Try.func47, Try.ntmps47
    go_wp2_with fail
    (refine (lessN_any x y _ hx hy hT).mono ?_; rintro e w1 ⟨rfl, hb⟩; replace fa : objAt w1 (w.heap.size) = some (.cells (ints .i64 16 (numN x)) 41) := keep_below hb (by (repeat (first | assumption | exact objAt_alloc_at _ _ _ rfl | (refine objAt_alloc_at _ _ _ ?_; (simp; done)) | refine keep_alloc _ ?_ | refine keep_drewN _ ?_ | refine keep_more _ ?_ | exact keep_row _ (by assumption) | refine keep_setRow _ _ ?_ (by first | omega | (simp; omega) | simp)))); have lfa := lt_of_objAt fa; replace fb : objAt w1 (w.heap.size + 1) = some (.cells (ints .i64 16 (numN y)) 41) := keep_below hb (by (repeat (first | assumption | exact objAt_alloc_at _ _ _ rfl | (refine objAt_alloc_at _ _ _ ?_; (simp; done)) | refine keep_alloc _ ?_ | refine keep_drewN _ ?_ | refine keep_more _ ?_ | exact keep_row _ (by assumption) | refine keep_setRow _ _ ?_ (by first | omega | (simp; omega) | simp)))); have lfb := lt_of_objAt fb; replace fr : objAt w1 (w.heap.size + 1 + 1) = some (.cells (ints .i64 16 nought) 41) := keep_below hb (by (repeat (first | assumption | exact objAt_alloc_at _ _ _ rfl | (refine objAt_alloc_at _ _ _ ?_; (simp; done)) | refine keep_alloc _ ?_ | refine keep_drewN _ ?_ | refine keep_more _ ?_ | exact keep_row _ (by assumption) | refine keep_setRow _ _ ?_ (by first | omega | (simp; omega) | simp)))); have lfr := lt_of_objAt fr; replace hG : Below w.heap.size w w1 := Grew.trans (by (repeat (first | assumption | exact Grew.refl _ | refine Grew.more ?_ _ | refine Grew.alloc ?_ _ | refine Grew.drewN ?_ _ | refine Grew.setRow ?_ _ _ (by omega) | refine Grew.setRow ?_ _ _ (by simp; omega) | refine Grew.setRow ?_ _ _ (by simp)))) hb; clear hb)
    go_wp2_with fail
    refine (m1 _).mono ?_
    rintro e w2 ⟨rfl, hb2⟩
    obtain ⟨m2, rfl⟩ := more_of_below hb2
    clear hb2
    go_wp2
    refine ret_row rfl (w.heap.size + 1 + 1) 41 _ (0, 0) _ rfl (by first | exact keep_row _ fr | ((repeat (first | assumption | exact objAt_alloc_at _ _ _ rfl | (refine objAt_alloc_at _ _ _ ?_; (simp; done)) | refine keep_alloc _ ?_ | refine keep_drewN _ ?_ | refine keep_more _ ?_ | exact keep_row _ (by assumption) | refine keep_setRow _ _ ?_ (by first | omega | (simp; omega) | simp))))) Try.underlying41 rfl (by rw [ints_size]; kernel_rfl) rfl ⟨by rw [← E.out], by (repeat (first | assumption | exact Grew.refl _ | refine Grew.more ?_ _ | refine Grew.alloc ?_ _ | refine Grew.drewN ?_ _ | refine Grew.setRow ?_ _ _ (by omega) | refine Grew.setRow ?_ _ _ (by simp; omega) | refine Grew.setRow ?_ _ _ (by simp)))⟩
end Go.Proofs.Ytfapmpnkemogkaa
