/- LadderTimes. -/
import Derived.Test.YtfapmpnkemogkaaRefTimes
import Derived.Test.YtfapmpnkemogkaaOrder
namespace Go.Proofs.Ytfapmpnkemogkaa
open Go.RowKit
set_option linter.unusedVariables false
set_option linter.unusedSimpArgs false
open Edw (red tv)

theorem limbsE_any (y : Nat → Int) (w : World) (he : W64 5 y) :
    Calls Try.prog 43 #[.agg (ints .u64 5 (y))] w fun e w' => e = .returned (.agg (ints .i64 16 (numN (nv y)))) ∧ Below w.heap.size w w' := limbsV_any y w he
set_option maxRecDepth 100000 in
set_option maxHeartbeats 2000000 in
theorem times5_any (k x : Nat → Int) (w : World) (hk : Bytes 32 k) (hx : W64 5 x) :
    Calls Try.prog 18 #[.agg (ints .u8 32 (k)), .agg (ints .u64 5 (x))] w fun e w' => e = .returned (.bool true) ∧ Below w.heap.size w w' := by
  have hl : underB 18014398509481984 x = true → Under 18014398509481984 x := fun h i hi => ⟨(hx i hi).1, (underB_iff _ _).1 h i hi⟩
  generalize hU : underB 18014398509481984 x = U
  have hG := Grew.refl w
  have fk : True := trivial
  have fx : True := trivial
  go_enter Try.func18, Try.ntmps18
  go_wp2_with fail
  replace fk : objAt ((w.alloc (.cells (ints .u8 32 (k)) 23)).alloc (.cells (ints .u64 5 (x)) 37)) (w.heap.size) = some (.cells (ints .u8 32 (k)) 23) := by (repeat (first | assumption | exact objAt_alloc_at _ _ _ rfl | (refine objAt_alloc_at _ _ _ ?_; (simp; done)) | refine keep_alloc _ ?_ | refine keep_drewN _ ?_ | refine keep_more _ ?_ | exact keep_row _ (by assumption) | refine keep_setRow _ _ ?_ (by first | omega | (simp; omega) | simp)))
  replace fx : objAt ((w.alloc (.cells (ints .u8 32 (k)) 23)).alloc (.cells (ints .u64 5 (x)) 37)) (w.heap.size + 1) = some (.cells (ints .u64 5 (x)) 37) := by (repeat (first | assumption | exact objAt_alloc_at _ _ _ rfl | (refine objAt_alloc_at _ _ _ ?_; (simp; done)) | refine keep_alloc _ ?_ | refine keep_drewN _ ?_ | refine keep_more _ ?_ | exact keep_row _ (by assumption) | refine keep_setRow _ _ ?_ (by first | omega | (simp; omega) | simp)))
  replace hG : Below w.heap.size w ((w.alloc (.cells (ints .u8 32 (k)) 23)).alloc (.cells (ints .u64 5 (x)) 37)) := by (repeat (first | assumption | exact Grew.refl _ | refine Grew.more ?_ _ | refine Grew.alloc ?_ _ | refine Grew.drewN ?_ _ | refine Grew.setRow ?_ _ _ (by omega) | refine Grew.setRow ?_ _ _ (by simp; omega) | refine Grew.setRow ?_ _ _ (by simp)))
  generalize (w.alloc (.cells (ints .u8 32 (k)) 23)).alloc (.cells (ints .u64 5 (x)) 37) = w1 at *
  have lfk := lt_of_objAt fk
  have lfx := lt_of_objAt fx
  go_wp2_with fail
  (refine (awake5_any _).mono ?_; rintro e w2 ⟨rfl, hb⟩; replace fk : objAt w2 (w.heap.size) = some (.cells (ints .u8 32 (k)) 23) := keep_below hb (by (repeat (first | assumption | exact objAt_alloc_at _ _ _ rfl | (refine objAt_alloc_at _ _ _ ?_; (simp; done)) | refine keep_alloc _ ?_ | refine keep_drewN _ ?_ | refine keep_more _ ?_ | exact keep_row _ (by assumption) | refine keep_setRow _ _ ?_ (by first | omega | (simp; omega) | simp)))); have lfk := lt_of_objAt fk; replace fx : objAt w2 (w.heap.size + 1) = some (.cells (ints .u64 5 (x)) 37) := keep_below hb (by (repeat (first | assumption | exact objAt_alloc_at _ _ _ rfl | (refine objAt_alloc_at _ _ _ ?_; (simp; done)) | refine keep_alloc _ ?_ | refine keep_drewN _ ?_ | refine keep_more _ ?_ | exact keep_row _ (by assumption) | refine keep_setRow _ _ ?_ (by first | omega | (simp; omega) | simp)))); have lfx := lt_of_objAt fx; replace hG : Below w.heap.size w w2 := Grew.trans (by (repeat (first | assumption | exact Grew.refl _ | refine Grew.more ?_ _ | refine Grew.alloc ?_ _ | refine Grew.drewN ?_ _ | refine Grew.setRow ?_ _ _ (by omega) | refine Grew.setRow ?_ _ _ (by simp; omega) | refine Grew.setRow ?_ _ _ (by simp)))) hb; clear hb)
  have q1 := fun w => loose_is x w hU
  cases U
  · go_wp2_with fail
    ((first | (with_reducible refine wp_region_on (by kernel_rfl) (by kernel_rfl) ?_) | refine wp_region_more (by kernel_rfl) (by kernel_rfl) ?_); (repeat (first | go_big_quiet_skip | (go_big_quiet_want; go_big_quiet_op; first | go_big_quiet_on | (apply Exists.intro; refine ⟨fun _ => ?_, ?_⟩; (focus (first | (with_reducible exact Calls.of_more (q1 _)))); go_big_quiet_on)))); refine wpQuiet_nil ?_; rintro _ ⟨mq, rfl⟩)
    go_wp2
    go_ret
    exact ⟨rfl, by (repeat (first | assumption | exact Grew.refl _ | refine Grew.more ?_ _ | refine Grew.alloc ?_ _ | refine Grew.drewN ?_ _ | refine Grew.setRow ?_ _ _ (by omega) | refine Grew.setRow ?_ _ _ (by simp; omega) | refine Grew.setRow ?_ _ _ (by simp)))⟩
  · have hu := hl hU
    have t1 := fun w => times_calls k x w hk hu
    have t2 := fun w => limbsE_any x w hx
    have t3 := fun w => timesN_calls k (nv x) w hk (nv_BD x)
    have e : nv (timesL x k) = tv (knum k 32) (nv x) := nv_timesL _ _ hk
    have t4 := fun w => is_any (timesL x k) (nv (timesL x k)) w (tight_timesL x k hu) rfl
    rw [← e] at t3
    clear e hl hU
    generalize nv (timesL x k) = V at *
    generalize timesL x k = F at *
    generalize nv x = X at *
    go_wp2_with fail
    ((first | (with_reducible refine wp_region_on (by kernel_rfl) (by kernel_rfl) ?_) | refine wp_region_more (by kernel_rfl) (by kernel_rfl) ?_); (repeat (first | go_big_quiet_skip | (go_big_quiet_want; go_big_quiet_op; first | go_big_quiet_on | (apply Exists.intro; refine ⟨fun _ => ?_, ?_⟩; (focus (first | (with_reducible exact Calls.of_more (q1 _)) | (with_reducible exact Calls.of_more (t1 _)) | (with_reducible exact Calls.of_more (t2 _)) | (with_reducible exact Calls.of_more (t3 _)) | (with_reducible exact Calls.of_more (t4 _)))); go_big_quiet_on)))); refine wpQuiet_nil ?_; rintro _ ⟨mq, rfl⟩)
    go_wp2
    go_ret
    exact ⟨rfl, by (repeat (first | assumption | exact Grew.refl _ | refine Grew.more ?_ _ | refine Grew.alloc ?_ _ | refine Grew.drewN ?_ _ | refine Grew.setRow ?_ _ _ (by omega) | refine Grew.setRow ?_ _ _ (by simp; omega) | refine Grew.setRow ?_ _ _ (by simp)))⟩
end Go.Proofs.Ytfapmpnkemogkaa
