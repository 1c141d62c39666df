/- What a pair is; two pairs, swapped or not. -/
import Derived.Test.YtfapmpnkemogkaaStep
import Derived.Test.YtfapmpnkemogkaaInv2
namespace Go.Proofs.Ytfapmpnkemogkaa
open Go.RowKit
set_option linter.unusedVariables false
set_option linter.unusedSimpArgs false

set_option maxRecDepth 100000 in
set_option maxHeartbeats 1000000 in
theorem affine_any (x z : Nat → Int) (w : World) (hx : Under 18014398509481984 (x)) (hz : Under 18014398509481984 (z)) :
    Calls Try.prog 70 #[.agg (ints .u64 10 (pairF (x) (z)))] w fun e w' => e = .returned (.agg (ints .u64 5 (mulF x (invF z)))) ∧ Below w.heap.size w w' := by
  have hG := Grew.refl w
  have fp : True := trivial
  have fr : True := trivial
  go_enter Try.func70, Try.ntmps70
  have c1 := fun w => invert_any z w hz
  have c2 := fun w => mul_any x (invF z) w hx (loose_inv z hz)
  go_wp2_with fail
  replace fp : objAt ((w.alloc (.cells (ints .u64 10 (pairF (x) (z))) 76)).alloc (.cells (ints .u64 5 (nought)) 37)) (w.heap.size) = some (.cells (ints .u64 10 (pairF (x) (z))) 76) := by (repeat (first | assumption | exact objAt_alloc_at _ _ _ rfl | (refine objAt_alloc_at _ _ _ ?_; (simp; done)) | refine keep_alloc _ ?_ | refine keep_drewN _ ?_ | refine keep_more _ ?_ | exact keep_row _ (by assumption) | refine keep_setRow _ _ ?_ (by first | omega | (simp; omega) | simp)))
  replace fr : objAt ((w.alloc (.cells (ints .u64 10 (pairF (x) (z))) 76)).alloc (.cells (ints .u64 5 (nought)) 37)) (w.heap.size + 1) = some (.cells (ints .u64 5 (nought)) 37) := by (repeat (first | assumption | exact objAt_alloc_at _ _ _ rfl | (refine objAt_alloc_at _ _ _ ?_; (simp; done)) | refine keep_alloc _ ?_ | refine keep_drewN _ ?_ | refine keep_more _ ?_ | exact keep_row _ (by assumption) | refine keep_setRow _ _ ?_ (by first | omega | (simp; omega) | simp)))
  replace hG : Below w.heap.size w ((w.alloc (.cells (ints .u64 10 (pairF (x) (z))) 76)).alloc (.cells (ints .u64 5 (nought)) 37)) := by (repeat (first | assumption | exact Grew.refl _ | refine Grew.more ?_ _ | refine Grew.alloc ?_ _ | refine Grew.drewN ?_ _ | refine Grew.setRow ?_ _ _ (by omega) | refine Grew.setRow ?_ _ _ (by simp; omega) | refine Grew.setRow ?_ _ _ (by simp)))
  generalize (w.alloc (.cells (ints .u64 10 (pairF (x) (z))) 76)).alloc (.cells (ints .u64 5 (nought)) 37) = w1 at *
  have lfp := lt_of_objAt fp
  have lfr := lt_of_objAt fr
  ((first | (with_reducible refine wp_region_tail_on 6 (by kernel_rfl) (by kernel_rfl) (by kernel_rfl) (by kernel_rfl) (by kernel_rfl) ?_) | refine wp_region_tail_more 6 (by kernel_rfl) (by kernel_rfl) (by kernel_rfl) (by kernel_rfl) (by kernel_rfl) ?_); simp only [List.take_succ_cons, List.take_zero]; (repeat (first | go_big_quiet_skip | (go_big_quiet_want; go_big_quiet_op; first | go_big_quiet_on | (apply Exists.intro; refine ⟨fun _ => ?_, ?_⟩; (focus (first | (with_reducible exact Calls.of_more (c1 _)) | (with_reducible exact Calls.of_more (c2 _)))); go_big_quiet_on)))); refine wpQuiet_nil ?_; rintro _ ⟨mq, rfl⟩)
  (refine tail_one (i := 6) (fuel := 0) (by kernel_rfl) rfl ?_; intro K hK; go_simp; refine hK _ _ ?_; clear hK K)
  (refine wpAny_done (by kernel_rfl) ?_ _)
  go_wp2
  refine ret_row rfl _ 37 _ (0, 0) _ rfl (keep_more _ (keep_row _ fr)) Try.underlying37 rfl (by rw [ints_size]; kernel_rfl) rfl ⟨rfl, by (repeat (first | assumption | exact Grew.refl _ | refine Grew.more ?_ _ | refine Grew.alloc ?_ _ | refine Grew.drewN ?_ _ | refine Grew.setRow ?_ _ _ (by omega) | refine Grew.setRow ?_ _ _ (by simp; omega) | refine Grew.setRow ?_ _ _ (by simp)))⟩
set_option maxRecDepth 100000 in
set_option maxHeartbeats 1000000 in
theorem swapP_any (bit : Int) (x z x' z' : Nat → Int) (w : World) (hx : W64 5 (x)) (hz : W64 5 (z)) (hx' : W64 5 (x')) (hz' : W64 5 (z')) :
    Calls Try.prog 101 #[.int .i64 bit, .agg (ints .u64 10 (pairF (x) (z))), .agg (ints .u64 10 (pairF (x') (z')))] w fun e w' => e = .returned (.tuple #[.agg (ints .u64 10 (pairF (oneOf bit x x') (oneOf bit z z'))), .agg (ints .u64 10 (pairF (oneOf bit x' x) (oneOf bit z' z)))]) ∧ Below w.heap.size w w' := by
  have hG := Grew.refl w
  have fa : True := trivial
  have fb : True := trivial
  have fr : True := trivial
  have fq : True := trivial
  go_enter Try.func101, Try.ntmps101
  have c1 := fun w => swapE_any bit x x' w hx hx'
  have c2 := fun w => swapE_any bit z z' w hz hz'
  go_wp2_with fail
  replace fa : objAt ((((w.alloc (.cells (ints .u64 10 (pairF (x) (z))) 76)).alloc (.cells (ints .u64 10 (pairF (x') (z'))) 76)).alloc (.cells (ints .u64 10 (pairF (nought) (nought))) 76)).alloc (.cells (ints .u64 10 (pairF (nought) (nought))) 76)) (w.heap.size) = some (.cells (ints .u64 10 (pairF (x) (z))) 76) := by (repeat (first | assumption | exact objAt_alloc_at _ _ _ rfl | (refine objAt_alloc_at _ _ _ ?_; (simp; done)) | refine keep_alloc _ ?_ | refine keep_drewN _ ?_ | refine keep_more _ ?_ | exact keep_row _ (by assumption) | refine keep_setRow _ _ ?_ (by first | omega | (simp; omega) | simp)))
  replace fb : objAt ((((w.alloc (.cells (ints .u64 10 (pairF (x) (z))) 76)).alloc (.cells (ints .u64 10 (pairF (x') (z'))) 76)).alloc (.cells (ints .u64 10 (pairF (nought) (nought))) 76)).alloc (.cells (ints .u64 10 (pairF (nought) (nought))) 76)) (w.heap.size + 1) = some (.cells (ints .u64 10 (pairF (x') (z'))) 76) := by (repeat (first | assumption | exact objAt_alloc_at _ _ _ rfl | (refine objAt_alloc_at _ _ _ ?_; (simp; done)) | refine keep_alloc _ ?_ | refine keep_drewN _ ?_ | refine keep_more _ ?_ | exact keep_row _ (by assumption) | refine keep_setRow _ _ ?_ (by first | omega | (simp; omega) | simp)))
  replace fr : objAt ((((w.alloc (.cells (ints .u64 10 (pairF (x) (z))) 76)).alloc (.cells (ints .u64 10 (pairF (x') (z'))) 76)).alloc (.cells (ints .u64 10 (pairF (nought) (nought))) 76)).alloc (.cells (ints .u64 10 (pairF (nought) (nought))) 76)) (w.heap.size + 1 + 1) = some (.cells (ints .u64 10 (pairF (nought) (nought))) 76) := by (repeat (first | assumption | exact objAt_alloc_at _ _ _ rfl | (refine objAt_alloc_at _ _ _ ?_; (simp; done)) | refine keep_alloc _ ?_ | refine keep_drewN _ ?_ | refine keep_more _ ?_ | exact keep_row _ (by assumption) | refine keep_setRow _ _ ?_ (by first | omega | (simp; omega) | simp)))
  replace fq : objAt ((((w.alloc (.cells (ints .u64 10 (pairF (x) (z))) 76)).alloc (.cells (ints .u64 10 (pairF (x') (z'))) 76)).alloc (.cells (ints .u64 10 (pairF (nought) (nought))) 76)).alloc (.cells (ints .u64 10 (pairF (nought) (nought))) 76)) (w.heap.size + 1 + 1 + 1) = some (.cells (ints .u64 10 (pairF (nought) (nought))) 76) := by (repeat (first | assumption | exact objAt_alloc_at _ _ _ rfl | (refine objAt_alloc_at _ _ _ ?_; (simp; done)) | refine keep_alloc _ ?_ | refine keep_drewN _ ?_ | refine keep_more _ ?_ | exact keep_row _ (by assumption) | refine keep_setRow _ _ ?_ (by first | omega | (simp; omega) | simp)))
  replace hG : Below w.heap.size w ((((w.alloc (.cells (ints .u64 10 (pairF (x) (z))) 76)).alloc (.cells (ints .u64 10 (pairF (x') (z'))) 76)).alloc (.cells (ints .u64 10 (pairF (nought) (nought))) 76)).alloc (.cells (ints .u64 10 (pairF (nought) (nought))) 76)) := by (repeat (first | assumption | exact Grew.refl _ | refine Grew.more ?_ _ | refine Grew.alloc ?_ _ | refine Grew.drewN ?_ _ | refine Grew.setRow ?_ _ _ (by omega) | refine Grew.setRow ?_ _ _ (by simp; omega) | refine Grew.setRow ?_ _ _ (by simp)))
  generalize (((w.alloc (.cells (ints .u64 10 (pairF (x) (z))) 76)).alloc (.cells (ints .u64 10 (pairF (x') (z'))) 76)).alloc (.cells (ints .u64 10 (pairF (nought) (nought))) 76)).alloc (.cells (ints .u64 10 (pairF (nought) (nought))) 76) = w1 at *
  have lfa := lt_of_objAt fa
  have lfb := lt_of_objAt fb
  have lfr := lt_of_objAt fr
  have lfq := lt_of_objAt fq
  go_wp2_with fail
  (refine (c1 _).mono ?_; rintro e w2 ⟨rfl, hb⟩; replace fa : objAt w2 (w.heap.size) = some (.cells (ints .u64 10 (pairF (x) (z))) 76) := keep_below hb (by (repeat (first | assumption | exact objAt_alloc_at _ _ _ rfl | (refine objAt_alloc_at _ _ _ ?_; (simp; done)) | refine keep_alloc _ ?_ | refine keep_drewN _ ?_ | refine keep_more _ ?_ | exact keep_row _ (by assumption) | refine keep_setRow _ _ ?_ (by first | omega | (simp; omega) | simp)))); have lfa := lt_of_objAt fa; replace fb : objAt w2 (w.heap.size + 1) = some (.cells (ints .u64 10 (pairF (x') (z'))) 76) := keep_below hb (by (repeat (first | assumption | exact objAt_alloc_at _ _ _ rfl | (refine objAt_alloc_at _ _ _ ?_; (simp; done)) | refine keep_alloc _ ?_ | refine keep_drewN _ ?_ | refine keep_more _ ?_ | exact keep_row _ (by assumption) | refine keep_setRow _ _ ?_ (by first | omega | (simp; omega) | simp)))); have lfb := lt_of_objAt fb; replace fr : objAt w2 (w.heap.size + 1 + 1) = some (.cells (ints .u64 10 (pairF (nought) (nought))) 76) := keep_below hb (by (repeat (first | assumption | exact objAt_alloc_at _ _ _ rfl | (refine objAt_alloc_at _ _ _ ?_; (simp; done)) | refine keep_alloc _ ?_ | refine keep_drewN _ ?_ | refine keep_more _ ?_ | exact keep_row _ (by assumption) | refine keep_setRow _ _ ?_ (by first | omega | (simp; omega) | simp)))); have lfr := lt_of_objAt fr; replace fq : objAt w2 (w.heap.size + 1 + 1 + 1) = some (.cells (ints .u64 10 (pairF (nought) (nought))) 76) := keep_below hb (by (repeat (first | assumption | exact objAt_alloc_at _ _ _ rfl | (refine objAt_alloc_at _ _ _ ?_; (simp; done)) | refine keep_alloc _ ?_ | refine keep_drewN _ ?_ | refine keep_more _ ?_ | exact keep_row _ (by assumption) | refine keep_setRow _ _ ?_ (by first | omega | (simp; omega) | simp)))); have lfq := lt_of_objAt fq; replace hG : Below w.heap.size w w2 := Grew.trans (by (repeat (first | assumption | exact Grew.refl _ | refine Grew.more ?_ _ | refine Grew.alloc ?_ _ | refine Grew.drewN ?_ _ | refine Grew.setRow ?_ _ _ (by omega) | refine Grew.setRow ?_ _ _ (by simp; omega) | refine Grew.setRow ?_ _ _ (by simp)))) hb; clear hb)
  go_wp2_with fail
  have ea : objAt ((w2.setRow (w.heap.size) ((ints .u64 10 (pairF (oneOf bit x x') (z))))).setRow (w.heap.size + 1) ((ints .u64 10 (pairF (oneOf bit x' x) (z'))))) (w.heap.size) = some (.cells (ints .u64 10 (pairF (oneOf bit x x') (z))) 76) := keep_setRow _ _ (keep_row _ (fa)) (by first | assumption | omega | simp)
  have eb : objAt ((w2.setRow (w.heap.size) ((ints .u64 10 (pairF (oneOf bit x x') (z))))).setRow (w.heap.size + 1) ((ints .u64 10 (pairF (oneOf bit x' x) (z'))))) (w.heap.size + 1) = some (.cells (ints .u64 10 (pairF (oneOf bit x' x) (z'))) 76) := keep_row _ (keep_setRow _ _ (fb) (by first | assumption | omega | simp))
  have er : objAt ((w2.setRow (w.heap.size) ((ints .u64 10 (pairF (oneOf bit x x') (z))))).setRow (w.heap.size + 1) ((ints .u64 10 (pairF (oneOf bit x' x) (z'))))) (w.heap.size + 1 + 1) = some (.cells (ints .u64 10 (pairF (nought) (nought))) 76) := keep_setRow _ _ (keep_setRow _ _ (fr) (by first | assumption | omega | simp)) (by first | assumption | omega | simp)
  have eq : objAt ((w2.setRow (w.heap.size) ((ints .u64 10 (pairF (oneOf bit x x') (z))))).setRow (w.heap.size + 1) ((ints .u64 10 (pairF (oneOf bit x' x) (z'))))) (w.heap.size + 1 + 1 + 1) = some (.cells (ints .u64 10 (pairF (nought) (nought))) 76) := keep_setRow _ _ (keep_setRow _ _ (fq) (by first | assumption | omega | simp)) (by first | assumption | omega | simp)
  clear fa lfa fb lfb fr lfr fq lfq
  replace hG : Below w.heap.size w ((w2.setRow (w.heap.size) ((ints .u64 10 (pairF (oneOf bit x x') (z))))).setRow (w.heap.size + 1) ((ints .u64 10 (pairF (oneOf bit x' x) (z'))))) := by (repeat (first | assumption | exact Grew.refl _ | refine Grew.more ?_ _ | refine Grew.alloc ?_ _ | refine Grew.drewN ?_ _ | refine Grew.setRow ?_ _ _ (by omega) | refine Grew.setRow ?_ _ _ (by simp; omega) | refine Grew.setRow ?_ _ _ (by simp)))
  generalize (w2.setRow (w.heap.size) ((ints .u64 10 (pairF (oneOf bit x x') (z))))).setRow (w.heap.size + 1) ((ints .u64 10 (pairF (oneOf bit x' x) (z')))) = w3 at *
  have fa := ea
  have fb := eb
  have fr := er
  have fq := eq
  clear ea eb er eq
  have lfa := lt_of_objAt fa
  have lfb := lt_of_objAt fb
  have lfr := lt_of_objAt fr
  have lfq := lt_of_objAt fq
  go_wp2_with fail
  (refine (c2 _).mono ?_; rintro e w4 ⟨rfl, hb⟩; replace fa : objAt w4 (w.heap.size) = some (.cells (ints .u64 10 (pairF (oneOf bit x x') (z))) 76) := keep_below hb (by (repeat (first | assumption | exact objAt_alloc_at _ _ _ rfl | (refine objAt_alloc_at _ _ _ ?_; (simp; done)) | refine keep_alloc _ ?_ | refine keep_drewN _ ?_ | refine keep_more _ ?_ | exact keep_row _ (by assumption) | refine keep_setRow _ _ ?_ (by first | omega | (simp; omega) | simp)))); have lfa := lt_of_objAt fa; replace fb : objAt w4 (w.heap.size + 1) = some (.cells (ints .u64 10 (pairF (oneOf bit x' x) (z'))) 76) := keep_below hb (by (repeat (first | assumption | exact objAt_alloc_at _ _ _ rfl | (refine objAt_alloc_at _ _ _ ?_; (simp; done)) | refine keep_alloc _ ?_ | refine keep_drewN _ ?_ | refine keep_more _ ?_ | exact keep_row _ (by assumption) | refine keep_setRow _ _ ?_ (by first | omega | (simp; omega) | simp)))); have lfb := lt_of_objAt fb; replace fr : objAt w4 (w.heap.size + 1 + 1) = some (.cells (ints .u64 10 (pairF (nought) (nought))) 76) := keep_below hb (by (repeat (first | assumption | exact objAt_alloc_at _ _ _ rfl | (refine objAt_alloc_at _ _ _ ?_; (simp; done)) | refine keep_alloc _ ?_ | refine keep_drewN _ ?_ | refine keep_more _ ?_ | exact keep_row _ (by assumption) | refine keep_setRow _ _ ?_ (by first | omega | (simp; omega) | simp)))); have lfr := lt_of_objAt fr; replace fq : objAt w4 (w.heap.size + 1 + 1 + 1) = some (.cells (ints .u64 10 (pairF (nought) (nought))) 76) := keep_below hb (by (repeat (first | assumption | exact objAt_alloc_at _ _ _ rfl | (refine objAt_alloc_at _ _ _ ?_; (simp; done)) | refine keep_alloc _ ?_ | refine keep_drewN _ ?_ | refine keep_more _ ?_ | exact keep_row _ (by assumption) | refine keep_setRow _ _ ?_ (by first | omega | (simp; omega) | simp)))); have lfq := lt_of_objAt fq; replace hG : Below w.heap.size w w4 := Grew.trans (by (repeat (first | assumption | exact Grew.refl _ | refine Grew.more ?_ _ | refine Grew.alloc ?_ _ | refine Grew.drewN ?_ _ | refine Grew.setRow ?_ _ _ (by omega) | refine Grew.setRow ?_ _ _ (by simp; omega) | refine Grew.setRow ?_ _ _ (by simp)))) hb; clear hb)
  go_wp2_with fail
  have ea : objAt ((w4.setRow (w.heap.size) ((ints .u64 10 (pairF (oneOf bit x x') (oneOf bit z z'))))).setRow (w.heap.size + 1) ((ints .u64 10 (pairF (oneOf bit x' x) (oneOf bit z' z))))) (w.heap.size) = some (.cells (ints .u64 10 (pairF (oneOf bit x x') (oneOf bit z z'))) 76) := keep_setRow _ _ (keep_row _ (fa)) (by first | assumption | omega | simp)
  have eb : objAt ((w4.setRow (w.heap.size) ((ints .u64 10 (pairF (oneOf bit x x') (oneOf bit z z'))))).setRow (w.heap.size + 1) ((ints .u64 10 (pairF (oneOf bit x' x) (oneOf bit z' z))))) (w.heap.size + 1) = some (.cells (ints .u64 10 (pairF (oneOf bit x' x) (oneOf bit z' z))) 76) := keep_row _ (keep_setRow _ _ (fb) (by first | assumption | omega | simp))
  have er : objAt ((w4.setRow (w.heap.size) ((ints .u64 10 (pairF (oneOf bit x x') (oneOf bit z z'))))).setRow (w.heap.size + 1) ((ints .u64 10 (pairF (oneOf bit x' x) (oneOf bit z' z))))) (w.heap.size + 1 + 1) = some (.cells (ints .u64 10 (pairF (nought) (nought))) 76) := keep_setRow _ _ (keep_setRow _ _ (fr) (by first | assumption | omega | simp)) (by first | assumption | omega | simp)
  have eq : objAt ((w4.setRow (w.heap.size) ((ints .u64 10 (pairF (oneOf bit x x') (oneOf bit z z'))))).setRow (w.heap.size + 1) ((ints .u64 10 (pairF (oneOf bit x' x) (oneOf bit z' z))))) (w.heap.size + 1 + 1 + 1) = some (.cells (ints .u64 10 (pairF (nought) (nought))) 76) := keep_setRow _ _ (keep_setRow _ _ (fq) (by first | assumption | omega | simp)) (by first | assumption | omega | simp)
  clear fa lfa fb lfb fr lfr fq lfq
  replace hG : Below w.heap.size w ((w4.setRow (w.heap.size) ((ints .u64 10 (pairF (oneOf bit x x') (oneOf bit z z'))))).setRow (w.heap.size + 1) ((ints .u64 10 (pairF (oneOf bit x' x) (oneOf bit z' z))))) := by (repeat (first | assumption | exact Grew.refl _ | refine Grew.more ?_ _ | refine Grew.alloc ?_ _ | refine Grew.drewN ?_ _ | refine Grew.setRow ?_ _ _ (by omega) | refine Grew.setRow ?_ _ _ (by simp; omega) | refine Grew.setRow ?_ _ _ (by simp)))
  generalize (w4.setRow (w.heap.size) ((ints .u64 10 (pairF (oneOf bit x x') (oneOf bit z z'))))).setRow (w.heap.size + 1) ((ints .u64 10 (pairF (oneOf bit x' x) (oneOf bit z' z)))) = w5 at *
  have fa := ea
  have fb := eb
  have fr := er
  have fq := eq
  clear ea eb er eq
  have lfa := lt_of_objAt fa
  have lfb := lt_of_objAt fb
  have lfr := lt_of_objAt fr
  have lfq := lt_of_objAt fq
  go_region
  all_goals
   go_wp2
   refine ret_row2 rfl _ _ 76 76 _ _ (0, 0) (0, 0) _ _ rfl rfl (by simp [go_sem, fr, fq]) (by simp [go_sem, fr, fq]) Try.underlying76 rfl (by rw [ints_size]; kernel_rfl) Try.underlying76 rfl (by rw [ints_size]; kernel_rfl) rfl ⟨rfl, by (repeat (first | assumption | exact Grew.refl _ | refine Grew.more ?_ _ | refine Grew.alloc ?_ _ | refine Grew.drewN ?_ _ | refine Grew.setRow ?_ _ _ (by omega) | refine Grew.setRow ?_ _ _ (by simp; omega) | refine Grew.setRow ?_ _ _ (by simp)))⟩
end Go.Proofs.Ytfapmpnkemogkaa
