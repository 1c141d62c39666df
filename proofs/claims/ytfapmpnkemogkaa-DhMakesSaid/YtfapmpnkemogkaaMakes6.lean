/- DhMakes. -/
import Derived.Test.YtfapmpnkemogkaaRefDh
namespace Go.Proofs.Ytfapmpnkemogkaa
open Go.RowKit
set_option linter.unusedVariables false
set_option linter.unusedSimpArgs false
open Edw (red tv)

set_option maxRecDepth 100000 in
set_option maxHeartbeats 2000000 in
theorem makes_walk (k p V J R B : Nat → Int) (Z : Bool) (w : World)
    (a1 : ∀ w : World, Calls Try.prog 73 #[.agg (ints .u8 32 (k)), .agg (ints .u8 32 (p))] w fun e w' => e = .returned (.tuple #[.agg (ints .u8 32 (V)), .bool (!Z)]) ∧ Below w.heap.size w w')
    (r1 : ∀ w : World, Calls Try.prog 74 #[.agg (ints .u8 32 (k)), .agg (ints .u8 32 (p))] w fun e w' => e = .returned (.tuple #[.agg (ints .u8 32 (V)), .bool (!Z)]) ∧ Below w.heap.size w w')
    (c1 : ∀ w : World, Calls Try.prog 75 #[.agg (ints .u8 32 (k))] w fun e w' => e = .returned (.agg (ints .u8 32 (J))) ∧ Below w.heap.size w w')
    (rc : ∀ w : World, Calls Try.prog 76 #[.agg (ints .u8 32 (k))] w fun e w' => e = .returned (.agg (ints .u8 32 (J))) ∧ Below w.heap.size w w')
    (dr : ∀ w : World, Calls Try.prog 77 #[.agg (ints .u8 32 (k)), .agg (ints .u8 32 (p))] w fun e w' => e = .returned (.agg (ints .u8 32 (R))) ∧ Below w.heap.size w w')
    (rr : ∀ w : World, Calls Try.prog 78 #[.agg (ints .u8 32 (k)), .agg (ints .u8 32 (p))] w fun e w' => e = .returned (.agg (ints .u8 32 (R))) ∧ Below w.heap.size w w')
    (b1 : ∀ w : World, Calls Try.prog 79 #[.agg (ints .u8 32 (k))] w fun e w' => e = .returned (.agg (ints .u8 32 (B))) ∧ Below w.heap.size w w')
    (rb : ∀ w : World, Calls Try.prog 80 #[.agg (ints .u8 32 (k))] w fun e w' => e = .returned (.agg (ints .u8 32 (B))) ∧ Below w.heap.size w w')
    (e1 : same 32 J J = true)
    (e2 : same 32 R R = true)
    (e3 : same 32 B B = true)
    (e4 : same 32 V V = true)
    (eV : same 32 V nought = Z) :
    Calls Try.prog 22 #[.agg (ints .u8 32 (k)), .agg (ints .u8 32 (p))] w fun e w' => e = .returned (.bool true) ∧ Below w.heap.size w w' := by
  have hG := Grew.refl w
  have fk : True := trivial
  have fp : True := trivial
  go_enter Try.func22, Try.ntmps22
  go_wp2_with fail
  replace fk : objAt ((w.alloc (.cells (ints .u8 32 (k)) 23)).alloc (.cells (ints .u8 32 (p)) 23)) (w.heap.size) = some (.cells (ints .u8 32 (k)) 23) := by (repeat (first | assumption | exact objAt_alloc_at _ _ _ rfl | (refine objAt_alloc_at _ _ _ ?_; (simp; done)) | refine keep_alloc _ ?_ | refine keep_drewN _ ?_ | refine keep_more _ ?_ | exact keep_row _ (by assumption) | refine keep_setRow _ _ ?_ (by first | omega | (simp; omega) | simp)))
  replace fp : objAt ((w.alloc (.cells (ints .u8 32 (k)) 23)).alloc (.cells (ints .u8 32 (p)) 23)) (w.heap.size + 1) = some (.cells (ints .u8 32 (p)) 23) := by (repeat (first | assumption | exact objAt_alloc_at _ _ _ rfl | (refine objAt_alloc_at _ _ _ ?_; (simp; done)) | refine keep_alloc _ ?_ | refine keep_drewN _ ?_ | refine keep_more _ ?_ | exact keep_row _ (by assumption) | refine keep_setRow _ _ ?_ (by first | omega | (simp; omega) | simp)))
  replace hG : Below w.heap.size w ((w.alloc (.cells (ints .u8 32 (k)) 23)).alloc (.cells (ints .u8 32 (p)) 23)) := by (repeat (first | assumption | exact Grew.refl _ | refine Grew.more ?_ _ | refine Grew.alloc ?_ _ | refine Grew.drewN ?_ _ | refine Grew.setRow ?_ _ _ (by omega) | refine Grew.setRow ?_ _ _ (by simp; omega) | refine Grew.setRow ?_ _ _ (by simp)))
  generalize (w.alloc (.cells (ints .u8 32 (k)) 23)).alloc (.cells (ints .u8 32 (p)) 23) = w1 at *
  have lfk := lt_of_objAt fk
  have lfp := lt_of_objAt fp
  go_wp2_with fail
  (refine (awake6_any _).mono ?_; rintro e w2 ⟨rfl, hb⟩; replace fk : objAt w2 (w.heap.size) = some (.cells (ints .u8 32 (k)) 23) := keep_below hb (by (repeat (first | assumption | exact objAt_alloc_at _ _ _ rfl | (refine objAt_alloc_at _ _ _ ?_; (simp; done)) | refine keep_alloc _ ?_ | refine keep_drewN _ ?_ | refine keep_more _ ?_ | exact keep_row _ (by assumption) | refine keep_setRow _ _ ?_ (by first | omega | (simp; omega) | simp)))); have lfk := lt_of_objAt fk; replace fp : objAt w2 (w.heap.size + 1) = some (.cells (ints .u8 32 (p)) 23) := keep_below hb (by (repeat (first | assumption | exact objAt_alloc_at _ _ _ rfl | (refine objAt_alloc_at _ _ _ ?_; (simp; done)) | refine keep_alloc _ ?_ | refine keep_drewN _ ?_ | refine keep_more _ ?_ | exact keep_row _ (by assumption) | refine keep_setRow _ _ ?_ (by first | omega | (simp; omega) | simp)))); have lfp := lt_of_objAt fp; replace hG : Below w.heap.size w w2 := Grew.trans (by (repeat (first | assumption | exact Grew.refl _ | refine Grew.more ?_ _ | refine Grew.alloc ?_ _ | refine Grew.drewN ?_ _ | refine Grew.setRow ?_ _ _ (by omega) | refine Grew.setRow ?_ _ _ (by simp; omega) | refine Grew.setRow ?_ _ _ (by simp)))) hb; clear hb)
  go_wp2_with fail
  (refine (a1 _).mono ?_; rintro e w3 ⟨rfl, hb⟩; replace fk : objAt w3 (w.heap.size) = some (.cells (ints .u8 32 (k)) 23) := keep_below hb (by (repeat (first | assumption | exact objAt_alloc_at _ _ _ rfl | (refine objAt_alloc_at _ _ _ ?_; (simp; done)) | refine keep_alloc _ ?_ | refine keep_drewN _ ?_ | refine keep_more _ ?_ | exact keep_row _ (by assumption) | refine keep_setRow _ _ ?_ (by first | omega | (simp; omega) | simp)))); have lfk := lt_of_objAt fk; replace fp : objAt w3 (w.heap.size + 1) = some (.cells (ints .u8 32 (p)) 23) := keep_below hb (by (repeat (first | assumption | exact objAt_alloc_at _ _ _ rfl | (refine objAt_alloc_at _ _ _ ?_; (simp; done)) | refine keep_alloc _ ?_ | refine keep_drewN _ ?_ | refine keep_more _ ?_ | exact keep_row _ (by assumption) | refine keep_setRow _ _ ?_ (by first | omega | (simp; omega) | simp)))); have lfp := lt_of_objAt fp; replace hG : Below w.heap.size w w3 := Grew.trans (by (repeat (first | assumption | exact Grew.refl _ | refine Grew.more ?_ _ | refine Grew.alloc ?_ _ | refine Grew.drewN ?_ _ | refine Grew.setRow ?_ _ _ (by omega) | refine Grew.setRow ?_ _ _ (by simp; omega) | refine Grew.setRow ?_ _ _ (by simp)))) hb; clear hb)
  go_wp2_with fail
  have fa : objAt (w3.alloc (.cells (ints .u8 32 (V)) 23)) w3.heap.size = some (.cells (ints .u8 32 (V)) 23) := objAt_alloc_at _ _ _ rfl
  replace fk : objAt (w3.alloc (.cells (ints .u8 32 (V)) 23)) (w.heap.size) = some (.cells (ints .u8 32 (k)) 23) := keep_alloc _ fk
  replace fp : objAt (w3.alloc (.cells (ints .u8 32 (V)) 23)) (w.heap.size + 1) = some (.cells (ints .u8 32 (p)) 23) := keep_alloc _ fp
  replace hG : Below w.heap.size w (w3.alloc (.cells (ints .u8 32 (V)) 23)) := Grew.alloc hG _
  clear lfk lfp
  generalize w3.alloc (.cells (ints .u8 32 (V)) 23) = w4 at *
  generalize w3.heap.size = ga at *
  have lfk := lt_of_objAt fk
  have lfp := lt_of_objAt fp
  have lfa := lt_of_objAt fa
  go_wp2_with fail
  (refine (r1 _).mono ?_; rintro e w5 ⟨rfl, hb⟩; replace fk : objAt w5 (w.heap.size) = some (.cells (ints .u8 32 (k)) 23) := keep_below hb (by (repeat (first | assumption | exact objAt_alloc_at _ _ _ rfl | (refine objAt_alloc_at _ _ _ ?_; (simp; done)) | refine keep_alloc _ ?_ | refine keep_drewN _ ?_ | refine keep_more _ ?_ | exact keep_row _ (by assumption) | refine keep_setRow _ _ ?_ (by first | omega | (simp; omega) | simp)))); have lfk := lt_of_objAt fk; replace fp : objAt w5 (w.heap.size + 1) = some (.cells (ints .u8 32 (p)) 23) := keep_below hb (by (repeat (first | assumption | exact objAt_alloc_at _ _ _ rfl | (refine objAt_alloc_at _ _ _ ?_; (simp; done)) | refine keep_alloc _ ?_ | refine keep_drewN _ ?_ | refine keep_more _ ?_ | exact keep_row _ (by assumption) | refine keep_setRow _ _ ?_ (by first | omega | (simp; omega) | simp)))); have lfp := lt_of_objAt fp; replace fa : objAt w5 (ga) = some (.cells (ints .u8 32 (V)) 23) := keep_below hb (by (repeat (first | assumption | exact objAt_alloc_at _ _ _ rfl | (refine objAt_alloc_at _ _ _ ?_; (simp; done)) | refine keep_alloc _ ?_ | refine keep_drewN _ ?_ | refine keep_more _ ?_ | exact keep_row _ (by assumption) | refine keep_setRow _ _ ?_ (by first | omega | (simp; omega) | simp)))); have lfa := lt_of_objAt fa; replace hG : Below w.heap.size w w5 := Grew.trans (by (repeat (first | assumption | exact Grew.refl _ | refine Grew.more ?_ _ | refine Grew.alloc ?_ _ | refine Grew.drewN ?_ _ | refine Grew.setRow ?_ _ _ (by omega) | refine Grew.setRow ?_ _ _ (by simp; omega) | refine Grew.setRow ?_ _ _ (by simp)))) hb; clear hb)
  go_wp2_with fail
  have fb : objAt (w5.alloc (.cells (ints .u8 32 (V)) 22)) w5.heap.size = some (.cells (ints .u8 32 (V)) 22) := objAt_alloc_at _ _ _ rfl
  replace fk : objAt (w5.alloc (.cells (ints .u8 32 (V)) 22)) (w.heap.size) = some (.cells (ints .u8 32 (k)) 23) := keep_alloc _ fk
  replace fp : objAt (w5.alloc (.cells (ints .u8 32 (V)) 22)) (w.heap.size + 1) = some (.cells (ints .u8 32 (p)) 23) := keep_alloc _ fp
  replace fa : objAt (w5.alloc (.cells (ints .u8 32 (V)) 22)) (ga) = some (.cells (ints .u8 32 (V)) 23) := keep_alloc _ fa
  replace hG : Below w.heap.size w (w5.alloc (.cells (ints .u8 32 (V)) 22)) := Grew.alloc hG _
  clear lfk lfp lfa
  generalize w5.alloc (.cells (ints .u8 32 (V)) 22) = w6 at *
  generalize w5.heap.size = gb at *
  have lfk := lt_of_objAt fk
  have lfp := lt_of_objAt fp
  have lfa := lt_of_objAt fa
  have lfb := lt_of_objAt fb
  cases Z
  all_goals
   try simp only [Bool.not_false, Bool.not_true]
   go_wp2_with fail
   ((first | (with_reducible refine wp_region_on (by kernel_rfl) (by kernel_rfl) ?_) | refine wp_region_more (by kernel_rfl) (by kernel_rfl) ?_); (repeat (first | go_big_quiet_skip | (go_big_quiet_want; go_big_quiet_op; first | go_big_quiet_on | (apply Exists.intro; refine ⟨fun _ => ?_, ?_⟩; (focus (first | (with_reducible exact Calls.of_more (c1 _)) | (with_reducible exact Calls.of_more (rc _)) | (with_reducible exact Calls.of_more (dr _)) | (with_reducible exact Calls.of_more (rr _)) | (with_reducible exact Calls.of_more (b1 _)) | (with_reducible exact Calls.of_more (rb _)))); go_big_quiet_on)))); refine wpQuiet_nil ?_; rintro _ ⟨mq, rfl⟩)
   go_wp2
   go_ret
   exact ⟨rfl, by (repeat (first | assumption | exact Grew.refl _ | refine Grew.more ?_ _ | refine Grew.alloc ?_ _ | refine Grew.drewN ?_ _ | refine Grew.setRow ?_ _ _ (by omega) | refine Grew.setRow ?_ _ _ (by simp; omega) | refine Grew.setRow ?_ _ _ (by simp)))⟩
theorem makes_any (k p : Nat → Int) (w : World) (hk : Bytes 32 k) (hp : Bytes 32 p) :
    Calls Try.prog 22 #[.agg (ints .u8 32 (k)), .agg (ints .u8 32 (p))] w fun e w' => e = .returned (.bool true) ∧ Below w.heap.size w w' :=
  makes_walk k p _ _ _ _ _ w (fun w => shared_any k p w hk hp rfl) (fun w => rshared_any k p w hk hp rfl) (fun w => clamp_any k w hk) (fun w => rclamp_any k w hk) (fun w => raw_any k p w hk hp) (fun w => rraw_any k p w hk hp) (fun w => base_pub k w hk) (fun w => rbase_any k w hk)
    (same_refl _ _) (same_refl _ _) (same_refl _ _) (same_refl _ _) (same_key0 _ (Edw.tv_bd _ _))
end Go.Proofs.Ytfapmpnkemogkaa
