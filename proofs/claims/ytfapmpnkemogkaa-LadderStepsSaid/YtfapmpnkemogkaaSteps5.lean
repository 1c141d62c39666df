/- LadderSteps. -/
import Derived.Test.YtfapmpnkemogkaaTimes5
namespace Go.Proofs.Ytfapmpnkemogkaa
open Go.RowKit
set_option linter.unusedVariables false
set_option linter.unusedSimpArgs false
open Edw (red tv)

/-! the numbers of a step -/
theorem nv_sum (a b : Nat → Int) : nv (sumE a b) = aN (nv a) (nv b) := nv_plus a b
theorem nv_dif (a b : Nat → Int) : nv (difE a b) = sN (nv a) (nv b) := nv_minus a b
theorem nv_pro (a b : Nat → Int) : nv (mulF a b) = mN (nv a) (nv b) := nv_mul a b
theorem nv_tim (a : Nat → Int) (n : Int) : nv (timesF a n) = mN n (nv a) := by rw [nv_times]; unfold mN; rw [Int.mul_comm]
theorem nv_twE (x z : Nat → Int) : nv (twE x z) = twEN (nv x) (nv z) := by simp only [twE, twEN, nv_dif, nv_sum, nv_pro]
theorem nv_twX (x z : Nat → Int) : nv (twX x z) = twXN (nv x) (nv z) := by simp only [twX, twXN, nv_dif, nv_sum, nv_pro]
theorem nv_twZ (x z : Nat → Int) : nv (twZ x z) = twZN (nv x) (nv z) := by simp only [twZ, twZN, nv_sum, nv_pro, nv_tim, nv_twE]
theorem nv_boX (x z x' z' : Nat → Int) : nv (boX x z x' z') = boXN (nv x) (nv z) (nv x') (nv z') := by simp only [boX, boXN, daE, daN, cbE, cbN, nv_dif, nv_sum, nv_pro]
theorem nv_boZ (u x z x' z' : Nat → Int) : nv (boZ u x z x' z') = boZN (nv u) (nv x) (nv z) (nv x') (nv z') := by simp only [boZ, boZN, daE, daN, cbE, cbN, nv_dif, nv_sum, nv_pro]
theorem nv_aff (x z : Nat → Int) : nv (mulF x (invF z)) = mN (nv x) (iN (nv z)) := by rw [nv_pro, nv_inv]; rfl
set_option maxRecDepth 100000 in
set_option maxHeartbeats 4000000 in
theorem steps5_any (u x z x' z' : Nat → Int) (w : World) (hu : W64 5 u) (hx : W64 5 x) (hz : W64 5 z) (hx' : W64 5 x') (hz' : W64 5 z') :
    Calls Try.prog 19 #[.agg (ints .u64 5 (u)), .agg (ints .u64 10 (pairF (x) (z))), .agg (ints .u64 10 (pairF (x') (z')))] w fun e w' => e = .returned (.bool true) ∧ Below w.heap.size w w' := by
  have hlU : underB 18014398509481984 u = true → Under 18014398509481984 u := fun h i hi => ⟨(hu i hi).1, (underB_iff _ _).1 h i hi⟩
  generalize hUU : underB 18014398509481984 u = U0
  have hlA : underB 18014398509481984 x = true → Under 18014398509481984 x := fun h i hi => ⟨(hx i hi).1, (underB_iff _ _).1 h i hi⟩
  generalize hUA : underB 18014398509481984 x = A0
  have hlB : underB 18014398509481984 z = true → Under 18014398509481984 z := fun h i hi => ⟨(hz i hi).1, (underB_iff _ _).1 h i hi⟩
  generalize hUB : underB 18014398509481984 z = B0
  have hlD : underB 18014398509481984 x' = true → Under 18014398509481984 x' := fun h i hi => ⟨(hx' i hi).1, (underB_iff _ _).1 h i hi⟩
  generalize hUD : underB 18014398509481984 x' = D0
  have hlE : underB 18014398509481984 z' = true → Under 18014398509481984 z' := fun h i hi => ⟨(hz' i hi).1, (underB_iff _ _).1 h i hi⟩
  generalize hUE : underB 18014398509481984 z' = E0
  have hG := Grew.refl w
  have fu : True := trivial
  have fa : True := trivial
  have fb : True := trivial
  go_enter Try.func19, Try.ntmps19
  go_wp2_with fail
  replace fu : objAt (((w.alloc (.cells (ints .u64 5 (u)) 37)).alloc (.cells (ints .u64 10 (pairF (x) (z))) 76)).alloc (.cells (ints .u64 10 (pairF (x') (z'))) 76)) (w.heap.size) = some (.cells (ints .u64 5 (u)) 37) := by (repeat (first | assumption | exact objAt_alloc_at _ _ _ rfl | (refine objAt_alloc_at _ _ _ ?_; (simp; done)) | refine keep_alloc _ ?_ | refine keep_drewN _ ?_ | refine keep_more _ ?_ | exact keep_row _ (by assumption) | refine keep_setRow _ _ ?_ (by first | omega | (simp; omega) | simp)))
  replace fa : objAt (((w.alloc (.cells (ints .u64 5 (u)) 37)).alloc (.cells (ints .u64 10 (pairF (x) (z))) 76)).alloc (.cells (ints .u64 10 (pairF (x') (z'))) 76)) (w.heap.size + 1) = some (.cells (ints .u64 10 (pairF (x) (z))) 76) := by (repeat (first | assumption | exact objAt_alloc_at _ _ _ rfl | (refine objAt_alloc_at _ _ _ ?_; (simp; done)) | refine keep_alloc _ ?_ | refine keep_drewN _ ?_ | refine keep_more _ ?_ | exact keep_row _ (by assumption) | refine keep_setRow _ _ ?_ (by first | omega | (simp; omega) | simp)))
  replace fb : objAt (((w.alloc (.cells (ints .u64 5 (u)) 37)).alloc (.cells (ints .u64 10 (pairF (x) (z))) 76)).alloc (.cells (ints .u64 10 (pairF (x') (z'))) 76)) (w.heap.size + 1 + 1) = some (.cells (ints .u64 10 (pairF (x') (z'))) 76) := by (repeat (first | assumption | exact objAt_alloc_at _ _ _ rfl | (refine objAt_alloc_at _ _ _ ?_; (simp; done)) | refine keep_alloc _ ?_ | refine keep_drewN _ ?_ | refine keep_more _ ?_ | exact keep_row _ (by assumption) | refine keep_setRow _ _ ?_ (by first | omega | (simp; omega) | simp)))
  replace hG : Below w.heap.size w (((w.alloc (.cells (ints .u64 5 (u)) 37)).alloc (.cells (ints .u64 10 (pairF (x) (z))) 76)).alloc (.cells (ints .u64 10 (pairF (x') (z'))) 76)) := by (repeat (first | assumption | exact Grew.refl _ | refine Grew.more ?_ _ | refine Grew.alloc ?_ _ | refine Grew.drewN ?_ _ | refine Grew.setRow ?_ _ _ (by omega) | refine Grew.setRow ?_ _ _ (by simp; omega) | refine Grew.setRow ?_ _ _ (by simp)))
  generalize ((w.alloc (.cells (ints .u64 5 (u)) 37)).alloc (.cells (ints .u64 10 (pairF (x) (z))) 76)).alloc (.cells (ints .u64 10 (pairF (x') (z'))) 76) = w1 at *
  have lfu := lt_of_objAt fu
  have lfa := lt_of_objAt fa
  have lfb := lt_of_objAt fb
  go_wp2_with fail
  (refine (awake5_any _).mono ?_; rintro e w2 ⟨rfl, hb⟩; replace fu : objAt w2 (w.heap.size) = some (.cells (ints .u64 5 (u)) 37) := keep_below hb (by (repeat (first | assumption | exact objAt_alloc_at _ _ _ rfl | (refine objAt_alloc_at _ _ _ ?_; (simp; done)) | refine keep_alloc _ ?_ | refine keep_drewN _ ?_ | refine keep_more _ ?_ | exact keep_row _ (by assumption) | refine keep_setRow _ _ ?_ (by first | omega | (simp; omega) | simp)))); have lfu := lt_of_objAt fu; replace fa : objAt w2 (w.heap.size + 1) = some (.cells (ints .u64 10 (pairF (x) (z))) 76) := keep_below hb (by (repeat (first | assumption | exact objAt_alloc_at _ _ _ rfl | (refine objAt_alloc_at _ _ _ ?_; (simp; done)) | refine keep_alloc _ ?_ | refine keep_drewN _ ?_ | refine keep_more _ ?_ | exact keep_row _ (by assumption) | refine keep_setRow _ _ ?_ (by first | omega | (simp; omega) | simp)))); have lfa := lt_of_objAt fa; replace fb : objAt w2 (w.heap.size + 1 + 1) = some (.cells (ints .u64 10 (pairF (x') (z'))) 76) := keep_below hb (by (repeat (first | assumption | exact objAt_alloc_at _ _ _ rfl | (refine objAt_alloc_at _ _ _ ?_; (simp; done)) | refine keep_alloc _ ?_ | refine keep_drewN _ ?_ | refine keep_more _ ?_ | exact keep_row _ (by assumption) | refine keep_setRow _ _ ?_ (by first | omega | (simp; omega) | simp)))); have lfb := lt_of_objAt fb; replace hG : Below w.heap.size w w2 := Grew.trans (by (repeat (first | assumption | exact Grew.refl _ | refine Grew.more ?_ _ | refine Grew.alloc ?_ _ | refine Grew.drewN ?_ _ | refine Grew.setRow ?_ _ _ (by omega) | refine Grew.setRow ?_ _ _ (by simp; omega) | refine Grew.setRow ?_ _ _ (by simp)))) hb; clear hb)
  have qU := fun w => loose_is u w hUU
  have qA := fun w => loose_is x w hUA
  have qB := fun w => loose_is z w hUB
  have qD := fun w => loose_is x' w hUD
  have qE := fun w => loose_is z' w hUE
  go_wp2_with fail
  (refine (qU _).mono ?_; rintro e w3 ⟨rfl, hb⟩; replace fu : objAt w3 (w.heap.size) = some (.cells (ints .u64 5 (u)) 37) := keep_below hb (by (repeat (first | assumption | exact objAt_alloc_at _ _ _ rfl | (refine objAt_alloc_at _ _ _ ?_; (simp; done)) | refine keep_alloc _ ?_ | refine keep_drewN _ ?_ | refine keep_more _ ?_ | exact keep_row _ (by assumption) | refine keep_setRow _ _ ?_ (by first | omega | (simp; omega) | simp)))); have lfu := lt_of_objAt fu; replace fa : objAt w3 (w.heap.size + 1) = some (.cells (ints .u64 10 (pairF (x) (z))) 76) := keep_below hb (by (repeat (first | assumption | exact objAt_alloc_at _ _ _ rfl | (refine objAt_alloc_at _ _ _ ?_; (simp; done)) | refine keep_alloc _ ?_ | refine keep_drewN _ ?_ | refine keep_more _ ?_ | exact keep_row _ (by assumption) | refine keep_setRow _ _ ?_ (by first | omega | (simp; omega) | simp)))); have lfa := lt_of_objAt fa; replace fb : objAt w3 (w.heap.size + 1 + 1) = some (.cells (ints .u64 10 (pairF (x') (z'))) 76) := keep_below hb (by (repeat (first | assumption | exact objAt_alloc_at _ _ _ rfl | (refine objAt_alloc_at _ _ _ ?_; (simp; done)) | refine keep_alloc _ ?_ | refine keep_drewN _ ?_ | refine keep_more _ ?_ | exact keep_row _ (by assumption) | refine keep_setRow _ _ ?_ (by first | omega | (simp; omega) | simp)))); have lfb := lt_of_objAt fb; replace hG : Below w.heap.size w w3 := Grew.trans (by (repeat (first | assumption | exact Grew.refl _ | refine Grew.more ?_ _ | refine Grew.alloc ?_ _ | refine Grew.drewN ?_ _ | refine Grew.setRow ?_ _ _ (by omega) | refine Grew.setRow ?_ _ _ (by simp; omega) | refine Grew.setRow ?_ _ _ (by simp)))) hb; clear hb)
  cases U0
  · go_wp2
    go_ret
    exact ⟨rfl, by (repeat (first | assumption | exact Grew.refl _ | refine Grew.more ?_ _ | refine Grew.alloc ?_ _ | refine Grew.drewN ?_ _ | refine Grew.setRow ?_ _ _ (by omega) | refine Grew.setRow ?_ _ _ (by simp; omega) | refine Grew.setRow ?_ _ _ (by simp)))⟩
  · skip
    go_wp2_with fail
    (refine (qA _).mono ?_; rintro e w4 ⟨rfl, hb⟩; replace fu : objAt w4 (w.heap.size) = some (.cells (ints .u64 5 (u)) 37) := keep_below hb (by (repeat (first | assumption | exact objAt_alloc_at _ _ _ rfl | (refine objAt_alloc_at _ _ _ ?_; (simp; done)) | refine keep_alloc _ ?_ | refine keep_drewN _ ?_ | refine keep_more _ ?_ | exact keep_row _ (by assumption) | refine keep_setRow _ _ ?_ (by first | omega | (simp; omega) | simp)))); have lfu := lt_of_objAt fu; replace fa : objAt w4 (w.heap.size + 1) = some (.cells (ints .u64 10 (pairF (x) (z))) 76) := keep_below hb (by (repeat (first | assumption | exact objAt_alloc_at _ _ _ rfl | (refine objAt_alloc_at _ _ _ ?_; (simp; done)) | refine keep_alloc _ ?_ | refine keep_drewN _ ?_ | refine keep_more _ ?_ | exact keep_row _ (by assumption) | refine keep_setRow _ _ ?_ (by first | omega | (simp; omega) | simp)))); have lfa := lt_of_objAt fa; replace fb : objAt w4 (w.heap.size + 1 + 1) = some (.cells (ints .u64 10 (pairF (x') (z'))) 76) := keep_below hb (by (repeat (first | assumption | exact objAt_alloc_at _ _ _ rfl | (refine objAt_alloc_at _ _ _ ?_; (simp; done)) | refine keep_alloc _ ?_ | refine keep_drewN _ ?_ | refine keep_more _ ?_ | exact keep_row _ (by assumption) | refine keep_setRow _ _ ?_ (by first | omega | (simp; omega) | simp)))); have lfb := lt_of_objAt fb; replace hG : Below w.heap.size w w4 := Grew.trans (by (repeat (first | assumption | exact Grew.refl _ | refine Grew.more ?_ _ | refine Grew.alloc ?_ _ | refine Grew.drewN ?_ _ | refine Grew.setRow ?_ _ _ (by omega) | refine Grew.setRow ?_ _ _ (by simp; omega) | refine Grew.setRow ?_ _ _ (by simp)))) hb; clear hb)
    cases A0
    · go_wp2
      go_ret
      exact ⟨rfl, by (repeat (first | assumption | exact Grew.refl _ | refine Grew.more ?_ _ | refine Grew.alloc ?_ _ | refine Grew.drewN ?_ _ | refine Grew.setRow ?_ _ _ (by omega) | refine Grew.setRow ?_ _ _ (by simp; omega) | refine Grew.setRow ?_ _ _ (by simp)))⟩
    · skip
      go_wp2_with fail
      (refine (qB _).mono ?_; rintro e w5 ⟨rfl, hb⟩; replace fu : objAt w5 (w.heap.size) = some (.cells (ints .u64 5 (u)) 37) := keep_below hb (by (repeat (first | assumption | exact objAt_alloc_at _ _ _ rfl | (refine objAt_alloc_at _ _ _ ?_; (simp; done)) | refine keep_alloc _ ?_ | refine keep_drewN _ ?_ | refine keep_more _ ?_ | exact keep_row _ (by assumption) | refine keep_setRow _ _ ?_ (by first | omega | (simp; omega) | simp)))); have lfu := lt_of_objAt fu; replace fa : objAt w5 (w.heap.size + 1) = some (.cells (ints .u64 10 (pairF (x) (z))) 76) := keep_below hb (by (repeat (first | assumption | exact objAt_alloc_at _ _ _ rfl | (refine objAt_alloc_at _ _ _ ?_; (simp; done)) | refine keep_alloc _ ?_ | refine keep_drewN _ ?_ | refine keep_more _ ?_ | exact keep_row _ (by assumption) | refine keep_setRow _ _ ?_ (by first | omega | (simp; omega) | simp)))); have lfa := lt_of_objAt fa; replace fb : objAt w5 (w.heap.size + 1 + 1) = some (.cells (ints .u64 10 (pairF (x') (z'))) 76) := keep_below hb (by (repeat (first | assumption | exact objAt_alloc_at _ _ _ rfl | (refine objAt_alloc_at _ _ _ ?_; (simp; done)) | refine keep_alloc _ ?_ | refine keep_drewN _ ?_ | refine keep_more _ ?_ | exact keep_row _ (by assumption) | refine keep_setRow _ _ ?_ (by first | omega | (simp; omega) | simp)))); have lfb := lt_of_objAt fb; replace hG : Below w.heap.size w w5 := Grew.trans (by (repeat (first | assumption | exact Grew.refl _ | refine Grew.more ?_ _ | refine Grew.alloc ?_ _ | refine Grew.drewN ?_ _ | refine Grew.setRow ?_ _ _ (by omega) | refine Grew.setRow ?_ _ _ (by simp; omega) | refine Grew.setRow ?_ _ _ (by simp)))) hb; clear hb)
      cases B0
      · go_wp2
        go_ret
        exact ⟨rfl, by (repeat (first | assumption | exact Grew.refl _ | refine Grew.more ?_ _ | refine Grew.alloc ?_ _ | refine Grew.drewN ?_ _ | refine Grew.setRow ?_ _ _ (by omega) | refine Grew.setRow ?_ _ _ (by simp; omega) | refine Grew.setRow ?_ _ _ (by simp)))⟩
      · skip
        go_wp2_with fail
        (refine (qD _).mono ?_; rintro e w6 ⟨rfl, hb⟩; replace fu : objAt w6 (w.heap.size) = some (.cells (ints .u64 5 (u)) 37) := keep_below hb (by (repeat (first | assumption | exact objAt_alloc_at _ _ _ rfl | (refine objAt_alloc_at _ _ _ ?_; (simp; done)) | refine keep_alloc _ ?_ | refine keep_drewN _ ?_ | refine keep_more _ ?_ | exact keep_row _ (by assumption) | refine keep_setRow _ _ ?_ (by first | omega | (simp; omega) | simp)))); have lfu := lt_of_objAt fu; replace fa : objAt w6 (w.heap.size + 1) = some (.cells (ints .u64 10 (pairF (x) (z))) 76) := keep_below hb (by (repeat (first | assumption | exact objAt_alloc_at _ _ _ rfl | (refine objAt_alloc_at _ _ _ ?_; (simp; done)) | refine keep_alloc _ ?_ | refine keep_drewN _ ?_ | refine keep_more _ ?_ | exact keep_row _ (by assumption) | refine keep_setRow _ _ ?_ (by first | omega | (simp; omega) | simp)))); have lfa := lt_of_objAt fa; replace fb : objAt w6 (w.heap.size + 1 + 1) = some (.cells (ints .u64 10 (pairF (x') (z'))) 76) := keep_below hb (by (repeat (first | assumption | exact objAt_alloc_at _ _ _ rfl | (refine objAt_alloc_at _ _ _ ?_; (simp; done)) | refine keep_alloc _ ?_ | refine keep_drewN _ ?_ | refine keep_more _ ?_ | exact keep_row _ (by assumption) | refine keep_setRow _ _ ?_ (by first | omega | (simp; omega) | simp)))); have lfb := lt_of_objAt fb; replace hG : Below w.heap.size w w6 := Grew.trans (by (repeat (first | assumption | exact Grew.refl _ | refine Grew.more ?_ _ | refine Grew.alloc ?_ _ | refine Grew.drewN ?_ _ | refine Grew.setRow ?_ _ _ (by omega) | refine Grew.setRow ?_ _ _ (by simp; omega) | refine Grew.setRow ?_ _ _ (by simp)))) hb; clear hb)
        cases D0
        · go_wp2
          go_ret
          exact ⟨rfl, by (repeat (first | assumption | exact Grew.refl _ | refine Grew.more ?_ _ | refine Grew.alloc ?_ _ | refine Grew.drewN ?_ _ | refine Grew.setRow ?_ _ _ (by omega) | refine Grew.setRow ?_ _ _ (by simp; omega) | refine Grew.setRow ?_ _ _ (by simp)))⟩
        · skip
          go_wp2_with fail
          (refine (qE _).mono ?_; rintro e w7 ⟨rfl, hb⟩; replace fu : objAt w7 (w.heap.size) = some (.cells (ints .u64 5 (u)) 37) := keep_below hb (by (repeat (first | assumption | exact objAt_alloc_at _ _ _ rfl | (refine objAt_alloc_at _ _ _ ?_; (simp; done)) | refine keep_alloc _ ?_ | refine keep_drewN _ ?_ | refine keep_more _ ?_ | exact keep_row _ (by assumption) | refine keep_setRow _ _ ?_ (by first | omega | (simp; omega) | simp)))); have lfu := lt_of_objAt fu; replace fa : objAt w7 (w.heap.size + 1) = some (.cells (ints .u64 10 (pairF (x) (z))) 76) := keep_below hb (by (repeat (first | assumption | exact objAt_alloc_at _ _ _ rfl | (refine objAt_alloc_at _ _ _ ?_; (simp; done)) | refine keep_alloc _ ?_ | refine keep_drewN _ ?_ | refine keep_more _ ?_ | exact keep_row _ (by assumption) | refine keep_setRow _ _ ?_ (by first | omega | (simp; omega) | simp)))); have lfa := lt_of_objAt fa; replace fb : objAt w7 (w.heap.size + 1 + 1) = some (.cells (ints .u64 10 (pairF (x') (z'))) 76) := keep_below hb (by (repeat (first | assumption | exact objAt_alloc_at _ _ _ rfl | (refine objAt_alloc_at _ _ _ ?_; (simp; done)) | refine keep_alloc _ ?_ | refine keep_drewN _ ?_ | refine keep_more _ ?_ | exact keep_row _ (by assumption) | refine keep_setRow _ _ ?_ (by first | omega | (simp; omega) | simp)))); have lfb := lt_of_objAt fb; replace hG : Below w.heap.size w w7 := Grew.trans (by (repeat (first | assumption | exact Grew.refl _ | refine Grew.more ?_ _ | refine Grew.alloc ?_ _ | refine Grew.drewN ?_ _ | refine Grew.setRow ?_ _ _ (by omega) | refine Grew.setRow ?_ _ _ (by simp; omega) | refine Grew.setRow ?_ _ _ (by simp)))) hb; clear hb)
          cases E0
          · go_wp2
            go_ret
            exact ⟨rfl, by (repeat (first | assumption | exact Grew.refl _ | refine Grew.more ?_ _ | refine Grew.alloc ?_ _ | refine Grew.drewN ?_ _ | refine Grew.setRow ?_ _ _ (by omega) | refine Grew.setRow ?_ _ _ (by simp; omega) | refine Grew.setRow ?_ _ _ (by simp)))⟩
          · skip
            have lU := hlU hUU
            have lA := hlA hUA
            have lB := hlB hUB
            have lD := hlD hUD
            have lE := hlE hUE
            have nU := fun w => limbsE_any u w hu
            have nA := fun w => limbsE_any x w hx
            have nB := fun w => limbsE_any z w hz
            have nD := fun w => limbsE_any x' w hx'
            have nE := fun w => limbsE_any z' w hz'
            have tw := tight_tw lA lB
            have bo := tight_bo lU lA lB lD lE
            have st := fun w => step_any u x z x' z' w lU lA lB lD lE
            have rf := fun w => stepN_any (nv u) (nv x) (nv z) (nv x') (nv z') w (nv_BD u) (nv_BD x) (nv_BD z) (nv_BD x') (nv_BD z')
            have i1 := fun w => is_any (twX x z) _ w tw.1 (nv_twX x z)
            have i2 := fun w => is_any (twZ x z) _ w tw.2 (nv_twZ x z)
            have i3 := fun w => is_any (boX x z x' z') _ w bo.1 (nv_boX x z x' z')
            have i4 := fun w => is_any (boZ u x z x' z') _ w bo.2 (nv_boZ u x z x' z')
            have af := fun w => affine_any x z w lA lB
            have i5 := fun w => is_any (mulF x (invF z)) _ w (tight_mul _ _ lA (loose_inv z lB)) (nv_aff x z)
            have rv := fun w => iN_any (nv z) w (nv_BD z)
            have rm := fun w => mN_any (nv x) (iN (nv z)) w (nv_BD x) (iN_bd _)
            generalize twX x z = R1 at *
            generalize twZ x z = R2 at *
            generalize boX x z x' z' = R3 at *
            generalize boZ u x z x' z' = R4 at *
            generalize mulF x (invF z) = R5 at *
            generalize twXN (nv x) (nv z) = N1 at *
            generalize twZN (nv x) (nv z) = N2 at *
            generalize boXN (nv x) (nv z) (nv x') (nv z') = N3 at *
            generalize boZN (nv u) (nv x) (nv z) (nv x') (nv z') = N4 at *
            generalize mN (nv x) (iN (nv z)) = N5 at *
            generalize iN (nv z) = N6 at *
            generalize nv u = M1 at *
            generalize nv x = M2 at *
            generalize nv z = M3 at *
            generalize nv x' = M4 at *
            generalize nv z' = M5 at *
            clear tw bo
            go_wp2_with fail
            (refine (st _).mono ?_; rintro e w8 ⟨rfl, hb⟩; replace fu : objAt w8 (w.heap.size) = some (.cells (ints .u64 5 (u)) 37) := keep_below hb (by (repeat (first | assumption | exact objAt_alloc_at _ _ _ rfl | (refine objAt_alloc_at _ _ _ ?_; (simp; done)) | refine keep_alloc _ ?_ | refine keep_drewN _ ?_ | refine keep_more _ ?_ | exact keep_row _ (by assumption) | refine keep_setRow _ _ ?_ (by first | omega | (simp; omega) | simp)))); have lfu := lt_of_objAt fu; replace fa : objAt w8 (w.heap.size + 1) = some (.cells (ints .u64 10 (pairF (x) (z))) 76) := keep_below hb (by (repeat (first | assumption | exact objAt_alloc_at _ _ _ rfl | (refine objAt_alloc_at _ _ _ ?_; (simp; done)) | refine keep_alloc _ ?_ | refine keep_drewN _ ?_ | refine keep_more _ ?_ | exact keep_row _ (by assumption) | refine keep_setRow _ _ ?_ (by first | omega | (simp; omega) | simp)))); have lfa := lt_of_objAt fa; replace fb : objAt w8 (w.heap.size + 1 + 1) = some (.cells (ints .u64 10 (pairF (x') (z'))) 76) := keep_below hb (by (repeat (first | assumption | exact objAt_alloc_at _ _ _ rfl | (refine objAt_alloc_at _ _ _ ?_; (simp; done)) | refine keep_alloc _ ?_ | refine keep_drewN _ ?_ | refine keep_more _ ?_ | exact keep_row _ (by assumption) | refine keep_setRow _ _ ?_ (by first | omega | (simp; omega) | simp)))); have lfb := lt_of_objAt fb; replace hG : Below w.heap.size w w8 := Grew.trans (by (repeat (first | assumption | exact Grew.refl _ | refine Grew.more ?_ _ | refine Grew.alloc ?_ _ | refine Grew.drewN ?_ _ | refine Grew.setRow ?_ _ _ (by omega) | refine Grew.setRow ?_ _ _ (by simp; omega) | refine Grew.setRow ?_ _ _ (by simp)))) hb; clear hb)
            go_wp2_with fail
            have eu : objAt ((w8.alloc (.cells (ints .u64 10 (pairF (R1) (R2))) 76)).alloc (.cells (ints .u64 10 (pairF (R3) (R4))) 76)) (w.heap.size) = some (.cells (ints .u64 5 (u)) 37) := keep_alloc _ (keep_alloc _ (fu))
            have ea : objAt ((w8.alloc (.cells (ints .u64 10 (pairF (R1) (R2))) 76)).alloc (.cells (ints .u64 10 (pairF (R3) (R4))) 76)) (w.heap.size + 1) = some (.cells (ints .u64 10 (pairF (x) (z))) 76) := keep_alloc _ (keep_alloc _ (fa))
            have eb : objAt ((w8.alloc (.cells (ints .u64 10 (pairF (R1) (R2))) 76)).alloc (.cells (ints .u64 10 (pairF (R3) (R4))) 76)) (w.heap.size + 1 + 1) = some (.cells (ints .u64 10 (pairF (x') (z'))) 76) := keep_alloc _ (keep_alloc _ (fb))
            have ep : objAt ((w8.alloc (.cells (ints .u64 10 (pairF (R1) (R2))) 76)).alloc (.cells (ints .u64 10 (pairF (R3) (R4))) 76)) (w8.heap.size) = some (.cells (ints .u64 10 (pairF (R1) (R2))) 76) := keep_alloc _ (objAt_alloc_at _ _ _ rfl)
            have eq : objAt ((w8.alloc (.cells (ints .u64 10 (pairF (R1) (R2))) 76)).alloc (.cells (ints .u64 10 (pairF (R3) (R4))) 76)) (w8.heap.size + 1) = some (.cells (ints .u64 10 (pairF (R3) (R4))) 76) := objAt_alloc_at _ _ _ (by simp)
            replace hG : Below w.heap.size w ((w8.alloc (.cells (ints .u64 10 (pairF (R1) (R2))) 76)).alloc (.cells (ints .u64 10 (pairF (R3) (R4))) 76)) := Grew.alloc (Grew.alloc (hG) _) _
            clear fu lfu fa lfa fb lfb
            generalize (w8.alloc (.cells (ints .u64 10 (pairF (R1) (R2))) 76)).alloc (.cells (ints .u64 10 (pairF (R3) (R4))) 76) = w9 at *
            generalize w8.heap.size + 1 = gq at *
            generalize w8.heap.size = gp at *
            have fu := eu
            have fa := ea
            have fb := eb
            have fq := eq
            have fp := ep
            clear eu ea eb eq ep
            have lfu := lt_of_objAt fu
            have lfa := lt_of_objAt fa
            have lfb := lt_of_objAt fb
            have lfq := lt_of_objAt fq
            have lfp := lt_of_objAt fp
            go_wp2_with fail
            (refine wp_rel (by kernel_rfl) (by kernel_rfl) ?_; (repeat (first | refine exv_skip rfl ?_ | (refine exv_call rfl ?_; apply Exists.intro))); refine exv_nil ?_; intro γ hinj hbase; (repeat (first | (refine rel_quiet rfl ?_; ((first | go_big_quiet_skip | (go_big_quiet_want; go_big_quiet_op; go_big_quiet_on)); refine wpQuiet_nil ?_)) | (first | (refine rel_skip_some rfl (fun _ => rfl) ?_; ((first | go_big_quiet_skip | (go_big_quiet_want; go_big_quiet_op; go_big_quiet_on)); refine wpQuiet_nil ?_)) | refine rel_skip_none rfl (fun _ => rfl) ?_) | ((try simp only [Nat.zero_add, Nat.reduceAdd]); apply rel_box alloc_cls; (focus rfl); (focus (first | exact cells_agg _ | exact cells_int _ _ | exact cells_bool _ | rfl)); (focus ((repeat (refine fits_cons ⟨by (first | exact stab_full _ _ _ | exact stab_hdr _ _ _ | exact stab_hdr_at _ _ _ _ | exact stab_full_at _ _ _ _ (hinj _ _ (by decide))), by (first | exact stab_full _ _ _ | exact stab_hdr _ _ _ | exact stab_hdr_at _ _ _ _ | exact stab_full_at _ _ _ _ (hinj _ _ (by decide)))⟩ ?_)); exact fits_nil (by (first | exact stab_full _ _ _ | exact stab_hdr _ _ _ | exact stab_hdr_at _ _ _ _ | exact stab_full_at _ _ _ _ (hinj _ _ (by decide)))))); ((first | go_big_quiet_skip | (go_big_quiet_want; go_big_quiet_op; go_big_quiet_on)); refine wpQuiet_nil ?_)) | ((try simp only [Nat.zero_add, Nat.reduceAdd]); apply rel_alloc _ _ alloc_cls; (focus rfl); (focus (intro W; (first | exact zero_key _ | exact zero_elem _ | exact zero_num _ | exact zero_pair _))); (focus exact cells_ints _ _ _); (focus ((repeat (refine fits_cons ⟨by (first | exact stab_full _ _ _ | exact stab_hdr _ _ _ | exact stab_hdr_at _ _ _ _ | exact stab_full_at _ _ _ _ (hinj _ _ (by decide))), by (first | exact stab_full _ _ _ | exact stab_hdr _ _ _ | exact stab_hdr_at _ _ _ _ | exact stab_full_at _ _ _ _ (hinj _ _ (by decide)))⟩ ?_)); exact fits_nil (by (first | exact stab_full _ _ _ | exact stab_hdr _ _ _ | exact stab_hdr_at _ _ _ _ | exact stab_full_at _ _ _ _ (hinj _ _ (by decide)))))); ((first | go_big_quiet_skip | (go_big_quiet_want; go_big_quiet_op; go_big_quiet_on)); refine wpQuiet_nil ?_)) | ((try simp only [Nat.zero_add, Nat.reduceAdd]); apply rel_slice alloc_cls; (focus rfl); (focus (intro W; simp only [List.map_toArray, List.map_cons, List.map_nil]; first | fail)); (focus ((repeat (refine fits_cons ⟨by (first | exact stab_full _ _ _ | exact stab_hdr _ _ _ | exact stab_hdr_at _ _ _ _ | exact stab_full_at _ _ _ _ (hinj _ _ (by decide))), by (first | exact stab_full _ _ _ | exact stab_hdr _ _ _ | exact stab_hdr_at _ _ _ _ | exact stab_full_at _ _ _ _ (hinj _ _ (by decide)))⟩ ?_)); exact fits_nil (by (first | exact stab_full _ _ _ | exact stab_hdr _ _ _ | exact stab_hdr_at _ _ _ _ | exact stab_full_at _ _ _ _ (hinj _ _ (by decide)))))); ((first | go_big_quiet_skip | (go_big_quiet_want; go_big_quiet_op; go_big_quiet_on)); refine wpQuiet_nil ?_)) | ((try simp only [Nat.zero_add, Nat.reduceAdd]); apply rel_store (setRow_cls (hbase _)); (focus rfl); (focus rfl); (focus rfl); (focus (first | exact cells_agg _ | exact cells_int _ _ | exact cells_bool _ | rfl)); rotate_left 3; (focus (first | exact List.mem_cons_self .. | exact List.mem_cons_of_mem _ (List.mem_cons_self ..) | exact List.mem_cons_of_mem _ (List.mem_cons_of_mem _ (List.mem_cons_self ..)) | exact List.mem_cons_of_mem _ (List.mem_cons_of_mem _ (List.mem_cons_of_mem _ (List.mem_cons_self ..))) | exact List.mem_cons_of_mem _ (List.mem_cons_of_mem _ (List.mem_cons_of_mem _ (List.mem_cons_of_mem _ (List.mem_cons_self ..)))))); rotate_right 3; (focus kernel_rfl); (focus exact ints_size _ _ _); (focus exact ints_ones _ _ _); (focus (decide +kernel)); (focus ((repeat (refine fits_cons ⟨by (first | exact stab_full _ _ _ | exact stab_hdr _ _ _ | exact stab_hdr_at _ _ _ _ | exact stab_full_at _ _ _ _ (hinj _ _ (by decide))), by (first | exact stab_full _ _ _ | exact stab_hdr _ _ _ | exact stab_hdr_at _ _ _ _ | exact stab_full_at _ _ _ _ (hinj _ _ (by decide)))⟩ ?_)); exact fits_nil (by (first | exact stab_full _ _ _ | exact stab_hdr _ _ _ | exact stab_hdr_at _ _ _ _ | exact stab_full_at _ _ _ _ (hinj _ _ (by decide))))))) | (apply rel_fact; (focus rfl); (focus rfl); (focus rfl); (focus (intro W hC hF; go_big_quiet_want; go_big_quiet_op; (first | go_big_quiet_on | (apply Exists.intro; refine ⟨fun _ => ?_, ?_⟩; (focus (first | (with_reducible exact Calls.of_more (nU _)) | (with_reducible exact Calls.of_more (nA _)) | (with_reducible exact Calls.of_more (nB _)) | (with_reducible exact Calls.of_more (nD _)) | (with_reducible exact Calls.of_more (nE _)) | (with_reducible exact Calls.of_more (rf _)))); go_big_quiet_on)); exact wpQuiet_nil rfl)); (focus (exact fun _ => rfl)); ((first | go_big_quiet_skip | (go_big_quiet_want; go_big_quiet_op; go_big_quiet_on)); refine wpQuiet_nil ?_)))))
            (refine rel_nil ?_; rintro _ ⟨mq, rfl⟩ hF; simp only [List.forall_mem_cons] at hF; obtain ⟨f4, f3, f2, f1, -⟩ := hF)
            have n12 : ¬ (γ 20 = γ 21) := hinj _ _ (by decide)
            have n13 : ¬ (γ 20 = γ 22) := hinj _ _ (by decide)
            have n14 : ¬ (γ 20 = γ 23) := hinj _ _ (by decide)
            have n21 : ¬ (γ 21 = γ 20) := hinj _ _ (by decide)
            have n23 : ¬ (γ 21 = γ 22) := hinj _ _ (by decide)
            have n24 : ¬ (γ 21 = γ 23) := hinj _ _ (by decide)
            have n31 : ¬ (γ 22 = γ 20) := hinj _ _ (by decide)
            have n32 : ¬ (γ 22 = γ 21) := hinj _ _ (by decide)
            have n34 : ¬ (γ 22 = γ 23) := hinj _ _ (by decide)
            have n41 : ¬ (γ 23 = γ 20) := hinj _ _ (by decide)
            have n42 : ¬ (γ 23 = γ 21) := hinj _ _ (by decide)
            have n43 : ¬ (γ 23 = γ 22) := hinj _ _ (by decide)
            replace fu : objAt (more w9 mq) (w.heap.size) = some (.cells (ints .u64 5 (u)) 37) := keep_more _ fu
            replace fa : objAt (more w9 mq) (w.heap.size + 1) = some (.cells (ints .u64 10 (pairF (x) (z))) 76) := keep_more _ fa
            replace fb : objAt (more w9 mq) (w.heap.size + 1 + 1) = some (.cells (ints .u64 10 (pairF (x') (z'))) 76) := keep_more _ fb
            replace fq : objAt (more w9 mq) (gq) = some (.cells (ints .u64 10 (pairF (R3) (R4))) 76) := keep_more _ fq
            replace fp : objAt (more w9 mq) (gp) = some (.cells (ints .u64 10 (pairF (R1) (R2))) 76) := keep_more _ fp
            replace hG : Below w.heap.size w (more w9 mq) := Grew.more hG _
            replace f1 : objAt (more w9 mq) (γ 20) = some (.cells (ints .i64 16 (numN (N1))) 41) := f1
            replace f2 : objAt (more w9 mq) (γ 21) = some (.cells (ints .i64 16 (numN (N2))) 41) := f2
            replace f3 : objAt (more w9 mq) (γ 22) = some (.cells (ints .i64 16 (numN (N3))) 41) := f3
            replace f4 : objAt (more w9 mq) (γ 23) = some (.cells (ints .i64 16 (numN (N4))) 41) := f4
            clear lfu lfa lfb lfq lfp
            clear hinj hbase
            generalize γ 20 = g1 at *
            generalize γ 21 = g2 at *
            generalize γ 22 = g3 at *
            generalize γ 23 = g4 at *
            generalize more w9 mq = w10 at *
            clear γ
            have lfu := lt_of_objAt fu
            have lfa := lt_of_objAt fa
            have lfb := lt_of_objAt fb
            have lfq := lt_of_objAt fq
            have lfp := lt_of_objAt fp
            have lf1 := lt_of_objAt f1
            have lf2 := lt_of_objAt f2
            have lf3 := lt_of_objAt f3
            have lf4 := lt_of_objAt f4
            go_wp2_with fail
            ((first | (with_reducible refine wp_region_on (by kernel_rfl) (by kernel_rfl) ?_) | refine wp_region_more (by kernel_rfl) (by kernel_rfl) ?_); (repeat (first | go_big_quiet_skip | (go_big_quiet_want; go_big_quiet_op; first | go_big_quiet_on | (apply Exists.intro; refine ⟨fun _ => ?_, ?_⟩; (focus (first | (with_reducible exact Calls.of_more (i1 _)) | (with_reducible exact Calls.of_more (i2 _)) | (with_reducible exact Calls.of_more (i3 _)) | (with_reducible exact Calls.of_more (i4 _)) | (with_reducible exact Calls.of_more (i5 _)) | (with_reducible exact Calls.of_more (af _)) | (with_reducible exact Calls.of_more (rv _)) | (with_reducible exact Calls.of_more (rm _)) | (with_reducible exact Calls.of_more (nA _)) | (with_reducible exact Calls.of_more (nB _)))); go_big_quiet_on)))); refine wpQuiet_nil ?_; rintro _ ⟨mq, rfl⟩)
            go_wp2
            go_ret
            exact ⟨rfl, by (repeat (first | assumption | exact Grew.refl _ | refine Grew.more ?_ _ | refine Grew.alloc ?_ _ | refine Grew.drewN ?_ _ | refine Grew.setRow ?_ _ _ (by omega) | refine Grew.setRow ?_ _ _ (by simp; omega) | refine Grew.setRow ?_ _ _ (by simp)))⟩
end Go.Proofs.Ytfapmpnkemogkaa
