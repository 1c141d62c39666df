/- L9: L9 -/
import Derived.Test.YtomoccbljclhlaaDoorR9
import Derived.Test.YtomoccbljclhlaaDoorShelf
namespace Go.Proofs.YtomoccbljclhlaaDoor
open Go.RowKit
set_option linter.unusedVariables false
set_option linter.unusedSimpArgs false
attribute [local irreducible] strOf shaF zerosB padB fullB hashT
attribute [local irreducible] macF
def ExpandC : Prop := ∀ (k : Nat → Int) (info : ByteArray) (n : Int) (W : World), Bytes 32 k → info.size ≤ 100000 → Tabs W → Calls Tryd.prog 7 #[.agg (ints .u8 32 k), .string info, .int .i64 n] W fun e w' => e = .returned (.tuple #[.string (if 0 ≤ n ∧ n ≤ 8160 then strOf n.toNat (strmF (strOf 32 k) info) else ByteArray.empty), .bool (decide (0 ≤ n ∧ n ≤ 8160))]) ∧ Below W.heap.size W w'
def ExtractC : Prop := ∀ (salt secret : ByteArray) (W : World), salt.size ≤ 100000 → secret.size ≤ 100000 → Tabs W → Calls Tryd.prog 9 #[.string salt, .string secret] W fun e w' => e = .returned (.agg (ints .u8 32 (macF salt secret))) ∧ Below W.heap.size W w'
def OneC : Prop := ∀ (k : Nat → Int) (info : ByteArray) (W : World), Bytes 32 k → info.size ≤ 100000 → Tabs W → Calls Tryd.prog 11 #[.agg (ints .u8 32 k), .string info] W fun e w' => e = .returned (.agg (ints .u8 32 (oneF (strOf 32 k) info))) ∧ Below W.heap.size W w'
theorem expand_some (hE : ExpandC) (k : Nat → Int) (info : ByteArray) (N : Nat) (W : World) (hk : Bytes 32 k) (hi : info.size ≤ 100000) (hN : N ≤ 8160) (hT : Tabs W) : Calls Tryd.prog 7 #[.agg (ints .u8 32 k), .string info, .int .i64 (N : Int)] W fun e w' => e = .returned (.tuple #[.string (strOf N (strmF (strOf 32 k) info)), .bool true]) ∧ Below W.heap.size W w' := by
  have h := hE k info N W hk hi hT
  have h0 : 0 ≤ (N : Int) ∧ (N : Int) ≤ 8160 := ⟨by omega, by omega⟩
  rw [if_pos h0, decide_eq_true h0, show ((N : Int)).toNat = N by omega] at h
  exact h
theorem prefix_strm (K info : ByteArray) (a b : Nat) (h : a ≤ b) : Lib.hasPrefix (strOf b (strmF K info)).data.toList (strOf a (strmF K info)).data.toList = true := by
  unfold Lib.hasPrefix
  rw [List.isPrefixOf_iff_prefix, List.prefix_iff_eq_take]
  have e := strOf_first b a (strmF K info) (strm_bytes K info) h
  have hs : (strOf a (strmF K info)).data.toList.length = a := by
    have : (strOf a (strmF K info)).data.toList.length = (strOf a (strmF K info)).size := rfl
    rw [this, strOf_size]
  rw [hs]
  have e2 := congrArg (fun s : ByteArray => s.data.toList) e
  simp only [ByteArray.data_extract, Array.toList_extract, List.extract_eq_take_drop, List.drop_zero, Nat.sub_zero] at e2
  exact e2.symm
set_option maxRecDepth 100000 in
set_option maxHeartbeats 4000000 in
theorem Awake8_any (w : World) (hT : Tabs w) :
    Calls Tryd.prog 16 #[] w fun e w' => e = .returned (.bool true) ∧ Below w.heap.size w w' := by
  have hG := Grew.refl w
  go_enter Tryd.func16, Tryd.ntmps16
  go_wp2_with fail
  (refine (awake8_any _ hT).mono ?_; rintro e w1 ⟨rfl, hb⟩; replace hG : Below w.heap.size w w1 := Grew.trans (by (repeat (first | assumption | exact Grew.refl _ | refine Grew.more ?_ _ | refine Grew.alloc ?_ _ | refine Grew.drewN ?_ _ | refine Grew.setRow ?_ _ _ (by omega) | refine Grew.setRow ?_ _ _ (by simp; omega) | refine Grew.setRow ?_ _ _ (by simp)))) hb; clear hb)
  go_wp2
  go_ret
  exact ⟨rfl, by (repeat (first | assumption | exact Grew.refl _ | refine Grew.more ?_ _ | refine Grew.alloc ?_ _ | refine Grew.drewN ?_ _ | refine Grew.setRow ?_ _ _ (by omega) | refine Grew.setRow ?_ _ _ (by simp; omega) | refine Grew.setRow ?_ _ _ (by simp)))⟩
set_option maxRecDepth 100000 in
set_option maxHeartbeats 4000000 in
theorem awake9_any (hE : ExpandC) (w : World) (hT : Tabs w) :
    Calls Tryd.prog 6 #[] w fun e w' => e = .returned (.bool true) ∧ Below w.heap.size w w' := by
  have hTT : Hid (Tabs w) := hT
  clear hT
  have c0 : ∀ W : World, Below w.heap.size w W → Calls Tryd.prog 7 #[.agg (ints .u8 32 nought), .string ByteArray.empty, .int .i64 0] W fun e w' => e = .returned (.tuple #[.string ByteArray.empty, .bool true]) ∧ Below W.heap.size W w' := fun W hW => by
    have := expand_some hE nought ByteArray.empty 0 W (fun _ _ => ⟨Int.le_refl 0, by show (0 : Int) ≤ 255; decide⟩) (by decide) (by decide) (hTT.out.later hW)
    rw [strOf_zero] at this
    exact this
  have c1 : ∀ W : World, Below w.heap.size w W → Calls Tryd.prog 7 #[.agg (ints .u8 32 nought), .string ByteArray.empty, .int .i64 1] W fun e w' => e = .returned (.tuple #[.string (strOf 1 (strmF (strOf 32 nought) ByteArray.empty)), .bool true]) ∧ Below W.heap.size W w' := fun W hW => expand_some hE nought ByteArray.empty 1 W (fun _ _ => ⟨Int.le_refl 0, by show (0 : Int) ≤ 255; decide⟩) (by decide) (by decide) (hTT.out.later hW)
  have hz : (strOf 1 (strmF (strOf 32 nought) ByteArray.empty)).size = 1 := strOf_size _ _
  generalize strOf 1 (strmF (strOf 32 nought) ByteArray.empty) = S1 at *
  clear hE
  have hG := Grew.refl w
  go_enter Tryd.func6, Tryd.ntmps6
  go_wp2_with fail
  (refine (c0 _ hG).mono ?_; rintro e w1 ⟨rfl, hb⟩; replace hG : Below w.heap.size w w1 := Grew.trans (by (repeat (first | assumption | exact Grew.refl _ | refine Grew.more ?_ _ | refine Grew.alloc ?_ _ | refine Grew.drewN ?_ _ | refine Grew.setRow ?_ _ _ (by omega) | refine Grew.setRow ?_ _ _ (by simp; omega) | refine Grew.setRow ?_ _ _ (by simp)))) hb; clear hb)
  go_wp2_with fail
  (refine (c1 _ hG).mono ?_; rintro e w2 ⟨rfl, hb⟩; replace hG : Below w.heap.size w w2 := Grew.trans (by (repeat (first | assumption | exact Grew.refl _ | refine Grew.more ?_ _ | refine Grew.alloc ?_ _ | refine Grew.drewN ?_ _ | refine Grew.setRow ?_ _ _ (by omega) | refine Grew.setRow ?_ _ _ (by simp; omega) | refine Grew.setRow ?_ _ _ (by simp)))) hb; clear hb)
  go_wp2_with fail
  (refine (Awake8_any _ (hTT.out.later hG)).mono ?_; rintro e w3 ⟨rfl, hb⟩; replace hG : Below w.heap.size w w3 := Grew.trans (by (repeat (first | assumption | exact Grew.refl _ | refine Grew.more ?_ _ | refine Grew.alloc ?_ _ | refine Grew.drewN ?_ _ | refine Grew.setRow ?_ _ _ (by omega) | refine Grew.setRow ?_ _ _ (by simp; omega) | refine Grew.setRow ?_ _ _ (by simp)))) hb; clear hb)
  go_wp2
  go_ret
  exact ⟨rfl, by (repeat (first | assumption | exact Grew.refl _ | refine Grew.more ?_ _ | refine Grew.alloc ?_ _ | refine Grew.drewN ?_ _ | refine Grew.setRow ?_ _ _ (by omega) | refine Grew.setRow ?_ _ _ (by simp; omega) | refine Grew.setRow ?_ _ _ (by simp)))⟩
set_option maxRecDepth 100000 in
set_option maxHeartbeats 4000000 in
theorem makes9_walk (salt secret info S : ByteArray) (bo : Bool) (k M O : Nat → Int) (n : Int) (w : World) (hT : Tabs w) (hs1 : salt.size ≤ 300) (ht1 : secret.size ≤ 300) (hi1 : info.size ≤ 300) (hn1 : ¬ (1000 < n ∧ n ≤ 8160))
    (cE : ∀ W : World, Tabs W → Calls Tryd.prog 7 #[.agg (ints .u8 32 k), .string info, .int .i64 n] W fun e w' => e = .returned (.tuple #[.string S, .bool bo]) ∧ Below W.heap.size W w')
    (cR : ∀ W : World, Calls Tryd.prog 8 #[.agg (ints .u8 32 k), .string info, .int .i64 n] W fun e w' => e = .returned (.tuple #[.string S, .bool bo]) ∧ Below W.heap.size W w')
    (cX : ∀ W : World, Tabs W → Calls Tryd.prog 9 #[.string salt, .string secret] W fun e w' => e = .returned (.agg (ints .u8 32 M)) ∧ Below W.heap.size W w')
    (cY : ∀ W : World, Calls Tryd.prog 10 #[.string salt, .string secret] W fun e w' => e = .returned (.agg (ints .u8 32 M)) ∧ Below W.heap.size W w')
    (cO : ∀ W : World, Tabs W → Calls Tryd.prog 11 #[.agg (ints .u8 32 k), .string info] W fun e w' => e = .returned (.agg (ints .u8 32 O)) ∧ Below W.heap.size W w')
    (cQ : ∀ W : World, Calls Tryd.prog 12 #[.agg (ints .u8 32 k), .string info] W fun e w' => e = .returned (.agg (ints .u8 32 O)) ∧ Below W.heap.size W w')
    (aw : ∀ W : World, Tabs W → Calls Tryd.prog 6 #[] W fun e w' => e = .returned (.bool true) ∧ Below W.heap.size W w') :
    Calls Tryd.prog 3 #[.string salt, .string secret, .agg (ints .u8 32 k), .string info, .int .i64 n] w fun e w' => e = .returned (.bool true) ∧ Below w.heap.size w w' := by
  have hTT : Hid (Tabs w) := hT
  clear hT
  have hm1 := same_refl 32 M
  have hm2 := same_refl 32 O
  by_cases hn2 : n ≤ 1000
  case neg =>
    have hn3 : 1000 < n := by omega
    have hn4 : 8160 < n := by omega
    have hG := Grew.refl w
    have fk : True := trivial
    go_enter Tryd.func3, Tryd.ntmps3
    go_wp2_with fail
    replace fk : objAt (w.alloc (.cells (ints .u8 32 (k)) 23)) (w.heap.size) = some (.cells (ints .u8 32 (k)) 23) := by (repeat (first | assumption | exact objAt_alloc_at _ _ _ rfl | (refine objAt_alloc_at _ _ _ ?_; (simp; done)) | refine keep_alloc _ ?_ | refine keep_drewN _ ?_ | refine keep_more _ ?_ | exact keep_row _ (by assumption) | apply keep_row | refine keep_setRow _ _ ?_ (by first | omega | (simp; omega) | simp)))
    replace hG : Below w.heap.size w (w.alloc (.cells (ints .u8 32 (k)) 23)) := by (repeat (first | assumption | exact Grew.refl _ | refine Grew.more ?_ _ | refine Grew.alloc ?_ _ | refine Grew.drewN ?_ _ | refine Grew.setRow ?_ _ _ (by omega) | refine Grew.setRow ?_ _ _ (by simp; omega) | refine Grew.setRow ?_ _ _ (by simp)))
    generalize w.alloc (.cells (ints .u8 32 (k)) 23) = w1 at *
    have lfk := lt_of_objAt fk
    go_wp2_with fail
    (refine (aw _ (hTT.out.later hG)).mono ?_; rintro e w2 ⟨rfl, hb⟩; replace fk : objAt w2 (w.heap.size) = some (.cells (ints .u8 32 (k)) 23) := keep_below hb (by (repeat (first | assumption | exact objAt_alloc_at _ _ _ rfl | (refine objAt_alloc_at _ _ _ ?_; (simp; done)) | refine keep_alloc _ ?_ | refine keep_drewN _ ?_ | refine keep_more _ ?_ | exact keep_row _ (by assumption) | apply keep_row | refine keep_setRow _ _ ?_ (by first | omega | (simp; omega) | simp)))); have lfk := lt_of_objAt fk; replace hG : Below w.heap.size w w2 := Grew.trans (by (repeat (first | assumption | exact Grew.refl _ | refine Grew.more ?_ _ | refine Grew.alloc ?_ _ | refine Grew.drewN ?_ _ | refine Grew.setRow ?_ _ _ (by omega) | refine Grew.setRow ?_ _ _ (by simp; omega) | refine Grew.setRow ?_ _ _ (by simp)))) hb; clear hb)
    go_wp2_with fail
    (refine (cE _ (hTT.out.later hG)).mono ?_; rintro e w3 ⟨rfl, hb⟩; replace fk : objAt w3 (w.heap.size) = some (.cells (ints .u8 32 (k)) 23) := keep_below hb (by (repeat (first | assumption | exact objAt_alloc_at _ _ _ rfl | (refine objAt_alloc_at _ _ _ ?_; (simp; done)) | refine keep_alloc _ ?_ | refine keep_drewN _ ?_ | refine keep_more _ ?_ | exact keep_row _ (by assumption) | apply keep_row | refine keep_setRow _ _ ?_ (by first | omega | (simp; omega) | simp)))); have lfk := lt_of_objAt fk; replace hG : Below w.heap.size w w3 := Grew.trans (by (repeat (first | assumption | exact Grew.refl _ | refine Grew.more ?_ _ | refine Grew.alloc ?_ _ | refine Grew.drewN ?_ _ | refine Grew.setRow ?_ _ _ (by omega) | refine Grew.setRow ?_ _ _ (by simp; omega) | refine Grew.setRow ?_ _ _ (by simp)))) hb; clear hb)
    go_wp2_with fail
    (refine (cR _).mono ?_; rintro e w4 ⟨rfl, hb⟩; replace fk : objAt w4 (w.heap.size) = some (.cells (ints .u8 32 (k)) 23) := keep_below hb (by (repeat (first | assumption | exact objAt_alloc_at _ _ _ rfl | (refine objAt_alloc_at _ _ _ ?_; (simp; done)) | refine keep_alloc _ ?_ | refine keep_drewN _ ?_ | refine keep_more _ ?_ | exact keep_row _ (by assumption) | apply keep_row | refine keep_setRow _ _ ?_ (by first | omega | (simp; omega) | simp)))); have lfk := lt_of_objAt fk; replace hG : Below w.heap.size w w4 := Grew.trans (by (repeat (first | assumption | exact Grew.refl _ | refine Grew.more ?_ _ | refine Grew.alloc ?_ _ | refine Grew.drewN ?_ _ | refine Grew.setRow ?_ _ _ (by omega) | refine Grew.setRow ?_ _ _ (by simp; omega) | refine Grew.setRow ?_ _ _ (by simp)))) hb; clear hb)
    have cX2 := fun m => cX (more w4 m) (hTT.out.later (Grew.more hG m))
    have cO2 := fun m => cO (more w4 m) (hTT.out.later (Grew.more hG m))
    go_wp2_with fail
    ((first | (with_reducible refine wp_region_on (by kernel_rfl) (by kernel_rfl) ?_) | refine wp_region_more (by kernel_rfl) (by kernel_rfl) ?_); (repeat (first | go_big_quiet_skip | (go_big_quiet_want; go_big_quiet_op; first | go_big_quiet_on | (apply Exists.intro; refine ⟨fun _ => ?_, ?_⟩; (focus (first | (with_reducible exact Calls.of_more (cX2 _)) | (with_reducible exact Calls.of_more (cY _)) | (with_reducible exact Calls.of_more (cO2 _)) | (with_reducible exact Calls.of_more (cQ _)))); go_big_quiet_on)))); refine wpQuiet_nil ?_; rintro _ ⟨mq, rfl⟩)
    go_wp2
    go_ret
    exact ⟨rfl, by (repeat (first | assumption | exact Grew.refl _ | refine Grew.more ?_ _ | refine Grew.alloc ?_ _ | refine Grew.drewN ?_ _ | refine Grew.setRow ?_ _ _ (by omega) | refine Grew.setRow ?_ _ _ (by simp; omega) | refine Grew.setRow ?_ _ _ (by simp)))⟩
  have hG := Grew.refl w
  have fk : True := trivial
  go_enter Tryd.func3, Tryd.ntmps3
  go_wp2_with fail
  replace fk : objAt (w.alloc (.cells (ints .u8 32 (k)) 23)) (w.heap.size) = some (.cells (ints .u8 32 (k)) 23) := by (repeat (first | assumption | exact objAt_alloc_at _ _ _ rfl | (refine objAt_alloc_at _ _ _ ?_; (simp; done)) | refine keep_alloc _ ?_ | refine keep_drewN _ ?_ | refine keep_more _ ?_ | exact keep_row _ (by assumption) | apply keep_row | refine keep_setRow _ _ ?_ (by first | omega | (simp; omega) | simp)))
  replace hG : Below w.heap.size w (w.alloc (.cells (ints .u8 32 (k)) 23)) := by (repeat (first | assumption | exact Grew.refl _ | refine Grew.more ?_ _ | refine Grew.alloc ?_ _ | refine Grew.drewN ?_ _ | refine Grew.setRow ?_ _ _ (by omega) | refine Grew.setRow ?_ _ _ (by simp; omega) | refine Grew.setRow ?_ _ _ (by simp)))
  generalize w.alloc (.cells (ints .u8 32 (k)) 23) = w1 at *
  have lfk := lt_of_objAt fk
  go_wp2_with fail
  (refine (aw _ (hTT.out.later hG)).mono ?_; rintro e w2 ⟨rfl, hb⟩; replace fk : objAt w2 (w.heap.size) = some (.cells (ints .u8 32 (k)) 23) := keep_below hb (by (repeat (first | assumption | exact objAt_alloc_at _ _ _ rfl | (refine objAt_alloc_at _ _ _ ?_; (simp; done)) | refine keep_alloc _ ?_ | refine keep_drewN _ ?_ | refine keep_more _ ?_ | exact keep_row _ (by assumption) | apply keep_row | refine keep_setRow _ _ ?_ (by first | omega | (simp; omega) | simp)))); have lfk := lt_of_objAt fk; replace hG : Below w.heap.size w w2 := Grew.trans (by (repeat (first | assumption | exact Grew.refl _ | refine Grew.more ?_ _ | refine Grew.alloc ?_ _ | refine Grew.drewN ?_ _ | refine Grew.setRow ?_ _ _ (by omega) | refine Grew.setRow ?_ _ _ (by simp; omega) | refine Grew.setRow ?_ _ _ (by simp)))) hb; clear hb)
  go_wp2_with fail
  (refine (cE _ (hTT.out.later hG)).mono ?_; rintro e w3 ⟨rfl, hb⟩; replace fk : objAt w3 (w.heap.size) = some (.cells (ints .u8 32 (k)) 23) := keep_below hb (by (repeat (first | assumption | exact objAt_alloc_at _ _ _ rfl | (refine objAt_alloc_at _ _ _ ?_; (simp; done)) | refine keep_alloc _ ?_ | refine keep_drewN _ ?_ | refine keep_more _ ?_ | exact keep_row _ (by assumption) | apply keep_row | refine keep_setRow _ _ ?_ (by first | omega | (simp; omega) | simp)))); have lfk := lt_of_objAt fk; replace hG : Below w.heap.size w w3 := Grew.trans (by (repeat (first | assumption | exact Grew.refl _ | refine Grew.more ?_ _ | refine Grew.alloc ?_ _ | refine Grew.drewN ?_ _ | refine Grew.setRow ?_ _ _ (by omega) | refine Grew.setRow ?_ _ _ (by simp; omega) | refine Grew.setRow ?_ _ _ (by simp)))) hb; clear hb)
  go_wp2_with fail
  (refine (cR _).mono ?_; rintro e w4 ⟨rfl, hb⟩; replace fk : objAt w4 (w.heap.size) = some (.cells (ints .u8 32 (k)) 23) := keep_below hb (by (repeat (first | assumption | exact objAt_alloc_at _ _ _ rfl | (refine objAt_alloc_at _ _ _ ?_; (simp; done)) | refine keep_alloc _ ?_ | refine keep_drewN _ ?_ | refine keep_more _ ?_ | exact keep_row _ (by assumption) | apply keep_row | refine keep_setRow _ _ ?_ (by first | omega | (simp; omega) | simp)))); have lfk := lt_of_objAt fk; replace hG : Below w.heap.size w w4 := Grew.trans (by (repeat (first | assumption | exact Grew.refl _ | refine Grew.more ?_ _ | refine Grew.alloc ?_ _ | refine Grew.drewN ?_ _ | refine Grew.setRow ?_ _ _ (by omega) | refine Grew.setRow ?_ _ _ (by simp; omega) | refine Grew.setRow ?_ _ _ (by simp)))) hb; clear hb)
  have cX2 := fun m => cX (more w4 m) (hTT.out.later (Grew.more hG m))
  have cO2 := fun m => cO (more w4 m) (hTT.out.later (Grew.more hG m))
  go_wp2_with fail
  ((first | (with_reducible refine wp_region_on (by kernel_rfl) (by kernel_rfl) ?_) | refine wp_region_more (by kernel_rfl) (by kernel_rfl) ?_); (repeat (first | go_big_quiet_skip | (go_big_quiet_want; go_big_quiet_op; first | go_big_quiet_on | (apply Exists.intro; refine ⟨fun _ => ?_, ?_⟩; (focus (first | (with_reducible exact Calls.of_more (cX2 _)) | (with_reducible exact Calls.of_more (cY _)) | (with_reducible exact Calls.of_more (cO2 _)) | (with_reducible exact Calls.of_more (cQ _)))); go_big_quiet_on)))); refine wpQuiet_nil ?_; rintro _ ⟨mq, rfl⟩)
  go_wp2
  go_ret
  exact ⟨rfl, by (repeat (first | assumption | exact Grew.refl _ | refine Grew.more ?_ _ | refine Grew.alloc ?_ _ | refine Grew.drewN ?_ _ | refine Grew.setRow ?_ _ _ (by omega) | refine Grew.setRow ?_ _ _ (by simp; omega) | refine Grew.setRow ?_ _ _ (by simp)))⟩
set_option maxRecDepth 100000 in
set_option maxHeartbeats 4000000 in
theorem makes9_any (hE : ExpandC) (hX : ExtractC) (hO : OneC) (salt secret info : ByteArray) (k : Nat → Int) (n : Int) (w : World) (hk : Bytes 32 k) (h1 : salt.size ≤ 9223372036854775807) (h2 : secret.size ≤ 9223372036854775807) (h3 : info.size ≤ 9223372036854775807) (hT : Tabs w) :
    Calls Tryd.prog 3 #[.string salt, .string secret, .agg (ints .u8 32 k), .string info, .int .i64 n] w fun e w' => e = .returned (.bool true) ∧ Below w.heap.size w w' := by
  have hTT : Hid (Tabs w) := hT
  have aw := fun (W : World) (h : Tabs W) => awake9_any hE W h
  by_cases hs1 : salt.size ≤ 300
  case neg =>
    have hs2 : 300 < salt.size := by omega
    have hG := Grew.refl w
    have fk : True := trivial
    go_enter Tryd.func3, Tryd.ntmps3
    go_wp2_with fail
    replace fk : objAt (w.alloc (.cells (ints .u8 32 (k)) 23)) (w.heap.size) = some (.cells (ints .u8 32 (k)) 23) := by (repeat (first | assumption | exact objAt_alloc_at _ _ _ rfl | (refine objAt_alloc_at _ _ _ ?_; (simp; done)) | refine keep_alloc _ ?_ | refine keep_drewN _ ?_ | refine keep_more _ ?_ | exact keep_row _ (by assumption) | apply keep_row | refine keep_setRow _ _ ?_ (by first | omega | (simp; omega) | simp)))
    replace hG : Below w.heap.size w (w.alloc (.cells (ints .u8 32 (k)) 23)) := by (repeat (first | assumption | exact Grew.refl _ | refine Grew.more ?_ _ | refine Grew.alloc ?_ _ | refine Grew.drewN ?_ _ | refine Grew.setRow ?_ _ _ (by omega) | refine Grew.setRow ?_ _ _ (by simp; omega) | refine Grew.setRow ?_ _ _ (by simp)))
    generalize w.alloc (.cells (ints .u8 32 (k)) 23) = w1 at *
    have lfk := lt_of_objAt fk
    go_wp2_with fail
    (refine (aw _ (hTT.out.later hG)).mono ?_; rintro e w2 ⟨rfl, hb⟩; replace fk : objAt w2 (w.heap.size) = some (.cells (ints .u8 32 (k)) 23) := keep_below hb (by (repeat (first | assumption | exact objAt_alloc_at _ _ _ rfl | (refine objAt_alloc_at _ _ _ ?_; (simp; done)) | refine keep_alloc _ ?_ | refine keep_drewN _ ?_ | refine keep_more _ ?_ | exact keep_row _ (by assumption) | apply keep_row | refine keep_setRow _ _ ?_ (by first | omega | (simp; omega) | simp)))); have lfk := lt_of_objAt fk; replace hG : Below w.heap.size w w2 := Grew.trans (by (repeat (first | assumption | exact Grew.refl _ | refine Grew.more ?_ _ | refine Grew.alloc ?_ _ | refine Grew.drewN ?_ _ | refine Grew.setRow ?_ _ _ (by omega) | refine Grew.setRow ?_ _ _ (by simp; omega) | refine Grew.setRow ?_ _ _ (by simp)))) hb; clear hb)
    go_wp2
    go_ret
    exact ⟨rfl, by (repeat (first | assumption | exact Grew.refl _ | refine Grew.more ?_ _ | refine Grew.alloc ?_ _ | refine Grew.drewN ?_ _ | refine Grew.setRow ?_ _ _ (by omega) | refine Grew.setRow ?_ _ _ (by simp; omega) | refine Grew.setRow ?_ _ _ (by simp)))⟩
  by_cases ht1 : secret.size ≤ 300
  case neg =>
    have ht2 : 300 < secret.size := by omega
    have hG := Grew.refl w
    have fk : True := trivial
    go_enter Tryd.func3, Tryd.ntmps3
    go_wp2_with fail
    replace fk : objAt (w.alloc (.cells (ints .u8 32 (k)) 23)) (w.heap.size) = some (.cells (ints .u8 32 (k)) 23) := by (repeat (first | assumption | exact objAt_alloc_at _ _ _ rfl | (refine objAt_alloc_at _ _ _ ?_; (simp; done)) | refine keep_alloc _ ?_ | refine keep_drewN _ ?_ | refine keep_more _ ?_ | exact keep_row _ (by assumption) | apply keep_row | refine keep_setRow _ _ ?_ (by first | omega | (simp; omega) | simp)))
    replace hG : Below w.heap.size w (w.alloc (.cells (ints .u8 32 (k)) 23)) := by (repeat (first | assumption | exact Grew.refl _ | refine Grew.more ?_ _ | refine Grew.alloc ?_ _ | refine Grew.drewN ?_ _ | refine Grew.setRow ?_ _ _ (by omega) | refine Grew.setRow ?_ _ _ (by simp; omega) | refine Grew.setRow ?_ _ _ (by simp)))
    generalize w.alloc (.cells (ints .u8 32 (k)) 23) = w1 at *
    have lfk := lt_of_objAt fk
    go_wp2_with fail
    (refine (aw _ (hTT.out.later hG)).mono ?_; rintro e w2 ⟨rfl, hb⟩; replace fk : objAt w2 (w.heap.size) = some (.cells (ints .u8 32 (k)) 23) := keep_below hb (by (repeat (first | assumption | exact objAt_alloc_at _ _ _ rfl | (refine objAt_alloc_at _ _ _ ?_; (simp; done)) | refine keep_alloc _ ?_ | refine keep_drewN _ ?_ | refine keep_more _ ?_ | exact keep_row _ (by assumption) | apply keep_row | refine keep_setRow _ _ ?_ (by first | omega | (simp; omega) | simp)))); have lfk := lt_of_objAt fk; replace hG : Below w.heap.size w w2 := Grew.trans (by (repeat (first | assumption | exact Grew.refl _ | refine Grew.more ?_ _ | refine Grew.alloc ?_ _ | refine Grew.drewN ?_ _ | refine Grew.setRow ?_ _ _ (by omega) | refine Grew.setRow ?_ _ _ (by simp; omega) | refine Grew.setRow ?_ _ _ (by simp)))) hb; clear hb)
    go_wp2
    go_ret
    exact ⟨rfl, by (repeat (first | assumption | exact Grew.refl _ | refine Grew.more ?_ _ | refine Grew.alloc ?_ _ | refine Grew.drewN ?_ _ | refine Grew.setRow ?_ _ _ (by omega) | refine Grew.setRow ?_ _ _ (by simp; omega) | refine Grew.setRow ?_ _ _ (by simp)))⟩
  by_cases hi1 : info.size ≤ 300
  case neg =>
    have hi2 : 300 < info.size := by omega
    have hG := Grew.refl w
    have fk : True := trivial
    go_enter Tryd.func3, Tryd.ntmps3
    go_wp2_with fail
    replace fk : objAt (w.alloc (.cells (ints .u8 32 (k)) 23)) (w.heap.size) = some (.cells (ints .u8 32 (k)) 23) := by (repeat (first | assumption | exact objAt_alloc_at _ _ _ rfl | (refine objAt_alloc_at _ _ _ ?_; (simp; done)) | refine keep_alloc _ ?_ | refine keep_drewN _ ?_ | refine keep_more _ ?_ | exact keep_row _ (by assumption) | apply keep_row | refine keep_setRow _ _ ?_ (by first | omega | (simp; omega) | simp)))
    replace hG : Below w.heap.size w (w.alloc (.cells (ints .u8 32 (k)) 23)) := by (repeat (first | assumption | exact Grew.refl _ | refine Grew.more ?_ _ | refine Grew.alloc ?_ _ | refine Grew.drewN ?_ _ | refine Grew.setRow ?_ _ _ (by omega) | refine Grew.setRow ?_ _ _ (by simp; omega) | refine Grew.setRow ?_ _ _ (by simp)))
    generalize w.alloc (.cells (ints .u8 32 (k)) 23) = w1 at *
    have lfk := lt_of_objAt fk
    go_wp2_with fail
    (refine (aw _ (hTT.out.later hG)).mono ?_; rintro e w2 ⟨rfl, hb⟩; replace fk : objAt w2 (w.heap.size) = some (.cells (ints .u8 32 (k)) 23) := keep_below hb (by (repeat (first | assumption | exact objAt_alloc_at _ _ _ rfl | (refine objAt_alloc_at _ _ _ ?_; (simp; done)) | refine keep_alloc _ ?_ | refine keep_drewN _ ?_ | refine keep_more _ ?_ | exact keep_row _ (by assumption) | apply keep_row | refine keep_setRow _ _ ?_ (by first | omega | (simp; omega) | simp)))); have lfk := lt_of_objAt fk; replace hG : Below w.heap.size w w2 := Grew.trans (by (repeat (first | assumption | exact Grew.refl _ | refine Grew.more ?_ _ | refine Grew.alloc ?_ _ | refine Grew.drewN ?_ _ | refine Grew.setRow ?_ _ _ (by omega) | refine Grew.setRow ?_ _ _ (by simp; omega) | refine Grew.setRow ?_ _ _ (by simp)))) hb; clear hb)
    go_wp2
    go_ret
    exact ⟨rfl, by (repeat (first | assumption | exact Grew.refl _ | refine Grew.more ?_ _ | refine Grew.alloc ?_ _ | refine Grew.drewN ?_ _ | refine Grew.setRow ?_ _ _ (by omega) | refine Grew.setRow ?_ _ _ (by simp; omega) | refine Grew.setRow ?_ _ _ (by simp)))⟩
  by_cases hn1 : 1000 < n ∧ n ≤ 8160
  case pos =>
    obtain ⟨hn2, hn3⟩ := hn1
    have hG := Grew.refl w
    have fk : True := trivial
    go_enter Tryd.func3, Tryd.ntmps3
    go_wp2_with fail
    replace fk : objAt (w.alloc (.cells (ints .u8 32 (k)) 23)) (w.heap.size) = some (.cells (ints .u8 32 (k)) 23) := by (repeat (first | assumption | exact objAt_alloc_at _ _ _ rfl | (refine objAt_alloc_at _ _ _ ?_; (simp; done)) | refine keep_alloc _ ?_ | refine keep_drewN _ ?_ | refine keep_more _ ?_ | exact keep_row _ (by assumption) | apply keep_row | refine keep_setRow _ _ ?_ (by first | omega | (simp; omega) | simp)))
    replace hG : Below w.heap.size w (w.alloc (.cells (ints .u8 32 (k)) 23)) := by (repeat (first | assumption | exact Grew.refl _ | refine Grew.more ?_ _ | refine Grew.alloc ?_ _ | refine Grew.drewN ?_ _ | refine Grew.setRow ?_ _ _ (by omega) | refine Grew.setRow ?_ _ _ (by simp; omega) | refine Grew.setRow ?_ _ _ (by simp)))
    generalize w.alloc (.cells (ints .u8 32 (k)) 23) = w1 at *
    have lfk := lt_of_objAt fk
    go_wp2_with fail
    (refine (aw _ (hTT.out.later hG)).mono ?_; rintro e w2 ⟨rfl, hb⟩; replace fk : objAt w2 (w.heap.size) = some (.cells (ints .u8 32 (k)) 23) := keep_below hb (by (repeat (first | assumption | exact objAt_alloc_at _ _ _ rfl | (refine objAt_alloc_at _ _ _ ?_; (simp; done)) | refine keep_alloc _ ?_ | refine keep_drewN _ ?_ | refine keep_more _ ?_ | exact keep_row _ (by assumption) | apply keep_row | refine keep_setRow _ _ ?_ (by first | omega | (simp; omega) | simp)))); have lfk := lt_of_objAt fk; replace hG : Below w.heap.size w w2 := Grew.trans (by (repeat (first | assumption | exact Grew.refl _ | refine Grew.more ?_ _ | refine Grew.alloc ?_ _ | refine Grew.drewN ?_ _ | refine Grew.setRow ?_ _ _ (by omega) | refine Grew.setRow ?_ _ _ (by simp; omega) | refine Grew.setRow ?_ _ _ (by simp)))) hb; clear hb)
    go_wp2
    go_ret
    exact ⟨rfl, by (repeat (first | assumption | exact Grew.refl _ | refine Grew.more ?_ _ | refine Grew.alloc ?_ _ | refine Grew.drewN ?_ _ | refine Grew.setRow ?_ _ _ (by omega) | refine Grew.setRow ?_ _ _ (by simp; omega) | refine Grew.setRow ?_ _ _ (by simp)))⟩
  exact makes9_walk salt secret info _ _ k _ _ n w hT hs1 ht1 hi1 hn1 (fun W hT => hE k info n W hk (by omega) hT) (fun W => rexpand_any k info n W (by omega)) (fun W hT => hX salt secret W (by omega) (by omega) hT) (fun W => rextract_any salt secret W (by omega) (by omega)) (fun W hT => hO k info W hk (by omega) hT) (fun W => rone_any k info W (by omega)) aw
set_option maxRecDepth 100000 in
set_option maxHeartbeats 4000000 in
theorem begins9_walk (info secret S1 S2 Z : ByteArray) (k M O : Nat → Int) (A B x y lo hi : Nat) (w : World) (hT : Tabs w) (ht1 : secret.size ≤ 300) (hi1 : info.size ≤ 300) (hxi : (A : Int) % 1000 = (x : Int)) (hyi : (B : Int) % 1000 = (y : Int)) (hx1 : x < 1000) (hy1 : y < 1000) (hloi : min (x : Int) (y : Int) = (lo : Int)) (hhii : max (x : Int) (y : Int) = (hi : Int)) (hle : lo ≤ hi) (hhi1 : hi < 1000) (z1 : (S1.size : Int) = (lo : Int)) (z2 : (S2.size : Int) = (hi : Int))
    (c1 : ∀ W : World, Tabs W → Calls Tryd.prog 7 #[.agg (ints .u8 32 k), .string info, .int .i64 lo] W fun e w' => e = .returned (.tuple #[.string (S1), .bool true]) ∧ Below W.heap.size W w')
    (c2 : ∀ W : World, Tabs W → Calls Tryd.prog 7 #[.agg (ints .u8 32 k), .string info, .int .i64 hi] W fun e w' => e = .returned (.tuple #[.string (S2), .bool true]) ∧ Below W.heap.size W w')
    (c3 : ∀ W : World, Tabs W → Calls Tryd.prog 7 #[.agg (ints .u8 32 k), .string info, .int .i64 32] W fun e w' => e = .returned (.tuple #[.string (strOf 32 O), .bool true]) ∧ Below W.heap.size W w')
    (cO : ∀ W : World, Tabs W → Calls Tryd.prog 11 #[.agg (ints .u8 32 k), .string info] W fun e w' => e = .returned (.agg (ints .u8 32 O)) ∧ Below W.heap.size W w')
    (cX : ∀ W : World, Tabs W → Calls Tryd.prog 9 #[.string ByteArray.empty, .string secret] W fun e w' => e = .returned (.agg (ints .u8 32 M)) ∧ Below W.heap.size W w')
    (cz : ∀ W : World, Calls Tryd.prog 14 #[.string ⟨#[0]⟩, .int .i64 32] W fun e w' => e = .returned (.string Z) ∧ Below W.heap.size W w')
    (cY : ∀ W : World, Tabs W → Calls Tryd.prog 9 #[.string Z, .string secret] W fun e w' => e = .returned (.agg (ints .u8 32 M)) ∧ Below W.heap.size W w')
    (cp : ∀ W : World, Calls Tryd.prog 13 #[.string S2, .string S1] W fun e w' => e = .returned (.bool true) ∧ w' = W)
    (aw : ∀ W : World, Tabs W → Calls Tryd.prog 6 #[] W fun e w' => e = .returned (.bool true) ∧ Below W.heap.size W w') :
    Calls Tryd.prog 4 #[.agg (ints .u8 32 k), .string info, .string secret, .int .u16 (A : Int), .int .u16 (B : Int)] w fun e w' => e = .returned (.bool true) ∧ Below w.heap.size w w' := by
  have hTT : Hid (Tabs w) := hT
  clear hT
  have hm := same_refl 32 M
  obtain ⟨TO, hTO⟩ : ∃ TO, Hid (strOf 32 O = TO) := ⟨_, rfl⟩
  rw [hTO.out] at c3
  have hG := Grew.refl w
  have fk : True := trivial
  go_enter Tryd.func4, Tryd.ntmps4
  go_wp2_with fail
  replace fk : objAt (w.alloc (.cells (ints .u8 32 (k)) 23)) (w.heap.size) = some (.cells (ints .u8 32 (k)) 23) := by (repeat (first | assumption | exact objAt_alloc_at _ _ _ rfl | (refine objAt_alloc_at _ _ _ ?_; (simp; done)) | refine keep_alloc _ ?_ | refine keep_drewN _ ?_ | refine keep_more _ ?_ | exact keep_row _ (by assumption) | apply keep_row | refine keep_setRow _ _ ?_ (by first | omega | (simp; omega) | simp)))
  replace hG : Below w.heap.size w (w.alloc (.cells (ints .u8 32 (k)) 23)) := by (repeat (first | assumption | exact Grew.refl _ | refine Grew.more ?_ _ | refine Grew.alloc ?_ _ | refine Grew.drewN ?_ _ | refine Grew.setRow ?_ _ _ (by omega) | refine Grew.setRow ?_ _ _ (by simp; omega) | refine Grew.setRow ?_ _ _ (by simp)))
  generalize w.alloc (.cells (ints .u8 32 (k)) 23) = w1 at *
  have lfk := lt_of_objAt fk
  go_wp2_with fail
  (refine (aw _ (hTT.out.later hG)).mono ?_; rintro e w2 ⟨rfl, hb⟩; replace fk : objAt w2 (w.heap.size) = some (.cells (ints .u8 32 (k)) 23) := keep_below hb (by (repeat (first | assumption | exact objAt_alloc_at _ _ _ rfl | (refine objAt_alloc_at _ _ _ ?_; (simp; done)) | refine keep_alloc _ ?_ | refine keep_drewN _ ?_ | refine keep_more _ ?_ | exact keep_row _ (by assumption) | apply keep_row | refine keep_setRow _ _ ?_ (by first | omega | (simp; omega) | simp)))); have lfk := lt_of_objAt fk; replace hG : Below w.heap.size w w2 := Grew.trans (by (repeat (first | assumption | exact Grew.refl _ | refine Grew.more ?_ _ | refine Grew.alloc ?_ _ | refine Grew.drewN ?_ _ | refine Grew.setRow ?_ _ _ (by omega) | refine Grew.setRow ?_ _ _ (by simp; omega) | refine Grew.setRow ?_ _ _ (by simp)))) hb; clear hb)
  go_wp2_with fail
  (refine (c1 _ (hTT.out.later hG)).mono ?_; rintro e w3 ⟨rfl, hb⟩; replace fk : objAt w3 (w.heap.size) = some (.cells (ints .u8 32 (k)) 23) := keep_below hb (by (repeat (first | assumption | exact objAt_alloc_at _ _ _ rfl | (refine objAt_alloc_at _ _ _ ?_; (simp; done)) | refine keep_alloc _ ?_ | refine keep_drewN _ ?_ | refine keep_more _ ?_ | exact keep_row _ (by assumption) | apply keep_row | refine keep_setRow _ _ ?_ (by first | omega | (simp; omega) | simp)))); have lfk := lt_of_objAt fk; replace hG : Below w.heap.size w w3 := Grew.trans (by (repeat (first | assumption | exact Grew.refl _ | refine Grew.more ?_ _ | refine Grew.alloc ?_ _ | refine Grew.drewN ?_ _ | refine Grew.setRow ?_ _ _ (by omega) | refine Grew.setRow ?_ _ _ (by simp; omega) | refine Grew.setRow ?_ _ _ (by simp)))) hb; clear hb)
  go_wp2_with fail
  (refine (c2 _ (hTT.out.later hG)).mono ?_; rintro e w4 ⟨rfl, hb⟩; replace fk : objAt w4 (w.heap.size) = some (.cells (ints .u8 32 (k)) 23) := keep_below hb (by (repeat (first | assumption | exact objAt_alloc_at _ _ _ rfl | (refine objAt_alloc_at _ _ _ ?_; (simp; done)) | refine keep_alloc _ ?_ | refine keep_drewN _ ?_ | refine keep_more _ ?_ | exact keep_row _ (by assumption) | apply keep_row | refine keep_setRow _ _ ?_ (by first | omega | (simp; omega) | simp)))); have lfk := lt_of_objAt fk; replace hG : Below w.heap.size w w4 := Grew.trans (by (repeat (first | assumption | exact Grew.refl _ | refine Grew.more ?_ _ | refine Grew.alloc ?_ _ | refine Grew.drewN ?_ _ | refine Grew.setRow ?_ _ _ (by omega) | refine Grew.setRow ?_ _ _ (by simp; omega) | refine Grew.setRow ?_ _ _ (by simp)))) hb; clear hb)
  go_wp2_with fail
  (refine (cO _ (hTT.out.later hG)).mono ?_; rintro e w5 ⟨rfl, hb⟩; replace fk : objAt w5 (w.heap.size) = some (.cells (ints .u8 32 (k)) 23) := keep_below hb (by (repeat (first | assumption | exact objAt_alloc_at _ _ _ rfl | (refine objAt_alloc_at _ _ _ ?_; (simp; done)) | refine keep_alloc _ ?_ | refine keep_drewN _ ?_ | refine keep_more _ ?_ | exact keep_row _ (by assumption) | apply keep_row | refine keep_setRow _ _ ?_ (by first | omega | (simp; omega) | simp)))); have lfk := lt_of_objAt fk; replace hG : Below w.heap.size w w5 := Grew.trans (by (repeat (first | assumption | exact Grew.refl _ | refine Grew.more ?_ _ | refine Grew.alloc ?_ _ | refine Grew.drewN ?_ _ | refine Grew.setRow ?_ _ _ (by omega) | refine Grew.setRow ?_ _ _ (by simp; omega) | refine Grew.setRow ?_ _ _ (by simp)))) hb; clear hb)
  have lg0 : ¬ (w5.heap.size = w.heap.size) := by omega
  go_wp2_with fail
  have fo : objAt (w5.alloc (.cells (ints .u8 32 (O)) 23)) w5.heap.size = some (.cells (ints .u8 32 (O)) 23) := objAt_alloc_at _ _ _ rfl
  replace fk : objAt (w5.alloc (.cells (ints .u8 32 (O)) 23)) (w.heap.size) = some (.cells (ints .u8 32 (k)) 23) := keep_alloc _ fk
  replace hG : Below w.heap.size w (w5.alloc (.cells (ints .u8 32 (O)) 23)) := Grew.alloc hG _
  clear lfk
  generalize w5.alloc (.cells (ints .u8 32 (O)) 23) = w6 at *
  generalize w5.heap.size = go at *
  have lfk := lt_of_objAt fk
  have lfo := lt_of_objAt fo
  go_wp2_with fail
  (refine (c3 _ (hTT.out.later hG)).mono ?_; rintro e w7 ⟨rfl, hb⟩; replace fk : objAt w7 (w.heap.size) = some (.cells (ints .u8 32 (k)) 23) := keep_below hb (by (repeat (first | assumption | exact objAt_alloc_at _ _ _ rfl | (refine objAt_alloc_at _ _ _ ?_; (simp; done)) | refine keep_alloc _ ?_ | refine keep_drewN _ ?_ | refine keep_more _ ?_ | exact keep_row _ (by assumption) | apply keep_row | refine keep_setRow _ _ ?_ (by first | omega | (simp; omega) | simp)))); have lfk := lt_of_objAt fk; replace fo : objAt w7 (go) = some (.cells (ints .u8 32 (O)) 23) := keep_below hb (by (repeat (first | assumption | exact objAt_alloc_at _ _ _ rfl | (refine objAt_alloc_at _ _ _ ?_; (simp; done)) | refine keep_alloc _ ?_ | refine keep_drewN _ ?_ | refine keep_more _ ?_ | exact keep_row _ (by assumption) | apply keep_row | refine keep_setRow _ _ ?_ (by first | omega | (simp; omega) | simp)))); have lfo := lt_of_objAt fo; replace hG : Below w.heap.size w w7 := Grew.trans (by (repeat (first | assumption | exact Grew.refl _ | refine Grew.more ?_ _ | refine Grew.alloc ?_ _ | refine Grew.drewN ?_ _ | refine Grew.setRow ?_ _ _ (by omega) | refine Grew.setRow ?_ _ _ (by simp; omega) | refine Grew.setRow ?_ _ _ (by simp)))) hb; clear hb)
  go_wp2_with fail
  refine (cp _).mono ?_
  rintro e W9 ⟨rfl, rfl⟩
  have hc := run_str (P := Tryd.prog) (src := 35) (dst := 9) Tryd.underlying35 Tryd.underlying5 Tryd.underlying9 go 32 32 32 O _ fo (by omega)
  rw [hTO.out] at hc
  go_wp2_with fail
  (try rw [hc])
  go_wp2_with fail
  (refine (cX _ (hTT.out.later hG)).mono ?_; rintro e w8 ⟨rfl, hb⟩; replace fk : objAt w8 (w.heap.size) = some (.cells (ints .u8 32 (k)) 23) := keep_below hb (by (repeat (first | assumption | exact objAt_alloc_at _ _ _ rfl | (refine objAt_alloc_at _ _ _ ?_; (simp; done)) | refine keep_alloc _ ?_ | refine keep_drewN _ ?_ | refine keep_more _ ?_ | exact keep_row _ (by assumption) | apply keep_row | refine keep_setRow _ _ ?_ (by first | omega | (simp; omega) | simp)))); have lfk := lt_of_objAt fk; replace fo : objAt w8 (go) = some (.cells (ints .u8 32 (O)) 23) := keep_below hb (by (repeat (first | assumption | exact objAt_alloc_at _ _ _ rfl | (refine objAt_alloc_at _ _ _ ?_; (simp; done)) | refine keep_alloc _ ?_ | refine keep_drewN _ ?_ | refine keep_more _ ?_ | exact keep_row _ (by assumption) | apply keep_row | refine keep_setRow _ _ ?_ (by first | omega | (simp; omega) | simp)))); have lfo := lt_of_objAt fo; replace hG : Below w.heap.size w w8 := Grew.trans (by (repeat (first | assumption | exact Grew.refl _ | refine Grew.more ?_ _ | refine Grew.alloc ?_ _ | refine Grew.drewN ?_ _ | refine Grew.setRow ?_ _ _ (by omega) | refine Grew.setRow ?_ _ _ (by simp; omega) | refine Grew.setRow ?_ _ _ (by simp)))) hb; clear hb)
  go_wp2_with fail
  (refine (cz _).mono ?_; rintro e w9 ⟨rfl, hb⟩; replace fk : objAt w9 (w.heap.size) = some (.cells (ints .u8 32 (k)) 23) := keep_below hb (by (repeat (first | assumption | exact objAt_alloc_at _ _ _ rfl | (refine objAt_alloc_at _ _ _ ?_; (simp; done)) | refine keep_alloc _ ?_ | refine keep_drewN _ ?_ | refine keep_more _ ?_ | exact keep_row _ (by assumption) | apply keep_row | refine keep_setRow _ _ ?_ (by first | omega | (simp; omega) | simp)))); have lfk := lt_of_objAt fk; replace fo : objAt w9 (go) = some (.cells (ints .u8 32 (O)) 23) := keep_below hb (by (repeat (first | assumption | exact objAt_alloc_at _ _ _ rfl | (refine objAt_alloc_at _ _ _ ?_; (simp; done)) | refine keep_alloc _ ?_ | refine keep_drewN _ ?_ | refine keep_more _ ?_ | exact keep_row _ (by assumption) | apply keep_row | refine keep_setRow _ _ ?_ (by first | omega | (simp; omega) | simp)))); have lfo := lt_of_objAt fo; replace hG : Below w.heap.size w w9 := Grew.trans (by (repeat (first | assumption | exact Grew.refl _ | refine Grew.more ?_ _ | refine Grew.alloc ?_ _ | refine Grew.drewN ?_ _ | refine Grew.setRow ?_ _ _ (by omega) | refine Grew.setRow ?_ _ _ (by simp; omega) | refine Grew.setRow ?_ _ _ (by simp)))) hb; clear hb)
  go_wp2_with fail
  (refine (cY _ (hTT.out.later hG)).mono ?_; rintro e w10 ⟨rfl, hb⟩; replace fk : objAt w10 (w.heap.size) = some (.cells (ints .u8 32 (k)) 23) := keep_below hb (by (repeat (first | assumption | exact objAt_alloc_at _ _ _ rfl | (refine objAt_alloc_at _ _ _ ?_; (simp; done)) | refine keep_alloc _ ?_ | refine keep_drewN _ ?_ | refine keep_more _ ?_ | exact keep_row _ (by assumption) | apply keep_row | refine keep_setRow _ _ ?_ (by first | omega | (simp; omega) | simp)))); have lfk := lt_of_objAt fk; replace fo : objAt w10 (go) = some (.cells (ints .u8 32 (O)) 23) := keep_below hb (by (repeat (first | assumption | exact objAt_alloc_at _ _ _ rfl | (refine objAt_alloc_at _ _ _ ?_; (simp; done)) | refine keep_alloc _ ?_ | refine keep_drewN _ ?_ | refine keep_more _ ?_ | exact keep_row _ (by assumption) | apply keep_row | refine keep_setRow _ _ ?_ (by first | omega | (simp; omega) | simp)))); have lfo := lt_of_objAt fo; replace hG : Below w.heap.size w w10 := Grew.trans (by (repeat (first | assumption | exact Grew.refl _ | refine Grew.more ?_ _ | refine Grew.alloc ?_ _ | refine Grew.drewN ?_ _ | refine Grew.setRow ?_ _ _ (by omega) | refine Grew.setRow ?_ _ _ (by simp; omega) | refine Grew.setRow ?_ _ _ (by simp)))) hb; clear hb)
  go_wp2
  go_ret
  exact ⟨rfl, by (repeat (first | assumption | exact Grew.refl _ | refine Grew.more ?_ _ | refine Grew.alloc ?_ _ | refine Grew.drewN ?_ _ | refine Grew.setRow ?_ _ _ (by omega) | refine Grew.setRow ?_ _ _ (by simp; omega) | refine Grew.setRow ?_ _ _ (by simp)))⟩
set_option maxRecDepth 100000 in
set_option maxHeartbeats 4000000 in
theorem begins9_any (hE : ExpandC) (hX : ExtractC) (hO : OneC) (k : Nat → Int) (info secret : ByteArray) (a b : Int) (w : World) (hk : Bytes 32 k) (h1 : info.size ≤ 9223372036854775807) (h2 : secret.size ≤ 9223372036854775807) (ha : 0 ≤ a) (hb : 0 ≤ b) (hT : Tabs w) :
    Calls Tryd.prog 4 #[.agg (ints .u8 32 k), .string info, .string secret, .int .u16 a, .int .u16 b] w fun e w' => e = .returned (.bool true) ∧ Below w.heap.size w w' := by
  have hTT : Hid (Tabs w) := hT
  have aw := fun (W : World) (h : Tabs W) => awake9_any hE W h
  obtain ⟨A, rfl⟩ := Int.eq_ofNat_of_zero_le ha
  obtain ⟨B, rfl⟩ := Int.eq_ofNat_of_zero_le hb
  by_cases hi1 : info.size ≤ 300
  case neg =>
    have hi2 : 300 < info.size := by omega
    have hG := Grew.refl w
    have fk : True := trivial
    go_enter Tryd.func4, Tryd.ntmps4
    go_wp2_with fail
    replace fk : objAt (w.alloc (.cells (ints .u8 32 (k)) 23)) (w.heap.size) = some (.cells (ints .u8 32 (k)) 23) := by (repeat (first | assumption | exact objAt_alloc_at _ _ _ rfl | (refine objAt_alloc_at _ _ _ ?_; (simp; done)) | refine keep_alloc _ ?_ | refine keep_drewN _ ?_ | refine keep_more _ ?_ | exact keep_row _ (by assumption) | apply keep_row | refine keep_setRow _ _ ?_ (by first | omega | (simp; omega) | simp)))
    replace hG : Below w.heap.size w (w.alloc (.cells (ints .u8 32 (k)) 23)) := by (repeat (first | assumption | exact Grew.refl _ | refine Grew.more ?_ _ | refine Grew.alloc ?_ _ | refine Grew.drewN ?_ _ | refine Grew.setRow ?_ _ _ (by omega) | refine Grew.setRow ?_ _ _ (by simp; omega) | refine Grew.setRow ?_ _ _ (by simp)))
    generalize w.alloc (.cells (ints .u8 32 (k)) 23) = w1 at *
    have lfk := lt_of_objAt fk
    go_wp2_with fail
    (refine (aw _ (hTT.out.later hG)).mono ?_; rintro e w2 ⟨rfl, hb⟩; replace fk : objAt w2 (w.heap.size) = some (.cells (ints .u8 32 (k)) 23) := keep_below hb (by (repeat (first | assumption | exact objAt_alloc_at _ _ _ rfl | (refine objAt_alloc_at _ _ _ ?_; (simp; done)) | refine keep_alloc _ ?_ | refine keep_drewN _ ?_ | refine keep_more _ ?_ | exact keep_row _ (by assumption) | apply keep_row | refine keep_setRow _ _ ?_ (by first | omega | (simp; omega) | simp)))); have lfk := lt_of_objAt fk; replace hG : Below w.heap.size w w2 := Grew.trans (by (repeat (first | assumption | exact Grew.refl _ | refine Grew.more ?_ _ | refine Grew.alloc ?_ _ | refine Grew.drewN ?_ _ | refine Grew.setRow ?_ _ _ (by omega) | refine Grew.setRow ?_ _ _ (by simp; omega) | refine Grew.setRow ?_ _ _ (by simp)))) hb; clear hb)
    go_wp2
    go_ret
    exact ⟨rfl, by (repeat (first | assumption | exact Grew.refl _ | refine Grew.more ?_ _ | refine Grew.alloc ?_ _ | refine Grew.drewN ?_ _ | refine Grew.setRow ?_ _ _ (by omega) | refine Grew.setRow ?_ _ _ (by simp; omega) | refine Grew.setRow ?_ _ _ (by simp)))⟩
  by_cases ht1 : secret.size ≤ 300
  case neg =>
    have ht2 : 300 < secret.size := by omega
    have hG := Grew.refl w
    have fk : True := trivial
    go_enter Tryd.func4, Tryd.ntmps4
    go_wp2_with fail
    replace fk : objAt (w.alloc (.cells (ints .u8 32 (k)) 23)) (w.heap.size) = some (.cells (ints .u8 32 (k)) 23) := by (repeat (first | assumption | exact objAt_alloc_at _ _ _ rfl | (refine objAt_alloc_at _ _ _ ?_; (simp; done)) | refine keep_alloc _ ?_ | refine keep_drewN _ ?_ | refine keep_more _ ?_ | exact keep_row _ (by assumption) | apply keep_row | refine keep_setRow _ _ ?_ (by first | omega | (simp; omega) | simp)))
    replace hG : Below w.heap.size w (w.alloc (.cells (ints .u8 32 (k)) 23)) := by (repeat (first | assumption | exact Grew.refl _ | refine Grew.more ?_ _ | refine Grew.alloc ?_ _ | refine Grew.drewN ?_ _ | refine Grew.setRow ?_ _ _ (by omega) | refine Grew.setRow ?_ _ _ (by simp; omega) | refine Grew.setRow ?_ _ _ (by simp)))
    generalize w.alloc (.cells (ints .u8 32 (k)) 23) = w1 at *
    have lfk := lt_of_objAt fk
    go_wp2_with fail
    (refine (aw _ (hTT.out.later hG)).mono ?_; rintro e w2 ⟨rfl, hb⟩; replace fk : objAt w2 (w.heap.size) = some (.cells (ints .u8 32 (k)) 23) := keep_below hb (by (repeat (first | assumption | exact objAt_alloc_at _ _ _ rfl | (refine objAt_alloc_at _ _ _ ?_; (simp; done)) | refine keep_alloc _ ?_ | refine keep_drewN _ ?_ | refine keep_more _ ?_ | exact keep_row _ (by assumption) | apply keep_row | refine keep_setRow _ _ ?_ (by first | omega | (simp; omega) | simp)))); have lfk := lt_of_objAt fk; replace hG : Below w.heap.size w w2 := Grew.trans (by (repeat (first | assumption | exact Grew.refl _ | refine Grew.more ?_ _ | refine Grew.alloc ?_ _ | refine Grew.drewN ?_ _ | refine Grew.setRow ?_ _ _ (by omega) | refine Grew.setRow ?_ _ _ (by simp; omega) | refine Grew.setRow ?_ _ _ (by simp)))) hb; clear hb)
    go_wp2
    go_ret
    exact ⟨rfl, by (repeat (first | assumption | exact Grew.refl _ | refine Grew.more ?_ _ | refine Grew.alloc ?_ _ | refine Grew.drewN ?_ _ | refine Grew.setRow ?_ _ _ (by omega) | refine Grew.setRow ?_ _ _ (by simp; omega) | refine Grew.setRow ?_ _ _ (by simp)))⟩
  have hle : min (A % 1000) (B % 1000) ≤ max (A % 1000) (B % 1000) := by omega
  refine begins9_walk info secret (strOf (min (A % 1000) (B % 1000)) (strmF (strOf 32 k) info)) (strOf (max (A % 1000) (B % 1000)) (strmF (strOf 32 k) info)) (zerosB 32) k (macF ByteArray.empty secret) (oneF (strOf 32 k) info) A B (A % 1000) (B % 1000) (min (A % 1000) (B % 1000)) (max (A % 1000) (B % 1000)) w hT ht1 hi1 (by omega) (by omega) (by omega) (by omega) (by omega) (by omega) hle (by omega) (by rw [strOf_size]) (by rw [strOf_size])
    (fun W hT => expand_some hE k info _ W hk (by omega) (by omega) hT) (fun W hT => expand_some hE k info _ W hk (by omega) (by omega) hT)
    (fun W hT => by
      have := expand_some hE k info 32 W hk (by omega) (by omega) hT
      rw [strm_one] at this
      exact this) (fun W hT => hO k info W hk (by omega) hT) (fun W hT => hX ByteArray.empty secret W (by decide) (by omega) hT) (fun W => repeat0 32 (by decide) W)
    (fun W hT => by
      have := hX (zerosB 32) secret W (by rw [zerosB_size]; decide) (by omega) hT
      rw [macF_block secret blockB_none] at this
      exact this)
    (fun W => by
      have := Tryd.strings_HasPrefix (strOf (max (A % 1000) (B % 1000)) (strmF (strOf 32 k) info)) (strOf (min (A % 1000) (B % 1000)) (strmF (strOf 32 k) info)) W
      rw [prefix_strm (strOf 32 k) info _ _ hle] at this
      exact this) aw
end Go.Proofs.YtomoccbljclhlaaDoor
