/- L9: L9 -/
import Derived.Test.YtomoccbljclhlaaGreatDoorR9
import Derived.Test.YtomoccbljclhlaaGreatDoorShelf
namespace Go.Proofs.YtomoccbljclhlaaGreatDoor
open Go.RowKit
set_option linter.unusedVariables false
set_option linter.unusedSimpArgs false
attribute [local irreducible] strOf shaF zerosB padB fullB hashT
attribute [local irreducible] macF
def ExpandC : Prop := ∀ (k : Nat → Int) (info : ByteArray) (n : Int) (W : World), Bytes 32 k → info.size ≤ 100000 → Tabs W → Calls Tryz.prog 39 #[.agg (ints .u8 32 k), .string info, .int .i64 n] W fun e w' => e = .returned (.tuple #[.string (if 0 ≤ n ∧ n ≤ 8160 then strOf n.toNat (strmF (strOf 32 k) info) else ByteArray.empty), .bool (decide (0 ≤ n ∧ n ≤ 8160))]) ∧ Below W.heap.size W w'
def ExtractC : Prop := ∀ (salt secret : ByteArray) (W : World), salt.size ≤ 100000 → secret.size ≤ 100000 → Tabs W → Calls Tryz.prog 27 #[.string salt, .string secret] W fun e w' => e = .returned (.agg (ints .u8 32 (macF salt secret))) ∧ Below W.heap.size W w'
def OneC : Prop := ∀ (k : Nat → Int) (info : ByteArray) (W : World), Bytes 32 k → info.size ≤ 100000 → Tabs W → Calls Tryz.prog 26 #[.agg (ints .u8 32 k), .string info] W fun e w' => e = .returned (.agg (ints .u8 32 (oneF (strOf 32 k) info))) ∧ Below W.heap.size W w'
theorem expand_some (hE : ExpandC) (k : Nat → Int) (info : ByteArray) (N : Nat) (W : World) (hk : Bytes 32 k) (hi : info.size ≤ 100000) (hN : N ≤ 8160) (hT : Tabs W) : Calls Tryz.prog 39 #[.agg (ints .u8 32 k), .string info, .int .i64 (N : Int)] W fun e w' => e = .returned (.tuple #[.string (strOf N (strmF (strOf 32 k) info)), .bool true]) ∧ Below W.heap.size W w' := by
  have h := hE k info N W hk hi hT
  have h0 : 0 ≤ (N : Int) ∧ (N : Int) ≤ 8160 := ⟨by omega, by omega⟩
  rw [if_pos h0, decide_eq_true h0, show ((N : Int)).toNat = N by omega] at h
  exact h
theorem prefix_strm (K info : ByteArray) (a b : Nat) (h : a ≤ b) : Lib.hasPrefix (strOf b (strmF K info)).data.toList (strOf a (strmF K info)).data.toList = true := by
  unfold Lib.hasPrefix
  rw [List.isPrefixOf_iff_prefix, List.prefix_iff_eq_take]
  have e := strOf_first b a (strmF K info) (strm_bytes K info) h
  have hs : (strOf a (strmF K info)).data.toList.length = a := by
    have : (strOf a (strmF K info)).data.toList.length = (strOf a (strmF K info)).size := rfl
    rw [this, strOf_size]
  rw [hs]
  have e2 := congrArg (fun s : ByteArray => s.data.toList) e
  simp only [ByteArray.data_extract, Array.toList_extract, List.extract_eq_take_drop, List.drop_zero, Nat.sub_zero] at e2
  exact e2.symm
set_option maxRecDepth 100000 in
set_option maxHeartbeats 4000000 in
theorem Awake8_any (w : World) (hT : Tabs w) :
    Calls Tryz.prog 43 #[] w fun e w' => e = .returned (.bool true) ∧ Below w.heap.size w w' := by
  have hG := Grew.refl w
  go_enter Tryz.func43, Tryz.ntmps43
  go_wp2_with fail
  (refine (awake8_any _ hT).mono ?_; rintro e w1 ⟨rfl, hb⟩; replace hG : Below w.heap.size w w1 := Grew.trans (by (repeat (first | assumption | exact Grew.refl _ | refine Grew.more ?_ _ | refine Grew.alloc ?_ _ | refine Grew.drewN ?_ _ | refine Grew.setRow ?_ _ _ (by omega) | refine Grew.setRow ?_ _ _ (by simp; omega) | refine Grew.setRow ?_ _ _ (by simp)))) hb; clear hb)
  go_wp2
  go_ret
  exact ⟨rfl, by (repeat (first | assumption | exact Grew.refl _ | refine Grew.more ?_ _ | refine Grew.alloc ?_ _ | refine Grew.drewN ?_ _ | refine Grew.setRow ?_ _ _ (by omega) | refine Grew.setRow ?_ _ _ (by simp; omega) | refine Grew.setRow ?_ _ _ (by simp)))⟩
set_option maxRecDepth 100000 in
set_option maxHeartbeats 4000000 in
theorem awake9_any (hE : ExpandC) (w : World) (hT : Tabs w) :
    Calls Tryz.prog 30 #[] w fun e w' => e = .returned (.bool true) ∧ Below w.heap.size w w' := by
  have hTT : Hid (Tabs w) := hT
  clear hT
  have c0 : ∀ W : World, Below w.heap.size w W → Calls Tryz.prog 39 #[.agg (ints .u8 32 nought), .string ByteArray.empty, .int .i64 0] W fun e w' => e = .returned (.tuple #[.string ByteArray.empty, .bool true]) ∧ Below W.heap.size W w' := fun W hW => by
    have := expand_some hE nought ByteArray.empty 0 W (fun _ _ => ⟨Int.le_refl 0, by show (0 : Int) ≤ 255; decide⟩) (by decide) (by decide) (hTT.out.later hW)
    rw [strOf_zero] at this
    exact this
  have c1 : ∀ W : World, Below w.heap.size w W → Calls Tryz.prog 39 #[.agg (ints .u8 32 nought), .string ByteArray.empty, .int .i64 1] W fun e w' => e = .returned (.tuple #[.string (strOf 1 (strmF (strOf 32 nought) ByteArray.empty)), .bool true]) ∧ Below W.heap.size W w' := fun W hW => expand_some hE nought ByteArray.empty 1 W (fun _ _ => ⟨Int.le_refl 0, by show (0 : Int) ≤ 255; decide⟩) (by decide) (by decide) (hTT.out.later hW)
  have hz : (strOf 1 (strmF (strOf 32 nought) ByteArray.empty)).size = 1 := strOf_size _ _
  generalize strOf 1 (strmF (strOf 32 nought) ByteArray.empty) = S1 at *
  clear hE
  have hG := Grew.refl w
  go_enter Tryz.func30, Tryz.ntmps30
  go_wp2_with fail
  (refine (c0 _ hG).mono ?_; rintro e w1 ⟨rfl, hb⟩; replace hG : Below w.heap.size w w1 := Grew.trans (by (repeat (first | assumption | exact Grew.refl _ | refine Grew.more ?_ _ | refine Grew.alloc ?_ _ | refine Grew.drewN ?_ _ | refine Grew.setRow ?_ _ _ (by omega) | refine Grew.setRow ?_ _ _ (by simp; omega) | refine Grew.setRow ?_ _ _ (by simp)))) hb; clear hb)
  go_wp2_with fail
  (refine (c1 _ hG).mono ?_; rintro e w2 ⟨rfl, hb⟩; replace hG : Below w.heap.size w w2 := Grew.trans (by (repeat (first | assumption | exact Grew.refl _ | refine Grew.more ?_ _ | refine Grew.alloc ?_ _ | refine Grew.drewN ?_ _ | refine Grew.setRow ?_ _ _ (by omega) | refine Grew.setRow ?_ _ _ (by simp; omega) | refine Grew.setRow ?_ _ _ (by simp)))) hb; clear hb)
  go_wp2_with fail
  (refine (Awake8_any _ (hTT.out.later hG)).mono ?_; rintro e w3 ⟨rfl, hb⟩; replace hG : Below w.heap.size w w3 := Grew.trans (by (repeat (first | assumption | exact Grew.refl _ | refine Grew.more ?_ _ | refine Grew.alloc ?_ _ | refine Grew.drewN ?_ _ | refine Grew.setRow ?_ _ _ (by omega) | refine Grew.setRow ?_ _ _ (by simp; omega) | refine Grew.setRow ?_ _ _ (by simp)))) hb; clear hb)
  go_wp2
  go_ret
  exact ⟨rfl, by (repeat (first | assumption | exact Grew.refl _ | refine Grew.more ?_ _ | refine Grew.alloc ?_ _ | refine Grew.drewN ?_ _ | refine Grew.setRow ?_ _ _ (by omega) | refine Grew.setRow ?_ _ _ (by simp; omega) | refine Grew.setRow ?_ _ _ (by simp)))⟩
set_option maxRecDepth 100000 in
set_option maxHeartbeats 4000000 in
theorem Awake9_any (hE : ExpandC) (w : World) (hT : Tabs w) :
    Calls Tryz.prog 19 #[] w fun e w' => e = .returned (.bool true) ∧ Below w.heap.size w w' := by
  have hG := Grew.refl w
  go_enter Tryz.func19, Tryz.ntmps19
  go_wp2_with fail
  (refine (awake9_any hE _ hT).mono ?_; rintro e w1 ⟨rfl, hb⟩; replace hG : Below w.heap.size w w1 := Grew.trans (by (repeat (first | assumption | exact Grew.refl _ | refine Grew.more ?_ _ | refine Grew.alloc ?_ _ | refine Grew.drewN ?_ _ | refine Grew.setRow ?_ _ _ (by omega) | refine Grew.setRow ?_ _ _ (by simp; omega) | refine Grew.setRow ?_ _ _ (by simp)))) hb; clear hb)
  go_wp2
  go_ret
  exact ⟨rfl, by (repeat (first | assumption | exact Grew.refl _ | refine Grew.more ?_ _ | refine Grew.alloc ?_ _ | refine Grew.drewN ?_ _ | refine Grew.setRow ?_ _ _ (by omega) | refine Grew.setRow ?_ _ _ (by simp; omega) | refine Grew.setRow ?_ _ _ (by simp)))⟩
end Go.Proofs.YtomoccbljclhlaaGreatDoor
