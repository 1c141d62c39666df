/- Texts one behind the other: Write, New, Len; sha.Sum. -/
import Derived.Test.YtdihaffopfbnnaaDoorSi
namespace Go.Proofs.YtdihaffopfbnnaaDoor
open Go.RowKit
set_option linter.unusedVariables false
set_option linter.unusedSimpArgs false

/-- n texts, from an address on, in every later world -/
def StrsAt (w : World) (oa : Option Addr) (n : Nat) (F : Nat → ByteArray) : Prop :=
  n = 0 ∨ ∃ ad : Addr, oa = some ad ∧ ∀ w', Below w.heap.size w w' → ∀ j, j < n → w'.cell? (ad.add j) = some (.string (F j))
theorem StrsAt.later {w w' : World} {oa : Option Addr} {n : Nat} {F : Nat → ByteArray} (h : StrsAt w oa n F) (hb : Below w.heap.size w w') : StrsAt w' oa n F := by
  rcases h with h | ⟨ad, ho, hl⟩
  · exact .inl h
  · exact .inr ⟨ad, ho, fun w'' hb' => hl w'' (Grew.trans hb hb')⟩
/-- the first of them, one behind the other -/
def catS (F : Nat → ByteArray) : Nat → ByteArray
  | 0 => ByteArray.empty
  | k + 1 => catS F k ++ F k
theorem cat_le (F : Nat → ByteArray) (k : Nat) : ∀ n, k ≤ n → (catS F k).size ≤ (catS F n).size
  | 0, h => by obtain rfl : k = 0 := by omega
               exact Nat.le_refl _
  | n + 1, h => by
    rcases (by omega : k = n + 1 ∨ k ≤ n) with rfl | h'
    · exact Nat.le_refl _
    · have := cat_le F k n h'
      show _ ≤ (catS F n ++ F n).size
      rw [ByteArray.size_append]; omega
theorem cat_at (F : Nat → ByteArray) (k i : Nat) (hi : i < (F k).size) : ∀ n, k < n → byteAt (catS F n) ((catS F k).size + i) = byteAt (F k) i
  | 0, h => absurd h (Nat.not_lt_zero _)
  | n + 1, h => by
    show byteAt (catS F n ++ F n) _ = _
    rcases (by omega : k = n ∨ k < n) with rfl | h'
    · exact byteAt_right _ _ _ hi
    · have h2 : (catS F (k + 1)).size ≤ (catS F n).size := cat_le F (k + 1) n h'
      have h3 : (catS F (k + 1)).size = (catS F k).size + (F k).size := ByteArray.size_append
      rw [byteAt_left _ _ _ (by omega)]
      exact cat_at F k i hi n h'
theorem sha_new (w : World) : Calls Tryd.prog 12 #[] w fun e w' => e = .returned (.agg (hashT (byteAt ByteArray.empty) 0)) ∧ Below w.heap.size w w' := by
  go_enter Tryd.func12, Tryd.ntmps12
  go_wp2
  refine ret_row rfl _ 32 _ (0, 0) _ rfl (objAt_alloc_at _ _ _ rfl) Tryd.underlying32 rfl (by rw [hashC_size]; kernel_rfl) rfl ⟨?_, by (repeat (first | assumption | exact Grew.refl _ | refine Grew.more ?_ _ | refine Grew.alloc ?_ _ | refine Grew.drewN ?_ _ | refine Grew.setRow ?_ _ _ (by omega) | refine Grew.setRow ?_ _ _ (by simp; omega) | refine Grew.setRow ?_ _ _ (by simp)))⟩
  rfl
theorem sha_len (s : ByteArray) (w : World) : Calls Tryd.prog 14 #[.agg (hashT (byteAt s) s.size)] w fun e w' => e = .returned (.int .u64 s.size) ∧ Below w.heap.size w w' := by
  unfold hashT
  go_enter Tryd.func14, Tryd.ntmps14
  go_wp2
  go_ret
  exact ⟨rfl, by (repeat (first | assumption | exact Grew.refl _ | refine Grew.more ?_ _ | refine Grew.alloc ?_ _ | refine Grew.drewN ?_ _ | refine Grew.setRow ?_ _ _ (by omega) | refine Grew.setRow ?_ _ _ (by simp; omega) | refine Grew.setRow ?_ _ _ (by simp)))⟩
set_option maxRecDepth 100000 in
set_option maxHeartbeats 4000000 in
theorem write_any (s : ByteArray) (oa : Option Addr) (n c : Nat) (F : Nat → ByteArray) (w : World) (hl : s.size + (catS F n).size < 1152921504606846976) (hn : n ≤ 9223372036854775807) (hS : StrsAt w oa n F) (hT : Tabs w) :
    Calls Tryd.prog 13 #[.agg (hashT (byteAt s) s.size), .slice oa n c] w fun e w' => e = .returned (.agg (hashT (byteAt (s ++ catS F n)) (s ++ catS F n).size)) ∧ Below w.heap.size w w' := by
  have e0 : hashT (byteAt s) s.size = hashT (byteAt (s ++ catS F n)) s.size := hashT_congr _ fun i hi => (byteAt_left s _ i hi).symm
  rw [e0]
  clear e0
  have hw : Hid (∀ k, k < n → ∀ W : World, Tabs W → Calls Tryd.prog 29 #[.agg (hashT (byteAt (s ++ catS F n)) (s.size + (catS F k).size)), .string (F k)] W fun e w' => e = .returned (.agg (hashT (byteAt (s ++ catS F n)) (s.size + (catS F (k + 1)).size))) ∧ Below W.heap.size W w') := fun k hk W hW => by
    have h1 := cat_le F (k + 1) n hk
    have h3 : (catS F (k + 1)).size = (catS F k).size + (F k).size := ByteArray.size_append
    have := with_any (byteAt (s ++ catS F n)) (s.size + (catS F k).size) (F k) W (by omega) (fun i _ => byteAt_bd _ i) (fun i hi => by
      rw [Nat.add_assoc, byteAt_right _ _ _ (by omega), cat_at F k i hi n hk]) hW
    rw [Nat.add_assoc, ← h3] at this
    exact this
  have hl0 : (s ++ catS F n).size = s.size + (catS F n).size := ByteArray.size_append
  rw [hl0]
  clear hl hl0
  generalize byteAt (s ++ catS F n) = T at *
  have hST : Hid (StrsAt w oa n F) := hS
  have hTT : Hid (Tabs w) := hT
  clear hS hT
  have hG := Grew.refl w
  have fh : True := trivial
  have fr : True := trivial
  go_enter Tryd.func13, Tryd.ntmps13
  go_wp2_with fail
  replace fh : objAt ((w.alloc (.cells (hashT T (s.size)) 32)).alloc (.cells (hashC (nought) (nought) (0)) 32)) (w.heap.size) = some (.cells (hashT T (s.size)) 32) := by (repeat (first | assumption | exact objAt_alloc_at _ _ _ rfl | (refine objAt_alloc_at _ _ _ ?_; (simp; done)) | refine keep_alloc _ ?_ | refine keep_drewN _ ?_ | refine keep_more _ ?_ | exact keep_row _ (by assumption) | apply keep_row | refine keep_setRow _ _ ?_ (by first | omega | (simp; omega) | simp)))
  replace fr : objAt ((w.alloc (.cells (hashT T (s.size)) 32)).alloc (.cells (hashC (nought) (nought) (0)) 32)) (w.heap.size + 1) = some (.cells (hashC (nought) (nought) (0)) 32) := by (repeat (first | assumption | exact objAt_alloc_at _ _ _ rfl | (refine objAt_alloc_at _ _ _ ?_; (simp; done)) | refine keep_alloc _ ?_ | refine keep_drewN _ ?_ | refine keep_more _ ?_ | exact keep_row _ (by assumption) | apply keep_row | refine keep_setRow _ _ ?_ (by first | omega | (simp; omega) | simp)))
  replace hG : Below w.heap.size w ((w.alloc (.cells (hashT T (s.size)) 32)).alloc (.cells (hashC (nought) (nought) (0)) 32)) := by (repeat (first | assumption | exact Grew.refl _ | refine Grew.more ?_ _ | refine Grew.alloc ?_ _ | refine Grew.drewN ?_ _ | refine Grew.setRow ?_ _ _ (by omega) | refine Grew.setRow ?_ _ _ (by simp; omega) | refine Grew.setRow ?_ _ _ (by simp)))
  generalize (w.alloc (.cells (hashT T (s.size)) 32)).alloc (.cells (hashC (nought) (nought) (0)) 32) = w1 at *
  have lfh := lt_of_objAt fh
  have lfr := lt_of_objAt fr
  go_wp2_with fail
  go_loopw [9] (fun i wr => ∃ k : Nat, k ≤ n ∧ i = .int .i64 k ∧ Below w.heap.size w wr ∧ objAt wr (w.heap.size) = some (.cells (hashT T (s.size + (catS F k).size)) 32) ∧ objAt wr (w.heap.size + 1) = some (.cells (hashC (nought) (nought) (0)) 32)) (fun i _ => n - (intOf i).toNat)
  case atStart => exact ⟨0, by omega, rfl, hG, fh, fr⟩
  case round =>
    clear fh lfh fr lfr hG
    obtain ⟨k, hk, rfl, hG, fh, fr⟩ := hrel
    have lfh := lt_of_objAt fh
    have lfr := lt_of_objAt fr
    by_cases hlt : k < n
    · obtain ⟨ad, rfl, hcells⟩ : ∃ ad : Addr, oa = some ad ∧ ∀ w', Below w.heap.size w w' → ∀ j, j < n → w'.cell? (ad.add j) = some (.string (F j)) := by
        rcases hST.out with h | h
        · omega
        · exact h
      have hcell := hcells wr hG k hlt
      have hw2 := hw.out k hlt wr (hTT.out.later hG)
      clear hcells
      go_wp2_with fail
      (refine (hw2).mono ?_; rintro e w2 ⟨rfl, hb⟩; replace fh : objAt w2 (w.heap.size) = some (.cells (hashT T (s.size + (catS F k).size)) 32) := keep_below hb (by (repeat (first | assumption | exact objAt_alloc_at _ _ _ rfl | (refine objAt_alloc_at _ _ _ ?_; (simp; done)) | refine keep_alloc _ ?_ | refine keep_drewN _ ?_ | refine keep_more _ ?_ | exact keep_row _ (by assumption) | apply keep_row | refine keep_setRow _ _ ?_ (by first | omega | (simp; omega) | simp)))); have lfh := lt_of_objAt fh; replace fr : objAt w2 (w.heap.size + 1) = some (.cells (hashC (nought) (nought) (0)) 32) := keep_below hb (by (repeat (first | assumption | exact objAt_alloc_at _ _ _ rfl | (refine objAt_alloc_at _ _ _ ?_; (simp; done)) | refine keep_alloc _ ?_ | refine keep_drewN _ ?_ | refine keep_more _ ?_ | exact keep_row _ (by assumption) | apply keep_row | refine keep_setRow _ _ ?_ (by first | omega | (simp; omega) | simp)))); have lfr := lt_of_objAt fr; replace hG : Below w.heap.size w w2 := Grew.trans (by (repeat (first | assumption | exact Grew.refl _ | refine Grew.more ?_ _ | refine Grew.alloc ?_ _ | refine Grew.drewN ?_ _ | refine Grew.setRow ?_ _ _ (by omega) | refine Grew.setRow ?_ _ _ (by simp; omega) | refine Grew.setRow ?_ _ _ (by simp)))) hb; clear hb)
      go_wp2
      go_roundw
      case rel => exact ⟨k + 1, by omega, by go_num, by (repeat (first | assumption | exact Grew.refl _ | refine Grew.more ?_ _ | refine Grew.alloc ?_ _ | refine Grew.drewN ?_ _ | refine Grew.setRow ?_ _ _ (by omega) | refine Grew.setRow ?_ _ _ (by simp; omega) | refine Grew.setRow ?_ _ _ (by simp))), by (repeat (first | assumption | exact objAt_alloc_at _ _ _ rfl | (refine objAt_alloc_at _ _ _ ?_; (simp; done)) | refine keep_alloc _ ?_ | refine keep_drewN _ ?_ | refine keep_more _ ?_ | exact keep_row _ (by assumption) | apply keep_row | refine keep_setRow _ _ ?_ (by first | omega | (simp; omega) | simp))), by (repeat (first | assumption | exact objAt_alloc_at _ _ _ rfl | (refine objAt_alloc_at _ _ _ ?_; (simp; done)) | refine keep_alloc _ ?_ | refine keep_drewN _ ?_ | refine keep_more _ ?_ | exact keep_row _ (by assumption) | apply keep_row | refine keep_setRow _ _ ?_ (by first | omega | (simp; omega) | simp)))⟩
      case measure => simp [intOf]; omega
    · obtain rfl : k = n := by omega
      clear hlt
      go_wp2
      refine ret_row rfl _ 32 _ (0, 0) _ rfl (keep_row _ fr) Tryd.underlying32 rfl (by rw [hashT_size]; kernel_rfl) rfl ⟨rfl, by (repeat (first | assumption | exact Grew.refl _ | refine Grew.more ?_ _ | refine Grew.alloc ?_ _ | refine Grew.drewN ?_ _ | refine Grew.setRow ?_ _ _ (by omega) | refine Grew.setRow ?_ _ _ (by simp; omega) | refine Grew.setRow ?_ _ _ (by simp)))⟩
set_option maxRecDepth 100000 in
set_option maxHeartbeats 4000000 in
theorem sumS_any (oa : Option Addr) (n c : Nat) (F : Nat → ByteArray) (w : World) (hl : (catS F n).size < 1152921504606846976) (hn : n ≤ 9223372036854775807) (hS : StrsAt w oa n F) (hT : Tabs w) :
    Calls Tryd.prog 10 #[.slice oa n c] w fun e w' => e = .returned (.agg (ints .u8 32 (shaF (catS F n)))) ∧ Below w.heap.size w w' := by
  have hw : Hid (∀ W : World, Below w.heap.size w W → Calls Tryd.prog 13 #[.agg (hashT (byteAt ByteArray.empty) 0), .slice oa n c] W fun e w' => e = .returned (.agg (hashT (byteAt (catS F n)) (catS F n).size)) ∧ Below W.heap.size W w') := fun W hW => by
    have := write_any ByteArray.empty oa n c F W (by show 0 + _ < _; omega) hn (hS.later hW) (hT.later hW)
    rw [ByteArray.empty_append] at this
    exact this
  have hs : Hid (∀ W : World, Below w.heap.size w W → Calls Tryd.prog 16 #[.agg (hashT (byteAt (catS F n)) (catS F n).size)] W fun e w' => e = .returned (.agg (ints .u8 32 (shaF (catS F n)))) ∧ Below W.heap.size W w') := fun W hW => sumH_any (catS F n) W hl (hT.later hW)
  clear hS hT hl
  have hG := Grew.refl w
  have fr : True := trivial
  go_enter Tryd.func10, Tryd.ntmps10
  go_wp2_with fail
  replace fr : objAt (w.alloc (.cells (ints .u8 32 (nought)) 24)) (w.heap.size) = some (.cells (ints .u8 32 (nought)) 24) := by (repeat (first | assumption | exact objAt_alloc_at _ _ _ rfl | (refine objAt_alloc_at _ _ _ ?_; (simp; done)) | refine keep_alloc _ ?_ | refine keep_drewN _ ?_ | refine keep_more _ ?_ | exact keep_row _ (by assumption) | apply keep_row | refine keep_setRow _ _ ?_ (by first | omega | (simp; omega) | simp)))
  replace hG : Below w.heap.size w (w.alloc (.cells (ints .u8 32 (nought)) 24)) := by (repeat (first | assumption | exact Grew.refl _ | refine Grew.more ?_ _ | refine Grew.alloc ?_ _ | refine Grew.drewN ?_ _ | refine Grew.setRow ?_ _ _ (by omega) | refine Grew.setRow ?_ _ _ (by simp; omega) | refine Grew.setRow ?_ _ _ (by simp)))
  generalize w.alloc (.cells (ints .u8 32 (nought)) 24) = w1 at *
  have lfr := lt_of_objAt fr
  go_wp2_with fail
  (refine (sha_new _).mono ?_; rintro e w2 ⟨rfl, hb⟩; replace fr : objAt w2 (w.heap.size) = some (.cells (ints .u8 32 (nought)) 24) := keep_below hb (by (repeat (first | assumption | exact objAt_alloc_at _ _ _ rfl | (refine objAt_alloc_at _ _ _ ?_; (simp; done)) | refine keep_alloc _ ?_ | refine keep_drewN _ ?_ | refine keep_more _ ?_ | exact keep_row _ (by assumption) | apply keep_row | refine keep_setRow _ _ ?_ (by first | omega | (simp; omega) | simp)))); have lfr := lt_of_objAt fr; replace hG : Below w.heap.size w w2 := Grew.trans (by (repeat (first | assumption | exact Grew.refl _ | refine Grew.more ?_ _ | refine Grew.alloc ?_ _ | refine Grew.drewN ?_ _ | refine Grew.setRow ?_ _ _ (by omega) | refine Grew.setRow ?_ _ _ (by simp; omega) | refine Grew.setRow ?_ _ _ (by simp)))) hb; clear hb)
  go_wp2_with fail
  (refine (hw.out _ hG).mono ?_; rintro e w3 ⟨rfl, hb⟩; replace fr : objAt w3 (w.heap.size) = some (.cells (ints .u8 32 (nought)) 24) := keep_below hb (by (repeat (first | assumption | exact objAt_alloc_at _ _ _ rfl | (refine objAt_alloc_at _ _ _ ?_; (simp; done)) | refine keep_alloc _ ?_ | refine keep_drewN _ ?_ | refine keep_more _ ?_ | exact keep_row _ (by assumption) | apply keep_row | refine keep_setRow _ _ ?_ (by first | omega | (simp; omega) | simp)))); have lfr := lt_of_objAt fr; replace hG : Below w.heap.size w w3 := Grew.trans (by (repeat (first | assumption | exact Grew.refl _ | refine Grew.more ?_ _ | refine Grew.alloc ?_ _ | refine Grew.drewN ?_ _ | refine Grew.setRow ?_ _ _ (by omega) | refine Grew.setRow ?_ _ _ (by simp; omega) | refine Grew.setRow ?_ _ _ (by simp)))) hb; clear hb)
  go_wp2_with fail
  (refine (hs.out _ hG).mono ?_; rintro e w4 ⟨rfl, hb⟩; replace fr : objAt w4 (w.heap.size) = some (.cells (ints .u8 32 (nought)) 24) := keep_below hb (by (repeat (first | assumption | exact objAt_alloc_at _ _ _ rfl | (refine objAt_alloc_at _ _ _ ?_; (simp; done)) | refine keep_alloc _ ?_ | refine keep_drewN _ ?_ | refine keep_more _ ?_ | exact keep_row _ (by assumption) | apply keep_row | refine keep_setRow _ _ ?_ (by first | omega | (simp; omega) | simp)))); have lfr := lt_of_objAt fr; replace hG : Below w.heap.size w w4 := Grew.trans (by (repeat (first | assumption | exact Grew.refl _ | refine Grew.more ?_ _ | refine Grew.alloc ?_ _ | refine Grew.drewN ?_ _ | refine Grew.setRow ?_ _ _ (by omega) | refine Grew.setRow ?_ _ _ (by simp; omega) | refine Grew.setRow ?_ _ _ (by simp)))) hb; clear hb)
  go_wp2
  refine ret_row rfl _ 24 _ (0, 0) _ rfl (keep_row _ fr) Tryd.underlying24 rfl (by rw [ints_size]; kernel_rfl) rfl ⟨rfl, by (repeat (first | assumption | exact Grew.refl _ | refine Grew.more ?_ _ | refine Grew.alloc ?_ _ | refine Grew.drewN ?_ _ | refine Grew.setRow ?_ _ _ (by omega) | refine Grew.setRow ?_ _ _ (by simp; omega) | refine Grew.setRow ?_ _ _ (by simp)))⟩
end Go.Proofs.YtdihaffopfbnnaaDoor
