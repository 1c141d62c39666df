/- The example of layer 8; MacKeys. -/
import Derived.Test.YtdihaffopfbnnaaDoorMb
namespace Go.Proofs.YtdihaffopfbnnaaDoor
open Go.RowKit
set_option linter.unusedVariables false
set_option linter.unusedSimpArgs false

/-- the tag of no bytes by no key, as digits -/
theorem mac_none : ((List.range 64).map fun i => UInt8.ofNat (hexd (macF ByteArray.empty ByteArray.empty) i).toNat) = [98, 54, 49, 51, 54, 55, 57, 97, 48, 56, 49, 52, 100, 57, 101, 99, 55, 55, 50, 102, 57, 53, 100, 55, 55, 56, 99, 51, 53, 102, 99, 53, 102, 102, 49, 54, 57, 55, 99, 52, 57, 51, 55, 49, 53, 54, 53, 51, 99, 54, 99, 55, 49, 50, 49, 52, 52, 50, 57, 50, 99, 53, 97, 100] := by decide +kernel
theorem zeros_add (a b : Nat) : zerosB a ++ zerosB b = zerosB (a + b) := by
  apply ByteArray.ext
  apply Array.ext'
  rw [ByteArray.toList_data_append, zeros_list, zeros_list, zeros_list, List.replicate_append_replicate]
theorem shortB_of (k : ByteArray) (h : ¬ 64 < k.size) : shortB k = k := by unfold shortB; rw [if_neg h]
theorem blockB_long (k : ByteArray) (h : 64 < k.size) : blockB (strOf 32 (shaF k)) = blockB k := by
  have e1 : shortB k = strOf 32 (shaF k) := by unfold shortB; rw [if_pos h]
  have e2 : shortB (strOf 32 (shaF k)) = strOf 32 (shaF k) := shortB_of _ (by rw [strOf_size]; decide)
  rw [(blockB_eq k).out, (blockB_eq (strOf 32 (shaF k))).out, e1, e2]
theorem blockB_zeros (k : ByteArray) (m : Nat) (h : k.size + m ≤ 64) : blockB (k ++ zerosB m) = blockB k := by
  have e1 : shortB k = k := shortB_of k (by omega)
  have e2 : shortB (k ++ zerosB m) = k ++ zerosB m := shortB_of _ (by rw [ByteArray.size_append, zerosB_size]; omega)
  rw [(blockB_eq k).out, (blockB_eq (k ++ zerosB m)).out, e1, e2, ByteArray.append_assoc, zeros_add, ByteArray.size_append, zerosB_size]
  congr 2
  omega
theorem macF_block {k k' : ByteArray} (s : ByteArray) (h : blockB k = blockB k') : macF k s = macF k' s := by
  rw [(macF_eq k s).out, (macF_eq k' s).out, h]
attribute [local irreducible] strOf shaF zerosB padB fullB hashT
attribute [local irreducible] macF
theorem mac_one (key s : ByteArray) (g : Nat) (W : World) (hk : key.size < 1152921504606846976) (hs : s.size < 1152921504606840000) (h : StrsAt W (some ⟨g, 0, none⟩) 1 (oneS s)) (hT : Tabs W) :
    Calls Tryd.prog 20 #[.string key, .slice (some ⟨g, 0, none⟩) 1 1] W fun e w' => e = .returned (.agg (ints .u8 32 (macF key s))) ∧ Below W.heap.size W w' := by
  have := macS_any key (some ⟨g, 0, none⟩) 1 1 (oneS s) W hk (by rw [cat_one]; exact hs) (by decide) h hT
  rw [cat_one] at this
  exact this
set_option maxRecDepth 100000 in
set_option maxHeartbeats 4000000 in
theorem awake8_any (w : World) (hT : Tabs w) :
    Calls Tryd.prog 18 #[] w fun e w' => e = .returned (.bool true) ∧ Below w.heap.size w w' := by
  have h2 : ((strOf 64 (hexd (macF ByteArray.empty ByteArray.empty))).toList == [98, 54, 49, 51, 54, 55, 57, 97, 48, 56, 49, 52, 100, 57, 101, 99, 55, 55, 50, 102, 57, 53, 100, 55, 55, 56, 99, 51, 53, 102, 99, 53, 102, 102, 49, 54, 57, 55, 99, 52, 57, 51, 55, 49, 53, 54, 53, 51, 99, 54, 99, 55, 49, 50, 49, 52, 52, 50, 57, 50, 99, 53, 97, 100]) = true := by
    rw [strOf_list, mac_none]
    exact beq_self_eq_true _
  have hs : Hid (∀ W : World, Below w.heap.size w W → Calls Tryd.prog 20 #[.string ByteArray.empty, .slice none 0 0] W fun e w' => e = .returned (.agg (ints .u8 32 (macF ByteArray.empty ByteArray.empty))) ∧ Below W.heap.size W w') := fun W hW => macS_any ByteArray.empty none 0 0 (oneS ByteArray.empty) W (by decide) (by decide) (by decide) (strs_none _ _) (hT.later hW)
  have hb := mac_bytes ByteArray.empty ByteArray.empty
  generalize macF ByteArray.empty ByteArray.empty = F at *
  have hG := Grew.refl w
  go_enter Tryd.func18, Tryd.ntmps18
  go_wp2_with fail
  (refine (Awake7_any _ hT).mono ?_; rintro e w1 ⟨rfl, hb⟩; replace hG : Below w.heap.size w w1 := Grew.trans (by (repeat (first | assumption | exact Grew.refl _ | refine Grew.more ?_ _ | refine Grew.alloc ?_ _ | refine Grew.drewN ?_ _ | refine Grew.setRow ?_ _ _ (by omega) | refine Grew.setRow ?_ _ _ (by simp; omega) | refine Grew.setRow ?_ _ _ (by simp)))) hb; clear hb)
  go_wp2_with fail
  (refine (hs.out _ hG).mono ?_; rintro e w2 ⟨rfl, hb⟩; replace hG : Below w.heap.size w w2 := Grew.trans (by (repeat (first | assumption | exact Grew.refl _ | refine Grew.more ?_ _ | refine Grew.alloc ?_ _ | refine Grew.drewN ?_ _ | refine Grew.setRow ?_ _ _ (by omega) | refine Grew.setRow ?_ _ _ (by simp; omega) | refine Grew.setRow ?_ _ _ (by simp)))) hb; clear hb)
  go_wp2_with fail
  (refine (hex_any F _ hb).mono ?_; rintro e w3 ⟨rfl, hb⟩; replace hG : Below w.heap.size w w3 := Grew.trans (by (repeat (first | assumption | exact Grew.refl _ | refine Grew.more ?_ _ | refine Grew.alloc ?_ _ | refine Grew.drewN ?_ _ | refine Grew.setRow ?_ _ _ (by omega) | refine Grew.setRow ?_ _ _ (by simp; omega) | refine Grew.setRow ?_ _ _ (by simp)))) hb; clear hb)
  go_wp2
  go_ret
  exact ⟨rfl, by (repeat (first | assumption | exact Grew.refl _ | refine Grew.more ?_ _ | refine Grew.alloc ?_ _ | refine Grew.drewN ?_ _ | refine Grew.setRow ?_ _ _ (by omega) | refine Grew.setRow ?_ _ _ (by simp; omega) | refine Grew.setRow ?_ _ _ (by simp)))⟩
end Go.Proofs.YtdihaffopfbnnaaDoor
