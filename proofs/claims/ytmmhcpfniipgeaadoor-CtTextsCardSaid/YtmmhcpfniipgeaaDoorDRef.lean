/- What the reference's Parse answers. -/
import Derived.Test.YtmmhcpfniipgeaaDoorDMem
namespace Go.Proofs.YtmmhcpfniipgeaaDoor
open Go.RowKit
set_option linter.unusedVariables false
set_option linter.unusedSimpArgs false
theorem value_yes (c : Int) (w : World) (h0 : 0 ≤ c) (h1 : c ≤ 255) (h : dgt c = true) :
    Calls Tryd.prog 19 #[.int .u8 c] w fun e w' => e = .returned (.int .i64 (wth c)) ∧ Below w.heap.size w w' := by
  have := value_any c w h0 h1
  rwa [show valD c = wth c from if_pos h] at this
theorem value_not (c : Int) (w : World) (h0 : 0 ≤ c) (h1 : c ≤ 255) (h : dgt c = false) :
    Calls Tryd.prog 19 #[.int .u8 c] w fun e w' => e = .returned (.int .i64 (-1)) ∧ Below w.heap.size w w' := by
  have := value_any c w h0 h1
  rwa [show valD c = -1 by unfold valD; rw [h]; rfl] at this
theorem wth_neg (c : Int) : decide (wth c < 0) = false := decide_eq_false (by have := wth_bd c; omega)
theorem join_mod (h l : Int) (h0 : 0 ≤ h ∧ h < 16) (l0 : 0 ≤ l ∧ l < 16) : wrap64 (wrap64 (16 * h) + l) % 256 = 16 * h + l := by unfold wrap64; omega
attribute [local irreducible] byteAt wth dgt okAt okD keyF keyD
structure RInv (s : ByteArray) (w : World) (k : Nat) (wr : World) : Prop where
  d : Dgs s k
  g : Below w.heap.size w wr
  fr : objAt wr w.heap.size = some (.cells (ints .u8 32 nought) 22)
  fk : objAt wr (w.heap.size + 1) = some (.cells (ints .u8 32 (part' (keyF s) k)) 22)
set_option maxHeartbeats 1000000 in
theorem refParse_any (s : ByteArray) (w : World) :
    Calls Tryd.prog 8 #[.string s] w fun e w' => e = .returned (.tuple #[.agg (ints .u8 32 (keyD s)), .bool (okD s)]) ∧ Below w.heap.size w w' := by
  have hG := Grew.refl w
  by_cases hs : s.size = 64
  · have Hs : Hid (s.size = 64) := hs
    have hz : ((s.size : Int) != 64) = false := by simp; omega
    have hz2 : ((s.size : Int) = 64) := by omega
    clear hs
    go_enter Tryd.func8, Tryd.ntmps8
    go_wp2
    go_loopw [5] (fun i wr => ∃ k : Nat, k ≤ 32 ∧ i = .int .i64 k ∧ RInv s w k wr) (fun i _ => 32 - (intOf i).toNat)
    case atStart => exact ⟨0, by omega, rfl, ⟨dgs_zero s, by (repeat (first | assumption | exact Grew.refl _ | refine Grew.more ?_ _ | refine Grew.alloc ?_ _ | refine Grew.drewN ?_ _ | refine Grew.setRow ?_ _ _ (by omega) | refine Grew.setRow ?_ _ _ (by simp; omega) | refine Grew.setRow ?_ _ _ (by simp))), by (repeat (first | assumption | exact objAt_alloc_at _ _ _ rfl | (refine objAt_alloc_at _ _ _ ?_; (simp; done)) | refine keep_alloc _ ?_ | refine keep_drewN _ ?_ | refine keep_more _ ?_ | exact keep_row _ (by assumption) | refine keep_setRow _ _ ?_ (by first | omega | (simp; omega) | simp))), by rw [part_zero]; (repeat (first | assumption | exact objAt_alloc_at _ _ _ rfl | (refine objAt_alloc_at _ _ _ ?_; (simp; done)) | refine keep_alloc _ ?_ | refine keep_drewN _ ?_ | refine keep_more _ ?_ | exact keep_row _ (by assumption) | refine keep_setRow _ _ ?_ (by first | omega | (simp; omega) | simp)))⟩⟩
    case round =>
      clear hG
      obtain ⟨k, hk, rfl, D, hG, fr, fk⟩ := hrel
      have lfr := lt_of_objAt fr
      have lfk := lt_of_objAt fk
      by_cases hlt : k < 32
      · have n1 : (2 * (k : Int)).toNat = 2 * k := by omega
        have n2 : (2 * (k : Int) + 1).toNat = 2 * k + 1 := by omega
        have n3 : 2 * (k : Int) < s.size := by omega
        have n4 : 2 * (k : Int) + 1 < s.size := by omega
        obtain ⟨p0, p1⟩ := byteAt_bd s (2 * k)
        obtain ⟨q0, q1⟩ := byteAt_bd s (2 * k + 1)
        by_cases e1 : dgt (byteAt s (2 * k)) = true
        · have b1 := wth_neg (byteAt s (2 * k))
          have v1 := fun w => value_yes _ w p0 p1 e1
          by_cases e2 : dgt (byteAt s (2 * k + 1)) = true
          · have b2 := wth_neg (byteAt s (2 * k + 1))
            have v2 := fun w => value_yes _ w q0 q1 e2
            go_wp2_with fail
            ((first | (with_reducible refine wp_region_on (by kernel_rfl) (by kernel_rfl) ?_) | refine wp_region_more (by kernel_rfl) (by kernel_rfl) ?_); (repeat (first | go_big_quiet_skip | (go_big_quiet_want; go_big_quiet_op; first | go_big_quiet_on | (apply Exists.intro; refine ⟨fun _ => ?_, ?_⟩; (focus (first | (with_reducible exact Calls.of_more (v1 _)) | (with_reducible exact Calls.of_more (v2 _)))); go_big_quiet_on)))); refine wpQuiet_nil ?_; rintro _ ⟨mq, rfl⟩)
            go_wp2
            go_roundw
            case rel => exact ⟨k + 1, by omega, by go_num, ⟨dgs_succ D e1 e2, by (repeat (first | assumption | exact Grew.refl _ | refine Grew.more ?_ _ | refine Grew.alloc ?_ _ | refine Grew.drewN ?_ _ | refine Grew.setRow ?_ _ _ (by omega) | refine Grew.setRow ?_ _ _ (by simp; omega) | refine Grew.setRow ?_ _ _ (by simp))), by (repeat (first | assumption | exact objAt_alloc_at _ _ _ rfl | (refine objAt_alloc_at _ _ _ ?_; (simp; done)) | refine keep_alloc _ ?_ | refine keep_drewN _ ?_ | refine keep_more _ ?_ | exact keep_row _ (by assumption) | refine keep_setRow _ _ ?_ (by first | omega | (simp; omega) | simp))), by rw [← part_succ, keyF_at, ← join_mod _ _ (wth_bd _) (wth_bd _)]; (repeat (first | assumption | exact objAt_alloc_at _ _ _ rfl | (refine objAt_alloc_at _ _ _ ?_; (simp; done)) | refine keep_alloc _ ?_ | refine keep_drewN _ ?_ | refine keep_more _ ?_ | exact keep_row _ (by assumption) | refine keep_setRow _ _ ?_ (by first | omega | (simp; omega) | simp)))⟩⟩
            case measure => simp [intOf]; omega
          · have f2 : dgt (byteAt s (2 * k + 1)) = false := by simpa using e2
            have v2 := fun w => value_not _ w q0 q1 f2
            go_wp2_with fail
            ((first | (with_reducible refine wp_region_on (by kernel_rfl) (by kernel_rfl) ?_) | refine wp_region_more (by kernel_rfl) (by kernel_rfl) ?_); (repeat (first | go_big_quiet_skip | (go_big_quiet_want; go_big_quiet_op; first | go_big_quiet_on | (apply Exists.intro; refine ⟨fun _ => ?_, ?_⟩; (focus (first | (with_reducible exact Calls.of_more (v1 _)) | (with_reducible exact Calls.of_more (v2 _)))); go_big_quiet_on)))); refine wpQuiet_nil ?_; rintro _ ⟨mq, rfl⟩)
            go_wp2
            rw [ok_not k hlt (okAt_r f2), key_not (ok_not k hlt (okAt_r f2))]
            refine ret_row_tmp rfl w.heap.size 22 _ (0, 0) _ _ rfl rfl (by (repeat (first | assumption | exact objAt_alloc_at _ _ _ rfl | (refine objAt_alloc_at _ _ _ ?_; (simp; done)) | refine keep_alloc _ ?_ | refine keep_drewN _ ?_ | refine keep_more _ ?_ | exact keep_row _ (by assumption) | refine keep_setRow _ _ ?_ (by first | omega | (simp; omega) | simp)))) Tryd.underlying22 rfl (by rw [ints_size]; kernel_rfl) rfl ⟨rfl, ?_⟩
            (repeat (first | assumption | exact Grew.refl _ | refine Grew.more ?_ _ | refine Grew.alloc ?_ _ | refine Grew.drewN ?_ _ | refine Grew.setRow ?_ _ _ (by omega) | refine Grew.setRow ?_ _ _ (by simp; omega) | refine Grew.setRow ?_ _ _ (by simp)))
        · have f1 : dgt (byteAt s (2 * k)) = false := by simpa using e1
          have v1 := fun w => value_not _ w p0 p1 f1
          have v2 := fun w => value_any _ w q0 q1
          go_wp2_with fail
          ((first | (with_reducible refine wp_region_on (by kernel_rfl) (by kernel_rfl) ?_) | refine wp_region_more (by kernel_rfl) (by kernel_rfl) ?_); (repeat (first | go_big_quiet_skip | (go_big_quiet_want; go_big_quiet_op; first | go_big_quiet_on | (apply Exists.intro; refine ⟨fun _ => ?_, ?_⟩; (focus (first | (with_reducible exact Calls.of_more (v1 _)) | (with_reducible exact Calls.of_more (v2 _)))); go_big_quiet_on)))); refine wpQuiet_nil ?_; rintro _ ⟨mq, rfl⟩)
          go_wp2
          rw [ok_not k hlt (okAt_l f1), key_not (ok_not k hlt (okAt_l f1))]
          refine ret_row_tmp rfl w.heap.size 22 _ (0, 0) _ _ rfl rfl (by (repeat (first | assumption | exact objAt_alloc_at _ _ _ rfl | (refine objAt_alloc_at _ _ _ ?_; (simp; done)) | refine keep_alloc _ ?_ | refine keep_drewN _ ?_ | refine keep_more _ ?_ | exact keep_row _ (by assumption) | refine keep_setRow _ _ ?_ (by first | omega | (simp; omega) | simp)))) Tryd.underlying22 rfl (by rw [ints_size]; kernel_rfl) rfl ⟨rfl, ?_⟩
          (repeat (first | assumption | exact Grew.refl _ | refine Grew.more ?_ _ | refine Grew.alloc ?_ _ | refine Grew.drewN ?_ _ | refine Grew.setRow ?_ _ _ (by omega) | refine Grew.setRow ?_ _ _ (by simp; omega) | refine Grew.setRow ?_ _ _ (by simp)))
      · obtain rfl : k = 32 := by omega
        have hok := ok_all Hs.out D
        go_wp2
        rw [hok, key_yes hok]
        rw [ints_part]
        refine ret_row_tmp rfl _ 22 _ (0, 0) _ _ rfl rfl (by (repeat (first | assumption | exact objAt_alloc_at _ _ _ rfl | (refine objAt_alloc_at _ _ _ ?_; (simp; done)) | refine keep_alloc _ ?_ | refine keep_drewN _ ?_ | refine keep_more _ ?_ | exact keep_row _ (by assumption) | refine keep_setRow _ _ ?_ (by first | omega | (simp; omega) | simp)))) Tryd.underlying22 rfl (by rw [ints_size]; kernel_rfl) rfl ⟨rfl, ?_⟩
        (repeat (first | assumption | exact Grew.refl _ | refine Grew.more ?_ _ | refine Grew.alloc ?_ _ | refine Grew.drewN ?_ _ | refine Grew.setRow ?_ _ _ (by omega) | refine Grew.setRow ?_ _ _ (by simp; omega) | refine Grew.setRow ?_ _ _ (by simp)))
  · have hz : ((s.size : Int) != 64) = true := by simp; omega
    go_enter Tryd.func8, Tryd.ntmps8
    go_wp2
    rw [ok_size hs, key_not (ok_size hs)]
    refine ret_row_tmp rfl w.heap.size 22 _ (0, 0) _ _ rfl rfl (by (repeat (first | assumption | exact objAt_alloc_at _ _ _ rfl | (refine objAt_alloc_at _ _ _ ?_; (simp; done)) | refine keep_alloc _ ?_ | refine keep_drewN _ ?_ | refine keep_more _ ?_ | exact keep_row _ (by assumption) | refine keep_setRow _ _ ?_ (by first | omega | (simp; omega) | simp)))) Tryd.underlying22 rfl (by rw [ints_size]; kernel_rfl) rfl ⟨rfl, ?_⟩
    (repeat (first | assumption | exact Grew.refl _ | refine Grew.more ?_ _ | refine Grew.alloc ?_ _ | refine Grew.drewN ?_ _ | refine Grew.setRow ?_ _ _ (by omega) | refine Grew.setRow ?_ _ _ (by simp; omega) | refine Grew.setRow ?_ _ _ (by simp)))
end Go.Proofs.YtmmhcpfniipgeaaDoor
