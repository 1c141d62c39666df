/- The table of a block: sha.table. -/
import Derived.Test.YtdihaffopfbnnaaDoorSs
import Derived.Test.YtdihaffopfbnnaaDoorSm
namespace Go.Proofs.YtdihaffopfbnnaaDoor
open Go.RowKit
set_option linter.unusedVariables false
set_option linter.unusedSimpArgs false

set_option maxHeartbeats 1000000 in
theorem word_low (B W : Nat → Int) (t : Nat) (gb gw : Nat) (tb tw : TypeId) (w : World) (hB : Bytes 64 B) (ht : t < 16)
    (hb : objAt w gb = some (.cells (ints .u8 64 B) tb (0, 0))) (hw : objAt w gw = some (.cells (ints .u32 64 W) tw (0, 0))) :
    Calls Tryd.prog 63 #[.int .i64 t, .pointer (some ⟨gb, 0, none⟩), .pointer (some ⟨gw, 0, none⟩)] w fun e w' => e = .returned (.int .u32 (nextW B W t)) ∧ Below w.heap.size w w' := by
  have H : Hid (bits .or .u32 (bits .or .u32 (bits .or .u32 (B (4 * t) * 16777216) (B (4 * t + 1) * 65536)) (B (4 * t + 2) * 256)) (B (4 * t + 3)) = nextW B W t) := by
    have := wd_or B hB t ht
    unfold nextW; rw [if_pos ht]; exact this
  have h0 := hB (4 * t) (by omega); have h1 := hB (4 * t + 1) (by omega); have h2 := hB (4 * t + 2) (by omega); have h3 := hB (4 * t + 3) (by omega)
  have lb := lt_of_objAt hb
  have lw := lt_of_objAt hw
  have i0 : 4 * t < 64 := by omega
  have i1 : 4 * t + 1 < 64 := by omega
  have i2 : 4 * t + 2 < 64 := by omega
  have i3 : 4 * t + 3 < 64 := by omega
  clear hB
  go_enter Tryd.func63, Tryd.ntmps63
  go_wp2
  ((first | (with_reducible refine wp_region_on (by kernel_rfl) (by kernel_rfl) ?_) | refine wp_region_more (by kernel_rfl) (by kernel_rfl) ?_); (repeat (first | go_big_quiet_skip | (go_big_quiet_want; go_big_quiet_op; first | go_big_quiet_on | (apply Exists.intro; refine ⟨fun _ => ?_, ?_⟩; (focus (fail)); go_big_quiet_on)))); refine wpQuiet_nil ?_; rintro _ ⟨mq, rfl⟩)
  go_wp2
  go_ret
  rw [H.out]
  exact ⟨rfl, by (repeat (first | assumption | exact Grew.refl _ | refine Grew.more ?_ _ | refine Grew.alloc ?_ _ | refine Grew.drewN ?_ _ | refine Grew.setRow ?_ _ _ (by omega) | refine Grew.setRow ?_ _ _ (by simp; omega) | refine Grew.setRow ?_ _ _ (by simp)))⟩
theorem nextW_high (B W : Nat → Int) (u : Nat) : nextW B W (u + 16) = (sm1 (W (u + 14)) + W (u + 9) + sm0 (W (u + 1)) + W u) % 4294967296 := by
  unfold nextW
  rw [if_neg (by omega)]
  rfl
set_option maxHeartbeats 1000000 in
theorem word_high (B W : Nat → Int) (u : Nat) (gb gw : Nat) (tw : TypeId) (w : World) (hW : Words 64 W) (hl : u < 48)
    (hw : objAt w gw = some (.cells (ints .u32 64 W) tw (0, 0))) :
    Calls Tryd.prog 63 #[.int .i64 (u + 16 : Nat), .pointer (some ⟨gb, 0, none⟩), .pointer (some ⟨gw, 0, none⟩)] w fun e w' => e = .returned (.int .u32 (nextW B W (u + 16))) ∧ Below w.heap.size w w' := by
  have lw := lt_of_objAt hw
  have k2 := hW (u + 14) (by omega); have k15 := hW (u + 1) (by omega)
  have hlt : ¬ (((u + 16 : Nat) : Int) < 16) := by omega
  have hlt' : decide (((u + 16 : Nat) : Int) < 16) = false := by simp; omega
  have q2 := w32_sm1 k2; have q15 := w32_sm0 k15
  have k7 := hW (u + 9) (by omega); have k16 := hW u (by omega)
  obtain ⟨p2, r2⟩ := q2; obtain ⟨p15, r15⟩ := q15; obtain ⟨p7, r7⟩ := k7; obtain ⟨p16, r16⟩ := k16
  have H : Hid (nextW B W (u + 16) = (sm1 (W (u + 14)) + W (u + 9) + sm0 (W (u + 1)) + W u) % 4294967296) := nextW_high B W u
  have i2 : u + 14 < 64 := by omega
  have i7 : u + 9 < 64 := by omega
  have i15 : u + 1 < 64 := by omega
  have i16 : u < 64 := by omega
  clear hW
  go_enter Tryd.func63, Tryd.ntmps63
  go_wp2
  ((first | (with_reducible refine wp_region_on (by kernel_rfl) (by kernel_rfl) ?_) | refine wp_region_more (by kernel_rfl) (by kernel_rfl) ?_); (repeat (first | go_big_quiet_skip | (go_big_quiet_want; go_big_quiet_op; first | go_big_quiet_on | (apply Exists.intro; refine ⟨fun _ => ?_, ?_⟩; (focus (first | (with_reducible exact Calls.of_more (sm1_any (W (u + 14)) _ k2)) | (with_reducible exact Calls.of_more (sm0_any (W (u + 1)) _ k15)))); go_big_quiet_on)))); refine wpQuiet_nil ?_; rintro _ ⟨mq, rfl⟩)
  go_wp2
  go_ret
  rw [H.out]
  exact ⟨ret_u32 (by omega), by (repeat (first | assumption | exact Grew.refl _ | refine Grew.more ?_ _ | refine Grew.alloc ?_ _ | refine Grew.drewN ?_ _ | refine Grew.setRow ?_ _ _ (by omega) | refine Grew.setRow ?_ _ _ (by simp; omega) | refine Grew.setRow ?_ _ _ (by simp)))⟩
set_option maxHeartbeats 1000000 in
theorem table_any (B : Nat → Int) (w : World) (hB : Bytes 64 B) :
    Calls Tryd.prog 54 #[.agg (ints .u8 64 B)] w fun e w' => e = .returned (.agg (ints .u32 64 (sch B 64))) ∧ Below w.heap.size w w' := by
  have hG := Grew.refl w
  have fb : True := trivial
  have fr : True := trivial
  have fv : True := trivial
  go_enter Tryd.func54, Tryd.ntmps54
  go_wp2_with fail
  replace fb : objAt (((w.alloc (.cells (ints .u8 64 (B)) 30)).alloc (.cells (ints .u32 64 (nought)) 86)).alloc (.cells (ints .u32 64 (nought)) 86)) (w.heap.size) = some (.cells (ints .u8 64 (B)) 30) := by (repeat (first | assumption | exact objAt_alloc_at _ _ _ rfl | (refine objAt_alloc_at _ _ _ ?_; (simp; done)) | refine keep_alloc _ ?_ | refine keep_drewN _ ?_ | refine keep_more _ ?_ | exact keep_row _ (by assumption) | apply keep_row | refine keep_setRow _ _ ?_ (by first | omega | (simp; omega) | simp)))
  replace fr : objAt (((w.alloc (.cells (ints .u8 64 (B)) 30)).alloc (.cells (ints .u32 64 (nought)) 86)).alloc (.cells (ints .u32 64 (nought)) 86)) (w.heap.size + 1) = some (.cells (ints .u32 64 (nought)) 86) := by (repeat (first | assumption | exact objAt_alloc_at _ _ _ rfl | (refine objAt_alloc_at _ _ _ ?_; (simp; done)) | refine keep_alloc _ ?_ | refine keep_drewN _ ?_ | refine keep_more _ ?_ | exact keep_row _ (by assumption) | apply keep_row | refine keep_setRow _ _ ?_ (by first | omega | (simp; omega) | simp)))
  replace fv : objAt (((w.alloc (.cells (ints .u8 64 (B)) 30)).alloc (.cells (ints .u32 64 (nought)) 86)).alloc (.cells (ints .u32 64 (nought)) 86)) (w.heap.size + 1 + 1) = some (.cells (ints .u32 64 (nought)) 86) := by (repeat (first | assumption | exact objAt_alloc_at _ _ _ rfl | (refine objAt_alloc_at _ _ _ ?_; (simp; done)) | refine keep_alloc _ ?_ | refine keep_drewN _ ?_ | refine keep_more _ ?_ | exact keep_row _ (by assumption) | apply keep_row | refine keep_setRow _ _ ?_ (by first | omega | (simp; omega) | simp)))
  replace hG : Below w.heap.size w (((w.alloc (.cells (ints .u8 64 (B)) 30)).alloc (.cells (ints .u32 64 (nought)) 86)).alloc (.cells (ints .u32 64 (nought)) 86)) := by (repeat (first | assumption | exact Grew.refl _ | refine Grew.more ?_ _ | refine Grew.alloc ?_ _ | refine Grew.drewN ?_ _ | refine Grew.setRow ?_ _ _ (by omega) | refine Grew.setRow ?_ _ _ (by simp; omega) | refine Grew.setRow ?_ _ _ (by simp)))
  generalize ((w.alloc (.cells (ints .u8 64 (B)) 30)).alloc (.cells (ints .u32 64 (nought)) 86)).alloc (.cells (ints .u32 64 (nought)) 86) = w1 at *
  have lfb := lt_of_objAt fb
  have lfr := lt_of_objAt fr
  have lfv := lt_of_objAt fv
  go_wp2_with fail
  go_loopw [7] (fun i wr => ∃ k : Nat, k ≤ 64 ∧ i = .int .i64 k ∧ Below w.heap.size w wr ∧ objAt wr (w.heap.size) = some (.cells (ints .u8 64 (B)) 30) ∧ objAt wr (w.heap.size + 1) = some (.cells (ints .u32 64 (nought)) 86) ∧ objAt wr (w.heap.size + 1 + 1) = some (.cells (ints .u32 64 (sch B k)) 86)) (fun i _ => 64 - (intOf i).toNat)
  case atStart => exact ⟨0, by omega, rfl, hG, fb, fr, fv⟩
  case round =>
    clear fb fr fv hG lfb lfr lfv
    obtain ⟨k, hk, rfl, hG, fb, fr, fv⟩ := hrel
    have lfb := lt_of_objAt fb
    have lfr := lt_of_objAt fr
    have lfv := lt_of_objAt fv
    by_cases hlt : k < 64
    · have hs := sch_words B hB k
      have S : Hid (upd (sch B k) k (nextW B (sch B k) k) = sch B (k + 1)) := rfl
      by_cases h16 : k < 16
      · go_wp2_with fail
        (refine (word_low B (sch B k) k _ _ _ _ _ hB h16 fb fv).mono ?_; rintro e w2 ⟨rfl, hb⟩; replace fb : objAt w2 (w.heap.size) = some (.cells (ints .u8 64 (B)) 30) := keep_below hb (by (repeat (first | assumption | exact objAt_alloc_at _ _ _ rfl | (refine objAt_alloc_at _ _ _ ?_; (simp; done)) | refine keep_alloc _ ?_ | refine keep_drewN _ ?_ | refine keep_more _ ?_ | exact keep_row _ (by assumption) | apply keep_row | refine keep_setRow _ _ ?_ (by first | omega | (simp; omega) | simp)))); have lfb := lt_of_objAt fb; replace fr : objAt w2 (w.heap.size + 1) = some (.cells (ints .u32 64 (nought)) 86) := keep_below hb (by (repeat (first | assumption | exact objAt_alloc_at _ _ _ rfl | (refine objAt_alloc_at _ _ _ ?_; (simp; done)) | refine keep_alloc _ ?_ | refine keep_drewN _ ?_ | refine keep_more _ ?_ | exact keep_row _ (by assumption) | apply keep_row | refine keep_setRow _ _ ?_ (by first | omega | (simp; omega) | simp)))); have lfr := lt_of_objAt fr; replace fv : objAt w2 (w.heap.size + 1 + 1) = some (.cells (ints .u32 64 (sch B k)) 86) := keep_below hb (by (repeat (first | assumption | exact objAt_alloc_at _ _ _ rfl | (refine objAt_alloc_at _ _ _ ?_; (simp; done)) | refine keep_alloc _ ?_ | refine keep_drewN _ ?_ | refine keep_more _ ?_ | exact keep_row _ (by assumption) | apply keep_row | refine keep_setRow _ _ ?_ (by first | omega | (simp; omega) | simp)))); have lfv := lt_of_objAt fv; replace hG : Below w.heap.size w w2 := Grew.trans (by (repeat (first | assumption | exact Grew.refl _ | refine Grew.more ?_ _ | refine Grew.alloc ?_ _ | refine Grew.drewN ?_ _ | refine Grew.setRow ?_ _ _ (by omega) | refine Grew.setRow ?_ _ _ (by simp; omega) | refine Grew.setRow ?_ _ _ (by simp)))) hb; clear hb)
        generalize nextW B (sch B k) k = V at *
        go_wp2
        go_roundw
        case rel => exact ⟨k + 1, by omega, by go_num, by (repeat (first | assumption | exact Grew.refl _ | refine Grew.more ?_ _ | refine Grew.alloc ?_ _ | refine Grew.drewN ?_ _ | refine Grew.setRow ?_ _ _ (by omega) | refine Grew.setRow ?_ _ _ (by simp; omega) | refine Grew.setRow ?_ _ _ (by simp))), by (repeat (first | assumption | exact objAt_alloc_at _ _ _ rfl | (refine objAt_alloc_at _ _ _ ?_; (simp; done)) | refine keep_alloc _ ?_ | refine keep_drewN _ ?_ | refine keep_more _ ?_ | exact keep_row _ (by assumption) | apply keep_row | refine keep_setRow _ _ ?_ (by first | omega | (simp; omega) | simp))), by (repeat (first | assumption | exact objAt_alloc_at _ _ _ rfl | (refine objAt_alloc_at _ _ _ ?_; (simp; done)) | refine keep_alloc _ ?_ | refine keep_drewN _ ?_ | refine keep_more _ ?_ | exact keep_row _ (by assumption) | apply keep_row | refine keep_setRow _ _ ?_ (by first | omega | (simp; omega) | simp))), by rw [← S.out]; exact keep_row _ fv⟩
        case measure => simp [intOf]; omega
      · obtain ⟨u, rfl⟩ : ∃ u, k = u + 16 := ⟨k - 16, by omega⟩
        go_wp2_with fail
        (refine (word_high B (sch B (u + 16)) u _ _ _ _ (fun i _ => hs i) (by omega) fv).mono ?_; rintro e w2 ⟨rfl, hb⟩; replace fb : objAt w2 (w.heap.size) = some (.cells (ints .u8 64 (B)) 30) := keep_below hb (by (repeat (first | assumption | exact objAt_alloc_at _ _ _ rfl | (refine objAt_alloc_at _ _ _ ?_; (simp; done)) | refine keep_alloc _ ?_ | refine keep_drewN _ ?_ | refine keep_more _ ?_ | exact keep_row _ (by assumption) | apply keep_row | refine keep_setRow _ _ ?_ (by first | omega | (simp; omega) | simp)))); have lfb := lt_of_objAt fb; replace fr : objAt w2 (w.heap.size + 1) = some (.cells (ints .u32 64 (nought)) 86) := keep_below hb (by (repeat (first | assumption | exact objAt_alloc_at _ _ _ rfl | (refine objAt_alloc_at _ _ _ ?_; (simp; done)) | refine keep_alloc _ ?_ | refine keep_drewN _ ?_ | refine keep_more _ ?_ | exact keep_row _ (by assumption) | apply keep_row | refine keep_setRow _ _ ?_ (by first | omega | (simp; omega) | simp)))); have lfr := lt_of_objAt fr; replace fv : objAt w2 (w.heap.size + 1 + 1) = some (.cells (ints .u32 64 (sch B (u + 16))) 86) := keep_below hb (by (repeat (first | assumption | exact objAt_alloc_at _ _ _ rfl | (refine objAt_alloc_at _ _ _ ?_; (simp; done)) | refine keep_alloc _ ?_ | refine keep_drewN _ ?_ | refine keep_more _ ?_ | exact keep_row _ (by assumption) | apply keep_row | refine keep_setRow _ _ ?_ (by first | omega | (simp; omega) | simp)))); have lfv := lt_of_objAt fv; replace hG : Below w.heap.size w w2 := Grew.trans (by (repeat (first | assumption | exact Grew.refl _ | refine Grew.more ?_ _ | refine Grew.alloc ?_ _ | refine Grew.drewN ?_ _ | refine Grew.setRow ?_ _ _ (by omega) | refine Grew.setRow ?_ _ _ (by simp; omega) | refine Grew.setRow ?_ _ _ (by simp)))) hb; clear hb)
        generalize nextW B (sch B (u + 16)) (u + 16) = V at *
        have i1 : u + 16 < 64 := by omega
        go_wp2
        go_roundw
        case rel => exact ⟨u + 16 + 1, by omega, by go_num, by (repeat (first | assumption | exact Grew.refl _ | refine Grew.more ?_ _ | refine Grew.alloc ?_ _ | refine Grew.drewN ?_ _ | refine Grew.setRow ?_ _ _ (by omega) | refine Grew.setRow ?_ _ _ (by simp; omega) | refine Grew.setRow ?_ _ _ (by simp))), by (repeat (first | assumption | exact objAt_alloc_at _ _ _ rfl | (refine objAt_alloc_at _ _ _ ?_; (simp; done)) | refine keep_alloc _ ?_ | refine keep_drewN _ ?_ | refine keep_more _ ?_ | exact keep_row _ (by assumption) | apply keep_row | refine keep_setRow _ _ ?_ (by first | omega | (simp; omega) | simp))), by (repeat (first | assumption | exact objAt_alloc_at _ _ _ rfl | (refine objAt_alloc_at _ _ _ ?_; (simp; done)) | refine keep_alloc _ ?_ | refine keep_drewN _ ?_ | refine keep_more _ ?_ | exact keep_row _ (by assumption) | apply keep_row | refine keep_setRow _ _ ?_ (by first | omega | (simp; omega) | simp))), by rw [← S.out]; exact keep_row _ fv⟩
        case measure => simp [intOf]; omega
    · obtain rfl : k = 64 := by omega
      clear hlt
      go_wp2
      refine ret_row rfl _ 86 _ (0, 0) _ rfl (keep_row _ fr) Tryd.underlying86 rfl (by rw [ints_size]; kernel_rfl) rfl ⟨rfl, by (repeat (first | assumption | exact Grew.refl _ | refine Grew.more ?_ _ | refine Grew.alloc ?_ _ | refine Grew.drewN ?_ _ | refine Grew.setRow ?_ _ _ (by omega) | refine Grew.setRow ?_ _ _ (by simp; omega) | refine Grew.setRow ?_ _ _ (by simp)))⟩
end Go.Proofs.YtdihaffopfbnnaaDoor
