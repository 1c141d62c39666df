/- X25519, by the reference; DhMakes. -/
import Derived.Test.YtfapmpnkemogkaaDhNum
import Derived.Test.YtfapmpnkemogkaaRefTimes
namespace Go.Proofs.Ytfapmpnkemogkaa
open Go.RowKit
set_option linter.unusedVariables false
set_option linter.unusedSimpArgs false
open Edw (red tv)

theorem rclamp_cells (k : Nat → Int) (hk : Bytes 32 k) : ints .u8 32 (upd (upd k 0 (k 0 - k 0 % 8)) 31 ((((upd k 0 (k 0 - k 0 % 8)) 31).tmod 64 + 64) % 256)) = ints .u8 32 (clampF k) := ints_congr fun i hi => by
  have h31 := hk 31 (by decide)
  have e : (k 31).tmod 64 = k 31 % 64 := Int.tmod_eq_emod_of_nonneg h31.1
  unfold clampF
  by_cases h0 : i = 0
  · subst h0; simp [upd]; omega
  · by_cases h1 : i = 31
    · subst h1; simp [upd, e]; omega
    · simp [upd, h0, h1]
theorem rof_any (p : Nat → Int) (w : World) (hp : Bytes 32 p) : Calls Try.prog 38 #[.agg (ints .u8 32 (p))] w fun e w' => e = .returned (.agg (ints .i64 16 (numN (nv (ofF p))))) ∧ Below w.heap.size w w' := by
  have h := refOf_any p w hp
  rw [← of_val p hp] at h
  exact h
theorem bytes_key (v : Int) (hv : BD v) : ints .u8 32 (bytesN (numN v)) = ints .u8 32 (keyV v) := ints_congr fun i hi => (key_bytes v hv.1 (by have := hv.2; omega) i hi).symm
theorem rkey_any (v : Int) (w : World) (hv : BD v) : Calls Try.prog 42 #[.agg (ints .i64 16 (numN (v)))] w fun e w' => e = .returned (.agg (ints .u8 32 (keyV v))) ∧ Below w.heap.size w w' := by
  have h := refKey_any (numN v) w (numN_digits v)
  rwa [bytes_key v hv] at h
set_option maxRecDepth 100000 in
set_option maxHeartbeats 1000000 in
theorem rclamp_any (k : Nat → Int) (w : World) (hk : Bytes 32 k) :
    Calls Try.prog 76 #[.agg (ints .u8 32 (k))] w fun e w' => e = .returned (.agg (ints .u8 32 (clampF k))) ∧ Below w.heap.size w w' := by
  have hG := Grew.refl w
  go_enter Try.func76, Try.ntmps76
  have hk0 := hk 0 (by decide)
  have hk31 := hk 31 (by decide)
  have hm : 0 ≤ k 0 - k 0 % 8 ∧ k 0 - k 0 % 8 ≤ 255 := by omega
  have hm2 : 0 ≤ k 31 % 64 + 64 ∧ k 31 % 64 + 64 ≤ 255 := by omega
  go_wp2_with fail
  rw [rclamp_cells k hk]
  refine ret_row rfl _ 22 _ (0, 0) _ rfl (by simp [go_sem]) Try.underlying22 rfl (by rw [ints_size]; kernel_rfl) rfl ⟨rfl, by (repeat (first | assumption | exact Grew.refl _ | refine Grew.more ?_ _ | refine Grew.alloc ?_ _ | refine Grew.drewN ?_ _ | refine Grew.setRow ?_ _ _ (by omega) | refine Grew.setRow ?_ _ _ (by simp; omega) | refine Grew.setRow ?_ _ _ (by simp)))⟩
set_option maxRecDepth 100000 in
set_option maxHeartbeats 1000000 in
theorem rraw_walk (k p V : Nat → Int) (x y : Int) (w : World)
    (c1 : ∀ w : World, Calls Try.prog 38 #[.agg (ints .u8 32 (p))] w fun e w' => e = .returned (.agg (ints .i64 16 (numN (x)))) ∧ Below w.heap.size w w')
    (c2 : ∀ w : World, Calls Try.prog 67 #[.agg (ints .u8 32 (k)), .agg (ints .i64 16 (numN (x)))] w fun e w' => e = .returned (.agg (ints .i64 16 (numN (y)))) ∧ Below w.heap.size w w')
    (c3 : ∀ w : World, Calls Try.prog 42 #[.agg (ints .i64 16 (numN (y)))] w fun e w' => e = .returned (.agg (ints .u8 32 (V))) ∧ Below w.heap.size w w') :
    Calls Try.prog 78 #[.agg (ints .u8 32 (k)), .agg (ints .u8 32 (p))] w fun e w' => e = .returned (.agg (ints .u8 32 (V))) ∧ Below w.heap.size w w' := by
  have hG := Grew.refl w
  have fk : True := trivial
  have fp : True := trivial
  have fr : True := trivial
  go_enter Try.func78, Try.ntmps78
  go_wp2_with fail
  replace fk : objAt (((w.alloc (.cells (ints .u8 32 (k)) 22)).alloc (.cells (ints .u8 32 (p)) 22)).alloc (.cells (ints .u8 32 (nought)) 22)) (w.heap.size) = some (.cells (ints .u8 32 (k)) 22) := by (repeat (first | assumption | exact objAt_alloc_at _ _ _ rfl | (refine objAt_alloc_at _ _ _ ?_; (simp; done)) | refine keep_alloc _ ?_ | refine keep_drewN _ ?_ | refine keep_more _ ?_ | exact keep_row _ (by assumption) | refine keep_setRow _ _ ?_ (by first | omega | (simp; omega) | simp)))
  replace fp : objAt (((w.alloc (.cells (ints .u8 32 (k)) 22)).alloc (.cells (ints .u8 32 (p)) 22)).alloc (.cells (ints .u8 32 (nought)) 22)) (w.heap.size + 1) = some (.cells (ints .u8 32 (p)) 22) := by (repeat (first | assumption | exact objAt_alloc_at _ _ _ rfl | (refine objAt_alloc_at _ _ _ ?_; (simp; done)) | refine keep_alloc _ ?_ | refine keep_drewN _ ?_ | refine keep_more _ ?_ | exact keep_row _ (by assumption) | refine keep_setRow _ _ ?_ (by first | omega | (simp; omega) | simp)))
  replace fr : objAt (((w.alloc (.cells (ints .u8 32 (k)) 22)).alloc (.cells (ints .u8 32 (p)) 22)).alloc (.cells (ints .u8 32 (nought)) 22)) (w.heap.size + 1 + 1) = some (.cells (ints .u8 32 (nought)) 22) := by (repeat (first | assumption | exact objAt_alloc_at _ _ _ rfl | (refine objAt_alloc_at _ _ _ ?_; (simp; done)) | refine keep_alloc _ ?_ | refine keep_drewN _ ?_ | refine keep_more _ ?_ | exact keep_row _ (by assumption) | refine keep_setRow _ _ ?_ (by first | omega | (simp; omega) | simp)))
  replace hG : Below w.heap.size w (((w.alloc (.cells (ints .u8 32 (k)) 22)).alloc (.cells (ints .u8 32 (p)) 22)).alloc (.cells (ints .u8 32 (nought)) 22)) := by (repeat (first | assumption | exact Grew.refl _ | refine Grew.more ?_ _ | refine Grew.alloc ?_ _ | refine Grew.drewN ?_ _ | refine Grew.setRow ?_ _ _ (by omega) | refine Grew.setRow ?_ _ _ (by simp; omega) | refine Grew.setRow ?_ _ _ (by simp)))
  generalize ((w.alloc (.cells (ints .u8 32 (k)) 22)).alloc (.cells (ints .u8 32 (p)) 22)).alloc (.cells (ints .u8 32 (nought)) 22) = w1 at *
  have lfk := lt_of_objAt fk
  have lfp := lt_of_objAt fp
  have lfr := lt_of_objAt fr
  ((first | (with_reducible refine wp_region_tail_on 5 (by kernel_rfl) (by kernel_rfl) (by kernel_rfl) (by kernel_rfl) (by kernel_rfl) ?_) | refine wp_region_tail_more 5 (by kernel_rfl) (by kernel_rfl) (by kernel_rfl) (by kernel_rfl) (by kernel_rfl) ?_); simp only [List.take_succ_cons, List.take_zero]; (repeat (first | go_big_quiet_skip | (go_big_quiet_want; go_big_quiet_op; first | go_big_quiet_on | (apply Exists.intro; refine ⟨fun _ => ?_, ?_⟩; (focus (first | (with_reducible exact Calls.of_more (c1 _)) | (with_reducible exact Calls.of_more (c2 _)) | (with_reducible exact Calls.of_more (c3 _)))); go_big_quiet_on)))); refine wpQuiet_nil ?_; rintro _ ⟨mq, rfl⟩)
  (refine tail_one (i := 5) (fuel := 0) (by kernel_rfl) rfl ?_; intro K hK; go_simp; refine hK _ _ ?_; clear hK K)
  (refine wpAny_done (by kernel_rfl) ?_ _)
  go_wp2
  refine ret_row rfl _ 22 _ (0, 0) _ rfl (keep_more _ (keep_row _ fr)) Try.underlying22 rfl (by rw [ints_size]; kernel_rfl) rfl ⟨rfl, Grew.more (Grew.setRow hG _ _ (by omega)) _⟩
theorem rraw_any (k p : Nat → Int) (w : World) (hk : Bytes 32 k) (hp : Bytes 32 p) : Calls Try.prog 78 #[.agg (ints .u8 32 (k)), .agg (ints .u8 32 (p))] w fun e w' => e = .returned (.agg (ints .u8 32 (keyV (tv (knum k 32) (nv (ofF p)))))) ∧ Below w.heap.size w w' :=
  rraw_walk k p _ _ _ w (fun w => rof_any p w hp) (fun w => timesN_calls k (nv (ofF p)) w hk (nv_BD _)) (fun w => rkey_any _ w (Edw.tv_bd _ _))
set_option maxRecDepth 100000 in
set_option maxHeartbeats 1000000 in
theorem rbase_walk (k J V : Nat → Int) (w : World)
    (c1 : ∀ w : World, Calls Try.prog 76 #[.agg (ints .u8 32 (k))] w fun e w' => e = .returned (.agg (ints .u8 32 (J))) ∧ Below w.heap.size w w')
    (c2 : ∀ w : World, Calls Try.prog 78 #[.agg (ints .u8 32 (J)), .agg (ints .u8 32 (upd nought 0 9))] w fun e w' => e = .returned (.agg (ints .u8 32 (V))) ∧ Below w.heap.size w w') :
    Calls Try.prog 80 #[.agg (ints .u8 32 (k))] w fun e w' => e = .returned (.agg (ints .u8 32 (V))) ∧ Below w.heap.size w w' := by
  have hG := Grew.refl w
  have fk : True := trivial
  have fr : True := trivial
  go_enter Try.func80, Try.ntmps80
  go_wp2_with fail
  replace fk : objAt ((w.alloc (.cells (ints .u8 32 (k)) 22)).alloc (.cells (ints .u8 32 (nought)) 22)) (w.heap.size) = some (.cells (ints .u8 32 (k)) 22) := by (repeat (first | assumption | exact objAt_alloc_at _ _ _ rfl | (refine objAt_alloc_at _ _ _ ?_; (simp; done)) | refine keep_alloc _ ?_ | refine keep_drewN _ ?_ | refine keep_more _ ?_ | exact keep_row _ (by assumption) | refine keep_setRow _ _ ?_ (by first | omega | (simp; omega) | simp)))
  replace fr : objAt ((w.alloc (.cells (ints .u8 32 (k)) 22)).alloc (.cells (ints .u8 32 (nought)) 22)) (w.heap.size + 1) = some (.cells (ints .u8 32 (nought)) 22) := by (repeat (first | assumption | exact objAt_alloc_at _ _ _ rfl | (refine objAt_alloc_at _ _ _ ?_; (simp; done)) | refine keep_alloc _ ?_ | refine keep_drewN _ ?_ | refine keep_more _ ?_ | exact keep_row _ (by assumption) | refine keep_setRow _ _ ?_ (by first | omega | (simp; omega) | simp)))
  replace hG : Below w.heap.size w ((w.alloc (.cells (ints .u8 32 (k)) 22)).alloc (.cells (ints .u8 32 (nought)) 22)) := by (repeat (first | assumption | exact Grew.refl _ | refine Grew.more ?_ _ | refine Grew.alloc ?_ _ | refine Grew.drewN ?_ _ | refine Grew.setRow ?_ _ _ (by omega) | refine Grew.setRow ?_ _ _ (by simp; omega) | refine Grew.setRow ?_ _ _ (by simp)))
  generalize (w.alloc (.cells (ints .u8 32 (k)) 22)).alloc (.cells (ints .u8 32 (nought)) 22) = w1 at *
  have lfk := lt_of_objAt fk
  have lfr := lt_of_objAt fr
  go_wp2_with fail
  (refine (c1 _).mono ?_; rintro e w2 ⟨rfl, hb⟩; replace fk : objAt w2 (w.heap.size) = some (.cells (ints .u8 32 (k)) 22) := keep_below hb (by (repeat (first | assumption | exact objAt_alloc_at _ _ _ rfl | (refine objAt_alloc_at _ _ _ ?_; (simp; done)) | refine keep_alloc _ ?_ | refine keep_drewN _ ?_ | refine keep_more _ ?_ | exact keep_row _ (by assumption) | refine keep_setRow _ _ ?_ (by first | omega | (simp; omega) | simp)))); have lfk := lt_of_objAt fk; replace fr : objAt w2 (w.heap.size + 1) = some (.cells (ints .u8 32 (nought)) 22) := keep_below hb (by (repeat (first | assumption | exact objAt_alloc_at _ _ _ rfl | (refine objAt_alloc_at _ _ _ ?_; (simp; done)) | refine keep_alloc _ ?_ | refine keep_drewN _ ?_ | refine keep_more _ ?_ | exact keep_row _ (by assumption) | refine keep_setRow _ _ ?_ (by first | omega | (simp; omega) | simp)))); have lfr := lt_of_objAt fr; replace hG : Below w.heap.size w w2 := Grew.trans (by (repeat (first | assumption | exact Grew.refl _ | refine Grew.more ?_ _ | refine Grew.alloc ?_ _ | refine Grew.drewN ?_ _ | refine Grew.setRow ?_ _ _ (by omega) | refine Grew.setRow ?_ _ _ (by simp; omega) | refine Grew.setRow ?_ _ _ (by simp)))) hb; clear hb)
  go_wp2_with fail
  (refine (c2 _).mono ?_; rintro e w3 ⟨rfl, hb⟩; replace fk : objAt w3 (w.heap.size) = some (.cells (ints .u8 32 (k)) 22) := keep_below hb (by (repeat (first | assumption | exact objAt_alloc_at _ _ _ rfl | (refine objAt_alloc_at _ _ _ ?_; (simp; done)) | refine keep_alloc _ ?_ | refine keep_drewN _ ?_ | refine keep_more _ ?_ | exact keep_row _ (by assumption) | refine keep_setRow _ _ ?_ (by first | omega | (simp; omega) | simp)))); have lfk := lt_of_objAt fk; replace fr : objAt w3 (w.heap.size + 1) = some (.cells (ints .u8 32 (nought)) 22) := keep_below hb (by (repeat (first | assumption | exact objAt_alloc_at _ _ _ rfl | (refine objAt_alloc_at _ _ _ ?_; (simp; done)) | refine keep_alloc _ ?_ | refine keep_drewN _ ?_ | refine keep_more _ ?_ | exact keep_row _ (by assumption) | refine keep_setRow _ _ ?_ (by first | omega | (simp; omega) | simp)))); have lfr := lt_of_objAt fr; replace hG : Below w.heap.size w w3 := Grew.trans (by (repeat (first | assumption | exact Grew.refl _ | refine Grew.more ?_ _ | refine Grew.alloc ?_ _ | refine Grew.drewN ?_ _ | refine Grew.setRow ?_ _ _ (by omega) | refine Grew.setRow ?_ _ _ (by simp; omega) | refine Grew.setRow ?_ _ _ (by simp)))) hb; clear hb)
  go_wp2
  refine ret_row rfl _ 22 _ (0, 0) _ rfl (keep_row _ fr) Try.underlying22 rfl (by rw [ints_size]; kernel_rfl) rfl ⟨rfl, by (repeat (first | assumption | exact Grew.refl _ | refine Grew.more ?_ _ | refine Grew.alloc ?_ _ | refine Grew.drewN ?_ _ | refine Grew.setRow ?_ _ _ (by omega) | refine Grew.setRow ?_ _ _ (by simp; omega) | refine Grew.setRow ?_ _ _ (by simp)))⟩
theorem rbase_any (k : Nat → Int) (w : World) (hk : Bytes 32 k) : Calls Try.prog 80 #[.agg (ints .u8 32 (k))] w fun e w' => e = .returned (.agg (ints .u8 32 (keyV (pubV k)))) ∧ Below w.heap.size w w' := by
  have h := fun w => rraw_any (clampF k) (upd nought 0 9) w (clamp_bytes k hk) nine_bytes
  rw [nine_nv] at h
  exact rbase_walk k _ _ w (fun w => rclamp_any k w hk) h
set_option maxRecDepth 100000 in
set_option maxHeartbeats 1000000 in
theorem rshared_walk (k p J V : Nat → Int) (Z : Bool) (w : World)
    (c1 : ∀ w : World, Calls Try.prog 76 #[.agg (ints .u8 32 (k))] w fun e w' => e = .returned (.agg (ints .u8 32 (J))) ∧ Below w.heap.size w w')
    (c2 : ∀ w : World, Calls Try.prog 78 #[.agg (ints .u8 32 (J)), .agg (ints .u8 32 (p))] w fun e w' => e = .returned (.agg (ints .u8 32 (V))) ∧ Below w.heap.size w w')
    (eV : same 32 V nought = Z) :
    Calls Try.prog 74 #[.agg (ints .u8 32 (k)), .agg (ints .u8 32 (p))] w fun e w' => e = .returned (.tuple #[.agg (ints .u8 32 (V)), .bool (!Z)]) ∧ Below w.heap.size w w' := by
  have hG := Grew.refl w
  have fk : True := trivial
  have fp : True := trivial
  have fr : True := trivial
  go_enter Try.func74, Try.ntmps74
  go_wp2_with fail
  replace fk : objAt (((w.alloc (.cells (ints .u8 32 (k)) 22)).alloc (.cells (ints .u8 32 (p)) 22)).alloc (.cells (ints .u8 32 (nought)) 22)) (w.heap.size) = some (.cells (ints .u8 32 (k)) 22) := by (repeat (first | assumption | exact objAt_alloc_at _ _ _ rfl | (refine objAt_alloc_at _ _ _ ?_; (simp; done)) | refine keep_alloc _ ?_ | refine keep_drewN _ ?_ | refine keep_more _ ?_ | exact keep_row _ (by assumption) | refine keep_setRow _ _ ?_ (by first | omega | (simp; omega) | simp)))
  replace fp : objAt (((w.alloc (.cells (ints .u8 32 (k)) 22)).alloc (.cells (ints .u8 32 (p)) 22)).alloc (.cells (ints .u8 32 (nought)) 22)) (w.heap.size + 1) = some (.cells (ints .u8 32 (p)) 22) := by (repeat (first | assumption | exact objAt_alloc_at _ _ _ rfl | (refine objAt_alloc_at _ _ _ ?_; (simp; done)) | refine keep_alloc _ ?_ | refine keep_drewN _ ?_ | refine keep_more _ ?_ | exact keep_row _ (by assumption) | refine keep_setRow _ _ ?_ (by first | omega | (simp; omega) | simp)))
  replace fr : objAt (((w.alloc (.cells (ints .u8 32 (k)) 22)).alloc (.cells (ints .u8 32 (p)) 22)).alloc (.cells (ints .u8 32 (nought)) 22)) (w.heap.size + 1 + 1) = some (.cells (ints .u8 32 (nought)) 22) := by (repeat (first | assumption | exact objAt_alloc_at _ _ _ rfl | (refine objAt_alloc_at _ _ _ ?_; (simp; done)) | refine keep_alloc _ ?_ | refine keep_drewN _ ?_ | refine keep_more _ ?_ | exact keep_row _ (by assumption) | refine keep_setRow _ _ ?_ (by first | omega | (simp; omega) | simp)))
  replace hG : Below w.heap.size w (((w.alloc (.cells (ints .u8 32 (k)) 22)).alloc (.cells (ints .u8 32 (p)) 22)).alloc (.cells (ints .u8 32 (nought)) 22)) := by (repeat (first | assumption | exact Grew.refl _ | refine Grew.more ?_ _ | refine Grew.alloc ?_ _ | refine Grew.drewN ?_ _ | refine Grew.setRow ?_ _ _ (by omega) | refine Grew.setRow ?_ _ _ (by simp; omega) | refine Grew.setRow ?_ _ _ (by simp)))
  generalize ((w.alloc (.cells (ints .u8 32 (k)) 22)).alloc (.cells (ints .u8 32 (p)) 22)).alloc (.cells (ints .u8 32 (nought)) 22) = w1 at *
  have lfk := lt_of_objAt fk
  have lfp := lt_of_objAt fp
  have lfr := lt_of_objAt fr
  go_wp2_with fail
  (refine wp_rel (by kernel_rfl) (by kernel_rfl) ?_; (repeat (first | refine exv_skip rfl ?_ | (refine exv_call rfl ?_; apply Exists.intro))); refine exv_nil ?_; intro γ hinj hbase; (repeat (first | (refine rel_quiet rfl ?_; ((first | go_big_quiet_skip | (go_big_quiet_want; go_big_quiet_op; go_big_quiet_on)); refine wpQuiet_nil ?_)) | (first | (refine rel_skip_some rfl (fun _ => rfl) ?_; ((first | go_big_quiet_skip | (go_big_quiet_want; go_big_quiet_op; go_big_quiet_on)); refine wpQuiet_nil ?_)) | refine rel_skip_none rfl (fun _ => rfl) ?_) | ((try simp only [Nat.zero_add, Nat.reduceAdd]); apply rel_box alloc_cls; (focus rfl); (focus (first | exact cells_agg _ | exact cells_int _ _ | exact cells_bool _ | rfl)); (focus ((repeat (refine fits_cons ⟨by (first | exact stab_full _ _ _ | exact stab_hdr _ _ _ | exact stab_hdr_at _ _ _ _ | exact stab_full_at _ _ _ _ (hinj _ _ (by decide))), by (first | exact stab_full _ _ _ | exact stab_hdr _ _ _ | exact stab_hdr_at _ _ _ _ | exact stab_full_at _ _ _ _ (hinj _ _ (by decide)))⟩ ?_)); exact fits_nil (by (first | exact stab_full _ _ _ | exact stab_hdr _ _ _ | exact stab_hdr_at _ _ _ _ | exact stab_full_at _ _ _ _ (hinj _ _ (by decide)))))); ((first | go_big_quiet_skip | (go_big_quiet_want; go_big_quiet_op; go_big_quiet_on)); refine wpQuiet_nil ?_)) | ((try simp only [Nat.zero_add, Nat.reduceAdd]); apply rel_alloc _ _ alloc_cls; (focus rfl); (focus (intro W; (first | exact zero_key _ | exact zero_elem _ | exact zero_num _ | exact zero_pair _))); (focus exact cells_ints _ _ _); (focus ((repeat (refine fits_cons ⟨by (first | exact stab_full _ _ _ | exact stab_hdr _ _ _ | exact stab_hdr_at _ _ _ _ | exact stab_full_at _ _ _ _ (hinj _ _ (by decide))), by (first | exact stab_full _ _ _ | exact stab_hdr _ _ _ | exact stab_hdr_at _ _ _ _ | exact stab_full_at _ _ _ _ (hinj _ _ (by decide)))⟩ ?_)); exact fits_nil (by (first | exact stab_full _ _ _ | exact stab_hdr _ _ _ | exact stab_hdr_at _ _ _ _ | exact stab_full_at _ _ _ _ (hinj _ _ (by decide)))))); ((first | go_big_quiet_skip | (go_big_quiet_want; go_big_quiet_op; go_big_quiet_on)); refine wpQuiet_nil ?_)) | ((try simp only [Nat.zero_add, Nat.reduceAdd]); apply rel_slice alloc_cls; (focus rfl); (focus (intro W; simp only [List.map_toArray, List.map_cons, List.map_nil]; first | fail)); (focus ((repeat (refine fits_cons ⟨by (first | exact stab_full _ _ _ | exact stab_hdr _ _ _ | exact stab_hdr_at _ _ _ _ | exact stab_full_at _ _ _ _ (hinj _ _ (by decide))), by (first | exact stab_full _ _ _ | exact stab_hdr _ _ _ | exact stab_hdr_at _ _ _ _ | exact stab_full_at _ _ _ _ (hinj _ _ (by decide)))⟩ ?_)); exact fits_nil (by (first | exact stab_full _ _ _ | exact stab_hdr _ _ _ | exact stab_hdr_at _ _ _ _ | exact stab_full_at _ _ _ _ (hinj _ _ (by decide)))))); ((first | go_big_quiet_skip | (go_big_quiet_want; go_big_quiet_op; go_big_quiet_on)); refine wpQuiet_nil ?_)) | ((try simp only [Nat.zero_add, Nat.reduceAdd]); apply rel_store (setRow_cls (hbase _)); (focus rfl); (focus rfl); (focus rfl); (focus (first | exact cells_agg _ | exact cells_int _ _ | exact cells_bool _ | rfl)); rotate_left 3; (focus (first | exact List.mem_cons_self .. | exact List.mem_cons_of_mem _ (List.mem_cons_self ..) | exact List.mem_cons_of_mem _ (List.mem_cons_of_mem _ (List.mem_cons_self ..)) | exact List.mem_cons_of_mem _ (List.mem_cons_of_mem _ (List.mem_cons_of_mem _ (List.mem_cons_self ..))) | exact List.mem_cons_of_mem _ (List.mem_cons_of_mem _ (List.mem_cons_of_mem _ (List.mem_cons_of_mem _ (List.mem_cons_self ..)))))); rotate_right 3; (focus kernel_rfl); (focus exact ints_size _ _ _); (focus exact ints_ones _ _ _); (focus (decide +kernel)); (focus ((repeat (refine fits_cons ⟨by (first | exact stab_full _ _ _ | exact stab_hdr _ _ _ | exact stab_hdr_at _ _ _ _ | exact stab_full_at _ _ _ _ (hinj _ _ (by decide))), by (first | exact stab_full _ _ _ | exact stab_hdr _ _ _ | exact stab_hdr_at _ _ _ _ | exact stab_full_at _ _ _ _ (hinj _ _ (by decide)))⟩ ?_)); exact fits_nil (by (first | exact stab_full _ _ _ | exact stab_hdr _ _ _ | exact stab_hdr_at _ _ _ _ | exact stab_full_at _ _ _ _ (hinj _ _ (by decide))))))) | (apply rel_fact; (focus rfl); (focus rfl); (focus rfl); (focus (intro W hC hF; go_big_quiet_want; go_big_quiet_op; (first | go_big_quiet_on | (apply Exists.intro; refine ⟨fun _ => ?_, ?_⟩; (focus (first | (with_reducible exact Calls.of_more (c1 _)) | (with_reducible exact Calls.of_more (c2 _)))); go_big_quiet_on)); exact wpQuiet_nil rfl)); (focus (exact fun _ => rfl)); ((first | go_big_quiet_skip | (go_big_quiet_want; go_big_quiet_op; go_big_quiet_on)); refine wpQuiet_nil ?_)))))
  (refine rel_nil ?_; rintro _ ⟨mq, rfl⟩ hF; simp only [List.forall_mem_cons] at hF; obtain ⟨fs, -⟩ := hF)
  have nsr : ¬ (γ 4 = w.heap.size + 1 + 1) := by have := hbase 4; omega
  have nrs : ¬ (w.heap.size + 1 + 1 = γ 4) := fun e => nsr e.symm
  have hw0 := hG.size
  have l0s : w.heap.size ≤ γ 4 := by have := hbase 4; omega
  clear hw0
  replace fk : objAt (more w1 mq) (w.heap.size) = some (.cells (ints .u8 32 (k)) 22) := keep_more _ fk
  replace fp : objAt (more w1 mq) (w.heap.size + 1) = some (.cells (ints .u8 32 (p)) 22) := keep_more _ fp
  replace fr : objAt (more w1 mq) (w.heap.size + 1 + 1) = some (.cells (ints .u8 32 (nought)) 22) := keep_more _ fr
  replace hG : Below w.heap.size w (more w1 mq) := Grew.more hG _
  replace fs : objAt (more w1 mq) (γ 4) = some (.cells (ints .u8 32 (V)) 22) := fs
  clear lfk lfp lfr
  clear hinj hbase
  generalize γ 4 = gs at *
  generalize more w1 mq = w2 at *
  clear γ
  have lfk := lt_of_objAt fk
  have lfp := lt_of_objAt fp
  have lfr := lt_of_objAt fr
  have lfs := lt_of_objAt fs
  go_wp2_with fail
  go_region
  all_goals
   go_wp2
   refine ret_key_tmp rfl _ 22 _ (0, 0) _ _ rfl rfl (by simp [go_sem, fr]) Try.underlying22 rfl (by rw [ints_size]; kernel_rfl) rfl ⟨rfl, by (repeat (first | assumption | exact Grew.refl _ | refine Grew.more ?_ _ | refine Grew.alloc ?_ _ | refine Grew.drewN ?_ _ | refine Grew.setRow ?_ _ _ (by omega) | refine Grew.setRow ?_ _ _ (by simp; omega) | refine Grew.setRow ?_ _ _ (by simp)))⟩
theorem rshared_any (k p : Nat → Int) (w : World) {Z : Bool} (hk : Bytes 32 k) (hp : Bytes 32 p) (hZ : decide (shV k p = 0) = Z) : Calls Try.prog 74 #[.agg (ints .u8 32 (k)), .agg (ints .u8 32 (p))] w fun e w' => e = .returned (.tuple #[.agg (ints .u8 32 (keyV (shV k p))), .bool (!Z)]) ∧ Below w.heap.size w w' :=
  rshared_walk k p _ _ Z w (fun w => rclamp_any k w hk) (fun w => rraw_any (clampF k) p w (clamp_bytes k hk) hp) ((same_key0 _ (Edw.tv_bd _ _)).trans hZ)
end Go.Proofs.Ytfapmpnkemogkaa
