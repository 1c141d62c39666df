/- LadderTwice. -/
import Derived.Test.YtfapmpnkemogkaaOrder
import Derived.Test.YtfapmpnkemogkaaPowers
namespace Go.Proofs.Ytfapmpnkemogkaa
open Go.RowKit
set_option linter.unusedVariables false
set_option linter.unusedSimpArgs false
open Edw (red tv)

set_option maxHeartbeats 400000 in
theorem key64_any (n : Int) (w : World) (h0 : 0 ≤ n) (h1 : n ≤ 18446744073709551615) :
    Calls Try.prog 71 #[.int .u64 n] w fun e w' => e = .returned (.agg (ints .u8 32 (key8 n))) ∧ Below w.heap.size w w' := by
  go_enter Try.func71, Try.ntmps71
  go_wp2
  go_loopw [5] (fun i wr => ∃ k : Nat, k ≤ 8 ∧ i = .int .i64 k ∧ wr = (w.alloc (.cells (ints .u8 32 nought) 23)).alloc (.cells (ints .u8 32 (part' (key8 n) k)) 23)) (fun i _ => 8 - (intOf i).toNat)
  case atStart => exact ⟨0, by omega, rfl, by rw [part_zero]⟩
  case round =>
    obtain ⟨k, hk, rfl, rfl⟩ := hrel
    by_cases hlt : k < 8
    · have hk32 : k < 32 := by omega
      have S : Hid (upd (part' (key8 n) k) k (key8 n k) = part' (key8 n) (k + 1)) := part_succ _ k
      have e : n / 2 ^ (8 * k) % 256 = key8 n k := by unfold key8; rw [if_pos hlt]
      generalize key8 n k = V at *
      go_wp2
      go_roundw
      case rel => exact ⟨k + 1, by omega, by go_num, by rw [S.out]⟩
      case measure => simp [intOf] <;> omega
    · obtain rfl : k = 8 := by omega
      clear hlt
      have e : ints .u8 32 (part' (key8 n) 8) = ints .u8 32 (key8 n) := ints_congr fun i _ => by
        unfold part' key8
        split <;> rfl
      rw [e]
      go_wp2
      refine ret_row rfl _ 23 _ (0, 0) _ rfl (by simp [go_sem]) Try.underlying23 rfl (by rw [ints_size]; kernel_rfl) rfl ⟨rfl, by (repeat (first | assumption | exact Grew.refl _ | refine Grew.more ?_ _ | refine Grew.alloc ?_ _ | refine Grew.drewN ?_ _ | refine Grew.setRow ?_ _ _ (by omega) | refine Grew.setRow ?_ _ _ (by simp; omega) | refine Grew.setRow ?_ _ _ (by simp)))⟩
theorem nv_t8 (x : Nat → Int) (n : Int) (h0 : 0 ≤ n) (h1 : n ≤ 18446744073709551615) : nv (timesL x (key8 n)) = tv n.toNat (nv x) := by
  rw [nv_timesL _ _ (key8_bytes _), key8_num n h0 h1]
theorem twice_nv (x : Nat → Int) (n : Int) (h0 : 0 ≤ n) (h1 : n ≤ 4294967295) : nv (timesL x (key8 (2 * n))) = nv (timesL (timesL x (key8 n)) (key8 2)) := by
  have b : ∀ m : Nat, m ≤ 4294967295 * 2 → m < 2 ^ 256 := fun m h => by omega
  rw [nv_t8 _ _ (by omega) (by omega), nv_t8 _ _ (by omega) (by omega), nv_t8 _ _ (by omega) (by omega), show Int.toNat 2 = 2 from rfl, Edw.tv_mul _ _ _ (b _ (by omega)) (b _ (by omega)) (b _ (by omega))]
  congr 1
  omega
theorem thrice_nv (x : Nat → Int) (n : Int) (h0 : 0 ≤ n) (h1 : n ≤ 4294967295) : nv (timesL x (key8 (6 * n))) = nv (timesL (timesL x (key8 (2 * n))) (key8 3)) := by
  have b : ∀ m : Nat, m ≤ 4294967295 * 6 → m < 2 ^ 256 := fun m h => by omega
  rw [nv_t8 _ _ (by omega) (by omega), nv_t8 _ _ (by omega) (by omega), nv_t8 _ _ (by omega) (by omega), show Int.toNat 3 = 3 from rfl, Edw.tv_mul _ _ _ (b _ (by omega)) (b _ (by omega)) (b _ (by omega))]
  congr 1
  omega
set_option maxRecDepth 100000 in
set_option maxHeartbeats 2000000 in
theorem twice_any (n : Int) (x : Nat → Int) (w : World) (hn : 0 ≤ n ∧ n ≤ 4294967295) (hx : W64 5 x) :
    Calls Try.prog 21 #[.int .u32 n, .agg (ints .u64 5 (x))] w fun e w' => e = .returned (.bool true) ∧ Below w.heap.size w w' := by
  have hl : underB 18014398509481984 x = true → Under 18014398509481984 x := fun h i hi => ⟨(hx i hi).1, (underB_iff _ _).1 h i hi⟩
  generalize hU : underB 18014398509481984 x = U
  obtain ⟨n0, n1⟩ := hn
  have hG := Grew.refl w
  have fx : True := trivial
  go_enter Try.func21, Try.ntmps21
  go_wp2_with fail
  replace fx : objAt (w.alloc (.cells (ints .u64 5 (x)) 37)) (w.heap.size) = some (.cells (ints .u64 5 (x)) 37) := by (repeat (first | assumption | exact objAt_alloc_at _ _ _ rfl | (refine objAt_alloc_at _ _ _ ?_; (simp; done)) | refine keep_alloc _ ?_ | refine keep_drewN _ ?_ | refine keep_more _ ?_ | exact keep_row _ (by assumption) | refine keep_setRow _ _ ?_ (by first | omega | (simp; omega) | simp)))
  replace hG : Below w.heap.size w (w.alloc (.cells (ints .u64 5 (x)) 37)) := by (repeat (first | assumption | exact Grew.refl _ | refine Grew.more ?_ _ | refine Grew.alloc ?_ _ | refine Grew.drewN ?_ _ | refine Grew.setRow ?_ _ _ (by omega) | refine Grew.setRow ?_ _ _ (by simp; omega) | refine Grew.setRow ?_ _ _ (by simp)))
  generalize w.alloc (.cells (ints .u64 5 (x)) 37) = w1 at *
  have lfx := lt_of_objAt fx
  go_wp2_with fail
  (refine (awake5_any _).mono ?_; rintro e w2 ⟨rfl, hb⟩; replace fx : objAt w2 (w.heap.size) = some (.cells (ints .u64 5 (x)) 37) := keep_below hb (by (repeat (first | assumption | exact objAt_alloc_at _ _ _ rfl | (refine objAt_alloc_at _ _ _ ?_; (simp; done)) | refine keep_alloc _ ?_ | refine keep_drewN _ ?_ | refine keep_more _ ?_ | exact keep_row _ (by assumption) | refine keep_setRow _ _ ?_ (by first | omega | (simp; omega) | simp)))); have lfx := lt_of_objAt fx; replace hG : Below w.heap.size w w2 := Grew.trans (by (repeat (first | assumption | exact Grew.refl _ | refine Grew.more ?_ _ | refine Grew.alloc ?_ _ | refine Grew.drewN ?_ _ | refine Grew.setRow ?_ _ _ (by omega) | refine Grew.setRow ?_ _ _ (by simp; omega) | refine Grew.setRow ?_ _ _ (by simp)))) hb; clear hb)
  go_wp2_with fail
  (refine (loose_is x _ hU).mono ?_; rintro e w3 ⟨rfl, hb⟩; replace fx : objAt w3 (w.heap.size) = some (.cells (ints .u64 5 (x)) 37) := keep_below hb (by (repeat (first | assumption | exact objAt_alloc_at _ _ _ rfl | (refine objAt_alloc_at _ _ _ ?_; (simp; done)) | refine keep_alloc _ ?_ | refine keep_drewN _ ?_ | refine keep_more _ ?_ | exact keep_row _ (by assumption) | refine keep_setRow _ _ ?_ (by first | omega | (simp; omega) | simp)))); have lfx := lt_of_objAt fx; replace hG : Below w.heap.size w w3 := Grew.trans (by (repeat (first | assumption | exact Grew.refl _ | refine Grew.more ?_ _ | refine Grew.alloc ?_ _ | refine Grew.drewN ?_ _ | refine Grew.setRow ?_ _ _ (by omega) | refine Grew.setRow ?_ _ _ (by simp; omega) | refine Grew.setRow ?_ _ _ (by simp)))) hb; clear hb)
  cases U
  · go_wp2
    go_ret
    exact ⟨rfl, by (repeat (first | assumption | exact Grew.refl _ | refine Grew.more ?_ _ | refine Grew.alloc ?_ _ | refine Grew.drewN ?_ _ | refine Grew.setRow ?_ _ _ (by omega) | refine Grew.setRow ?_ _ _ (by simp; omega) | refine Grew.setRow ?_ _ _ (by simp)))⟩
  · have hu := hl hU
    clear hl hU hx
    have k1 := fun w => key64_any (2 * n) w (by omega) (by omega)
    have k2 := fun w => key64_any 2 w (by decide) (by decide)
    have k3 := fun w => key64_any n w (by omega) (by omega)
    have k4 := fun w => key64_any (6 * n) w (by omega) (by omega)
    have k5 := fun w => key64_any 3 w (by decide) (by decide)
    have t1 := fun w => times_calls (key8 (2 * n)) x w (key8_bytes _) hu
    have t2 := fun w => times_calls (key8 n) x w (key8_bytes _) hu
    have l1 := loose_timesL x (key8 (2 * n)) hu
    have l2 := loose_timesL x (key8 n) hu
    have t3 := fun w => times_calls (key8 2) (timesL x (key8 n)) w (key8_bytes _) l2
    have t4 := fun w => times_calls (key8 (6 * n)) x w (key8_bytes _) hu
    have t5 := fun w => times_calls (key8 3) (timesL x (key8 (2 * n))) w (key8_bytes _) l1
    have e1 := fun w => equal_yes (timesL x (key8 (2 * n))) (timesL (timesL x (key8 n)) (key8 2)) w l1 (loose_timesL _ _ l2) (twice_nv x n n0 n1)
    have e2 := fun w => equal_yes (timesL x (key8 (6 * n))) (timesL (timesL x (key8 (2 * n))) (key8 3)) w (loose_timesL _ _ hu) (loose_timesL _ _ l1) (thrice_nv x n n0 n1)
    go_wp2_with fail
    (refine wp_rel (by kernel_rfl) (by kernel_rfl) ?_; (repeat (first | refine exv_skip rfl ?_ | (refine exv_call rfl ?_; apply Exists.intro))); refine exv_nil ?_; intro γ hinj hbase; (repeat (first | (refine rel_quiet rfl ?_; ((first | go_big_quiet_skip | (go_big_quiet_want; go_big_quiet_op; go_big_quiet_on)); refine wpQuiet_nil ?_)) | (first | (refine rel_skip_some rfl (fun _ => rfl) ?_; ((first | go_big_quiet_skip | (go_big_quiet_want; go_big_quiet_op; go_big_quiet_on)); refine wpQuiet_nil ?_)) | refine rel_skip_none rfl (fun _ => rfl) ?_) | ((try simp only [Nat.zero_add, Nat.reduceAdd]); apply rel_box alloc_cls; (focus rfl); (focus (first | exact cells_agg _ | exact cells_int _ _ | exact cells_bool _ | rfl)); (focus ((repeat (refine fits_cons ⟨by (first | exact stab_full _ _ _ | exact stab_hdr _ _ _ | exact stab_hdr_at _ _ _ _ | exact stab_full_at _ _ _ _ (hinj _ _ (by decide))), by (first | exact stab_full _ _ _ | exact stab_hdr _ _ _ | exact stab_hdr_at _ _ _ _ | exact stab_full_at _ _ _ _ (hinj _ _ (by decide)))⟩ ?_)); exact fits_nil (by (first | exact stab_full _ _ _ | exact stab_hdr _ _ _ | exact stab_hdr_at _ _ _ _ | exact stab_full_at _ _ _ _ (hinj _ _ (by decide)))))); ((first | go_big_quiet_skip | (go_big_quiet_want; go_big_quiet_op; go_big_quiet_on)); refine wpQuiet_nil ?_)) | ((try simp only [Nat.zero_add, Nat.reduceAdd]); apply rel_alloc _ _ alloc_cls; (focus rfl); (focus (intro W; (first | exact zero_key _ | exact zero_elem _ | exact zero_num _ | exact zero_pair _))); (focus exact cells_ints _ _ _); (focus ((repeat (refine fits_cons ⟨by (first | exact stab_full _ _ _ | exact stab_hdr _ _ _ | exact stab_hdr_at _ _ _ _ | exact stab_full_at _ _ _ _ (hinj _ _ (by decide))), by (first | exact stab_full _ _ _ | exact stab_hdr _ _ _ | exact stab_hdr_at _ _ _ _ | exact stab_full_at _ _ _ _ (hinj _ _ (by decide)))⟩ ?_)); exact fits_nil (by (first | exact stab_full _ _ _ | exact stab_hdr _ _ _ | exact stab_hdr_at _ _ _ _ | exact stab_full_at _ _ _ _ (hinj _ _ (by decide)))))); ((first | go_big_quiet_skip | (go_big_quiet_want; go_big_quiet_op; go_big_quiet_on)); refine wpQuiet_nil ?_)) | ((try simp only [Nat.zero_add, Nat.reduceAdd]); apply rel_slice alloc_cls; (focus rfl); (focus (intro W; simp only [List.map_toArray, List.map_cons, List.map_nil]; first | fail)); (focus ((repeat (refine fits_cons ⟨by (first | exact stab_full _ _ _ | exact stab_hdr _ _ _ | exact stab_hdr_at _ _ _ _ | exact stab_full_at _ _ _ _ (hinj _ _ (by decide))), by (first | exact stab_full _ _ _ | exact stab_hdr _ _ _ | exact stab_hdr_at _ _ _ _ | exact stab_full_at _ _ _ _ (hinj _ _ (by decide)))⟩ ?_)); exact fits_nil (by (first | exact stab_full _ _ _ | exact stab_hdr _ _ _ | exact stab_hdr_at _ _ _ _ | exact stab_full_at _ _ _ _ (hinj _ _ (by decide)))))); ((first | go_big_quiet_skip | (go_big_quiet_want; go_big_quiet_op; go_big_quiet_on)); refine wpQuiet_nil ?_)) | ((try simp only [Nat.zero_add, Nat.reduceAdd]); apply rel_store (setRow_cls (hbase _)); (focus rfl); (focus rfl); (focus rfl); (focus (first | exact cells_agg _ | exact cells_int _ _ | exact cells_bool _ | rfl)); rotate_left 3; (focus (first | exact List.mem_cons_self .. | exact List.mem_cons_of_mem _ (List.mem_cons_self ..) | exact List.mem_cons_of_mem _ (List.mem_cons_of_mem _ (List.mem_cons_self ..)) | exact List.mem_cons_of_mem _ (List.mem_cons_of_mem _ (List.mem_cons_of_mem _ (List.mem_cons_self ..))) | exact List.mem_cons_of_mem _ (List.mem_cons_of_mem _ (List.mem_cons_of_mem _ (List.mem_cons_of_mem _ (List.mem_cons_self ..)))))); rotate_right 3; (focus kernel_rfl); (focus exact ints_size _ _ _); (focus exact ints_ones _ _ _); (focus (decide +kernel)); (focus ((repeat (refine fits_cons ⟨by (first | exact stab_full _ _ _ | exact stab_hdr _ _ _ | exact stab_hdr_at _ _ _ _ | exact stab_full_at _ _ _ _ (hinj _ _ (by decide))), by (first | exact stab_full _ _ _ | exact stab_hdr _ _ _ | exact stab_hdr_at _ _ _ _ | exact stab_full_at _ _ _ _ (hinj _ _ (by decide)))⟩ ?_)); exact fits_nil (by (first | exact stab_full _ _ _ | exact stab_hdr _ _ _ | exact stab_hdr_at _ _ _ _ | exact stab_full_at _ _ _ _ (hinj _ _ (by decide))))))) | (apply rel_fact; (focus rfl); (focus rfl); (focus rfl); (focus (intro W hC hF; go_big_quiet_want; go_big_quiet_op; (first | go_big_quiet_on | (apply Exists.intro; refine ⟨fun _ => ?_, ?_⟩; (focus (first | (with_reducible exact Calls.of_more (k1 _)) | (with_reducible exact Calls.of_more (t1 _)))); go_big_quiet_on)); exact wpQuiet_nil rfl)); (focus (exact fun _ => rfl)); ((first | go_big_quiet_skip | (go_big_quiet_want; go_big_quiet_op; go_big_quiet_on)); refine wpQuiet_nil ?_)))))
    (refine rel_nil ?_; rintro _ ⟨mq, rfl⟩ hF; simp only [List.forall_mem_cons] at hF; obtain ⟨ft, -⟩ := hF)
    replace fx : objAt (more w3 mq) (w.heap.size) = some (.cells (ints .u64 5 (x)) 37) := by (repeat (first | assumption | exact objAt_alloc_at _ _ _ rfl | (refine objAt_alloc_at _ _ _ ?_; (simp; done)) | refine keep_alloc _ ?_ | refine keep_drewN _ ?_ | refine keep_more _ ?_ | exact keep_row _ (by assumption) | refine keep_setRow _ _ ?_ (by first | omega | (simp; omega) | simp)))
    replace hG : Below w.heap.size w (more w3 mq) := by (repeat (first | assumption | exact Grew.refl _ | refine Grew.more ?_ _ | refine Grew.alloc ?_ _ | refine Grew.drewN ?_ _ | refine Grew.setRow ?_ _ _ (by omega) | refine Grew.setRow ?_ _ _ (by simp; omega) | refine Grew.setRow ?_ _ _ (by simp)))
    replace ft : objAt (more w3 mq) (γ 7) = some (.cells (ints .u64 5 (timesL x (key8 (2 * n)))) 37) := ft
    clear lfx
    clear hinj hbase
    generalize γ 7 = gt at *
    generalize more w3 mq = w4 at *
    clear γ
    have lfx := lt_of_objAt fx
    have lft := lt_of_objAt ft
    go_wp2_with fail
    ((first | (with_reducible refine wp_region_on (by kernel_rfl) (by kernel_rfl) ?_) | refine wp_region_more (by kernel_rfl) (by kernel_rfl) ?_); (repeat (first | go_big_quiet_skip | (go_big_quiet_want; go_big_quiet_op; first | go_big_quiet_on | (apply Exists.intro; refine ⟨fun _ => ?_, ?_⟩; (focus (first | (with_reducible exact Calls.of_more (k2 _)) | (with_reducible exact Calls.of_more (k3 _)) | (with_reducible exact Calls.of_more (k4 _)) | (with_reducible exact Calls.of_more (k5 _)) | (with_reducible exact Calls.of_more (t2 _)) | (with_reducible exact Calls.of_more (t3 _)) | (with_reducible exact Calls.of_more (t4 _)) | (with_reducible exact Calls.of_more (t5 _)) | (with_reducible exact Calls.of_more (e1 _)) | (with_reducible exact Calls.of_more (e2 _)))); go_big_quiet_on)))); refine wpQuiet_nil ?_; rintro _ ⟨mq, rfl⟩)
    go_wp2
    go_ret
    exact ⟨rfl, by (repeat (first | assumption | exact Grew.refl _ | refine Grew.more ?_ _ | refine Grew.alloc ?_ _ | refine Grew.drewN ?_ _ | refine Grew.setRow ?_ _ _ (by omega) | refine Grew.setRow ?_ _ _ (by simp; omega) | refine Grew.setRow ?_ _ _ (by simp)))⟩
end Go.Proofs.Ytfapmpnkemogkaa
