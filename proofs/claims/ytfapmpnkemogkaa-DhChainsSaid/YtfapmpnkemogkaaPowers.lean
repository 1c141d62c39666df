/- InvPowers. -/
import Derived.Test.YtfapmpnkemogkaaSwaps
namespace Go.Proofs.Ytfapmpnkemogkaa
open Go.RowKit
set_option linter.unusedVariables false
set_option linter.unusedSimpArgs false

/-- a number below 2^64, as a key -/
def key8 (n : Int) : Nat → Int := fun i => if i < 8 then n / 2 ^ (8 * i) % 256 else 0
theorem key8_bytes (n : Int) : Bytes 32 (key8 n) := fun i _ => by unfold key8; split <;> omega
theorem key8_mod (N : Nat) : ∀ j, j ≤ 8 → knum (key8 N) j = N % 256 ^ j
  | 0, _ => by simp [knum, Nat.mod_one]
  | j + 1, h => by
    have e : (key8 N j).toNat = N / 256 ^ j % 256 := by
      unfold key8
      rw [if_pos (by omega), show (2 : Int) ^ (8 * j) = ((256 ^ j : Nat) : Int) by rw [show (256 : Nat) = 2 ^ 8 from rfl, ← Nat.pow_mul]; simp]
      rw [← Int.natCast_ediv]
      omega
    rw [knum, key8_mod N j (by omega), e, Nat.mod_pow_succ]
theorem key8_num (n : Int) (h0 : 0 ≤ n) (h1 : n ≤ 18446744073709551615) : knum (key8 n) 32 = n.toNat := by
  obtain ⟨N, rfl⟩ := Int.eq_ofNat_of_zero_le h0
  have hz : ∀ i, 8 ≤ i → key8 N i = 0 := fun i hi => by unfold key8; rw [if_neg (by omega)]
  have tail : ∀ d, knum (key8 N) (8 + d) = knum (key8 N) 8 := fun d => by
    induction d with
    | zero => rfl
    | succ d ih => rw [show 8 + (d + 1) = (8 + d) + 1 by omega, knum, ih, hz (8 + d) (by omega)]; simp
  rw [show 32 = 8 + 24 from rfl, tail 24, key8_mod N 8 (by omega)]
  simp only [Nat.reducePow]
  omega
set_option maxHeartbeats 400000 in
theorem key8_any (n : Int) (w : World) (h0 : 0 ≤ n) (h1 : n ≤ 18446744073709551615) :
    Calls Try.prog 64 #[.int .u64 n] w fun e w' => e = .returned (.agg (ints .u8 32 (key8 n))) ∧ Below w.heap.size w w' := by
  go_enter Try.func64, Try.ntmps64
  go_wp2
  go_loopw [5] (fun i wr => ∃ k : Nat, k ≤ 8 ∧ i = .int .i64 k ∧ wr = (w.alloc (.cells (ints .u8 32 nought) 23)).alloc (.cells (ints .u8 32 (part' (key8 n) k)) 23)) (fun i _ => 8 - (intOf i).toNat)
  case atStart => exact ⟨0, by omega, rfl, by rw [part_zero]⟩
  case round =>
    obtain ⟨k, hk, rfl, rfl⟩ := hrel
    by_cases hlt : k < 8
    · have hk32 : k < 32 := by omega
      have S : Hid (upd (part' (key8 n) k) k (key8 n k) = part' (key8 n) (k + 1)) := part_succ _ k
      have e : n / 2 ^ (8 * k) % 256 = key8 n k := by unfold key8; rw [if_pos hlt]
      generalize key8 n k = V at *
      go_wp2
      go_roundw
      case rel => exact ⟨k + 1, by omega, by go_num, by rw [S.out]⟩
      case measure => simp [intOf] <;> omega
    · obtain rfl : k = 8 := by omega
      clear hlt
      have e : ints .u8 32 (part' (key8 n) 8) = ints .u8 32 (key8 n) := ints_congr fun i _ => by
        unfold part' key8
        split <;> rfl
      rw [e]
      go_wp2
      refine ret_row rfl _ 23 _ (0, 0) _ rfl (by simp [go_sem]) Try.underlying23 rfl (by rw [ints_size]; kernel_rfl) rfl ⟨rfl, by (repeat (first | assumption | exact Grew.refl _ | refine Grew.more ?_ _ | refine Grew.alloc ?_ _ | refine Grew.drewN ?_ _ | refine Grew.setRow ?_ _ _ (by omega) | refine Grew.setRow ?_ _ _ (by simp; omega) | refine Grew.setRow ?_ _ _ (by simp)))⟩
theorem primeK_num : knum (upd (upd all255 0 237) 31 127) 32 = undo + 2 := by kernel_rfl
theorem zeroK_num : knum nought 32 = 0 := by kernel_rfl
theorem primeK_bytes : Bytes 32 (upd (upd all255 0 237) 31 127) := fun i _ => by unfold upd all255; split <;> (try split) <;> decide
theorem pow_sum (a : Nat → Int) (m n : Int) (hm : 0 ≤ m ∧ m ≤ 4294967295) (hn : 0 ≤ n ∧ n ≤ 4294967295) :
    nv (pwF a (key8 (m + n)) 256) = nv (mulF (pwF a (key8 m) 256) (pwF a (key8 n) 256)) := by
  rw [nv_mul, nv_power _ _ (key8_bytes _), nv_power _ _ (key8_bytes _), nv_power _ _ (key8_bytes _), key8_num _ (by omega) (by omega), key8_num _ (by omega) (by omega), key8_num _ (by omega) (by omega), md_mulL, md_mulR, ← Int.pow_add]
  congr 2
  omega
theorem pow_prime (a : Nat → Int) : nv (pwF a (upd (upd all255 0 237) 31 127) 256) = nv a := by
  rw [nv_power _ _ primeK_bytes, primeK_num]
  have hb := nv_bd a
  by_cases h : nv a = 0
  · rw [h, Int.pow_succ, Int.mul_zero]; rfl
  · have hf := fermat_int (nv a) (by omega) (by omega)
    generalize nv a = x at *
    rw [Int.pow_succ, Int.pow_succ, Int.mul_comm (x ^ undo) x, ← md_mulL, hf, Int.one_mul]
    omega
theorem pow_none (a : Nat → Int) : nv (pwF a nought 256) = nv (upd nought 0 1) := by
  rw [nv_power _ _ bytes_nought, zeroK_num, Int.pow_zero, nv_one]; rfl
structure PowersInv (a : Nat → Int) (gp : Nat) (w : World) (k : Nat) (wr : World) : Prop where
  g : Below w.heap.size w wr
  fa : objAt wr w.heap.size = some (.cells (ints .u64 5 a) 37)
  fp : objAt wr gp = some (.cells (ints .u8 32 (part' all255 k)) 23)
set_option maxRecDepth 100000 in
set_option maxHeartbeats 2000000 in
theorem powers_any (a : Nat → Int) (m n : Int) (w : World) (ha : W64 5 a) (hm : 0 ≤ m ∧ m ≤ 4294967295) (hn : 0 ≤ n ∧ n ≤ 4294967295) :
    Calls Try.prog 16 #[.agg (ints .u64 5 a), .int .u32 m, .int .u32 n] w fun e w' => e = .returned (.bool true) ∧ Below w.heap.size w w' := by
  have hG := Grew.refl w
  have fa : True := trivial
  obtain ⟨m0, m1⟩ := hm
  obtain ⟨n0, n1⟩ := hn
  have hl : underB 18014398509481984 a = true → Under 18014398509481984 a := fun h i hi => ⟨(ha i hi).1, (underB_iff _ _).1 h i hi⟩
  generalize hU : underB 18014398509481984 a = U
  go_enter Try.func16, Try.ntmps16
  go_wp2_with fail
  (refine (awake4_any _).mono ?_; rintro e w1 ⟨rfl, hb⟩; replace fa : objAt w1 (w.heap.size) = some (.cells (ints .u64 5 a) 37) := keep_below hb (by (repeat (first | assumption | exact objAt_alloc_at _ _ _ rfl | (refine objAt_alloc_at _ _ _ ?_; (simp; done)) | refine keep_alloc _ ?_ | refine keep_drewN _ ?_ | refine keep_more _ ?_ | exact keep_row _ (by assumption) | refine keep_setRow _ _ ?_ (by first | omega | (simp; omega) | simp)))); have lfa := lt_of_objAt fa; replace hG : Below w.heap.size w w1 := Grew.trans (by (repeat (first | assumption | exact Grew.refl _ | refine Grew.more ?_ _ | refine Grew.alloc ?_ _ | refine Grew.drewN ?_ _ | refine Grew.setRow ?_ _ _ (by omega) | refine Grew.setRow ?_ _ _ (by simp; omega) | refine Grew.setRow ?_ _ _ (by simp)))) hb; clear hb)
  go_wp2_with fail
  (refine (loose_is a _ hU).mono ?_; rintro e w2 ⟨rfl, hb⟩; replace fa : objAt w2 (w.heap.size) = some (.cells (ints .u64 5 a) 37) := keep_below hb (by (repeat (first | assumption | exact objAt_alloc_at _ _ _ rfl | (refine objAt_alloc_at _ _ _ ?_; (simp; done)) | refine keep_alloc _ ?_ | refine keep_drewN _ ?_ | refine keep_more _ ?_ | exact keep_row _ (by assumption) | refine keep_setRow _ _ ?_ (by first | omega | (simp; omega) | simp)))); have lfa := lt_of_objAt fa; replace hG : Below w.heap.size w w2 := Grew.trans (by (repeat (first | assumption | exact Grew.refl _ | refine Grew.more ?_ _ | refine Grew.alloc ?_ _ | refine Grew.drewN ?_ _ | refine Grew.setRow ?_ _ _ (by omega) | refine Grew.setRow ?_ _ _ (by simp; omega) | refine Grew.setRow ?_ _ _ (by simp)))) hb; clear hb)
  cases U
  · go_wp2
    go_ret
    exact ⟨rfl, by (repeat (first | assumption | exact Grew.refl _ | refine Grew.more ?_ _ | refine Grew.alloc ?_ _ | refine Grew.drewN ?_ _ | refine Grew.setRow ?_ _ _ (by omega) | refine Grew.setRow ?_ _ _ (by simp; omega) | refine Grew.setRow ?_ _ _ (by simp)))⟩
  · have hua := hl hU
    clear hl ha hU
    have hs2 := hG.size
    have ha2 := lfa
    go_wp2_with fail
    go_loopw [16] (fun i wr => ∃ k : Nat, k ≤ 32 ∧ i = .int .i64 k ∧ PowersInv a w2.heap.size w k wr) (fun i _ => 32 - (intOf i).toNat)
    case atStart => exact ⟨0, by omega, rfl, ⟨by (repeat (first | assumption | exact Grew.refl _ | refine Grew.more ?_ _ | refine Grew.alloc ?_ _ | refine Grew.drewN ?_ _ | refine Grew.setRow ?_ _ _ (by omega) | refine Grew.setRow ?_ _ _ (by simp; omega) | refine Grew.setRow ?_ _ _ (by simp))), by (repeat (first | assumption | exact objAt_alloc_at _ _ _ rfl | (refine objAt_alloc_at _ _ _ ?_; (simp; done)) | refine keep_alloc _ ?_ | refine keep_drewN _ ?_ | refine keep_more _ ?_ | exact keep_row _ (by assumption) | refine keep_setRow _ _ ?_ (by first | omega | (simp; omega) | simp))), by rw [part_zero]; (repeat (first | assumption | exact objAt_alloc_at _ _ _ rfl | (refine objAt_alloc_at _ _ _ ?_; (simp; done)) | refine keep_alloc _ ?_ | refine keep_drewN _ ?_ | refine keep_more _ ?_ | exact keep_row _ (by assumption) | refine keep_setRow _ _ ?_ (by first | omega | (simp; omega) | simp)))⟩⟩
    case round =>
      clear fa hG lfa
      obtain ⟨k, hk, rfl, hG, fa, fp⟩ := hrel
      have lfa := lt_of_objAt fa
      have lfp := lt_of_objAt fp
      by_cases hlt : k < 32
      · have S : Hid (upd (part' all255 k) k 255 = part' all255 (k + 1)) := part_succ all255 k
        go_wp2
        go_roundw
        case rel => exact ⟨k + 1, by omega, by go_num, ⟨by (repeat (first | assumption | exact Grew.refl _ | refine Grew.more ?_ _ | refine Grew.alloc ?_ _ | refine Grew.drewN ?_ _ | refine Grew.setRow ?_ _ _ (by omega) | refine Grew.setRow ?_ _ _ (by simp; omega) | refine Grew.setRow ?_ _ _ (by simp))), by (repeat (first | assumption | exact objAt_alloc_at _ _ _ rfl | (refine objAt_alloc_at _ _ _ ?_; (simp; done)) | refine keep_alloc _ ?_ | refine keep_drewN _ ?_ | refine keep_more _ ?_ | exact keep_row _ (by assumption) | refine keep_setRow _ _ ?_ (by first | omega | (simp; omega) | simp))), by rw [← S.out]; exact keep_row _ fp⟩⟩
        case measure => simp [intOf] <;> omega
      · obtain rfl : k = 32 := by omega
        clear hlt
        rw [ints_part] at fp
        go_wp2
        replace fp : objAt ((wr.setRow w2.heap.size (ints .u8 32 (upd all255 0 237))).setRow w2.heap.size (ints .u8 32 (upd (upd all255 0 237) 31 127))) w2.heap.size = some (.cells (ints .u8 32 (upd (upd all255 0 237) 31 127)) 23) := keep_row _ (keep_row _ fp)
        replace fa : objAt ((wr.setRow w2.heap.size (ints .u8 32 (upd all255 0 237))).setRow w2.heap.size (ints .u8 32 (upd (upd all255 0 237) 31 127))) w.heap.size = some (.cells (ints .u64 5 a) 37) := by (repeat (first | assumption | exact objAt_alloc_at _ _ _ rfl | (refine objAt_alloc_at _ _ _ ?_; (simp; done)) | refine keep_alloc _ ?_ | refine keep_drewN _ ?_ | refine keep_more _ ?_ | exact keep_row _ (by assumption) | refine keep_setRow _ _ ?_ (by first | omega | (simp; omega) | simp)))
        replace hG : Below w.heap.size w ((wr.setRow w2.heap.size (ints .u8 32 (upd all255 0 237))).setRow w2.heap.size (ints .u8 32 (upd (upd all255 0 237) 31 127))) := by (repeat (first | assumption | exact Grew.refl _ | refine Grew.more ?_ _ | refine Grew.alloc ?_ _ | refine Grew.drewN ?_ _ | refine Grew.setRow ?_ _ _ (by omega) | refine Grew.setRow ?_ _ _ (by simp; omega) | refine Grew.setRow ?_ _ _ (by simp)))
        clear lfa lfp
        generalize (wr.setRow w2.heap.size (ints .u8 32 (upd all255 0 237))).setRow w2.heap.size (ints .u8 32 (upd (upd all255 0 237) 31 127)) = w3 at *
        generalize w2.heap.size = gp at *
        have lfa := lt_of_objAt fa
        have lfp := lt_of_objAt fp
        have hG0 := hG
        (refine wp_rel (by kernel_rfl) (by kernel_rfl) ?_; (repeat (first | refine exv_skip rfl ?_ | (refine exv_call rfl ?_; apply Exists.intro))); refine exv_nil ?_; intro γ hinj hbase; (repeat (first | (refine rel_quiet rfl ?_; ((first | go_big_quiet_skip | (go_big_quiet_want; go_big_quiet_op; go_big_quiet_on)); refine wpQuiet_nil ?_)) | (first | (refine rel_skip_some rfl (fun _ => rfl) ?_; ((first | go_big_quiet_skip | (go_big_quiet_want; go_big_quiet_op; go_big_quiet_on)); refine wpQuiet_nil ?_)) | refine rel_skip_none rfl (fun _ => rfl) ?_) | ((try simp only [Nat.zero_add, Nat.reduceAdd]); apply rel_box alloc_cls; (focus rfl); (focus (first | exact cells_agg _ | exact cells_int _ _ | exact cells_bool _ | rfl)); (focus ((repeat (refine fits_cons ⟨by (first | exact stab_full _ _ _ | exact stab_hdr _ _ _ | exact stab_hdr_at _ _ _ _ | exact stab_full_at _ _ _ _ (hinj _ _ (by decide))), by (first | exact stab_full _ _ _ | exact stab_hdr _ _ _ | exact stab_hdr_at _ _ _ _ | exact stab_full_at _ _ _ _ (hinj _ _ (by decide)))⟩ ?_)); exact fits_nil (by (first | exact stab_full _ _ _ | exact stab_hdr _ _ _ | exact stab_hdr_at _ _ _ _ | exact stab_full_at _ _ _ _ (hinj _ _ (by decide)))))); ((first | go_big_quiet_skip | (go_big_quiet_want; go_big_quiet_op; go_big_quiet_on)); refine wpQuiet_nil ?_)) | ((try simp only [Nat.zero_add, Nat.reduceAdd]); apply rel_alloc _ _ alloc_cls; (focus rfl); (focus (intro W; (first | exact zero_key _ | exact zero_elem _ | exact zero_num _))); (focus exact cells_ints _ _ _); (focus ((repeat (refine fits_cons ⟨by (first | exact stab_full _ _ _ | exact stab_hdr _ _ _ | exact stab_hdr_at _ _ _ _ | exact stab_full_at _ _ _ _ (hinj _ _ (by decide))), by (first | exact stab_full _ _ _ | exact stab_hdr _ _ _ | exact stab_hdr_at _ _ _ _ | exact stab_full_at _ _ _ _ (hinj _ _ (by decide)))⟩ ?_)); exact fits_nil (by (first | exact stab_full _ _ _ | exact stab_hdr _ _ _ | exact stab_hdr_at _ _ _ _ | exact stab_full_at _ _ _ _ (hinj _ _ (by decide)))))); ((first | go_big_quiet_skip | (go_big_quiet_want; go_big_quiet_op; go_big_quiet_on)); refine wpQuiet_nil ?_)) | ((try simp only [Nat.zero_add, Nat.reduceAdd]); apply rel_slice alloc_cls; (focus rfl); (focus (intro W; simp only [List.map_toArray, List.map_cons, List.map_nil]; first | fail)); (focus ((repeat (refine fits_cons ⟨by (first | exact stab_full _ _ _ | exact stab_hdr _ _ _ | exact stab_hdr_at _ _ _ _ | exact stab_full_at _ _ _ _ (hinj _ _ (by decide))), by (first | exact stab_full _ _ _ | exact stab_hdr _ _ _ | exact stab_hdr_at _ _ _ _ | exact stab_full_at _ _ _ _ (hinj _ _ (by decide)))⟩ ?_)); exact fits_nil (by (first | exact stab_full _ _ _ | exact stab_hdr _ _ _ | exact stab_hdr_at _ _ _ _ | exact stab_full_at _ _ _ _ (hinj _ _ (by decide)))))); ((first | go_big_quiet_skip | (go_big_quiet_want; go_big_quiet_op; go_big_quiet_on)); refine wpQuiet_nil ?_)) | ((try simp only [Nat.zero_add, Nat.reduceAdd]); apply rel_store (setRow_cls (hbase _)); (focus rfl); (focus rfl); (focus rfl); (focus (first | exact cells_agg _ | exact cells_int _ _ | exact cells_bool _ | rfl)); rotate_left 3; (focus (first | exact List.mem_cons_self .. | exact List.mem_cons_of_mem _ (List.mem_cons_self ..) | exact List.mem_cons_of_mem _ (List.mem_cons_of_mem _ (List.mem_cons_self ..)) | exact List.mem_cons_of_mem _ (List.mem_cons_of_mem _ (List.mem_cons_of_mem _ (List.mem_cons_self ..))) | exact List.mem_cons_of_mem _ (List.mem_cons_of_mem _ (List.mem_cons_of_mem _ (List.mem_cons_of_mem _ (List.mem_cons_self ..)))))); rotate_right 3; (focus kernel_rfl); (focus exact ints_size _ _ _); (focus exact ints_ones _ _ _); (focus (decide +kernel)); (focus ((repeat (refine fits_cons ⟨by (first | exact stab_full _ _ _ | exact stab_hdr _ _ _ | exact stab_hdr_at _ _ _ _ | exact stab_full_at _ _ _ _ (hinj _ _ (by decide))), by (first | exact stab_full _ _ _ | exact stab_hdr _ _ _ | exact stab_hdr_at _ _ _ _ | exact stab_full_at _ _ _ _ (hinj _ _ (by decide)))⟩ ?_)); exact fits_nil (by (first | exact stab_full _ _ _ | exact stab_hdr _ _ _ | exact stab_hdr_at _ _ _ _ | exact stab_full_at _ _ _ _ (hinj _ _ (by decide))))))) | (apply rel_fact; (focus rfl); (focus rfl); (focus rfl); (focus (intro W hC hF; go_big_quiet_want; go_big_quiet_op; (first | go_big_quiet_on | (apply Exists.intro; refine ⟨fun _ => ?_, ?_⟩; (focus (first | (with_reducible exact Calls.of_more (keyV_any _ _ (by (repeat' (first | assumption | exact loose_nought | exact loose_one | exact loose_of _ | refine loose_plus _ _ ?_ ?_ | refine loose_minus _ _ ?_ ?_ | refine loose_mul _ _ ?_ ?_ | refine loose_times _ _ ?_ ⟨by decide, by decide⟩ | refine loose_prod3 ?_ ?_ ?_ | refine loose_inv _ ?_ | refine loose_pow _ _ ?_ | refine loose_sum3 ?_ ?_ ?_))))) | (with_reducible exact Calls.of_more (add_any _ _ _ (by (repeat' (first | assumption | exact loose_nought | exact loose_one | exact loose_of _ | refine loose_plus _ _ ?_ ?_ | refine loose_minus _ _ ?_ ?_ | refine loose_mul _ _ ?_ ?_ | refine loose_times _ _ ?_ ⟨by decide, by decide⟩ | refine loose_prod3 ?_ ?_ ?_ | refine loose_inv _ ?_ | refine loose_pow _ _ ?_ | refine loose_sum3 ?_ ?_ ?_))) (by (repeat' (first | assumption | exact loose_nought | exact loose_one | exact loose_of _ | refine loose_plus _ _ ?_ ?_ | refine loose_minus _ _ ?_ ?_ | refine loose_mul _ _ ?_ ?_ | refine loose_times _ _ ?_ ⟨by decide, by decide⟩ | refine loose_prod3 ?_ ?_ ?_ | refine loose_inv _ ?_ | refine loose_pow _ _ ?_ | refine loose_sum3 ?_ ?_ ?_))))) | (with_reducible exact Calls.of_more (sub_any _ _ _ (by (repeat' (first | assumption | exact loose_nought | exact loose_one | exact loose_of _ | refine loose_plus _ _ ?_ ?_ | refine loose_minus _ _ ?_ ?_ | refine loose_mul _ _ ?_ ?_ | refine loose_times _ _ ?_ ⟨by decide, by decide⟩ | refine loose_prod3 ?_ ?_ ?_ | refine loose_inv _ ?_ | refine loose_pow _ _ ?_ | refine loose_sum3 ?_ ?_ ?_))) (by (repeat' (first | assumption | exact loose_nought | exact loose_one | exact loose_of _ | refine loose_plus _ _ ?_ ?_ | refine loose_minus _ _ ?_ ?_ | refine loose_mul _ _ ?_ ?_ | refine loose_times _ _ ?_ ⟨by decide, by decide⟩ | refine loose_prod3 ?_ ?_ ?_ | refine loose_inv _ ?_ | refine loose_pow _ _ ?_ | refine loose_sum3 ?_ ?_ ?_))))) | (with_reducible exact Calls.of_more (mul_any _ _ _ (by (repeat' (first | assumption | exact loose_nought | exact loose_one | exact loose_of _ | refine loose_plus _ _ ?_ ?_ | refine loose_minus _ _ ?_ ?_ | refine loose_mul _ _ ?_ ?_ | refine loose_times _ _ ?_ ⟨by decide, by decide⟩ | refine loose_prod3 ?_ ?_ ?_ | refine loose_inv _ ?_ | refine loose_pow _ _ ?_ | refine loose_sum3 ?_ ?_ ?_))) (by (repeat' (first | assumption | exact loose_nought | exact loose_one | exact loose_of _ | refine loose_plus _ _ ?_ ?_ | refine loose_minus _ _ ?_ ?_ | refine loose_mul _ _ ?_ ?_ | refine loose_times _ _ ?_ ⟨by decide, by decide⟩ | refine loose_prod3 ?_ ?_ ?_ | refine loose_inv _ ?_ | refine loose_pow _ _ ?_ | refine loose_sum3 ?_ ?_ ?_))))) | (with_reducible exact Calls.of_more (square_any _ _ (by (repeat' (first | assumption | exact loose_nought | exact loose_one | exact loose_of _ | refine loose_plus _ _ ?_ ?_ | refine loose_minus _ _ ?_ ?_ | refine loose_mul _ _ ?_ ?_ | refine loose_times _ _ ?_ ⟨by decide, by decide⟩ | refine loose_prod3 ?_ ?_ ?_ | refine loose_inv _ ?_ | refine loose_pow _ _ ?_ | refine loose_sum3 ?_ ?_ ?_))))) | (with_reducible exact Calls.of_more (times_any _ _ _ (by (repeat' (first | assumption | exact loose_nought | exact loose_one | exact loose_of _ | refine loose_plus _ _ ?_ ?_ | refine loose_minus _ _ ?_ ?_ | refine loose_mul _ _ ?_ ?_ | refine loose_times _ _ ?_ ⟨by decide, by decide⟩ | refine loose_prod3 ?_ ?_ ?_ | refine loose_inv _ ?_ | refine loose_pow _ _ ?_ | refine loose_sum3 ?_ ?_ ?_))) ⟨by decide, by decide⟩)) | (with_reducible exact Calls.of_more (small_any _ _ (by decide) (by decide))) | (with_reducible exact Calls.of_more (ofV_any _ _)) | (with_reducible exact Calls.of_more (invert_any _ _ (by (repeat' (first | assumption | exact loose_nought | exact loose_one | exact loose_of _ | refine loose_plus _ _ ?_ ?_ | refine loose_minus _ _ ?_ ?_ | refine loose_mul _ _ ?_ ?_ | refine loose_times _ _ ?_ ⟨by decide, by decide⟩ | refine loose_prod3 ?_ ?_ ?_ | refine loose_inv _ ?_ | refine loose_pow _ _ ?_ | refine loose_sum3 ?_ ?_ ?_))))) | (with_reducible exact Calls.of_more (power_any _ _ _ (by (repeat' (first | assumption | exact loose_nought | exact loose_one | exact loose_of _ | refine loose_plus _ _ ?_ ?_ | refine loose_minus _ _ ?_ ?_ | refine loose_mul _ _ ?_ ?_ | refine loose_times _ _ ?_ ⟨by decide, by decide⟩ | refine loose_prod3 ?_ ?_ ?_ | refine loose_inv _ ?_ | refine loose_pow _ _ ?_ | refine loose_sum3 ?_ ?_ ?_))) (by assumption))) | (with_reducible exact Calls.of_more (power_any _ _ _ (by (repeat' (first | assumption | exact loose_nought | exact loose_one | exact loose_of _ | refine loose_plus _ _ ?_ ?_ | refine loose_minus _ _ ?_ ?_ | refine loose_mul _ _ ?_ ?_ | refine loose_times _ _ ?_ ⟨by decide, by decide⟩ | refine loose_prod3 ?_ ?_ ?_ | refine loose_inv _ ?_ | refine loose_pow _ _ ?_ | refine loose_sum3 ?_ ?_ ?_))) (keyV_bytes _))) | (with_reducible exact Calls.of_more (equal_yes _ _ _ (by (repeat' (first | assumption | exact loose_nought | exact loose_one | exact loose_of _ | refine loose_plus _ _ ?_ ?_ | refine loose_minus _ _ ?_ ?_ | refine loose_mul _ _ ?_ ?_ | refine loose_times _ _ ?_ ⟨by decide, by decide⟩ | refine loose_prod3 ?_ ?_ ?_ | refine loose_inv _ ?_ | refine loose_pow _ _ ?_ | refine loose_sum3 ?_ ?_ ?_))) (by (repeat' (first | assumption | exact loose_nought | exact loose_one | exact loose_of _ | refine loose_plus _ _ ?_ ?_ | refine loose_minus _ _ ?_ ?_ | refine loose_mul _ _ ?_ ?_ | refine loose_times _ _ ?_ ⟨by decide, by decide⟩ | refine loose_prod3 ?_ ?_ ?_ | refine loose_inv _ ?_ | refine loose_pow _ _ ?_ | refine loose_sum3 ?_ ?_ ?_))) (by assumption))) | (with_reducible exact Calls.of_more (zero_yes _ _ (by (repeat' (first | assumption | exact loose_nought | exact loose_one | exact loose_of _ | refine loose_plus _ _ ?_ ?_ | refine loose_minus _ _ ?_ ?_ | refine loose_mul _ _ ?_ ?_ | refine loose_times _ _ ?_ ⟨by decide, by decide⟩ | refine loose_prod3 ?_ ?_ ?_ | refine loose_inv _ ?_ | refine loose_pow _ _ ?_ | refine loose_sum3 ?_ ?_ ?_))) (by assumption))) | (with_reducible exact Calls.of_more (key8_any _ _ (by omega) (by omega))) | (with_reducible exact Calls.of_more (power_any _ _ _ hua (key8_bytes _))))); go_big_quiet_on)); exact wpQuiet_nil rfl)); (focus (exact fun _ => rfl)); ((first | go_big_quiet_skip | (go_big_quiet_want; go_big_quiet_op; go_big_quiet_on)); refine wpQuiet_nil ?_)))))
        (refine rel_nil ?_; rintro _ ⟨mq, rfl⟩ hF; simp only [List.forall_mem_cons] at hF; obtain ⟨ft, -⟩ := hF)
        replace fa : objAt (more w3 mq) w.heap.size = some (.cells (ints .u64 5 a) 37) := by (repeat (first | assumption | exact objAt_alloc_at _ _ _ rfl | (refine objAt_alloc_at _ _ _ ?_; (simp; done)) | refine keep_alloc _ ?_ | refine keep_drewN _ ?_ | refine keep_more _ ?_ | exact keep_row _ (by assumption) | refine keep_setRow _ _ ?_ (by first | omega | (simp; omega) | simp)))
        replace fp : objAt (more w3 mq) gp = some (.cells (ints .u8 32 (upd (upd all255 0 237) 31 127)) 23) := by (repeat (first | assumption | exact objAt_alloc_at _ _ _ rfl | (refine objAt_alloc_at _ _ _ ?_; (simp; done)) | refine keep_alloc _ ?_ | refine keep_drewN _ ?_ | refine keep_more _ ?_ | exact keep_row _ (by assumption) | refine keep_setRow _ _ ?_ (by first | omega | (simp; omega) | simp)))
        replace hG : Below w.heap.size w (more w3 mq) := by (repeat (first | assumption | exact Grew.refl _ | refine Grew.more ?_ _ | refine Grew.alloc ?_ _ | refine Grew.drewN ?_ _ | refine Grew.setRow ?_ _ _ (by omega) | refine Grew.setRow ?_ _ _ (by simp; omega) | refine Grew.setRow ?_ _ _ (by simp)))
        replace ft : objAt (more w3 mq) (γ 9) = some (.cells (ints .u64 5 (pwF a (key8 (m + n)) 256)) 37) := ft
        clear hinj hbase lfa lfp hG0
        generalize γ 9 = gt at *
        generalize more w3 mq = w4 at *
        clear γ
        have lfa := lt_of_objAt fa
        have lfp := lt_of_objAt fp
        have lft := lt_of_objAt ft
        have s1 := pow_sum a m n ⟨m0, m1⟩ ⟨n0, n1⟩
        have s2 := pow_prime a
        have s3 := pow_none a
        have p1 := primeK_bytes
        have p2 := bytes_nought
        go_wp2_with fail
        ((first | (with_reducible refine wp_region_on (by kernel_rfl) (by kernel_rfl) ?_) | refine wp_region_more (by kernel_rfl) (by kernel_rfl) ?_); (repeat (first | go_big_quiet_skip | (go_big_quiet_want; go_big_quiet_op; first | go_big_quiet_on | (apply Exists.intro; refine ⟨fun _ => ?_, ?_⟩; (focus (first | (with_reducible exact Calls.of_more (keyV_any _ _ (by (repeat' (first | assumption | exact loose_nought | exact loose_one | exact loose_of _ | refine loose_plus _ _ ?_ ?_ | refine loose_minus _ _ ?_ ?_ | refine loose_mul _ _ ?_ ?_ | refine loose_times _ _ ?_ ⟨by decide, by decide⟩ | refine loose_prod3 ?_ ?_ ?_ | refine loose_inv _ ?_ | refine loose_pow _ _ ?_ | refine loose_sum3 ?_ ?_ ?_))))) | (with_reducible exact Calls.of_more (add_any _ _ _ (by (repeat' (first | assumption | exact loose_nought | exact loose_one | exact loose_of _ | refine loose_plus _ _ ?_ ?_ | refine loose_minus _ _ ?_ ?_ | refine loose_mul _ _ ?_ ?_ | refine loose_times _ _ ?_ ⟨by decide, by decide⟩ | refine loose_prod3 ?_ ?_ ?_ | refine loose_inv _ ?_ | refine loose_pow _ _ ?_ | refine loose_sum3 ?_ ?_ ?_))) (by (repeat' (first | assumption | exact loose_nought | exact loose_one | exact loose_of _ | refine loose_plus _ _ ?_ ?_ | refine loose_minus _ _ ?_ ?_ | refine loose_mul _ _ ?_ ?_ | refine loose_times _ _ ?_ ⟨by decide, by decide⟩ | refine loose_prod3 ?_ ?_ ?_ | refine loose_inv _ ?_ | refine loose_pow _ _ ?_ | refine loose_sum3 ?_ ?_ ?_))))) | (with_reducible exact Calls.of_more (sub_any _ _ _ (by (repeat' (first | assumption | exact loose_nought | exact loose_one | exact loose_of _ | refine loose_plus _ _ ?_ ?_ | refine loose_minus _ _ ?_ ?_ | refine loose_mul _ _ ?_ ?_ | refine loose_times _ _ ?_ ⟨by decide, by decide⟩ | refine loose_prod3 ?_ ?_ ?_ | refine loose_inv _ ?_ | refine loose_pow _ _ ?_ | refine loose_sum3 ?_ ?_ ?_))) (by (repeat' (first | assumption | exact loose_nought | exact loose_one | exact loose_of _ | refine loose_plus _ _ ?_ ?_ | refine loose_minus _ _ ?_ ?_ | refine loose_mul _ _ ?_ ?_ | refine loose_times _ _ ?_ ⟨by decide, by decide⟩ | refine loose_prod3 ?_ ?_ ?_ | refine loose_inv _ ?_ | refine loose_pow _ _ ?_ | refine loose_sum3 ?_ ?_ ?_))))) | (with_reducible exact Calls.of_more (mul_any _ _ _ (by (repeat' (first | assumption | exact loose_nought | exact loose_one | exact loose_of _ | refine loose_plus _ _ ?_ ?_ | refine loose_minus _ _ ?_ ?_ | refine loose_mul _ _ ?_ ?_ | refine loose_times _ _ ?_ ⟨by decide, by decide⟩ | refine loose_prod3 ?_ ?_ ?_ | refine loose_inv _ ?_ | refine loose_pow _ _ ?_ | refine loose_sum3 ?_ ?_ ?_))) (by (repeat' (first | assumption | exact loose_nought | exact loose_one | exact loose_of _ | refine loose_plus _ _ ?_ ?_ | refine loose_minus _ _ ?_ ?_ | refine loose_mul _ _ ?_ ?_ | refine loose_times _ _ ?_ ⟨by decide, by decide⟩ | refine loose_prod3 ?_ ?_ ?_ | refine loose_inv _ ?_ | refine loose_pow _ _ ?_ | refine loose_sum3 ?_ ?_ ?_))))) | (with_reducible exact Calls.of_more (square_any _ _ (by (repeat' (first | assumption | exact loose_nought | exact loose_one | exact loose_of _ | refine loose_plus _ _ ?_ ?_ | refine loose_minus _ _ ?_ ?_ | refine loose_mul _ _ ?_ ?_ | refine loose_times _ _ ?_ ⟨by decide, by decide⟩ | refine loose_prod3 ?_ ?_ ?_ | refine loose_inv _ ?_ | refine loose_pow _ _ ?_ | refine loose_sum3 ?_ ?_ ?_))))) | (with_reducible exact Calls.of_more (times_any _ _ _ (by (repeat' (first | assumption | exact loose_nought | exact loose_one | exact loose_of _ | refine loose_plus _ _ ?_ ?_ | refine loose_minus _ _ ?_ ?_ | refine loose_mul _ _ ?_ ?_ | refine loose_times _ _ ?_ ⟨by decide, by decide⟩ | refine loose_prod3 ?_ ?_ ?_ | refine loose_inv _ ?_ | refine loose_pow _ _ ?_ | refine loose_sum3 ?_ ?_ ?_))) ⟨by decide, by decide⟩)) | (with_reducible exact Calls.of_more (small_any _ _ (by decide) (by decide))) | (with_reducible exact Calls.of_more (ofV_any _ _)) | (with_reducible exact Calls.of_more (invert_any _ _ (by (repeat' (first | assumption | exact loose_nought | exact loose_one | exact loose_of _ | refine loose_plus _ _ ?_ ?_ | refine loose_minus _ _ ?_ ?_ | refine loose_mul _ _ ?_ ?_ | refine loose_times _ _ ?_ ⟨by decide, by decide⟩ | refine loose_prod3 ?_ ?_ ?_ | refine loose_inv _ ?_ | refine loose_pow _ _ ?_ | refine loose_sum3 ?_ ?_ ?_))))) | (with_reducible exact Calls.of_more (power_any _ _ _ (by (repeat' (first | assumption | exact loose_nought | exact loose_one | exact loose_of _ | refine loose_plus _ _ ?_ ?_ | refine loose_minus _ _ ?_ ?_ | refine loose_mul _ _ ?_ ?_ | refine loose_times _ _ ?_ ⟨by decide, by decide⟩ | refine loose_prod3 ?_ ?_ ?_ | refine loose_inv _ ?_ | refine loose_pow _ _ ?_ | refine loose_sum3 ?_ ?_ ?_))) (by assumption))) | (with_reducible exact Calls.of_more (power_any _ _ _ (by (repeat' (first | assumption | exact loose_nought | exact loose_one | exact loose_of _ | refine loose_plus _ _ ?_ ?_ | refine loose_minus _ _ ?_ ?_ | refine loose_mul _ _ ?_ ?_ | refine loose_times _ _ ?_ ⟨by decide, by decide⟩ | refine loose_prod3 ?_ ?_ ?_ | refine loose_inv _ ?_ | refine loose_pow _ _ ?_ | refine loose_sum3 ?_ ?_ ?_))) (keyV_bytes _))) | (with_reducible exact Calls.of_more (equal_yes _ _ _ (by (repeat' (first | assumption | exact loose_nought | exact loose_one | exact loose_of _ | refine loose_plus _ _ ?_ ?_ | refine loose_minus _ _ ?_ ?_ | refine loose_mul _ _ ?_ ?_ | refine loose_times _ _ ?_ ⟨by decide, by decide⟩ | refine loose_prod3 ?_ ?_ ?_ | refine loose_inv _ ?_ | refine loose_pow _ _ ?_ | refine loose_sum3 ?_ ?_ ?_))) (by (repeat' (first | assumption | exact loose_nought | exact loose_one | exact loose_of _ | refine loose_plus _ _ ?_ ?_ | refine loose_minus _ _ ?_ ?_ | refine loose_mul _ _ ?_ ?_ | refine loose_times _ _ ?_ ⟨by decide, by decide⟩ | refine loose_prod3 ?_ ?_ ?_ | refine loose_inv _ ?_ | refine loose_pow _ _ ?_ | refine loose_sum3 ?_ ?_ ?_))) (by assumption))) | (with_reducible exact Calls.of_more (zero_yes _ _ (by (repeat' (first | assumption | exact loose_nought | exact loose_one | exact loose_of _ | refine loose_plus _ _ ?_ ?_ | refine loose_minus _ _ ?_ ?_ | refine loose_mul _ _ ?_ ?_ | refine loose_times _ _ ?_ ⟨by decide, by decide⟩ | refine loose_prod3 ?_ ?_ ?_ | refine loose_inv _ ?_ | refine loose_pow _ _ ?_ | refine loose_sum3 ?_ ?_ ?_))) (by assumption))) | (with_reducible exact Calls.of_more (key8_any _ _ (by omega) (by omega))) | (with_reducible exact Calls.of_more (power_any _ _ _ hua (key8_bytes _))))); go_big_quiet_on)))); refine wpQuiet_nil ?_; rintro _ ⟨mq, rfl⟩)
        go_wp2
        go_ret
        exact ⟨rfl, by (repeat (first | assumption | exact Grew.refl _ | refine Grew.more ?_ _ | refine Grew.alloc ?_ _ | refine Grew.drewN ?_ _ | refine Grew.setRow ?_ _ _ (by omega) | refine Grew.setRow ?_ _ _ (by simp; omega) | refine Grew.setRow ?_ _ _ (by simp)))⟩
end Go.Proofs.Ytfapmpnkemogkaa
