/- Sums, and numbers as bytes, of the reference of layer 2. -/
import Derived.Test.YtfapmpnkemogkaaRef02
namespace Go.Proofs.Ytfapmpnkemogkaa
open Go.RowKit
set_option linter.unusedVariables false
set_option linter.unusedSimpArgs false

@[go_sem] theorem make16 (w : World) : (Instr.makeSlice 103 (.int .i64 16) (.int .i64 16)).run Try.prog w = .ok (.slice (some ⟨w.heap.size, 0, none⟩) 16 16) (w.alloc (.cells (ints .i64 16 nought) 3)) := by kernel_rfl
def plusN (a b : Nat → Int) : Nat → Int := fun i => a i + b i
theorem plusN_val (a b : Nat → Int) : ∀ k, dval (plusN a b) k = dval a k + dval b k
  | 0 => rfl
  | k + 1 => by
    show dval (plusN a b) k + (a k + b k) * 65536 ^ k = dval a k + a k * 65536 ^ k + (dval b k + b k * 65536 ^ k)
    rw [plusN_val a b k, Int.add_mul]; omega
set_option maxHeartbeats 400000 in
theorem refAdd_any (a b : Nat → Int) (w : World) (ha : Digits a) (hb : Digits b) :
    Calls Try.prog 44 #[.agg (ints .i64 16 a), .agg (ints .i64 16 b)] w fun e w' => e = .returned (.agg (ints .i64 16 (numN ((dval a 16 + dval b 16) % 57896044618658097711785492504343953926634992332820282019728792003956564819949)))) ∧ Below w.heap.size w w' := by
  have hs : Small50 (plusN a b) := fun i hi => by have := ha i hi; have := hb i hi; unfold plusN; omega
  have hv := plusN_val a b 16
  have HV : Hid (dval (plusN a b) 16 = dval a 16 + dval b 16) := hv
  clear hv
  go_enter Try.func44, Try.ntmps44
  go_wp2
  go_loopw [6] (fun i wr => ∃ k : Nat, ∃ m : More, k ≤ 16 ∧ i = .int .i64 k ∧ wr = more ((((w.alloc (.cells (ints .i64 16 a) 41)).alloc (.cells (ints .i64 16 b) 41)).alloc (.cells (ints .i64 16 nought) 41)).alloc (.cells (ints .i64 16 (part' (plusN a b) k)) 3)) m) (fun i _ => 16 - (intOf i).toNat)
  case atStart => exact ⟨0, _, by omega, rfl, by rw [part_zero]; exact (more_self _).symm⟩
  case round =>
    obtain ⟨k, m, hk, rfl, rfl⟩ := hrel
    by_cases hlt : k < 16
    · obtain ⟨a0, a1⟩ := ha k hlt
      obtain ⟨b0, b1⟩ := hb k hlt
      go_wp2
      ((first | (with_reducible refine wp_region_tail_on 10 (by kernel_rfl) (by kernel_rfl) (by kernel_rfl) (by kernel_rfl) (by kernel_rfl) ?_) | refine wp_region_tail_more 10 (by kernel_rfl) (by kernel_rfl) (by kernel_rfl) (by kernel_rfl) (by kernel_rfl) ?_); simp only [List.take_succ_cons, List.take_zero]; (repeat (first | go_big_quiet_skip | (go_big_quiet_want; go_big_quiet_op; first | go_big_quiet_on | (apply Exists.intro; refine ⟨fun _ => ?_, ?_⟩; (focus (fail)); go_big_quiet_on)))); refine wpQuiet_nil ?_; rintro _ ⟨mq, rfl⟩)
      (refine tail_one (i := 10) (fuel := 0) (by kernel_rfl) rfl ?_; intro K hK; go_simp; refine hK _ _ ?_; clear hK K)
      (refine wpAny_done (by kernel_rfl) ?_ _)
      go_wp2
      go_roundw
      case rel => exact ⟨k + 1, _, by omega, by go_num, by rw [← part_succ]; rfl⟩
      case measure => simp [intOf] <;> omega
    · obtain rfl : k = 16 := by omega
      rw [ints_part]
      have hG := Grew.refl w
      have fr : True := trivial
      clear hlt ha hb
      go_wp2_with fail
      have fl : objAt (more ((((w.alloc (.cells (ints .i64 16 a) 41)).alloc (.cells (ints .i64 16 b) 41)).alloc (.cells (ints .i64 16 nought) 41)).alloc (.cells (ints .i64 16 (plusN a b)) 3)) m) (w.heap.size + 1 + 1 + 1) = some (.cells (ints .i64 16 (plusN a b)) 3 (0, 0)) := by (repeat (first | assumption | exact objAt_alloc_at _ _ _ rfl | (refine objAt_alloc_at _ _ _ ?_; (simp; done)) | refine keep_alloc _ ?_ | refine keep_drewN _ ?_ | refine keep_more _ ?_ | exact keep_row _ (by assumption) | refine keep_setRow _ _ ?_ (by first | omega | (simp; omega) | simp)))
      (refine (fold16_any (plusN a b) _ 16 16 _ _ _ hs fl (by decide)).mono ?_; rintro e w1 ⟨rfl, hb⟩; replace fr : objAt w1 (w.heap.size + 1 + 1) = some (.cells (ints .i64 16 nought) 41) := keep_below hb (by (repeat (first | assumption | exact objAt_alloc_at _ _ _ rfl | (refine objAt_alloc_at _ _ _ ?_; (simp; done)) | refine keep_alloc _ ?_ | refine keep_drewN _ ?_ | refine keep_more _ ?_ | exact keep_row _ (by assumption) | refine keep_setRow _ _ ?_ (by first | omega | (simp; omega) | simp)))); have lfr := lt_of_objAt fr; replace hG : Below w.heap.size w w1 := Grew.trans (by (repeat (first | assumption | exact Grew.refl _ | refine Grew.more ?_ _ | refine Grew.alloc ?_ _ | refine Grew.drewN ?_ _ | refine Grew.setRow ?_ _ _ (by omega) | refine Grew.setRow ?_ _ _ (by simp; omega) | refine Grew.setRow ?_ _ _ (by simp)))) hb; clear hb)
      go_wp2
      refine ret_row rfl (w.heap.size + 1 + 1) 41 _ (0, 0) _ rfl (keep_row _ fr) Try.underlying41 rfl (by rw [ints_size]; kernel_rfl) rfl ⟨by rw [HV.out], by (repeat (first | assumption | exact Grew.refl _ | refine Grew.more ?_ _ | refine Grew.alloc ?_ _ | refine Grew.drewN ?_ _ | refine Grew.setRow ?_ _ _ (by omega) | refine Grew.setRow ?_ _ _ (by simp; omega) | refine Grew.setRow ?_ _ _ (by simp)))⟩

theorem num_val {x : Int} (h0 : 0 ≤ x) (h1 : x < 57896044618658097711785492504343953926634992332820282019728792003956564819949) : dval (numN x) 16 = x := by
  rw [numN_val, Int.emod_eq_of_lt h0]
  have e : (65536 : Int) ^ 16 = 115792089237316195423570985008687907853269984665640564039457584007913129639936 := by decide
  rw [e]; omega
theorem double_any (x : Int) (w : World) (h0 : 0 ≤ x) (h1 : x < 57896044618658097711785492504343953926634992332820282019728792003956564819949) :
    Calls Try.prog 89 #[.agg (ints .i64 16 (numN x))] w fun e w' => e = .returned (.agg (ints .i64 16 (numN ((x + x) % 57896044618658097711785492504343953926634992332820282019728792003956564819949)))) ∧ Below w.heap.size w w' := by
  have hv := num_val h0 h1
  have hG := Grew.refl w
  have fr : True := trivial
  have HV : Hid (dval (numN x) 16 = x) := hv
  clear hv
  go_enter Try.func89, Try.ntmps89
  go_wp2_with fail
  (refine (refAdd_any (numN x) (numN x) _ (numN_digits x) (numN_digits x)).mono ?_; rintro e w1 ⟨rfl, hb⟩; replace fr : objAt w1 (w.heap.size + 1) = some (.cells (ints .i64 16 nought) 41) := keep_below hb (by (repeat (first | assumption | exact objAt_alloc_at _ _ _ rfl | (refine objAt_alloc_at _ _ _ ?_; (simp; done)) | refine keep_alloc _ ?_ | refine keep_drewN _ ?_ | refine keep_more _ ?_ | exact keep_row _ (by assumption) | refine keep_setRow _ _ ?_ (by first | omega | (simp; omega) | simp)))); have lfr := lt_of_objAt fr; replace hG : Below w.heap.size w w1 := Grew.trans (by (repeat (first | assumption | exact Grew.refl _ | refine Grew.more ?_ _ | refine Grew.alloc ?_ _ | refine Grew.drewN ?_ _ | refine Grew.setRow ?_ _ _ (by omega) | refine Grew.setRow ?_ _ _ (by simp; omega) | refine Grew.setRow ?_ _ _ (by simp)))) hb; clear hb)
  go_wp2
  refine ret_row rfl (w.heap.size + 1) 41 _ (0, 0) _ rfl (keep_row _ fr) Try.underlying41 rfl (by rw [ints_size]; kernel_rfl) rfl ⟨by rw [HV.out], by (repeat (first | assumption | exact Grew.refl _ | refine Grew.more ?_ _ | refine Grew.alloc ?_ _ | refine Grew.drewN ?_ _ | refine Grew.setRow ?_ _ _ (by omega) | refine Grew.setRow ?_ _ _ (by simp; omega) | refine Grew.setRow ?_ _ _ (by simp)))⟩
theorem small_num (n : Int) (h0 : 0 ≤ n) (h1 : n ≤ 4294967295) : ints .i64 16 (upd (upd nought 0 (n % 65536)) 1 (n / 65536)) = ints .i64 16 (numN n) := by
  have hd : Digits (upd (upd nought 0 (n % 65536)) 1 (n / 65536)) := fun i hi => by
    unfold upd nought
    split
    · omega
    · split <;> omega
  rw [numN_of hd]
  have e : dval (upd (upd nought 0 (n % 65536)) 1 (n / 65536)) 16 = n := by
    have z : ∀ i, 1 < i → upd (upd nought 0 (n % 65536)) 1 (n / 65536) i = 0 := fun i hi => by
      unfold upd nought; rw [if_neg (by omega), if_neg (by omega)]
    have h2 : dval (upd (upd nought 0 (n % 65536)) 1 (n / 65536)) 2 = n := by
      show 0 + n % 65536 * 65536 ^ 0 + n / 65536 * 65536 ^ 1 = n
      omega
    have st : ∀ k, dval (upd (upd nought 0 (n % 65536)) 1 (n / 65536)) (2 + k) = n := by
      intro k
      induction k with
      | zero => exact h2
      | succ k ih =>
        show dval _ (2 + k) + upd (upd nought 0 (n % 65536)) 1 (n / 65536) (2 + k) * 65536 ^ (2 + k) = n
        rw [ih, z _ (by omega)]; omega
    exact st 14
  rw [e]
theorem refSmall_any (n : Int) (w : World) (h0 : 0 ≤ n) (h1 : n ≤ 4294967295) :
    Calls Try.prog 40 #[.int .u32 n] w fun e w' => e = .returned (.agg (ints .i64 16 (numN n))) ∧ Below w.heap.size w w' := by
  have p1 := small_num n h0 h1
  go_enter Try.func40, Try.ntmps40
  go_wp2
  refine ret_row rfl w.heap.size 41 (ints .i64 16 (numN n)) (0, 0) _ rfl (by (repeat (first | assumption | exact objAt_alloc_at _ _ _ rfl | (refine objAt_alloc_at _ _ _ ?_; (simp; done)) | refine keep_alloc _ ?_ | refine keep_drewN _ ?_ | refine keep_more _ ?_ | exact keep_row _ (by assumption) | refine keep_setRow _ _ ?_ (by first | omega | (simp; omega) | simp)))) Try.underlying41 rfl (by rw [ints_size]; kernel_rfl) rfl ⟨rfl, by (repeat (first | assumption | exact Grew.refl _ | refine Grew.more ?_ _ | refine Grew.alloc ?_ _ | refine Grew.drewN ?_ _ | refine Grew.setRow ?_ _ _ (by omega) | refine Grew.setRow ?_ _ _ (by simp; omega) | refine Grew.setRow ?_ _ _ (by simp)))⟩
/-- the bytes of digits -/
def bytesN (a : Nat → Int) : Nat → Int := fun i => if i % 2 = 0 then a (i / 2) % 256 else a (i / 2) / 256
theorem bytesN_step (a : Nat → Int) (k : Nat) : upd (upd (part' (bytesN a) (2 * k)) (2 * k) (a k % 256)) (2 * k + 1) (a k / 256) = part' (bytesN a) (2 * (k + 1)) := by
  have e0 : bytesN a (2 * k) = a k % 256 := by unfold bytesN; rw [if_pos (by omega), show 2 * k / 2 = k by omega]
  have e1 : bytesN a (2 * k + 1) = a k / 256 := by unfold bytesN; rw [if_neg (by omega), show (2 * k + 1) / 2 = k by omega]
  rw [← e0, part_succ, ← e1, part_succ]
  rfl
set_option maxHeartbeats 400000 in
theorem refKey_any (a : Nat → Int) (w : World) (ha : Digits a) :
    Calls Try.prog 42 #[.agg (ints .i64 16 a)] w fun e w' => e = .returned (.agg (ints .u8 32 (bytesN a))) ∧ Below w.heap.size w w' := by
  go_enter Try.func42, Try.ntmps42
  go_wp2
  go_loopw [4] (fun i wr => ∃ k : Nat, ∃ m : More, k ≤ 16 ∧ i = .int .i64 k ∧ wr = more (((w.alloc (.cells (ints .i64 16 a) 41)).alloc (.cells (ints .u8 32 nought) 22)).alloc (.cells (ints .u8 32 (part' (bytesN a) (2 * k))) 22)) m) (fun i _ => 16 - (intOf i).toNat)
  case atStart => exact ⟨0, _, by omega, rfl, by rw [part_zero]; exact (more_self _).symm⟩
  case round =>
    obtain ⟨k, m, hk, rfl, rfl⟩ := hrel
    by_cases hlt : k < 16
    · obtain ⟨a0, a1⟩ := ha k hlt
      have h32 : 2 * k < 32 := by omega
      have h33 : 2 * k + 1 < 32 := by omega
      go_wp2
      go_roundw
      case rel => exact ⟨k + 1, m, by omega, by go_num, by rw [bytesN_step]⟩
      case measure => simp [intOf] <;> omega
    · obtain rfl : k = 16 := by omega
      rw [show 2 * 16 = 32 from rfl, ints_part]
      clear hlt
      go_wp2
      refine ret_row rfl (w.heap.size + 1) 22 (ints .u8 32 (bytesN a)) (0, 0) _ rfl (by (repeat (first | assumption | exact objAt_alloc_at _ _ _ rfl | (refine objAt_alloc_at _ _ _ ?_; (simp; done)) | refine keep_alloc _ ?_ | refine keep_drewN _ ?_ | refine keep_more _ ?_ | exact keep_row _ (by assumption) | refine keep_setRow _ _ ?_ (by first | omega | (simp; omega) | simp)))) Try.underlying22 rfl (by rw [ints_size]; kernel_rfl) rfl ⟨rfl, by (repeat (first | assumption | exact Grew.refl _ | refine Grew.more ?_ _ | refine Grew.alloc ?_ _ | refine Grew.drewN ?_ _ | refine Grew.setRow ?_ _ _ (by omega) | refine Grew.setRow ?_ _ _ (by simp; omega) | refine Grew.setRow ?_ _ _ (by simp)))⟩

/-- the digits that a key is read as -/
def ofL (k : Nat → Int) : Nat → Int := fun i => if i = 15 then (k 30 + 256 * k 31) % 32768 else k (2 * i) + 256 * k (2 * i + 1)
def pairs (k : Nat → Int) : Nat → Int := fun i => k (2 * i) + 256 * k (2 * i + 1)
theorem ofL_lit (k : Nat → Int) : ints .i64 16 (upd (pairs k) 15 (pairs k 15 % 32768)) = ints .i64 16 (ofL k) := by
  refine ints_congr fun i hi => ?_
  unfold upd ofL
  split <;> rfl
set_option maxHeartbeats 400000 in
theorem refOf_any (k : Nat → Int) (w : World) (hk : Bytes 32 k) :
    Calls Try.prog 38 #[.agg (ints .u8 32 k)] w fun e w' => e = .returned (.agg (ints .i64 16 (numN (dval (ofL k) 16 % 57896044618658097711785492504343953926634992332820282019728792003956564819949)))) ∧ Below w.heap.size w w' := by
  have hs : Small50 (ofL k) := fun i hi => by
    unfold ofL
    split
    · omega
    · have := hk (2 * i) (by omega); have := hk (2 * i + 1) (by omega); omega
  have p1 := ofL_lit k
  go_enter Try.func38, Try.ntmps38
  go_wp2
  go_loopw [4] (fun i wr => ∃ j : Nat, ∃ m : More, j ≤ 16 ∧ i = .int .i64 j ∧ wr = more (((w.alloc (.cells (ints .u8 32 k) 22)).alloc (.cells (ints .i64 16 nought) 41)).alloc (.cells (ints .i64 16 (part' (pairs k) j)) 3)) m) (fun i _ => 16 - (intOf i).toNat)
  case atStart => exact ⟨0, _, by omega, rfl, by rw [part_zero]; exact (more_self _).symm⟩
  case round =>
    obtain ⟨j, m, hj, rfl, rfl⟩ := hrel
    by_cases hlt : j < 16
    · have h1 : 2 * j < 32 := by omega
      have h2 : 2 * j + 1 < 32 := by omega
      obtain ⟨a0, a1⟩ := hk (2 * j) h1
      obtain ⟨b0, b1⟩ := hk (2 * j + 1) h2
      go_wp2
      ((first | (with_reducible refine wp_region_tail_on 16 (by kernel_rfl) (by kernel_rfl) (by kernel_rfl) (by kernel_rfl) (by kernel_rfl) ?_) | refine wp_region_tail_more 16 (by kernel_rfl) (by kernel_rfl) (by kernel_rfl) (by kernel_rfl) (by kernel_rfl) ?_); simp only [List.take_succ_cons, List.take_zero]; (repeat (first | go_big_quiet_skip | (go_big_quiet_want; go_big_quiet_op; first | go_big_quiet_on | (apply Exists.intro; refine ⟨fun _ => ?_, ?_⟩; (focus (fail)); go_big_quiet_on)))); refine wpQuiet_nil ?_; rintro _ ⟨mq, rfl⟩)
      (refine tail_one (i := 16) (fuel := 0) (by kernel_rfl) rfl ?_; intro K hK; go_simp; refine hK _ _ ?_; clear hK K)
      (refine wpAny_done (by kernel_rfl) ?_ _)
      go_wp2
      go_roundw
      case rel => exact ⟨j + 1, _, by omega, by go_num, by rw [← part_succ]; rfl⟩
      case measure => simp [intOf] <;> omega
    · obtain rfl : j = 16 := by omega
      rw [ints_part]
      have hG := Grew.refl w
      have fr : True := trivial
      obtain ⟨a0, a1⟩ := hk 30 (by decide)
      obtain ⟨b0, b1⟩ := hk 31 (by decide)
      have q0 : 0 ≤ pairs k 15 := by show 0 ≤ k 30 + 256 * k 31; omega
      clear hlt hk a0 a1 b0 b1
      go_wp2_with fail
      have fl : objAt (more (((w.alloc (.cells (ints .u8 32 k) 22)).alloc (.cells (ints .i64 16 nought) 41)).alloc (.cells (ints .i64 16 (ofL k)) 3)) m) (w.heap.size + 1 + 1) = some (.cells (ints .i64 16 (ofL k)) 3 (0, 0)) := by (repeat (first | assumption | exact objAt_alloc_at _ _ _ rfl | (refine objAt_alloc_at _ _ _ ?_; (simp; done)) | refine keep_alloc _ ?_ | refine keep_drewN _ ?_ | refine keep_more _ ?_ | exact keep_row _ (by assumption) | refine keep_setRow _ _ ?_ (by first | omega | (simp; omega) | simp)))
      (refine (fold16_any (ofL k) _ 16 16 _ _ _ hs fl (by decide)).mono ?_; rintro e w1 ⟨rfl, hb⟩; replace fr : objAt w1 (w.heap.size + 1) = some (.cells (ints .i64 16 nought) 41) := keep_below hb (by (repeat (first | assumption | exact objAt_alloc_at _ _ _ rfl | (refine objAt_alloc_at _ _ _ ?_; (simp; done)) | refine keep_alloc _ ?_ | refine keep_drewN _ ?_ | refine keep_more _ ?_ | exact keep_row _ (by assumption) | refine keep_setRow _ _ ?_ (by first | omega | (simp; omega) | simp)))); have lfr := lt_of_objAt fr; replace hG : Below w.heap.size w w1 := Grew.trans (by (repeat (first | assumption | exact Grew.refl _ | refine Grew.more ?_ _ | refine Grew.alloc ?_ _ | refine Grew.drewN ?_ _ | refine Grew.setRow ?_ _ _ (by omega) | refine Grew.setRow ?_ _ _ (by simp; omega) | refine Grew.setRow ?_ _ _ (by simp)))) hb; clear hb)
      go_wp2
      refine ret_row rfl (w.heap.size + 1) 41 _ (0, 0) _ rfl (keep_row _ fr) Try.underlying41 rfl (by rw [ints_size]; kernel_rfl) rfl ⟨rfl, by (repeat (first | assumption | exact Grew.refl _ | refine Grew.more ?_ _ | refine Grew.alloc ?_ _ | refine Grew.drewN ?_ _ | refine Grew.setRow ?_ _ _ (by omega) | refine Grew.setRow ?_ _ _ (by simp; omega) | refine Grew.setRow ?_ _ _ (by simp)))⟩
end Go.Proofs.Ytfapmpnkemogkaa
