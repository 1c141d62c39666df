/- Powers of the reference. -/
import Derived.Test.YtfapmpnkemogkaaRefMul
import Derived.Test.YtfapmpnkemogkaaPowers
namespace Go.Proofs.Ytfapmpnkemogkaa
open Go.RowKit
set_option linter.unusedVariables false
set_option linter.unusedSimpArgs false

set_option maxHeartbeats 400000 in
theorem bit_any (k : Nat → Int) (i : Nat) (w : World) (hk : Bytes 32 k) (hi : i < 256) :
    Calls Try.prog 98 #[.agg (ints .u8 32 k), .int .i64 i] w fun e w' => e = .returned (.int .i64 (bitN k i)) ∧ Below w.heap.size w w' := by
  have hi8 : i / 8 < 32 := by omega
  obtain ⟨k0, k1⟩ := hk (i / 8) hi8
  have hi64 : (i : Int) ≤ 255 := by omega
  have HB : Hid (k (i / 8) / 2 ^ (i % 8) % 2 = bitN k i) := rfl
  have HD : ∀ j : Nat, k (i / 8) / 2 ^ j / 2 = k (i / 8) / 2 ^ (j + 1) := fun j => by
    rw [Int.pow_succ, Int.ediv_ediv, if_neg (fun h => absurd h.1 (Int.not_lt.2 (Int.le_of_lt (Int.pow_pos (by decide))))), Int.sub_zero]
  have HX : ∀ j : Nat, 0 ≤ k (i / 8) / 2 ^ j ∧ k (i / 8) / 2 ^ j ≤ 255 := fun j =>
    ⟨Int.ediv_nonneg k0 (Int.le_of_lt (Int.pow_pos (by decide))), Int.le_trans (Int.ediv_le_self _ k0) k1⟩
  have HH : Hid ((∀ j : Nat, k (i / 8) / 2 ^ j / 2 = k (i / 8) / 2 ^ (j + 1)) ∧ ∀ j : Nat, 0 ≤ k (i / 8) / 2 ^ j ∧ k (i / 8) / 2 ^ j ≤ 255) := ⟨HD, HX⟩
  clear HD HX
  have hd : (0 : Int) ≤ (i : Int) % 8 := by omega
  go_enter Try.func98, Try.ntmps98
  go_wp2
  go_loop [5, 6] (fun b j => ∃ n : Nat, n ≤ i % 8 ∧ j = .int .i64 n ∧ b = .int .i64 (k (i / 8) / 2 ^ n)) (fun _ j => 8 - (intOf j).toNat)
  case atStart => exact ⟨0, by omega, rfl, by simp⟩
  case round =>
    obtain ⟨n, hn, rfl, rfl⟩ := hrel
    have hn8 : n ≤ 7 := by omega
    by_cases hlt : n < i % 8
    · obtain ⟨x0, x1⟩ := HH.out.2 n
      have E : Hid (k (i / 8) / 2 ^ n / 2 = k (i / 8) / 2 ^ (n + 1)) := HH.out.1 n
      generalize k (i / 8) / 2 ^ n = X at *
      go_wp2
      go_round
      case rel => exact ⟨n + 1, by omega, by go_num, by rw [← E.out]⟩
      case measure => simp [intOf] <;> omega
    · obtain rfl : n = i % 8 := by omega
      obtain ⟨x0, x1⟩ := HH.out.2 (i % 8)
      clear hlt hn8
      have E : Hid (k (i / 8) / 2 ^ (i % 8) % 2 = bitN k i) := HB
      generalize hX : k (i / 8) / 2 ^ (i % 8) = X at *
      go_wp2
      go_ret
      exact ⟨ret_int E.out, by (repeat (first | assumption | exact Grew.refl _ | refine Grew.more ?_ _ | refine Grew.alloc ?_ _ | refine Grew.drewN ?_ _ | refine Grew.setRow ?_ _ _ (by omega) | refine Grew.setRow ?_ _ _ (by simp; omega) | refine Grew.setRow ?_ _ _ (by simp)))⟩
def lessK : Nat → Int := upd (upd all255 0 235) 31 127
theorem lessK_num : knum lessK 32 = undo := by kernel_rfl
theorem lessK_bytes : Bytes 32 lessK := fun i _ => by unfold lessK upd all255; split <;> (try split) <;> decide
set_option maxHeartbeats 400000 in
theorem less2_any (w : World) :
    Calls Try.prog 99 #[] w fun e w' => e = .returned (.agg (ints .u8 32 lessK)) ∧ Below w.heap.size w w' := by
  go_enter Try.func99, Try.ntmps99
  go_wp2
  go_loopw [2] (fun i wr => ∃ k : Nat, k ≤ 32 ∧ i = .int .i64 k ∧ wr = (w.alloc (.cells (ints .u8 32 nought) 22)).alloc (.cells (ints .u8 32 (part' all255 k)) 22)) (fun i _ => 32 - (intOf i).toNat)
  case atStart => exact ⟨0, by omega, rfl, by rw [part_zero]⟩
  case round =>
    obtain ⟨k, hk, rfl, rfl⟩ := hrel
    by_cases hlt : k < 32
    · have S : Hid (upd (part' all255 k) k 255 = part' all255 (k + 1)) := part_succ all255 k
      go_wp2
      go_roundw
      case rel => exact ⟨k + 1, by omega, by go_num, by rw [← S.out]⟩
      case measure => simp [intOf] <;> omega
    · obtain rfl : k = 32 := by omega
      clear hlt
      rw [ints_part]
      go_wp2
      refine ret_row rfl _ 22 _ (0, 0) _ rfl (by simp [go_sem]; rfl) Try.underlying22 rfl (by rw [ints_size]; kernel_rfl) rfl ⟨rfl, by (repeat (first | assumption | exact Grew.refl _ | refine Grew.more ?_ _ | refine Grew.alloc ?_ _ | refine Grew.drewN ?_ _ | refine Grew.setRow ?_ _ _ (by omega) | refine Grew.setRow ?_ _ _ (by simp; omega) | refine Grew.setRow ?_ _ _ (by simp)))⟩
theorem mulN_any (x y : Int) (w : World) (hx : 0 ≤ x ∧ x < 57896044618658097711785492504343953926634992332820282019728792003956564819949) (hy : 0 ≤ y ∧ y < 57896044618658097711785492504343953926634992332820282019728792003956564819949) :
    Calls Try.prog 51 #[.agg (ints .i64 16 (numN x)), .agg (ints .i64 16 (numN y))] w fun e w' => e = .returned (.agg (ints .i64 16 (numN ((x * y) % 57896044618658097711785492504343953926634992332820282019728792003956564819949)))) ∧ Below w.heap.size w w' := by
  have := refMul_any (numN x) (numN y) w (numN_digits x) (numN_digits y)
  rw [num_val hx.1 hx.2, num_val hy.1 hy.2] at this
  exact this
theorem smallN_any (n : Int) (w : World) (h0 : 0 ≤ n) (h1 : n ≤ 4294967295) :
    Calls Try.prog 40 #[.int .u32 n] w fun e w' => e = .returned (.agg (ints .i64 16 (numN n))) ∧ Below w.heap.size w w' := refSmall_any n w h0 h1
/-- what is reckoned by the first i bits; the number squared so often -/
def outN (x : Int) (K i : Nat) : Int := x ^ (K % 2 ^ i) % 57896044618658097711785492504343953926634992332820282019728792003956564819949
def sqN (x : Int) (i : Nat) : Int := x ^ (2 ^ i) % 57896044618658097711785492504343953926634992332820282019728792003956564819949
theorem outN_bd (x : Int) (K i : Nat) : 0 ≤ outN x K i ∧ outN x K i < 57896044618658097711785492504343953926634992332820282019728792003956564819949 := by unfold outN; omega
theorem sqN_bd (x : Int) (i : Nat) : 0 ≤ sqN x i ∧ sqN x i < 57896044618658097711785492504343953926634992332820282019728792003956564819949 := by unfold sqN; omega
theorem outN_zero (x : Int) (K : Nat) : outN x K 0 = 1 := by
  unfold outN; rw [Nat.pow_zero, Nat.mod_one, Int.pow_zero]; rfl
theorem sqN_zero (x : Int) (hx : 0 ≤ x ∧ x < 57896044618658097711785492504343953926634992332820282019728792003956564819949) : sqN x 0 = x := by
  unfold sqN; rw [Nat.pow_zero, Int.pow_one]; omega
theorem sqN_next (x : Int) (i : Nat) : sqN x i * sqN x i % 57896044618658097711785492504343953926634992332820282019728792003956564819949 = sqN x (i + 1) := by
  unfold sqN
  rw [md_mulL, md_mulR, ← Int.pow_add]
  congr 2
  rw [Nat.pow_succ]; omega
theorem outN_no (x : Int) (K i : Nat) (h : K / 2 ^ i % 2 = 0) : outN x K (i + 1) = outN x K i := by
  unfold outN
  rw [Nat.mod_pow_succ, h, Nat.mul_zero, Nat.add_zero]
theorem outN_yes (x : Int) (K i : Nat) (h : K / 2 ^ i % 2 = 1) : outN x K i * sqN x i % 57896044618658097711785492504343953926634992332820282019728792003956564819949 = outN x K (i + 1) := by
  unfold outN sqN
  rw [md_mulL, md_mulR, ← Int.pow_add, Nat.mod_pow_succ, h, Nat.mul_one]
structure RPowInv (x : Int) (K : Nat) (k : Nat → Int) (gp : Nat) (w : World) (i : Nat) (wr : World) : Prop where
  g : Below w.heap.size w wr
  fa : objAt wr w.heap.size = some (.cells (ints .i64 16 (numN (sqN x i))) 41)
  fk : objAt wr (w.heap.size + 1) = some (.cells (ints .u8 32 k) 22)
  fr : objAt wr (w.heap.size + 1 + 1) = some (.cells (ints .i64 16 nought) 41)
  fp : objAt wr gp = some (.cells (ints .i64 16 (numN (outN x K i))) 41)
set_option maxRecDepth 100000 in
set_option maxHeartbeats 2000000 in
theorem powN_any (x : Int) (k : Nat → Int) (w : World) (hx : 0 ≤ x ∧ x < 57896044618658097711785492504343953926634992332820282019728792003956564819949) (hk : Bytes 32 k) :
    Calls Try.prog 59 #[.agg (ints .i64 16 (numN x)), .agg (ints .u8 32 k)] w fun e w' => e = .returned (.agg (ints .i64 16 (numN (x ^ knum k 32 % 57896044618658097711785492504343953926634992332820282019728792003956564819949)))) ∧ Below w.heap.size w w' := by
  have HE : Hid (outN x (knum k 32) 256 = x ^ knum k 32 % 57896044618658097711785492504343953926634992332820282019728792003956564819949) := by
    show outN x (knum k 32) 256 = _
    unfold outN
    rw [Nat.mod_eq_of_lt (show knum k 32 < 2 ^ 256 from knum_lt k hk 32 (by omega))]
  have HA : Hid (sqN x 0 = x) := sqN_zero x hx
  have hG := Grew.refl w
  have fa : True := trivial
  have fk : True := trivial
  have fr : True := trivial
  go_enter Try.func59, Try.ntmps59
  go_wp2_with fail
  (refine (smallN_any 1 _ (by decide) (by decide)).mono ?_; rintro e w1 ⟨rfl, hb⟩; replace fa : objAt w1 (w.heap.size) = some (.cells (ints .i64 16 (numN x)) 41) := keep_below hb (by (repeat (first | assumption | exact objAt_alloc_at _ _ _ rfl | (refine objAt_alloc_at _ _ _ ?_; (simp; done)) | refine keep_alloc _ ?_ | refine keep_drewN _ ?_ | refine keep_more _ ?_ | exact keep_row _ (by assumption) | refine keep_setRow _ _ ?_ (by first | omega | (simp; omega) | simp)))); have lfa := lt_of_objAt fa; replace fk : objAt w1 (w.heap.size + 1) = some (.cells (ints .u8 32 k) 22) := keep_below hb (by (repeat (first | assumption | exact objAt_alloc_at _ _ _ rfl | (refine objAt_alloc_at _ _ _ ?_; (simp; done)) | refine keep_alloc _ ?_ | refine keep_drewN _ ?_ | refine keep_more _ ?_ | exact keep_row _ (by assumption) | refine keep_setRow _ _ ?_ (by first | omega | (simp; omega) | simp)))); have lfk := lt_of_objAt fk; replace fr : objAt w1 (w.heap.size + 1 + 1) = some (.cells (ints .i64 16 nought) 41) := keep_below hb (by (repeat (first | assumption | exact objAt_alloc_at _ _ _ rfl | (refine objAt_alloc_at _ _ _ ?_; (simp; done)) | refine keep_alloc _ ?_ | refine keep_drewN _ ?_ | refine keep_more _ ?_ | exact keep_row _ (by assumption) | refine keep_setRow _ _ ?_ (by first | omega | (simp; omega) | simp)))); have lfr := lt_of_objAt fr; replace hG : Below w.heap.size w w1 := Grew.trans (by (repeat (first | assumption | exact Grew.refl _ | refine Grew.more ?_ _ | refine Grew.alloc ?_ _ | refine Grew.drewN ?_ _ | refine Grew.setRow ?_ _ _ (by omega) | refine Grew.setRow ?_ _ _ (by simp; omega) | refine Grew.setRow ?_ _ _ (by simp)))) hb; clear hb)
  have hw1 := hG.size
  have ha1 := lfa
  have hk1 := lfk
  have hr1 := lfr
  have n0 : ¬ (w.heap.size = w1.heap.size) := by omega
  have n1 : ¬ (w.heap.size + 1 = w1.heap.size) := by omega
  have n2 : ¬ (w.heap.size + 1 + 1 = w1.heap.size) := by omega
  have n3 : ¬ (w1.heap.size = w.heap.size) := by omega
  go_wp2_with fail
  go_loopw [6] (fun i wr => ∃ j : Nat, j ≤ 256 ∧ i = .int .i64 j ∧ RPowInv x (knum k 32) k w1.heap.size w j wr) (fun i _ => 256 - (intOf i).toNat)
  case atStart => exact ⟨0, by omega, rfl, ⟨by (repeat (first | assumption | exact Grew.refl _ | refine Grew.more ?_ _ | refine Grew.alloc ?_ _ | refine Grew.drewN ?_ _ | refine Grew.setRow ?_ _ _ (by omega) | refine Grew.setRow ?_ _ _ (by simp; omega) | refine Grew.setRow ?_ _ _ (by simp))), by rw [HA.out]; (repeat (first | assumption | exact objAt_alloc_at _ _ _ rfl | (refine objAt_alloc_at _ _ _ ?_; (simp; done)) | refine keep_alloc _ ?_ | refine keep_drewN _ ?_ | refine keep_more _ ?_ | exact keep_row _ (by assumption) | refine keep_setRow _ _ ?_ (by first | omega | (simp; omega) | simp))), by (repeat (first | assumption | exact objAt_alloc_at _ _ _ rfl | (refine objAt_alloc_at _ _ _ ?_; (simp; done)) | refine keep_alloc _ ?_ | refine keep_drewN _ ?_ | refine keep_more _ ?_ | exact keep_row _ (by assumption) | refine keep_setRow _ _ ?_ (by first | omega | (simp; omega) | simp))), by (repeat (first | assumption | exact objAt_alloc_at _ _ _ rfl | (refine objAt_alloc_at _ _ _ ?_; (simp; done)) | refine keep_alloc _ ?_ | refine keep_drewN _ ?_ | refine keep_more _ ?_ | exact keep_row _ (by assumption) | refine keep_setRow _ _ ?_ (by first | omega | (simp; omega) | simp))), by rw [outN_zero]; (repeat (first | assumption | exact objAt_alloc_at _ _ _ rfl | (refine objAt_alloc_at _ _ _ ?_; (simp; done)) | refine keep_alloc _ ?_ | refine keep_drewN _ ?_ | refine keep_more _ ?_ | exact keep_row _ (by assumption) | refine keep_setRow _ _ ?_ (by first | omega | (simp; omega) | simp)))⟩⟩
  case round =>
    clear fa fk fr hG lfa lfk lfr
    obtain ⟨j, hj, rfl, hG, fa, fk, fr, fp⟩ := hrel
    have lfa := lt_of_objAt fa
    have lfk := lt_of_objAt fk
    have lfr := lt_of_objAt fr
    have lfp := lt_of_objAt fp
    by_cases hlt : j < 256
    · have hb := fun w => bit_any k j w hk hlt
      have hbit := knum_bit k hk j hlt
      have h01 := bitN_01 k j
      have ho := outN_bd x (knum k 32) j
      have hs := sqN_bd x j
      have hsq := fun w => mulN_any (sqN x j) (sqN x j) w hs hs
      have hmu := fun w => mulN_any (outN x (knum k 32) j) (sqN x j) w ho hs
      rw [sqN_next] at hsq
      generalize bitN k j = B at *
      rcases h01 with rfl | rfl
      · have Z : Hid (outN x (knum k 32) (j + 1) = outN x (knum k 32) j) := outN_no x _ j (by simpa using hbit)
        clear hbit hmu ho hs
        go_wp2_with fail
        (refine (hb _).mono ?_; rintro e w2 ⟨rfl, hb⟩; replace fa : objAt w2 (w.heap.size) = some (.cells (ints .i64 16 (numN (sqN x j))) 41) := keep_below hb (by (repeat (first | assumption | exact objAt_alloc_at _ _ _ rfl | (refine objAt_alloc_at _ _ _ ?_; (simp; done)) | refine keep_alloc _ ?_ | refine keep_drewN _ ?_ | refine keep_more _ ?_ | exact keep_row _ (by assumption) | refine keep_setRow _ _ ?_ (by first | omega | (simp; omega) | simp)))); have lfa := lt_of_objAt fa; replace fk : objAt w2 (w.heap.size + 1) = some (.cells (ints .u8 32 k) 22) := keep_below hb (by (repeat (first | assumption | exact objAt_alloc_at _ _ _ rfl | (refine objAt_alloc_at _ _ _ ?_; (simp; done)) | refine keep_alloc _ ?_ | refine keep_drewN _ ?_ | refine keep_more _ ?_ | exact keep_row _ (by assumption) | refine keep_setRow _ _ ?_ (by first | omega | (simp; omega) | simp)))); have lfk := lt_of_objAt fk; replace fr : objAt w2 (w.heap.size + 1 + 1) = some (.cells (ints .i64 16 nought) 41) := keep_below hb (by (repeat (first | assumption | exact objAt_alloc_at _ _ _ rfl | (refine objAt_alloc_at _ _ _ ?_; (simp; done)) | refine keep_alloc _ ?_ | refine keep_drewN _ ?_ | refine keep_more _ ?_ | exact keep_row _ (by assumption) | refine keep_setRow _ _ ?_ (by first | omega | (simp; omega) | simp)))); have lfr := lt_of_objAt fr; replace fp : objAt w2 (w1.heap.size) = some (.cells (ints .i64 16 (numN (outN x (knum k 32) j))) 41) := keep_below hb (by (repeat (first | assumption | exact objAt_alloc_at _ _ _ rfl | (refine objAt_alloc_at _ _ _ ?_; (simp; done)) | refine keep_alloc _ ?_ | refine keep_drewN _ ?_ | refine keep_more _ ?_ | exact keep_row _ (by assumption) | refine keep_setRow _ _ ?_ (by first | omega | (simp; omega) | simp)))); have lfp := lt_of_objAt fp; replace hG : Below w.heap.size w w2 := Grew.trans (by (repeat (first | assumption | exact Grew.refl _ | refine Grew.more ?_ _ | refine Grew.alloc ?_ _ | refine Grew.drewN ?_ _ | refine Grew.setRow ?_ _ _ (by omega) | refine Grew.setRow ?_ _ _ (by simp; omega) | refine Grew.setRow ?_ _ _ (by simp)))) hb; clear hb)
        go_wp2_with fail
        (refine (hsq _).mono ?_; rintro e w3 ⟨rfl, hb⟩; replace fa : objAt w3 (w.heap.size) = some (.cells (ints .i64 16 (numN (sqN x j))) 41) := keep_below hb (by (repeat (first | assumption | exact objAt_alloc_at _ _ _ rfl | (refine objAt_alloc_at _ _ _ ?_; (simp; done)) | refine keep_alloc _ ?_ | refine keep_drewN _ ?_ | refine keep_more _ ?_ | exact keep_row _ (by assumption) | refine keep_setRow _ _ ?_ (by first | omega | (simp; omega) | simp)))); have lfa := lt_of_objAt fa; replace fk : objAt w3 (w.heap.size + 1) = some (.cells (ints .u8 32 k) 22) := keep_below hb (by (repeat (first | assumption | exact objAt_alloc_at _ _ _ rfl | (refine objAt_alloc_at _ _ _ ?_; (simp; done)) | refine keep_alloc _ ?_ | refine keep_drewN _ ?_ | refine keep_more _ ?_ | exact keep_row _ (by assumption) | refine keep_setRow _ _ ?_ (by first | omega | (simp; omega) | simp)))); have lfk := lt_of_objAt fk; replace fr : objAt w3 (w.heap.size + 1 + 1) = some (.cells (ints .i64 16 nought) 41) := keep_below hb (by (repeat (first | assumption | exact objAt_alloc_at _ _ _ rfl | (refine objAt_alloc_at _ _ _ ?_; (simp; done)) | refine keep_alloc _ ?_ | refine keep_drewN _ ?_ | refine keep_more _ ?_ | exact keep_row _ (by assumption) | refine keep_setRow _ _ ?_ (by first | omega | (simp; omega) | simp)))); have lfr := lt_of_objAt fr; replace fp : objAt w3 (w1.heap.size) = some (.cells (ints .i64 16 (numN (outN x (knum k 32) j))) 41) := keep_below hb (by (repeat (first | assumption | exact objAt_alloc_at _ _ _ rfl | (refine objAt_alloc_at _ _ _ ?_; (simp; done)) | refine keep_alloc _ ?_ | refine keep_drewN _ ?_ | refine keep_more _ ?_ | exact keep_row _ (by assumption) | refine keep_setRow _ _ ?_ (by first | omega | (simp; omega) | simp)))); have lfp := lt_of_objAt fp; replace hG : Below w.heap.size w w3 := Grew.trans (by (repeat (first | assumption | exact Grew.refl _ | refine Grew.more ?_ _ | refine Grew.alloc ?_ _ | refine Grew.drewN ?_ _ | refine Grew.setRow ?_ _ _ (by omega) | refine Grew.setRow ?_ _ _ (by simp; omega) | refine Grew.setRow ?_ _ _ (by simp)))) hb; clear hb)
        go_wp2
        go_roundw
        case rel => exact ⟨j + 1, by omega, by go_num, ⟨by (repeat (first | assumption | exact Grew.refl _ | refine Grew.more ?_ _ | refine Grew.alloc ?_ _ | refine Grew.drewN ?_ _ | refine Grew.setRow ?_ _ _ (by omega) | refine Grew.setRow ?_ _ _ (by simp; omega) | refine Grew.setRow ?_ _ _ (by simp))), by (repeat (first | assumption | exact objAt_alloc_at _ _ _ rfl | (refine objAt_alloc_at _ _ _ ?_; (simp; done)) | refine keep_alloc _ ?_ | refine keep_drewN _ ?_ | refine keep_more _ ?_ | exact keep_row _ (by assumption) | refine keep_setRow _ _ ?_ (by first | omega | (simp; omega) | simp))), by (repeat (first | assumption | exact objAt_alloc_at _ _ _ rfl | (refine objAt_alloc_at _ _ _ ?_; (simp; done)) | refine keep_alloc _ ?_ | refine keep_drewN _ ?_ | refine keep_more _ ?_ | exact keep_row _ (by assumption) | refine keep_setRow _ _ ?_ (by first | omega | (simp; omega) | simp))), by (repeat (first | assumption | exact objAt_alloc_at _ _ _ rfl | (refine objAt_alloc_at _ _ _ ?_; (simp; done)) | refine keep_alloc _ ?_ | refine keep_drewN _ ?_ | refine keep_more _ ?_ | exact keep_row _ (by assumption) | refine keep_setRow _ _ ?_ (by first | omega | (simp; omega) | simp))), by rw [Z.out]; (repeat (first | assumption | exact objAt_alloc_at _ _ _ rfl | (refine objAt_alloc_at _ _ _ ?_; (simp; done)) | refine keep_alloc _ ?_ | refine keep_drewN _ ?_ | refine keep_more _ ?_ | exact keep_row _ (by assumption) | refine keep_setRow _ _ ?_ (by first | omega | (simp; omega) | simp)))⟩⟩
        case measure => simp [intOf] <;> omega
      · have Z := outN_yes x (knum k 32) j (by simpa using hbit)
        rw [Z] at hmu
        clear hbit ho hs Z
        go_wp2_with fail
        (refine (hb _).mono ?_; rintro e w2 ⟨rfl, hb⟩; replace fa : objAt w2 (w.heap.size) = some (.cells (ints .i64 16 (numN (sqN x j))) 41) := keep_below hb (by (repeat (first | assumption | exact objAt_alloc_at _ _ _ rfl | (refine objAt_alloc_at _ _ _ ?_; (simp; done)) | refine keep_alloc _ ?_ | refine keep_drewN _ ?_ | refine keep_more _ ?_ | exact keep_row _ (by assumption) | refine keep_setRow _ _ ?_ (by first | omega | (simp; omega) | simp)))); have lfa := lt_of_objAt fa; replace fk : objAt w2 (w.heap.size + 1) = some (.cells (ints .u8 32 k) 22) := keep_below hb (by (repeat (first | assumption | exact objAt_alloc_at _ _ _ rfl | (refine objAt_alloc_at _ _ _ ?_; (simp; done)) | refine keep_alloc _ ?_ | refine keep_drewN _ ?_ | refine keep_more _ ?_ | exact keep_row _ (by assumption) | refine keep_setRow _ _ ?_ (by first | omega | (simp; omega) | simp)))); have lfk := lt_of_objAt fk; replace fr : objAt w2 (w.heap.size + 1 + 1) = some (.cells (ints .i64 16 nought) 41) := keep_below hb (by (repeat (first | assumption | exact objAt_alloc_at _ _ _ rfl | (refine objAt_alloc_at _ _ _ ?_; (simp; done)) | refine keep_alloc _ ?_ | refine keep_drewN _ ?_ | refine keep_more _ ?_ | exact keep_row _ (by assumption) | refine keep_setRow _ _ ?_ (by first | omega | (simp; omega) | simp)))); have lfr := lt_of_objAt fr; replace fp : objAt w2 (w1.heap.size) = some (.cells (ints .i64 16 (numN (outN x (knum k 32) j))) 41) := keep_below hb (by (repeat (first | assumption | exact objAt_alloc_at _ _ _ rfl | (refine objAt_alloc_at _ _ _ ?_; (simp; done)) | refine keep_alloc _ ?_ | refine keep_drewN _ ?_ | refine keep_more _ ?_ | exact keep_row _ (by assumption) | refine keep_setRow _ _ ?_ (by first | omega | (simp; omega) | simp)))); have lfp := lt_of_objAt fp; replace hG : Below w.heap.size w w2 := Grew.trans (by (repeat (first | assumption | exact Grew.refl _ | refine Grew.more ?_ _ | refine Grew.alloc ?_ _ | refine Grew.drewN ?_ _ | refine Grew.setRow ?_ _ _ (by omega) | refine Grew.setRow ?_ _ _ (by simp; omega) | refine Grew.setRow ?_ _ _ (by simp)))) hb; clear hb)
        go_wp2_with fail
        (refine (hmu _).mono ?_; rintro e w3 ⟨rfl, hb⟩; replace fa : objAt w3 (w.heap.size) = some (.cells (ints .i64 16 (numN (sqN x j))) 41) := keep_below hb (by (repeat (first | assumption | exact objAt_alloc_at _ _ _ rfl | (refine objAt_alloc_at _ _ _ ?_; (simp; done)) | refine keep_alloc _ ?_ | refine keep_drewN _ ?_ | refine keep_more _ ?_ | exact keep_row _ (by assumption) | refine keep_setRow _ _ ?_ (by first | omega | (simp; omega) | simp)))); have lfa := lt_of_objAt fa; replace fk : objAt w3 (w.heap.size + 1) = some (.cells (ints .u8 32 k) 22) := keep_below hb (by (repeat (first | assumption | exact objAt_alloc_at _ _ _ rfl | (refine objAt_alloc_at _ _ _ ?_; (simp; done)) | refine keep_alloc _ ?_ | refine keep_drewN _ ?_ | refine keep_more _ ?_ | exact keep_row _ (by assumption) | refine keep_setRow _ _ ?_ (by first | omega | (simp; omega) | simp)))); have lfk := lt_of_objAt fk; replace fr : objAt w3 (w.heap.size + 1 + 1) = some (.cells (ints .i64 16 nought) 41) := keep_below hb (by (repeat (first | assumption | exact objAt_alloc_at _ _ _ rfl | (refine objAt_alloc_at _ _ _ ?_; (simp; done)) | refine keep_alloc _ ?_ | refine keep_drewN _ ?_ | refine keep_more _ ?_ | exact keep_row _ (by assumption) | refine keep_setRow _ _ ?_ (by first | omega | (simp; omega) | simp)))); have lfr := lt_of_objAt fr; replace fp : objAt w3 (w1.heap.size) = some (.cells (ints .i64 16 (numN (outN x (knum k 32) j))) 41) := keep_below hb (by (repeat (first | assumption | exact objAt_alloc_at _ _ _ rfl | (refine objAt_alloc_at _ _ _ ?_; (simp; done)) | refine keep_alloc _ ?_ | refine keep_drewN _ ?_ | refine keep_more _ ?_ | exact keep_row _ (by assumption) | refine keep_setRow _ _ ?_ (by first | omega | (simp; omega) | simp)))); have lfp := lt_of_objAt fp; replace hG : Below w.heap.size w w3 := Grew.trans (by (repeat (first | assumption | exact Grew.refl _ | refine Grew.more ?_ _ | refine Grew.alloc ?_ _ | refine Grew.drewN ?_ _ | refine Grew.setRow ?_ _ _ (by omega) | refine Grew.setRow ?_ _ _ (by simp; omega) | refine Grew.setRow ?_ _ _ (by simp)))) hb; clear hb)
        have fp2 : objAt (w3.setRow w1.heap.size (ints .i64 16 (numN (outN x (knum k 32) (j + 1))))) w1.heap.size = some (.cells (ints .i64 16 (numN (outN x (knum k 32) (j + 1)))) 41) := keep_row _ fp
        go_wp2_with fail
        clear fp
        (refine (hsq _).mono ?_; rintro e w4 ⟨rfl, hb⟩; replace fa : objAt w4 (w.heap.size) = some (.cells (ints .i64 16 (numN (sqN x j))) 41) := keep_below hb (by (repeat (first | assumption | exact objAt_alloc_at _ _ _ rfl | (refine objAt_alloc_at _ _ _ ?_; (simp; done)) | refine keep_alloc _ ?_ | refine keep_drewN _ ?_ | refine keep_more _ ?_ | exact keep_row _ (by assumption) | refine keep_setRow _ _ ?_ (by first | omega | (simp; omega) | simp)))); have lfa := lt_of_objAt fa; replace fk : objAt w4 (w.heap.size + 1) = some (.cells (ints .u8 32 k) 22) := keep_below hb (by (repeat (first | assumption | exact objAt_alloc_at _ _ _ rfl | (refine objAt_alloc_at _ _ _ ?_; (simp; done)) | refine keep_alloc _ ?_ | refine keep_drewN _ ?_ | refine keep_more _ ?_ | exact keep_row _ (by assumption) | refine keep_setRow _ _ ?_ (by first | omega | (simp; omega) | simp)))); have lfk := lt_of_objAt fk; replace fr : objAt w4 (w.heap.size + 1 + 1) = some (.cells (ints .i64 16 nought) 41) := keep_below hb (by (repeat (first | assumption | exact objAt_alloc_at _ _ _ rfl | (refine objAt_alloc_at _ _ _ ?_; (simp; done)) | refine keep_alloc _ ?_ | refine keep_drewN _ ?_ | refine keep_more _ ?_ | exact keep_row _ (by assumption) | refine keep_setRow _ _ ?_ (by first | omega | (simp; omega) | simp)))); have lfr := lt_of_objAt fr; replace fp2 : objAt w4 (w1.heap.size) = some (.cells (ints .i64 16 (numN (outN x (knum k 32) (j + 1)))) 41) := keep_below hb (by (repeat (first | assumption | exact objAt_alloc_at _ _ _ rfl | (refine objAt_alloc_at _ _ _ ?_; (simp; done)) | refine keep_alloc _ ?_ | refine keep_drewN _ ?_ | refine keep_more _ ?_ | exact keep_row _ (by assumption) | refine keep_setRow _ _ ?_ (by first | omega | (simp; omega) | simp)))); have lfp2 := lt_of_objAt fp2; replace hG : Below w.heap.size w w4 := Grew.trans (by (repeat (first | assumption | exact Grew.refl _ | refine Grew.more ?_ _ | refine Grew.alloc ?_ _ | refine Grew.drewN ?_ _ | refine Grew.setRow ?_ _ _ (by omega) | refine Grew.setRow ?_ _ _ (by simp; omega) | refine Grew.setRow ?_ _ _ (by simp)))) hb; clear hb)
        go_wp2
        go_roundw
        case rel => exact ⟨j + 1, by omega, by go_num, ⟨by (repeat (first | assumption | exact Grew.refl _ | refine Grew.more ?_ _ | refine Grew.alloc ?_ _ | refine Grew.drewN ?_ _ | refine Grew.setRow ?_ _ _ (by omega) | refine Grew.setRow ?_ _ _ (by simp; omega) | refine Grew.setRow ?_ _ _ (by simp))), by (repeat (first | assumption | exact objAt_alloc_at _ _ _ rfl | (refine objAt_alloc_at _ _ _ ?_; (simp; done)) | refine keep_alloc _ ?_ | refine keep_drewN _ ?_ | refine keep_more _ ?_ | exact keep_row _ (by assumption) | refine keep_setRow _ _ ?_ (by first | omega | (simp; omega) | simp))), by (repeat (first | assumption | exact objAt_alloc_at _ _ _ rfl | (refine objAt_alloc_at _ _ _ ?_; (simp; done)) | refine keep_alloc _ ?_ | refine keep_drewN _ ?_ | refine keep_more _ ?_ | exact keep_row _ (by assumption) | refine keep_setRow _ _ ?_ (by first | omega | (simp; omega) | simp))), by (repeat (first | assumption | exact objAt_alloc_at _ _ _ rfl | (refine objAt_alloc_at _ _ _ ?_; (simp; done)) | refine keep_alloc _ ?_ | refine keep_drewN _ ?_ | refine keep_more _ ?_ | exact keep_row _ (by assumption) | refine keep_setRow _ _ ?_ (by first | omega | (simp; omega) | simp))), by (repeat (first | assumption | exact objAt_alloc_at _ _ _ rfl | (refine objAt_alloc_at _ _ _ ?_; (simp; done)) | refine keep_alloc _ ?_ | refine keep_drewN _ ?_ | refine keep_more _ ?_ | exact keep_row _ (by assumption) | refine keep_setRow _ _ ?_ (by first | omega | (simp; omega) | simp)))⟩⟩
        case measure => simp [intOf] <;> omega
    · obtain rfl : j = 256 := by omega
      clear hlt
      go_wp2
      refine ret_row rfl _ 41 _ (0, 0) _ rfl (keep_row _ fr) Try.underlying41 rfl (by rw [ints_size]; kernel_rfl) rfl ⟨by rw [HE.out], by (repeat (first | assumption | exact Grew.refl _ | refine Grew.more ?_ _ | refine Grew.alloc ?_ _ | refine Grew.drewN ?_ _ | refine Grew.setRow ?_ _ _ (by omega) | refine Grew.setRow ?_ _ _ (by simp; omega) | refine Grew.setRow ?_ _ _ (by simp)))⟩
set_option maxHeartbeats 400000 in
theorem invN_any (x : Int) (w : World) (hx : 0 ≤ x ∧ x < 57896044618658097711785492504343953926634992332820282019728792003956564819949) :
    Calls Try.prog 61 #[.agg (ints .i64 16 (numN x))] w fun e w' => e = .returned (.agg (ints .i64 16 (numN (x ^ undo % 57896044618658097711785492504343953926634992332820282019728792003956564819949)))) ∧ Below w.heap.size w w' := by
  have hp := fun w => powN_any x lessK w hx lessK_bytes
  rw [lessK_num] at hp
  have hG := Grew.refl w
  go_enter Try.func61, Try.ntmps61
  go_wp2_with fail
  ((first | (with_reducible refine wp_region_tail_on 3 (by kernel_rfl) (by kernel_rfl) (by kernel_rfl) (by kernel_rfl) (by kernel_rfl) ?_) | refine wp_region_tail_more 3 (by kernel_rfl) (by kernel_rfl) (by kernel_rfl) (by kernel_rfl) (by kernel_rfl) ?_); simp only [List.take_succ_cons, List.take_zero]; (repeat (first | go_big_quiet_skip | (go_big_quiet_want; go_big_quiet_op; first | go_big_quiet_on | (apply Exists.intro; refine ⟨fun _ => ?_, ?_⟩; (focus (first | (with_reducible exact Calls.of_more (less2_any _)) | (with_reducible exact Calls.of_more (hp _)))); go_big_quiet_on)))); refine wpQuiet_nil ?_; rintro _ ⟨mq, rfl⟩)
  (refine tail_one (i := 3) (fuel := 0) (by kernel_rfl) rfl ?_; intro K hK; go_simp; refine hK _ _ ?_; clear hK K)
  (refine wpAny_done (by kernel_rfl) ?_ _)
  go_wp2
  refine ret_row rfl _ 41 _ (0, 0) _ rfl (by simp [go_sem]) Try.underlying41 rfl (by rw [ints_size]; kernel_rfl) rfl ⟨rfl, by (repeat (first | assumption | exact Grew.refl _ | refine Grew.more ?_ _ | refine Grew.alloc ?_ _ | refine Grew.drewN ?_ _ | refine Grew.setRow ?_ _ _ (by omega) | refine Grew.setRow ?_ _ _ (by simp; omega) | refine Grew.setRow ?_ _ _ (by simp)))⟩
end Go.Proofs.Ytfapmpnkemogkaa
