/- LimbReads. -/
import Derived.Test.YtfapmpnkemogkaaIs02
namespace Go.Proofs.Ytfapmpnkemogkaa
open Go.RowKit
set_option linter.unusedVariables false
set_option linter.unusedSimpArgs false

def underK (b : Int) (f : Nat → Int) (k : Nat) : Bool := (List.range k).all fun i => decide (f i ≤ b)
theorem underK_succ (b : Int) (f : Nat → Int) (k : Nat) : underK b f (k + 1) = (underK b f k && decide (f k ≤ b)) := by
  simp [underK, List.range_succ]
theorem underK_zero (b : Int) (f : Nat → Int) : underK b f 0 = true := rfl
theorem underK_all (b : Int) (f : Nat → Int) : underK b f 5 = underB b f := rfl
theorem tight_is (f : Nat → Int) (w : World) {T : Bool} (h : underB 4503599627370496 f = T) :
    Calls Try.prog 34 #[.agg (ints .u64 5 f)] w fun e w' => e = .returned (.bool T) ∧ Below w.heap.size w w' := h ▸ tight_any f w
theorem loose_is (f : Nat → Int) (w : World) {T : Bool} (h : underB 18014398509481984 f = T) :
    Calls Try.prog 35 #[.agg (ints .u64 5 f)] w fun e w' => e = .returned (.bool T) ∧ Below w.heap.size w w' := h ▸ loose_any f w
theorem keyD_bytes (d : Nat → Int) : Bytes 32 (keyD d) := fun i _ => by unfold keyD; omega
theorem tight_of (k : Nat → Int) : Under 4503599627370496 (ofF k) := fun i _ => by have := of_under k i; omega
theorem tight_small (n : Int) (h0 : 0 ≤ n) (h1 : n ≤ 4294967295) : Under 4503599627370496 (upd nought 0 n) := fun i _ => by
  unfold upd nought; split <;> omega
theorem val_small (n : Int) (h0 : 0 ≤ n) (h1 : n ≤ 4294967295) : valE (upd nought 0 n) % 57896044618658097711785492504343953926634992332820282019728792003956564819949 = n := by
  show (n + 0 * _ + 0 * _ + 0 * _ + 0 * _) % _ = _
  omega
theorem of_key (v : Int) (h0 : 0 ≤ v) (h1 : v < 57896044618658097711785492504343953926634992332820282019728792003956564819949) : valE (ofF (keyN v)) = v := by
  rw [of_val (keyN v) (keyD_bytes _)]
  have e : dval (ofL (keyN v)) 16 = dval (numN v) 16 := dval_congr 16 fun i hi => by
    have d := numN_digits v i hi
    have kb := fun j hj => key_bytes v h0 (by omega) j hj
    by_cases h : i = 15
    · subst h
      show (keyN v 30 + 256 * keyN v 31) % 32768 = _
      rw [kb 30 (by decide), kb 31 (by decide)]
      show (numN v 15 % 256 + 256 * (numN v 15 / 256)) % 32768 = _
      have hn : numN v 15 < 32768 := by
        show v / 65536 ^ 15 % 65536 < _
        omega
      omega
    · unfold ofL
      rw [if_neg h, kb (2 * i) (by omega), kb (2 * i + 1) (by omega)]
      unfold bytesN
      rw [if_pos (by omega), if_neg (by omega), show 2 * i / 2 = i by omega, show (2 * i + 1) / 2 = i by omega]
      omega
  rw [e, num_val h0 h1]
theorem reread (k : Nat → Int) (hk : Bytes 32 k) : same 32 (keyD (digF (carryF (ofF (keyD (digF (carryF (ofF k)))))))) (keyD (digF (carryF (ofF k)))) = true := by
  refine key_of_val (loose_of _) (loose_of k) ?_
  rw [key_val (ofF k) (loose_of k), of_key _ (by omega) (by omega)]
  omega
set_option maxHeartbeats 400000 in
theorem reads_any (k : Nat → Int) (n : Int) (e : Nat → Int) (w : World) (hk : Bytes 32 k) (hn0 : 0 ≤ n) (hn1 : n ≤ 4294967295) (he : ∀ i, i < 5 → 0 ≤ e i ∧ e i ≤ 18446744073709551615) :
    Calls Try.prog 6 #[.agg (ints .u8 32 k), .int .u32 n, .agg (ints .u64 5 e)] w fun e' w' => e' = .returned (.bool true) ∧ Below w.heap.size w w' := by
  have hG := Grew.refl w
  have fk : True := trivial
  have fe : True := trivial
  go_enter Try.func6, Try.ntmps6
  go_wp2_with fail
  (refine (awake2_any _).mono ?_; rintro e w1 ⟨rfl, hb⟩; replace fk : objAt w1 (w.heap.size) = some (.cells (ints .u8 32 k) 23) := keep_below hb (by (repeat (first | assumption | exact objAt_alloc_at _ _ _ rfl | (refine objAt_alloc_at _ _ _ ?_; (simp; done)) | refine keep_alloc _ ?_ | refine keep_drewN _ ?_ | refine keep_more _ ?_ | exact keep_row _ (by assumption) | refine keep_setRow _ _ ?_ (by first | omega | (simp; omega) | simp)))); have lfk := lt_of_objAt fk; replace fe : objAt w1 (w.heap.size + 1) = some (.cells (ints .u64 5 e) 37) := keep_below hb (by (repeat (first | assumption | exact objAt_alloc_at _ _ _ rfl | (refine objAt_alloc_at _ _ _ ?_; (simp; done)) | refine keep_alloc _ ?_ | refine keep_drewN _ ?_ | refine keep_more _ ?_ | exact keep_row _ (by assumption) | refine keep_setRow _ _ ?_ (by first | omega | (simp; omega) | simp)))); have lfe := lt_of_objAt fe; replace hG : Below w.heap.size w w1 := Grew.trans (by (repeat (first | assumption | exact Grew.refl _ | refine Grew.more ?_ _ | refine Grew.alloc ?_ _ | refine Grew.drewN ?_ _ | refine Grew.setRow ?_ _ _ (by omega) | refine Grew.setRow ?_ _ _ (by simp; omega) | refine Grew.setRow ?_ _ _ (by simp)))) hb; clear hb)
  go_wp2_with fail
  go_loopw [7, 8, 14] (fun t l i wr => ∃ j : Nat, ∃ m : More, j ≤ 5 ∧ i = .int .i64 j ∧ t = .bool (underK 4503599627370496 e j) ∧ l = .bool (underK 18014398509481984 e j) ∧ wr = more w1 m) (fun _ _ i _ => 5 - (intOf i).toNat)
  case atStart => exact ⟨0, _, by omega, rfl, rfl, rfl, (more_self _).symm⟩
  case round =>
    obtain ⟨j, m, hj, rfl, rfl, rfl, rfl⟩ := hrel
    by_cases hlt : j < 5
    · obtain ⟨e0, e1⟩ := he j hlt
      have t1 := underK_succ 4503599627370496 e j
      have t2 := underK_succ 18014398509481984 e j
      generalize underK 4503599627370496 e j = T at *
      generalize underK 18014398509481984 e j = L at *
      generalize ht' : underK 4503599627370496 e (j + 1) = T' at *
      generalize hl' : underK 18014398509481984 e (j + 1) = L' at *
      have T1 : Hid (underK 4503599627370496 e (j + 1) = (T && decide (e j ≤ 4503599627370496))) := ht'.trans t1
      have T2 : Hid (underK 18014398509481984 e (j + 1) = (L && decide (e j ≤ 18014398509481984))) := hl'.trans t2
      clear ht' hl' t1 t2 T' L'
      cases T <;> cases L
      all_goals
        go_wp2
        go_roundw
        case rel => exact ⟨j + 1, _, by omega, by go_num, by rw [T1.out]; simp, by rw [T2.out]; simp, rfl⟩
        case measure => simp [intOf] <;> omega
    · obtain rfl : j = 5 := by omega
      clear hlt
      rw [underK_all, underK_all]
      generalize hT : underB 4503599627370496 e = T
      generalize hL : underB 18014398509481984 e = L
      have r1 := reread k hk
      have b1 := keyD_bytes (digF (carryF (ofF k)))
      have i1 := fun w => is_any (ofF k) _ w (tight_of k) (by rw [of_val k hk])
      have i2 := fun w => is_any (upd nought 0 n) _ w (tight_small n hn0 hn1) (val_small n hn0 hn1)
      go_wp2_with fail
      ((first | (with_reducible refine wp_region_on (by kernel_rfl) (by kernel_rfl) ?_) | refine wp_region_more (by kernel_rfl) (by kernel_rfl) ?_); (repeat (first | go_big_quiet_skip | (go_big_quiet_want; go_big_quiet_op; first | go_big_quiet_on | (apply Exists.intro; refine ⟨fun _ => ?_, ?_⟩; (focus (first | (with_reducible exact Calls.of_more (tight_is e _ hT)) | (with_reducible exact Calls.of_more (loose_is e _ hL)) | (with_reducible exact Calls.of_more (of_any k _ hk)) | (with_reducible exact Calls.of_more (refOf_any k _ hk)) | (with_reducible exact Calls.of_more (i1 _)) | (with_reducible exact Calls.of_more (small_any n _ hn0 hn1)) | (with_reducible exact Calls.of_more (refSmall_any n _ hn0 hn1)) | (with_reducible exact Calls.of_more (i2 _)) | (with_reducible exact Calls.of_more (key_any (ofF k) _ (loose_of _))) | (with_reducible exact Calls.of_more (of_any _ _ b1)) | (with_reducible exact Calls.of_more (key_any _ _ (loose_of _))))); go_big_quiet_on)))); refine wpQuiet_nil ?_; rintro _ ⟨mq, rfl⟩)
      cases L
      · go_wp2_with fail
        ((first | (with_reducible refine wp_region_on (by kernel_rfl) (by kernel_rfl) ?_) | refine wp_region_more (by kernel_rfl) (by kernel_rfl) ?_); (repeat (first | go_big_quiet_skip | (go_big_quiet_want; go_big_quiet_op; first | go_big_quiet_on | (apply Exists.intro; refine ⟨fun _ => ?_, ?_⟩; (focus (fail)); go_big_quiet_on)))); refine wpQuiet_nil ?_; rintro _ ⟨mq, rfl⟩)
        go_wp2
        go_ret
        exact ⟨rfl, by (repeat (first | assumption | exact Grew.refl _ | refine Grew.more ?_ _ | refine Grew.alloc ?_ _ | refine Grew.drewN ?_ _ | refine Grew.setRow ?_ _ _ (by omega) | refine Grew.setRow ?_ _ _ (by simp; omega) | refine Grew.setRow ?_ _ _ (by simp)))⟩
      · have hu : Under 18014398509481984 e := fun i hi => ⟨(he i hi).1, (underB_iff _ _).1 hL i hi⟩
        have s9 : same 32 (keyD (digF (carryF e))) (bytesN (numN (hv e 5))) = true := by
          rw [key_val e hu, hv_val]
          exact (same_iff _ _ _).2 fun i hi => key_bytes _ (val_p _).1 (val_p _).2 i hi
        go_wp2_with fail
        ((first | (with_reducible refine wp_region_on (by kernel_rfl) (by kernel_rfl) ?_) | refine wp_region_more (by kernel_rfl) (by kernel_rfl) ?_); (repeat (first | go_big_quiet_skip | (go_big_quiet_want; go_big_quiet_op; first | go_big_quiet_on | (apply Exists.intro; refine ⟨fun _ => ?_, ?_⟩; (focus (first | (with_reducible exact Calls.of_more (key_any e _ hu)) | (with_reducible exact Calls.of_more (limbs_any e _ he)) | (with_reducible exact Calls.of_more (refKey_any _ _ (numN_digits _))))); go_big_quiet_on)))); refine wpQuiet_nil ?_; rintro _ ⟨mq, rfl⟩)
        go_wp2
        go_ret
        exact ⟨rfl, by (repeat (first | assumption | exact Grew.refl _ | refine Grew.more ?_ _ | refine Grew.alloc ?_ _ | refine Grew.drewN ?_ _ | refine Grew.setRow ?_ _ _ (by omega) | refine Grew.setRow ?_ _ _ (by simp; omega) | refine Grew.setRow ?_ _ _ (by simp)))⟩
end Go.Proofs.Ytfapmpnkemogkaa
