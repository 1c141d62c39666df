/- Of one and itself; of one and a small number; of all. -/
import Derived.Test.YtfapmpnkemogkaaMul
import Derived.Test.YtfapmpnkemogkaaElems
namespace Go.Proofs.Ytfapmpnkemogkaa
open Go.RowKit
set_option linter.unusedVariables false
set_option linter.unusedSimpArgs false

theorem loose_mul (a b : Nat → Int) (ha : Under 18014398509481984 a) (hb : Under 18014398509481984 b) : Under 18014398509481984 (mulF a b) := loose_tight (tight_mul a b ha hb)
set_option maxHeartbeats 400000 in
theorem square_any (a : Nat → Int) (w : World) (ha : Under 18014398509481984 a) :
    Calls Try.prog 52 #[.agg (ints .u64 5 a)] w fun e w' => e = .returned (.agg (ints .u64 5 (mulF a a))) ∧ Below w.heap.size w w' := by
  have hG := Grew.refl w
  have fr : True := trivial
  go_enter Try.func52, Try.ntmps52
  go_wp2_with fail
  (refine (mul_any a a _ ha ha).mono ?_; rintro e w1 ⟨rfl, hb⟩; replace fr : objAt w1 (w.heap.size + 1) = some (.cells (ints .u64 5 nought) 37) := keep_below hb (by (repeat (first | assumption | exact objAt_alloc_at _ _ _ rfl | (refine objAt_alloc_at _ _ _ ?_; (simp; done)) | refine keep_alloc _ ?_ | refine keep_drewN _ ?_ | refine keep_more _ ?_ | exact keep_row _ (by assumption) | refine keep_setRow _ _ ?_ (by first | omega | (simp; omega) | simp)))); have lfr := lt_of_objAt fr; replace hG : Below w.heap.size w w1 := Grew.trans (by (repeat (first | assumption | exact Grew.refl _ | refine Grew.more ?_ _ | refine Grew.alloc ?_ _ | refine Grew.drewN ?_ _ | refine Grew.setRow ?_ _ _ (by omega) | refine Grew.setRow ?_ _ _ (by simp; omega) | refine Grew.setRow ?_ _ _ (by simp)))) hb; clear hb)
  go_wp2
  refine ret_row rfl _ 37 _ (0, 0) _ rfl (keep_row _ fr) Try.underlying37 rfl (by rw [ints_size]; kernel_rfl) rfl ⟨rfl, by (repeat (first | assumption | exact Grew.refl _ | refine Grew.more ?_ _ | refine Grew.alloc ?_ _ | refine Grew.drewN ?_ _ | refine Grew.setRow ?_ _ _ (by omega) | refine Grew.setRow ?_ _ _ (by simp; omega) | refine Grew.setRow ?_ _ _ (by simp)))⟩
def timesF (a : Nat → Int) (n : Int) : Nat → Int := carryF (carryF fun i => a i * n)
theorem times_bd (x n : Int) (hx : 0 ≤ x ∧ x ≤ 18014398509481984) (hn : 0 ≤ n ∧ n ≤ 4294967295) : 0 ≤ x * n ∧ x * n ≤ 77371252455336262886195200 :=
  ⟨Int.mul_nonneg hx.1 hn.1, by have := Int.mul_le_mul hx.2 hn.2 hn.1 (by decide); omega⟩
theorem tight_times (a : Nat → Int) (n : Int) (ha : Under 18014398509481984 a) (hn : 0 ≤ n ∧ n ≤ 4294967295) : Under 4503599627370496 (timesF a n) := by
  have t0 := times_bd (a 0) n (ha 0 (by decide)) hn
  have t1 := times_bd (a 1) n (ha 1 (by decide)) hn
  have t2 := times_bd (a 2) n (ha 2 (by decide)) hn
  have t3 := times_bd (a 3) n (ha 3 (by decide)) hn
  have t4 := times_bd (a 4) n (ha 4 (by decide)) hn
  exact tight_two _ (carry_word _ (by omega) (by omega) (by omega) (by omega) (by omega))
theorem nv_times (a : Nat → Int) (n : Int) : nv (timesF a n) = nv a * n % 57896044618658097711785492504343953926634992332820282019728792003956564819949 := by
  unfold timesF
  rw [nv_carry, nv_carry]
  unfold nv
  rw [Int.mul_emod (valE a % _) n, Int.emod_emod, ← Int.mul_emod, show valE (fun i => a i * n) = valE a * n by unfold valE; grind]
set_option maxRecDepth 100000 in
set_option maxHeartbeats 1000000 in
theorem times_any (a : Nat → Int) (n : Int) (w : World) (ha : Under 18014398509481984 a) (hn : 0 ≤ n ∧ n ≤ 4294967295) :
    Calls Try.prog 53 #[.agg (ints .u64 5 a), .int .u32 n] w fun e w' => e = .returned (.agg (ints .u64 5 (timesF a n))) ∧ Below w.heap.size w w' := by
  have A0 := ha 0 (by decide)
  have A1 := ha 1 (by decide)
  have A2 := ha 2 (by decide)
  have A3 := ha 3 (by decide)
  have A4 := ha 4 (by decide)
  have t0 := times_bd (a 0) n A0 hn
  have t1 := times_bd (a 1) n A1 hn
  have t2 := times_bd (a 2) n A2 hn
  have t3 := times_bd (a 3) n A3 hn
  have t4 := times_bd (a 4) n A4 hn
  have c0 := fun w => plus_zero (a 0) n w (by omega) (by omega)
  have c1 := fun w => plus_zero (a 1) n w (by omega) (by omega)
  have c2 := fun w => plus_zero (a 2) n w (by omega) (by omega)
  have c3 := fun w => plus_zero (a 3) n w (by omega) (by omega)
  have c4 := fun w => plus_zero (a 4) n w (by omega) (by omega)
  have ht : ∀ w, Calls Try.prog 95 #[wideV (a 0 * n), wideV (a 1 * n), wideV (a 2 * n), wideV (a 3 * n), wideV (a 4 * n)] w fun e w' => e = .returned (.agg (ints .u64 5 (timesF a n))) ∧ Below w.heap.size w w' :=
    fun w => tight_from (fun i => a i * n) w (by constructor <;> (show _; omega)) (by constructor <;> (show _; omega)) (by constructor <;> (show _; omega)) (by constructor <;> (show _; omega)) (by constructor <;> (show _; omega))
  obtain ⟨n0, n1⟩ := hn
  clear t0 t1 t2 t3 t4 A0 A1 A2 A3 A4 ha
  have hG := Grew.refl w
  go_enter Try.func53, Try.ntmps53
  go_wp2_with fail
  ((first | (with_reducible refine wp_region_tail_on 26 (by kernel_rfl) (by kernel_rfl) (by kernel_rfl) (by kernel_rfl) (by kernel_rfl) ?_) | refine wp_region_tail_more 26 (by kernel_rfl) (by kernel_rfl) (by kernel_rfl) (by kernel_rfl) (by kernel_rfl) ?_); simp only [List.take_succ_cons, List.take_zero]; (repeat (first | go_big_quiet_skip | (go_big_quiet_want; go_big_quiet_op; first | go_big_quiet_on | (apply Exists.intro; refine ⟨fun _ => ?_, ?_⟩; (focus (first | (with_reducible exact Calls.of_more (c0 _)) | (with_reducible exact Calls.of_more (c1 _)) | (with_reducible exact Calls.of_more (c2 _)) | (with_reducible exact Calls.of_more (c3 _)) | (with_reducible exact Calls.of_more (c4 _)) | (with_reducible exact Calls.of_more (ht _)))); go_big_quiet_on)))); refine wpQuiet_nil ?_; rintro _ ⟨mq, rfl⟩)
  (refine tail_one (i := 26) (fuel := 0) (by kernel_rfl) rfl ?_; intro K hK; go_simp; refine hK _ _ ?_; clear hK K)
  (refine wpAny_done (by kernel_rfl) ?_ _)
  go_wp2
  refine ret_row rfl _ 37 _ (0, 0) _ rfl (by simp [go_sem]) Try.underlying37 rfl (by rw [ints_size]; kernel_rfl) rfl ⟨rfl, by (repeat (first | assumption | exact Grew.refl _ | refine Grew.more ?_ _ | refine Grew.alloc ?_ _ | refine Grew.drewN ?_ _ | refine Grew.setRow ?_ _ _ (by omega) | refine Grew.setRow ?_ _ _ (by simp; omega) | refine Grew.setRow ?_ _ _ (by simp)))⟩
def prodF (F : Nat → Nat → Int) : Nat → Nat → Int
  | 0 => upd nought 0 1
  | j + 1 => mulF (prodF F j) (F j)
theorem tight_one : Under 4503599627370496 (upd nought 0 1) := fun i _ => by unfold upd nought; split <;> omega
theorem tight_prod (F : Nat → Nat → Int) : ∀ n, (∀ j, j < n → Under 18014398509481984 (F j)) → Under 4503599627370496 (prodF F n)
  | 0, _ => tight_one
  | n + 1, h => tight_mul _ _ (loose_tight (tight_prod F n fun j hj => h j (by omega))) (h n (by omega))
structure ProdInv (F : Nat → Nat → Int) (gp : Nat) (w : World) (j : Nat) (wr : World) : Prop where
  g : Below w.heap.size w wr
  fr : objAt wr w.heap.size = some (.cells (ints .u64 5 nought) 37)
  fp : objAt wr gp = some (.cells (ints .u64 5 (prodF F j)) 37)
set_option maxHeartbeats 1000000 in
theorem product_any (F : Nat → Nat → Int) (n c : Nat) (oa : Option Addr) (w : World) (hF : ∀ j, j < n → Under 18014398509481984 (F j)) (hn : n ≤ 9223372036854775807) (hl : ElemsAt w oa n F) :
    Calls Try.prog 54 #[.slice oa n c] w fun e w' => e = .returned (.agg (ints .u64 5 (prodF F n))) ∧ Below w.heap.size w w' := by
  have hL : Hid (ElemsAt w oa n F) := hl
  clear hl
  have hG := Grew.refl w
  have fr : True := trivial
  go_enter Try.func54, Try.ntmps54
  go_wp2_with fail
  (refine (small_any 1 _ (by decide) (by decide)).mono ?_; rintro e w1 ⟨rfl, hb⟩; replace fr : objAt w1 (w.heap.size) = some (.cells (ints .u64 5 nought) 37) := keep_below hb (by (repeat (first | assumption | exact objAt_alloc_at _ _ _ rfl | (refine objAt_alloc_at _ _ _ ?_; (simp; done)) | refine keep_alloc _ ?_ | refine keep_drewN _ ?_ | refine keep_more _ ?_ | exact keep_row _ (by assumption) | refine keep_setRow _ _ ?_ (by first | omega | (simp; omega) | simp)))); have lfr := lt_of_objAt fr; replace hG : Below w.heap.size w w1 := Grew.trans (by (repeat (first | assumption | exact Grew.refl _ | refine Grew.more ?_ _ | refine Grew.alloc ?_ _ | refine Grew.drewN ?_ _ | refine Grew.setRow ?_ _ _ (by omega) | refine Grew.setRow ?_ _ _ (by simp; omega) | refine Grew.setRow ?_ _ _ (by simp)))) hb; clear hb)
  have hw1 := hG.size
  go_wp2_with fail
  go_loopw [9] (fun i wr => ∃ j : Nat, j ≤ n ∧ i = .int .i64 j ∧ ProdInv F w1.heap.size w j wr) (fun i _ => n - (intOf i).toNat)
  case atStart => exact ⟨0, by omega, rfl, ⟨by (repeat (first | assumption | exact Grew.refl _ | refine Grew.more ?_ _ | refine Grew.alloc ?_ _ | refine Grew.drewN ?_ _ | refine Grew.setRow ?_ _ _ (by omega) | refine Grew.setRow ?_ _ _ (by simp; omega) | refine Grew.setRow ?_ _ _ (by simp))), by (repeat (first | assumption | exact objAt_alloc_at _ _ _ rfl | (refine objAt_alloc_at _ _ _ ?_; (simp; done)) | refine keep_alloc _ ?_ | refine keep_drewN _ ?_ | refine keep_more _ ?_ | exact keep_row _ (by assumption) | refine keep_setRow _ _ ?_ (by first | omega | (simp; omega) | simp))), by rw [show prodF F 0 = upd nought 0 1 from rfl]; (repeat (first | assumption | exact objAt_alloc_at _ _ _ rfl | (refine objAt_alloc_at _ _ _ ?_; (simp; done)) | refine keep_alloc _ ?_ | refine keep_drewN _ ?_ | refine keep_more _ ?_ | exact keep_row _ (by assumption) | refine keep_setRow _ _ ?_ (by first | omega | (simp; omega) | simp)))⟩⟩
  case round =>
    clear fr hG
    obtain ⟨j, hj, rfl, hG, fr, fp⟩ := hrel
    have lfr := lt_of_objAt fr
    have lfp := lt_of_objAt fp
    by_cases hlt : j < n
    · rcases hL.out with h0 | ⟨ad, rfl, hl⟩
      · omega
      have l1 := hl wr hG j hlt
      clear hl
      have hP := loose_tight (tight_prod F j fun k hk => hF k (by omega))
      have hFj := hF j hlt
      have Z : Hid (mulF (prodF F j) (F j) = prodF F (j + 1)) := rfl
      have hm := fun w => mul_any (prodF F j) (F j) w hP hFj
      rw [Z.out] at hm
      have fe : True := trivial
      go_wp2_with fail
      (refine (hm _).mono ?_; rintro e w2 ⟨rfl, hb⟩; replace fr : objAt w2 (w.heap.size) = some (.cells (ints .u64 5 nought) 37) := keep_below hb (by (repeat (first | assumption | exact objAt_alloc_at _ _ _ rfl | (refine objAt_alloc_at _ _ _ ?_; (simp; done)) | refine keep_alloc _ ?_ | refine keep_drewN _ ?_ | refine keep_more _ ?_ | exact keep_row _ (by assumption) | refine keep_setRow _ _ ?_ (by first | omega | (simp; omega) | simp)))); have lfr := lt_of_objAt fr; replace fp : objAt w2 (w1.heap.size) = some (.cells (ints .u64 5 (prodF F j)) 37) := keep_below hb (by (repeat (first | assumption | exact objAt_alloc_at _ _ _ rfl | (refine objAt_alloc_at _ _ _ ?_; (simp; done)) | refine keep_alloc _ ?_ | refine keep_drewN _ ?_ | refine keep_more _ ?_ | exact keep_row _ (by assumption) | refine keep_setRow _ _ ?_ (by first | omega | (simp; omega) | simp)))); have lfp := lt_of_objAt fp; replace hG : Below w.heap.size w w2 := Grew.trans (by (repeat (first | assumption | exact Grew.refl _ | refine Grew.more ?_ _ | refine Grew.alloc ?_ _ | refine Grew.drewN ?_ _ | refine Grew.setRow ?_ _ _ (by omega) | refine Grew.setRow ?_ _ _ (by simp; omega) | refine Grew.setRow ?_ _ _ (by simp)))) hb; clear hb)
      go_wp2
      go_roundw
      case rel => exact ⟨j + 1, by omega, by go_num, ⟨by (repeat (first | assumption | exact Grew.refl _ | refine Grew.more ?_ _ | refine Grew.alloc ?_ _ | refine Grew.drewN ?_ _ | refine Grew.setRow ?_ _ _ (by omega) | refine Grew.setRow ?_ _ _ (by simp; omega) | refine Grew.setRow ?_ _ _ (by simp))), by (repeat (first | assumption | exact objAt_alloc_at _ _ _ rfl | (refine objAt_alloc_at _ _ _ ?_; (simp; done)) | refine keep_alloc _ ?_ | refine keep_drewN _ ?_ | refine keep_more _ ?_ | exact keep_row _ (by assumption) | refine keep_setRow _ _ ?_ (by first | omega | (simp; omega) | simp))), by (repeat (first | assumption | exact objAt_alloc_at _ _ _ rfl | (refine objAt_alloc_at _ _ _ ?_; (simp; done)) | refine keep_alloc _ ?_ | refine keep_drewN _ ?_ | refine keep_more _ ?_ | exact keep_row _ (by assumption) | refine keep_setRow _ _ ?_ (by first | omega | (simp; omega) | simp)))⟩⟩
      case measure => simp [intOf] <;> omega
    · obtain rfl : j = n := by omega
      clear hlt
      go_wp2
      refine ret_row rfl w.heap.size 37 _ (0, 0) _ rfl (keep_row _ fr) Try.underlying37 rfl (by rw [ints_size]; kernel_rfl) rfl ⟨rfl, by (repeat (first | assumption | exact Grew.refl _ | refine Grew.more ?_ _ | refine Grew.alloc ?_ _ | refine Grew.drewN ?_ _ | refine Grew.setRow ?_ _ _ (by omega) | refine Grew.setRow ?_ _ _ (by simp; omega) | refine Grew.setRow ?_ _ _ (by simp)))⟩
end Go.Proofs.Ytfapmpnkemogkaa
