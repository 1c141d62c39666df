/- Products of the reference. -/
import Derived.Test.YtfapmpnkemogkaaFold32
namespace Go.Proofs.Ytfapmpnkemogkaa
open Go.RowKit
set_option linter.unusedVariables false
set_option linter.unusedSimpArgs false

@[go_sem] theorem make32 (w : World) : (Instr.makeSlice 103 (.int .i64 32) (.int .i64 32)).run Try.prog w = .ok (.slice (some ⟨w.heap.size, 0, none⟩) 32 32) (w.alloc (.cells (ints .i64 32 nought) 3)) := by kernel_rfl
def rowF (a b f : Nat → Int) (i : Nat) : Nat → Nat → Int
  | 0 => f
  | k + 1 => upd (rowF a b f i k) (i + k) (rowF a b f i k (i + k) + a i * b k)
def colF (a b : Nat → Int) : Nat → Nat → Int
  | 0 => nought
  | i + 1 => rowF a b (colF a b i) i 16
theorem dig_mul (a b : Nat → Int) (ha : Digits a) (hb : Digits b) (i k : Nat) (hi : i < 16) (hk : k < 16) : 0 ≤ a i * b k ∧ a i * b k ≤ 4294967296 := by
  obtain ⟨a0, a1⟩ := ha i hi
  obtain ⟨b0, b1⟩ := hb k hk
  exact ⟨Int.mul_nonneg a0 b0, by have := Int.mul_le_mul (Int.le_of_lt a1) (Int.le_of_lt b1) b0 (by decide); omega⟩
theorem row_bd (a b f : Nat → Int) (ha : Digits a) (hb : Digits b) (i : Nat) (hi : i < 16) (B : Int) (hf : ∀ j, 0 ≤ f j ∧ f j ≤ B) : ∀ k, k ≤ 16 → ∀ j, 0 ≤ rowF a b f i k j ∧ rowF a b f i k j ≤ B + k * 4294967296
  | 0, _, j => by have := hf j; show 0 ≤ f j ∧ f j ≤ _; omega
  | k + 1, h, j => by
    have ih := row_bd a b f ha hb i hi B hf k (by omega)
    have hm := dig_mul a b ha hb i k hi (by omega)
    have h1 := ih j
    have h2 := ih (i + k)
    unfold rowF upd
    split <;> omega
theorem col_bd (a b : Nat → Int) (ha : Digits a) (hb : Digits b) : ∀ i, i ≤ 16 → ∀ j, 0 ≤ colF a b i j ∧ colF a b i j ≤ i * 68719476736
  | 0, _, j => by show 0 ≤ nought j ∧ nought j ≤ _; unfold nought; omega
  | i + 1, h, j => by
    have := row_bd a b (colF a b i) ha hb i (by omega) _ (col_bd a b ha hb i (by omega)) 16 (by omega) j
    show 0 ≤ rowF a b (colF a b i) i 16 j ∧ rowF a b (colF a b i) i 16 j ≤ _
    omega
theorem dval_upd (f : Nat → Int) (j : Nat) (v : Int) : ∀ n, j < n → dval (upd f j v) n = dval f n + (v - f j) * 65536 ^ j
  | 0, h => by omega
  | n + 1, h => by
    show dval (upd f j v) n + upd f j v n * 65536 ^ n = dval f n + f n * 65536 ^ n + (v - f j) * 65536 ^ j
    by_cases e : j = n
    · subst e
      rw [dval_congr (f := upd f j v) (g := f) j (fun i hi => upd_other _ _ _ _ (by omega)), upd_same]
      grind
    · rw [dval_upd f j v n (by omega), upd_other _ _ _ _ (fun h => e h.symm)]
      grind
theorem row_val (a b f : Nat → Int) (i : Nat) (hi : i < 16) : ∀ k, k ≤ 16 → dval (rowF a b f i k) 32 = dval f 32 + a i * 65536 ^ i * dval b k
  | 0, _ => by show dval f 32 = dval f 32 + a i * 65536 ^ i * 0; omega
  | k + 1, h => by
    show dval (upd (rowF a b f i k) (i + k) (rowF a b f i k (i + k) + a i * b k)) 32 = dval f 32 + a i * 65536 ^ i * (dval b k + b k * 65536 ^ k)
    rw [dval_upd _ _ _ 32 (by omega), row_val a b f i hi k (by omega), Int.pow_add]
    grind
theorem col_val (a b : Nat → Int) : ∀ i, i ≤ 16 → dval (colF a b i) 32 = dval a i * dval b 16
  | 0, _ => by
    show dval nought 32 = 0 * dval b 16
    rw [Int.zero_mul]; rfl
  | i + 1, h => by
    show dval (rowF a b (colF a b i) i 16) 32 = (dval a i + a i * 65536 ^ i) * dval b 16
    rw [row_val a b _ i (by omega) 16 (by omega), col_val a b i (by omega), Int.add_mul]
set_option maxRecDepth 100000 in
set_option maxHeartbeats 2000000 in
theorem refMul_any (a b : Nat → Int) (w : World) (ha : Digits a) (hb : Digits b) :
    Calls Try.prog 51 #[.agg (ints .i64 16 a), .agg (ints .i64 16 b)] w fun e w' => e = .returned (.agg (ints .i64 16 (numN ((dval a 16 * dval b 16) % 57896044618658097711785492504343953926634992332820282019728792003956564819949)))) ∧ Below w.heap.size w w' := by
  have HV : Hid (dval (colF a b 16) 32 = dval a 16 * dval b 16) := col_val a b 16 (by omega)
  go_enter Try.func51, Try.ntmps51
  go_wp2
  go_loopw [6] (fun i wr => ∃ j : Nat, ∃ m : More, j ≤ 16 ∧ i = .int .i64 j ∧ wr = more ((((w.alloc (.cells (ints .i64 16 a) 41)).alloc (.cells (ints .i64 16 b) 41)).alloc (.cells (ints .i64 16 nought) 41)).alloc (.cells (ints .i64 32 (colF a b j)) 3)) m) (fun i _ => 16 - (intOf i).toNat)
  case atStart => exact ⟨0, _, by omega, rfl, (more_self _).symm⟩
  case round =>
    obtain ⟨j, m, hj, rfl, rfl⟩ := hrel
    by_cases hlt : j < 16
    · have hcb := col_bd a b ha hb j (by omega)
      have hrb := row_bd a b (colF a b j) ha hb j hlt _ hcb
      have hdec : decide ((j : Int) < 16) = true := decide_eq_true (by omega)
      have Z : Hid (rowF a b (colF a b j) j 16 = colF a b (j + 1)) := rfl
      have Z0 : Hid (colF a b j = rowF a b (colF a b j) j 0) := rfl
      go_wp2
      go_loopw [7] (fun i wr => ∃ k : Nat, ∃ m : More, k ≤ 16 ∧ i = .int .i64 k ∧ wr = more ((((w.alloc (.cells (ints .i64 16 a) 41)).alloc (.cells (ints .i64 16 b) 41)).alloc (.cells (ints .i64 16 nought) 41)).alloc (.cells (ints .i64 32 (rowF a b (colF a b j) j k)) 3)) m) (fun i _ => 16 - (intOf i).toNat)
      case atStart => exact ⟨0, _, by omega, rfl, rfl⟩
      case round =>
        obtain ⟨k, m, hk, rfl, rfl⟩ := hrel
        by_cases hlk : k < 16
        · obtain ⟨a0, a1⟩ := ha j hlt
          obtain ⟨b0, b1⟩ := hb k hlk
          obtain ⟨p0, p1⟩ := dig_mul a b ha hb j k hlt hlk
          obtain ⟨r0, r1⟩ := hrb k hk (j + k)
          have hj16 : (j : Int) ≤ 15 := by omega
          have hk16 : (k : Int) ≤ 15 := by omega
          have r2 : rowF a b (colF a b j) j k (j + k) ≤ 1168231104512 := by omega
          have hjk : j + k < 32 := by omega
          have S : Hid (upd (rowF a b (colF a b j) j k) (j + k) (rowF a b (colF a b j) j k (j + k) + a j * b k) = rowF a b (colF a b j) j (k + 1)) := rfl
          clear hrb hcb r1
          go_wp2
          ((first | (with_reducible refine wp_region_tail_on 19 (by kernel_rfl) (by kernel_rfl) (by kernel_rfl) (by kernel_rfl) (by kernel_rfl) ?_) | refine wp_region_tail_more 19 (by kernel_rfl) (by kernel_rfl) (by kernel_rfl) (by kernel_rfl) (by kernel_rfl) ?_); simp only [List.take_succ_cons, List.take_zero]; (repeat (first | go_big_quiet_skip | (go_big_quiet_want; go_big_quiet_op; first | go_big_quiet_on | (apply Exists.intro; refine ⟨fun _ => ?_, ?_⟩; (focus (fail)); go_big_quiet_on)))); refine wpQuiet_nil ?_; rintro _ ⟨mq, rfl⟩)
          (refine tail_one (i := 19) (fuel := 0) (by kernel_rfl) rfl ?_; intro K hK; go_simp; refine hK _ _ ?_; clear hK K)
          (refine wpAny_done (by kernel_rfl) ?_ _)
          go_wp2
          go_roundw
          case rel => exact ⟨k + 1, _, by omega, by go_num, by rw [← S.out]⟩
          case measure => simp [intOf] <;> omega
        · obtain rfl : k = 16 := by omega
          clear hlk
          rw [Z.out]
          go_wp2
          go_roundw
          case rel => exact ⟨j + 1, _, by omega, by go_num, rfl⟩
          case measure => simp [intOf] <;> omega
    · obtain rfl : j = 16 := by omega
      have hcb : ∀ i, i < 32 → 0 ≤ colF a b 16 i ∧ colF a b 16 i ≤ 1099511627776 := fun i _ => by have := col_bd a b ha hb 16 (by omega) i; omega
      have hG := Grew.refl w
      have fr : True := trivial
      clear hlt ha hb
      go_wp2_with fail
      have fl : objAt (more ((((w.alloc (.cells (ints .i64 16 a) 41)).alloc (.cells (ints .i64 16 b) 41)).alloc (.cells (ints .i64 16 nought) 41)).alloc (.cells (ints .i64 32 (colF a b 16)) 3)) m) (w.heap.size + 1 + 1 + 1) = some (.cells (ints .i64 32 (colF a b 16)) 3) := by (repeat (first | assumption | exact objAt_alloc_at _ _ _ rfl | (refine objAt_alloc_at _ _ _ ?_; (simp; done)) | refine keep_alloc _ ?_ | refine keep_drewN _ ?_ | refine keep_more _ ?_ | exact keep_row _ (by assumption) | refine keep_setRow _ _ ?_ (by first | omega | (simp; omega) | simp)))
      (refine (fold32_any (colF a b 16) _ 32 _ _ _ hcb fl).mono ?_; rintro e w1 ⟨rfl, hb⟩; replace fr : objAt w1 (w.heap.size + 1 + 1) = some (.cells (ints .i64 16 nought) 41) := keep_below hb (by (repeat (first | assumption | exact objAt_alloc_at _ _ _ rfl | (refine objAt_alloc_at _ _ _ ?_; (simp; done)) | refine keep_alloc _ ?_ | refine keep_drewN _ ?_ | refine keep_more _ ?_ | exact keep_row _ (by assumption) | refine keep_setRow _ _ ?_ (by first | omega | (simp; omega) | simp)))); have lfr := lt_of_objAt fr; replace hG : Below w.heap.size w w1 := Grew.trans (by (repeat (first | assumption | exact Grew.refl _ | refine Grew.more ?_ _ | refine Grew.alloc ?_ _ | refine Grew.drewN ?_ _ | refine Grew.setRow ?_ _ _ (by omega) | refine Grew.setRow ?_ _ _ (by simp; omega) | refine Grew.setRow ?_ _ _ (by simp)))) hb; clear hb)
      go_wp2
      refine ret_row rfl (w.heap.size + 1 + 1) 41 _ (0, 0) _ rfl (keep_row _ fr) Try.underlying41 rfl (by rw [ints_size]; kernel_rfl) rfl ⟨by rw [HV.out], by (repeat (first | assumption | exact Grew.refl _ | refine Grew.more ?_ _ | refine Grew.alloc ?_ _ | refine Grew.drewN ?_ _ | refine Grew.setRow ?_ _ _ (by omega) | refine Grew.setRow ?_ _ _ (by simp; omega) | refine Grew.setRow ?_ _ _ (by simp)))⟩
end Go.Proofs.Ytfapmpnkemogkaa
