/- What the reference of layer 2 answers: numbers in sixteen digits to the base 65536. -/
import Derived.Test.YtfapmpnkemogkaaMemR
import Derived.Deep.LoopGhost
import Derived.Test.YtfapmpnkemogkaaTail
namespace Go.Proofs.Ytfapmpnkemogkaa
open Go.RowKit
set_option linter.unusedVariables false
set_option linter.unusedSimpArgs false

/-- the number of the first k digits -/
def dval (f : Nat → Int) : Nat → Int
  | 0 => 0
  | k + 1 => dval f k + f k * 65536 ^ k
/-- each a digit -/
def Digits (f : Nat → Int) : Prop := ∀ i, i < 16 → 0 ≤ f i ∧ f i < 65536
theorem dval_congr {f g : Nat → Int} : ∀ k, (∀ i, i < k → f i = g i) → dval f k = dval g k
  | 0, _ => rfl
  | k + 1, h => by
    show dval f k + f k * 65536 ^ k = dval g k + g k * 65536 ^ k
    rw [dval_congr k (fun i hi => h i (by omega)), h k (by omega)]
theorem dval_bd {f : Nat → Int} (hf : Digits f) : ∀ k, k ≤ 16 → 0 ≤ dval f k ∧ dval f k < 65536 ^ k
  | 0, _ => by simp [dval]
  | k + 1, hk => by
    obtain ⟨h0, h1⟩ := dval_bd hf k (by omega)
    obtain ⟨c0, c1⟩ := hf k (by omega)
    have e : (65536 : Int) ^ (k + 1) = 65536 * 65536 ^ k := by rw [Int.pow_succ, Int.mul_comm]
    have hm0 : 0 ≤ f k * 65536 ^ k := Int.mul_nonneg c0 (by omega)
    have hm1 : f k * 65536 ^ k ≤ 65535 * 65536 ^ k := Int.mul_le_mul_of_nonneg_right (by omega) (by omega)
    show 0 ≤ dval f k + f k * 65536 ^ k ∧ dval f k + f k * 65536 ^ k < 65536 ^ (k + 1)
    rw [e]
    omega

def primeN : Nat → Int := fun i => if i = 0 then 65517 else if i < 15 then 65535 else 32767
theorem prime_digits : Digits primeN := fun i hi => by unfold primeN; split; omega; split <;> omega
theorem prime_lit : ints .i64 16 (upd (part' primeN 15) 15 32767) = ints .i64 16 primeN := by
  refine ints_congr fun i hi => ?_
  unfold upd part'
  by_cases h : i = 15
  · subst h; rfl
  · rw [if_neg h, if_pos (by omega)]
set_option maxHeartbeats 400000 in
theorem prime_any (w : World) :
    Calls Try.prog 93 #[] w fun e w' => e = .returned (.agg (ints .i64 16 primeN)) ∧ Below w.heap.size w w' := by
  have p1 := prime_lit
  go_enter Try.func93, Try.ntmps93
  go_wp2
  go_loopw [2] (fun i wr => ∃ k : Nat, ∃ m : More, 1 ≤ k ∧ k ≤ 16 ∧ i = .int .i64 k ∧ wr = more ((w.alloc (.cells (ints .i64 16 nought) 41)).alloc (.cells (ints .i64 16 (if k = 16 then upd (part' primeN 15) 15 65535 else part' primeN k)) 41)) m) (fun i _ => 16 - (intOf i).toNat)
  case atStart =>
    have e : upd nought 0 65517 = part' primeN 1 := by
      funext i; unfold upd nought part' primeN
      by_cases h : i = 0
      · subst h; rfl
      · rw [if_neg h, if_neg (by omega)]
    exact ⟨1, _, by omega, by omega, rfl, by rw [if_neg (by decide), e]; exact (more_self _).symm⟩
  case round =>
    obtain ⟨k, m, hk0, hk, rfl, rfl⟩ := hrel
    by_cases hlt : k < 16
    · rw [if_neg (by omega)]
      go_wp2
      go_roundw
      case rel =>
        refine ⟨k + 1, m, by omega, by omega, by go_num, ?_⟩
        by_cases h15 : k = 15
        · subst h15; rw [if_pos rfl]
        · rw [if_neg (by omega), ← part_succ, show primeN k = 65535 by unfold primeN; rw [if_neg (by omega), if_pos (by omega)]]
      case measure => simp [intOf]; omega
    · obtain rfl : k = 16 := by omega
      rw [if_pos rfl]
      have p2 : ints .i64 16 (upd (upd (part' primeN 15) 15 65535) 15 32767) = ints .i64 16 primeN := by
        rw [← p1]; refine ints_congr fun i hi => ?_
        unfold upd; split <;> rfl
      clear hlt p1
      go_wp2
      refine ret_row rfl _ 41 _ (0, 0) _ rfl (by simp [go_sem]) Try.underlying41 rfl (by rw [ints_size]; kernel_rfl) rfl ⟨rfl, by (repeat (first | assumption | exact Grew.refl _ | refine Grew.more ?_ _ | refine Grew.alloc ?_ _ | refine Grew.drewN ?_ _ | refine Grew.setRow ?_ _ _ (by omega) | refine Grew.setRow ?_ _ _ (by simp; omega) | refine Grew.setRow ?_ _ _ (by simp)))⟩

/-- is a number less? -/
def lessB (a b : Nat → Int) : Bool := decide (dval a 16 < dval b 16)
theorem less_at {a b : Nat → Int} (ha : Digits a) (hb : Digits b) (j : Nat) (hj : j < 16) (he : ∀ i, j < i → i < 16 → a i = b i) (hlt : a j < b j) : dval a 16 < dval b 16 := by
  have step : ∀ k, j < k → k ≤ 16 → dval a k < dval b k := by
    intro k
    induction k with
    | zero => intro h; omega
    | succ k ih =>
      intro h1 h2
      show dval a k + a k * 65536 ^ k < dval b k + b k * 65536 ^ k
      by_cases hk : k = j
      · subst hk
        obtain ⟨p0, p1⟩ := dval_bd ha k (by omega)
        obtain ⟨q0, q1⟩ := dval_bd hb k (by omega)
        have : (a k + 1) * 65536 ^ k ≤ b k * 65536 ^ k := Int.mul_le_mul_of_nonneg_right (by omega) (by omega)
        rw [Int.add_mul] at this
        omega
      · rw [he k (by omega) (by omega)]
        have := ih (by omega) (by omega)
        omega
  exact step 16 hj (Nat.le_refl _)
set_option maxHeartbeats 400000 in
theorem less_any (a b : Nat → Int) (w : World) (ha : Digits a) (hb : Digits b) :
    Calls Try.prog 91 #[.agg (ints .i64 16 a), .agg (ints .i64 16 b)] w fun e w' => e = .returned (.bool (lessB a b)) ∧ Below w.heap.size w w' := by
  go_enter Try.func91, Try.ntmps91
  go_wp2
  go_loopw [5] (fun i wr => ∃ k : Nat, ∃ m : More, k ≤ 16 ∧ i = .int .i64 ((k : Int) - 1) ∧ (∀ j, k ≤ j → j < 16 → a j = b j) ∧ wr = more ((w.alloc (.cells (ints .i64 16 a) 41)).alloc (.cells (ints .i64 16 b) 41)) m) (fun i _ => (intOf i + 1).toNat)
  case atStart => exact ⟨16, _, by omega, rfl, fun j h1 h2 => by omega, (more_self _).symm⟩
  case round =>
    obtain ⟨k, m, hk, rfl, he, rfl⟩ := hrel
    cases k with
    | zero =>
      have e : lessB a b = false := by
        unfold lessB; rw [dval_congr 16 (fun i hi => he i (by omega) hi)]; simp
      have E : Hid (lessB a b = false) := e
      clear e he
      go_wp2
      go_ret
      exact ⟨by rw [E.out] <;> rfl, by (repeat (first | assumption | exact Grew.refl _ | refine Grew.more ?_ _ | refine Grew.alloc ?_ _ | refine Grew.drewN ?_ _ | refine Grew.setRow ?_ _ _ (by omega) | refine Grew.setRow ?_ _ _ (by simp; omega) | refine Grew.setRow ?_ _ _ (by simp)))⟩
    | succ j =>
      have hj : j < 16 := by omega
      have hr : ((j + 1 : Nat) : Int) - 1 = j := by omega
      rw [hr]
      have HE : Hid (∀ i, j + 1 ≤ i → i < 16 → a i = b i) := he
      clear he hr
      by_cases hab : a j = b j
      · have hne : (b j != b j) = false := by simp
        have hne' : (a j != b j) = false := by rw [hab]; simp
        have HA : Hid (a j = b j) := hab
        clear hab
        go_wp2
        ((first | (with_reducible refine wp_region_on (by kernel_rfl) (by kernel_rfl) ?_) | refine wp_region_more (by kernel_rfl) (by kernel_rfl) ?_); (repeat (first | go_big_quiet_skip | (go_big_quiet_want; go_big_quiet_op; first | go_big_quiet_on | (apply Exists.intro; refine ⟨fun _ => ?_, ?_⟩; (focus (fail)); go_big_quiet_on)))); refine wpQuiet_nil ?_; rintro _ ⟨mq, rfl⟩)
        go_wp2
        go_roundw
        case rel => exact ⟨j, _, by omega, rfl, fun i h1 h2 => by
          by_cases hi : i = j
          · subst hi; exact HA.out
          · exact HE.out i (by omega) h2, rfl⟩
        case measure => simp [intOf] <;> omega
      · have hne : (a j != b j) = true := by simp [hab]
        have e : lessB a b = decide (a j < b j) := by
          unfold lessB
          rcases (by omega : a j < b j ∨ b j < a j) with h | h
          · rw [decide_eq_true h, decide_eq_true (less_at ha hb j hj (fun i h1 h2 => HE.out i (by omega) h2) h)]
          · have := less_at hb ha j hj (fun i h1 h2 => (HE.out i (by omega) h2).symm) h
            rw [decide_eq_false (by omega), decide_eq_false (by omega)]
        have E : Hid (lessB a b = decide (a j < b j)) := e
        clear e hab
        go_wp2
        ((first | (with_reducible refine wp_region_on (by kernel_rfl) (by kernel_rfl) ?_) | refine wp_region_more (by kernel_rfl) (by kernel_rfl) ?_); (repeat (first | go_big_quiet_skip | (go_big_quiet_want; go_big_quiet_op; first | go_big_quiet_on | (apply Exists.intro; refine ⟨fun _ => ?_, ?_⟩; (focus (fail)); go_big_quiet_on)))); refine wpQuiet_nil ?_; rintro _ ⟨mq, rfl⟩)
        go_wp2
        ((first | (with_reducible refine wp_region_on (by kernel_rfl) (by kernel_rfl) ?_) | refine wp_region_more (by kernel_rfl) (by kernel_rfl) ?_); (repeat (first | go_big_quiet_skip | (go_big_quiet_want; go_big_quiet_op; first | go_big_quiet_on | (apply Exists.intro; refine ⟨fun _ => ?_, ?_⟩; (focus (fail)); go_big_quiet_on)))); refine wpQuiet_nil ?_; rintro _ ⟨mq, rfl⟩)
        go_wp2
        go_ret
        exact ⟨by rw [E.out] <;> rfl, by (repeat (first | assumption | exact Grew.refl _ | refine Grew.more ?_ _ | refine Grew.alloc ?_ _ | refine Grew.drewN ?_ _ | refine Grew.setRow ?_ _ _ (by omega) | refine Grew.setRow ?_ _ _ (by simp; omega) | refine Grew.setRow ?_ _ _ (by simp)))⟩

/-- what is borrowed, and left, when a number is taken from another one -/
def borrowF (a b : Nat → Int) : Nat → Int
  | 0 => 0
  | k + 1 => if a k - b k - borrowF a b k < 0 then 1 else 0
def minusF (a b : Nat → Int) : Nat → Int := fun k => if a k - b k - borrowF a b k < 0 then a k - b k - borrowF a b k + 65536 else a k - b k - borrowF a b k
theorem borrow_bd (a b : Nat → Int) : ∀ k, 0 ≤ borrowF a b k ∧ borrowF a b k ≤ 1
  | 0 => by simp [borrowF]
  | k + 1 => by unfold borrowF; split <;> omega
theorem minus_digits {a b : Nat → Int} (ha : Digits a) (hb : Digits b) : Digits (minusF a b) := fun i hi => by
  have := ha i hi; have := hb i hi; have := borrow_bd a b i
  unfold minusF; split <;> omega
theorem minus_val (a b : Nat → Int) : ∀ k, dval (minusF a b) k = dval a k - dval b k + borrowF a b k * 65536 ^ k
  | 0 => by simp [dval, borrowF]
  | k + 1 => by
    have ih := minus_val a b k
    have e : (65536 : Int) ^ (k + 1) = 65536 * 65536 ^ k := by rw [Int.pow_succ, Int.mul_comm]
    show dval (minusF a b) k + minusF a b k * 65536 ^ k = dval a k + a k * 65536 ^ k - (dval b k + b k * 65536 ^ k) + borrowF a b (k + 1) * 65536 ^ (k + 1)
    rw [ih, e]
    unfold minusF
    rw [borrowF]
    generalize (65536 : Int) ^ k = m
    generalize borrowF a b k = c
    split
    · rw [Int.add_mul, Int.sub_mul, Int.sub_mul]; omega
    · rw [Int.sub_mul, Int.sub_mul]; omega
set_option maxHeartbeats 400000 in
theorem minus_any (a b : Nat → Int) (w : World) (ha : Digits a) (hb : Digits b) :
    Calls Try.prog 92 #[.agg (ints .i64 16 a), .agg (ints .i64 16 b)] w fun e w' => e = .returned (.agg (ints .i64 16 (minusF a b))) ∧ Below w.heap.size w w' := by
  go_enter Try.func92, Try.ntmps92
  go_wp2
  go_loopw [5, 6] (fun c i wr => ∃ k : Nat, ∃ m : More, k ≤ 16 ∧ i = .int .i64 k ∧ c = .int .i64 (borrowF a b k) ∧ wr = more (((w.alloc (.cells (ints .i64 16 (mix (minusF a b) a k)) 41)).alloc (.cells (ints .i64 16 b) 41)).alloc (.cells (ints .i64 16 nought) 41)) m) (fun _ i _ => 16 - (intOf i).toNat)
  case atStart => exact ⟨0, _, by omega, rfl, rfl, by rw [mix_zero]; exact (more_self _).symm⟩
  case round =>
    obtain ⟨k, m, hk, rfl, rfl, rfl⟩ := hrel
    by_cases hlt : k < 16
    · obtain ⟨a0, a1⟩ := ha k hlt
      obtain ⟨b0, b1⟩ := hb k hlt
      obtain ⟨c0, c1⟩ := borrow_bd a b k
      have hm := mix_at (minusF a b) a k
      by_cases hd : a k - b k - borrowF a b k < 0
      · have e1 : minusF a b k = a k - b k - borrowF a b k + 65536 := if_pos hd
        have e2 : borrowF a b (k + 1) = 1 := if_pos hd
        have E1 : Hid (minusF a b k = a k - b k - borrowF a b k + 65536) := e1
        have E2 : Hid (borrowF a b (k + 1) = 1) := e2
        clear e1 e2
        go_wp2
        ((first | (with_reducible refine wp_region_on (by kernel_rfl) (by kernel_rfl) ?_) | refine wp_region_more (by kernel_rfl) (by kernel_rfl) ?_); (repeat (first | go_big_quiet_skip | (go_big_quiet_want; go_big_quiet_op; first | go_big_quiet_on | (apply Exists.intro; refine ⟨fun _ => ?_, ?_⟩; (focus (fail)); go_big_quiet_on)))); refine wpQuiet_nil ?_; rintro _ ⟨mq, rfl⟩)
        go_wp2
        go_roundw
        case rel => exact ⟨k + 1, _, by omega, by go_num, by rw [E2.out], by rw [← mix_succ, E1.out]⟩
        case measure => simp [intOf]; omega
      · have e1 : minusF a b k = a k - b k - borrowF a b k := if_neg hd
        have e2 : borrowF a b (k + 1) = 0 := if_neg hd
        have E1 : Hid (minusF a b k = a k - b k - borrowF a b k) := e1
        have E2 : Hid (borrowF a b (k + 1) = 0) := e2
        clear e1 e2
        go_wp2
        ((first | (with_reducible refine wp_region_on (by kernel_rfl) (by kernel_rfl) ?_) | refine wp_region_more (by kernel_rfl) (by kernel_rfl) ?_); (repeat (first | go_big_quiet_skip | (go_big_quiet_want; go_big_quiet_op; first | go_big_quiet_on | (apply Exists.intro; refine ⟨fun _ => ?_, ?_⟩; (focus (fail)); go_big_quiet_on)))); refine wpQuiet_nil ?_; rintro _ ⟨mq, rfl⟩)
        go_wp2
        go_roundw
        case rel => exact ⟨k + 1, _, by omega, by go_num, by rw [E2.out], by rw [← mix_succ, E1.out]⟩
        case measure => simp [intOf]; omega
    · obtain rfl : k = 16 := by omega
      rw [ints_mix]
      clear hlt
      go_wp2
      refine ret_row rfl _ 41 _ (0, 0) _ rfl (by simp [go_sem]) Try.underlying41 rfl (by rw [ints_size]; kernel_rfl) rfl ⟨rfl, by (repeat (first | assumption | exact Grew.refl _ | refine Grew.more ?_ _ | refine Grew.alloc ?_ _ | refine Grew.drewN ?_ _ | refine Grew.setRow ?_ _ _ (by omega) | refine Grew.setRow ?_ _ _ (by simp; omega) | refine Grew.setRow ?_ _ _ (by simp)))⟩

/-- the carry into each digit -/
def cp (a : Nat → Int) : Nat → Int
  | 0 => 0
  | k + 1 => (a k + cp a k) / 65536
/-- a row in the midst of a pass, and behind it -/
def passRow (a : Nat → Int) (k : Nat) : Nat → Int := fun j => if j < k then (a j + cp a j) % 65536 else if j = k then a j + cp a j else a j
def passEnd (a : Nat → Int) : Nat → Int := fun j => if j = 0 then a 0 % 65536 + 38 * cp a 16 else (a j + cp a j) % 65536
def Small50 (a : Nat → Int) : Prop := ∀ i, i < 16 → 0 ≤ a i ∧ a i ≤ 2251799813685248
theorem cp_bd {a : Nat → Int} (ha : Small50 a) : ∀ k, k ≤ 16 → 0 ≤ cp a k ∧ cp a k ≤ 34360262665
  | 0, _ => by simp [cp]
  | k + 1, hk => by
    have := cp_bd ha k (by omega); have := ha k (by omega)
    unfold cp; omega
theorem pass_val (a : Nat → Int) : ∀ k, dval (fun j => (a j + cp a j) % 65536) k + cp a k * 65536 ^ k = dval a k
  | 0 => by simp [dval, cp]
  | k + 1 => by
    have ih := pass_val a k
    have e : (65536 : Int) ^ (k + 1) = 65536 * 65536 ^ k := by rw [Int.pow_succ, Int.mul_comm]
    show dval (fun j => (a j + cp a j) % 65536) k + (a k + cp a k) % 65536 * 65536 ^ k + cp a (k + 1) * 65536 ^ (k + 1) = dval a k + a k * 65536 ^ k
    rw [e, ← ih, cp]
    generalize (65536 : Int) ^ k = m
    have h := Int.emod_add_mul_ediv (a k + cp a k) 65536
    have h2 : (a k + cp a k) % 65536 * m + (a k + cp a k) / 65536 * (65536 * m) = (a k + cp a k) * m := by
      rw [← Int.mul_assoc, ← Int.add_mul, Int.mul_comm ((a k + cp a k) / 65536) 65536, h]
    rw [Int.add_mul] at h2
    omega
theorem dval_zero (f g : Nat → Int) (h : ∀ i, 0 < i → f i = g i) : ∀ k, 0 < k → dval f k = dval g k + (f 0 - g 0)
  | 0, h0 => absurd h0 (by omega)
  | 1, _ => by simp [dval]; omega
  | k + 2, _ => by
    show dval f (k + 1) + f (k + 1) * 65536 ^ (k + 1) = dval g (k + 1) + g (k + 1) * 65536 ^ (k + 1) + (f 0 - g 0)
    rw [dval_zero f g h (k + 1) (by omega), h (k + 1) (by omega)]
    omega
theorem passEnd_val (a : Nat → Int) : dval (passEnd a) 16 = dval a 16 - cp a 16 * 115792089237316195423570985008687907853269984665640564039457584007913129639898 := by
  have h1 := pass_val a 16
  have h2 := dval_zero (passEnd a) (fun j => (a j + cp a j) % 65536) (fun i hi => by unfold passEnd; rw [if_neg (by omega)]) 16 (by decide)
  have h3 : passEnd a 0 = a 0 % 65536 + 38 * cp a 16 := rfl
  have h4 : cp a 0 = 0 := rfl
  rw [h2, h3]
  simp only [h4, Int.add_zero]
  have e : (65536 : Int) ^ 16 = 115792089237316195423570985008687907853269984665640564039457584007913129639936 := by decide
  rw [e] at h1
  omega
theorem passEnd_small {a : Nat → Int} (ha : Small50 a) : Small50 (passEnd a) := fun i hi => by
  have := cp_bd ha 16 (by omega)
  unfold passEnd; split <;> omega
theorem passEnd_digits {a : Nat → Int} (h : cp a 16 = 0) : Digits (passEnd a) := fun i hi => by
  unfold passEnd; split <;> omega
theorem passRow_zero (a : Nat → Int) : passRow a 0 = a := by
  funext j; unfold passRow; rw [if_neg (by omega)]; split
  · rename_i h; subst h; simp [cp]
  · rfl
theorem passRow_next (a : Nat → Int) (k : Nat) : upd (upd (passRow a k) k ((a k + cp a k) % 65536)) (k + 1) (a (k + 1) + (a k + cp a k) / 65536) = passRow a (k + 1) := by
  funext j
  unfold upd passRow
  by_cases h1 : j = k + 1
  · subst h1; rw [if_pos rfl, if_neg (by omega), if_pos rfl]; rfl
  · by_cases h2 : j = k
    · subst h2; rw [if_neg h1, if_pos rfl, if_pos (by omega)]
    · by_cases h3 : j < k
      · rw [if_neg h1, if_neg h2, if_pos h3, if_pos (by omega)]
      · rw [if_neg h1, if_neg h2, if_neg h3, if_neg h2, if_neg (by omega), if_neg h1]
theorem passRow_last (a : Nat → Int) : ints .i64 16 (upd (upd (passRow a 15) 15 ((a 15 + cp a 15) % 65536)) 0 (a 0 % 65536 + 38 * ((a 15 + cp a 15) / 65536))) = ints .i64 16 (passEnd a) := by
  refine ints_congr fun j hj => ?_
  unfold upd passRow passEnd
  by_cases h1 : j = 0
  · subst h1; rw [if_pos rfl, if_pos rfl]; rfl
  · by_cases h2 : j = 15
    · subst h2; rw [if_neg h1, if_pos rfl, if_neg h1]
    · rw [if_neg h1, if_neg h2, if_pos (by omega), if_neg h1]
theorem passRow_at (a : Nat → Int) (k : Nat) : passRow a k k = a k + cp a k := by unfold passRow; rw [if_neg (by omega), if_pos rfl]
theorem passRow_up (a : Nat → Int) (k : Nat) : passRow a k (k + 1) = a (k + 1) := by unfold passRow; rw [if_neg (by omega), if_neg (by omega)]
theorem passRow_low (a : Nat → Int) : passRow a 15 0 = a 0 % 65536 := by unfold passRow; rw [if_pos (by omega)]; simp [cp]

/-- the digits of a number -/
def numN (v : Int) : Nat → Int := fun i => v / 65536 ^ i % 65536
theorem numN_digits (v : Int) : Digits (numN v) := fun i _ => by unfold numN; omega
theorem emod_split (v m : Int) (hm : 0 < m) : v % (m * 65536) = v % m + v / m % 65536 * m := by
  have h1 := Int.emod_add_mul_ediv v m
  have h2 := Int.emod_add_mul_ediv (v / m) 65536
  have a1 := Int.emod_nonneg v (show m ≠ 0 by omega)
  have a2 := Int.emod_lt_of_pos v hm
  have b1 := Int.emod_nonneg (v / m) (show (65536 : Int) ≠ 0 by decide)
  have b2 := Int.emod_lt_of_pos (v / m) (show (0 : Int) < 65536 by decide)
  have e : v = (v % m + v / m % 65536 * m) + (m * 65536) * (v / m / 65536) := by
    have h3 : m * (v / m) = m * (v / m % 65536) + m * (65536 * (v / m / 65536)) := by rw [← Int.mul_add, h2]
    rw [Int.mul_comm (v / m % 65536) m, Int.mul_assoc]
    omega
  have c1 : 0 ≤ v / m % 65536 * m := Int.mul_nonneg b1 (by omega)
  have c2 : v / m % 65536 * m ≤ 65535 * m := Int.mul_le_mul_of_nonneg_right (by omega) (by omega)
  have hr : (v % m + v / m % 65536 * m) % (m * 65536) = v % m + v / m % 65536 * m := Int.emod_eq_of_lt (by omega) (by omega)
  have hs := Int.add_mul_emod_self_left (v % m + v / m % 65536 * m) (m * 65536) (v / m / 65536)
  rw [← e, hr] at hs
  exact hs
theorem numN_val (v : Int) : ∀ k, dval (numN v) k = v % 65536 ^ k
  | 0 => by simp [dval, Int.emod_one]
  | k + 1 => by
    show dval (numN v) k + v / 65536 ^ k % 65536 * 65536 ^ k = _
    rw [numN_val v k, Int.pow_succ, emod_split v _ (Int.pow_pos (by decide))]
theorem digits_eq {a b : Nat → Int} (ha : Digits a) (hb : Digits b) (h : dval a 16 = dval b 16) : ∀ n k, k + n = 16 → ∀ i, k ≤ i → i < 16 → a i = b i := by
  intro n
  induction n with
  | zero => intro k hk i h1 h2; omega
  | succ n ih =>
    intro k hk i h1 h2
    have hup := ih (k + 1) (by omega)
    by_cases hi : i = k
    · subst hi
      rcases (by omega : a i < b i ∨ b i < a i ∨ a i = b i) with h' | h' | h'
      · have := less_at ha hb i h2 (fun j hj1 hj2 => hup j (by omega) hj2) h'; omega
      · have := less_at hb ha i h2 (fun j hj1 hj2 => (hup j (by omega) hj2).symm) h'; omega
      · exact h'
    · exact hup i (by omega) h2
theorem numN_of {a : Nat → Int} (ha : Digits a) : ints .i64 16 a = ints .i64 16 (numN (dval a 16)) := by
  obtain ⟨h0, h1⟩ := dval_bd ha 16 (by decide)
  exact ints_congr fun i hi => digits_eq ha (numN_digits _) (by rw [numN_val, Int.emod_eq_of_lt h0 h1]) 16 0 rfl i (by omega) hi
theorem prime_val : dval primeN 16 = 57896044618658097711785492504343953926634992332820282019728792003956564819949 := by kernel_rfl

/-- what holds of the digits as they are folded: 'o' is what went over -/
structure FoldRel (l A : Nat → Int) (o : Int) (g : Nat) : Prop where
  small : Small50 A
  over : 0 ≤ o
  digits : o = 0 → Digits A
  same : dval A 16 % 57896044618658097711785492504343953926634992332820282019728792003956564819949 = dval l 16 % 57896044618658097711785492504343953926634992332820282019728792003956564819949
  val : 0 ≤ dval A 16
  left : g = 2 * (dval A 16).toNat + if o = 0 then 0 else 1
theorem dval_nonneg {f : Nat → Int} (hf : Small50 f) : ∀ k, k ≤ 16 → 0 ≤ dval f k
  | 0, _ => by simp [dval]
  | k + 1, hk => by
    have h0 := dval_nonneg hf k (by omega)
    have hm : 0 ≤ f k * 65536 ^ k := Int.mul_nonneg (hf k (by omega)).1 (Int.le_of_lt (Int.pow_pos (by decide)))
    show 0 ≤ dval f k + f k * 65536 ^ k
    omega
theorem FoldRel.start {l : Nat → Int} (hl : Small50 l) : FoldRel l l 1 (2 * (dval l 16).toNat + 1) :=
  ⟨hl, by decide, (fun h => absurd h (by decide)), rfl, dval_nonneg hl 16 (by decide), by rw [if_neg (by decide)]⟩
theorem FoldRel.next {l A : Nat → Int} {o : Int} {g : Nat} (h : FoldRel l A o g) (ho : 0 < o) : ∃ g', g' < g ∧ FoldRel l (passEnd A) (cp A 16) g' := by
  obtain ⟨hA, _, _, hM, hV, hG⟩ := h
  rw [if_neg (by omega)] at hG
  have hc := cp_bd hA 16 (by decide)
  have hv := passEnd_val A
  have hs := passEnd_small hA
  have hn := dval_nonneg hs 16 (by decide)
  refine ⟨2 * (dval (passEnd A) 16).toNat + if cp A 16 = 0 then 0 else 1, ?_, hs, hc.1, passEnd_digits, ?_, hn, rfl⟩
  · split <;> omega
  · rw [← hM, hv]; omega

set_option maxHeartbeats 1000000 in
theorem fold16_any (l : Nat → Int) (b c N : Nat) (t : TypeId) (fr : Nat × Nat) (w : World) (hl : Small50 l) (hb : objAt w b = some (.cells (ints .i64 N l) t fr)) (hN : 16 ≤ N) :
    Calls Try.prog 87 #[.slice (some ⟨b, 0, none⟩) 16 c] w fun e w' => e = .returned (.agg (ints .i64 16 (numN (dval l 16 % 57896044618658097711785492504343953926634992332820282019728792003956564819949)))) ∧ Below w.heap.size w w' := by
  have lb := lt_of_objAt hb
  go_enter Try.func87, Try.ntmps87
  go_wp2
  go_loop [0] (fun v => v = .slice (some ⟨b, 0, none⟩) 16 c) (fun _ => 0)
  case atStart => rfl
  subst hrel
  go_wp2
  go_loopw [6] (fun i wr => ∃ k : Nat, ∃ m : More, k ≤ 16 ∧ i = .int .i64 k ∧ wr = more ((w.alloc (.cells (ints .i64 16 nought) 41)).alloc (.cells (ints .i64 16 (part' l k)) 41)) m) (fun i _ => 16 - (intOf i).toNat)
  case atStart => exact ⟨0, _, by omega, rfl, by rw [part_zero]; exact (more_self _).symm⟩
  case round =>
    obtain ⟨k, m, hk, rfl, rfl⟩ := hrel
    by_cases hlt : k < 16
    · have hkN : k < N := by omega
      go_wp2
      go_roundw
      case rel => exact ⟨k + 1, _, by omega, by go_num, by rw [← part_succ]⟩
      case measure => simp [intOf]; omega
    · obtain rfl : k = 16 := by omega
      rw [ints_part]
      clear hlt
      go_wp2
      go_loopg [7] (2 * (dval l 16).toNat + 1) (fun g o wr => ∃ A : Nat → Int, ∃ o' : Int, ∃ m : More, FoldRel l A o' g ∧ o = .int .i64 o' ∧ wr = more ((w.alloc (.cells (ints .i64 16 nought) 41)).alloc (.cells (ints .i64 16 A) 41)) m)
      case atStart => exact ⟨l, 1, m, FoldRel.start hl, rfl, rfl⟩
      case round =>
        obtain ⟨A, o', m, hR, rfl, rfl⟩ := hrel
        obtain ⟨hA, ho, hD, hM, hV, hG⟩ := hR
        by_cases hz : o' = 0
        · subst hz
          have hDA := hD rfl
          have HM : Hid (dval A 16 % 57896044618658097711785492504343953926634992332820282019728792003956564819949 = dval l 16 % 57896044618658097711785492504343953926634992332820282019728792003956564819949) := hM
          clear hA hD hG ho hl hb lb hM
          go_wp2
          go_loopg [] (dval A 16).toNat (fun g wr => ∃ A : Nat → Int, ∃ m : More, Digits A ∧ Hid (dval A 16 % 57896044618658097711785492504343953926634992332820282019728792003956564819949 = dval l 16 % 57896044618658097711785492504343953926634992332820282019728792003956564819949 ∧ g = (dval A 16).toNat) ∧ wr = more ((w.alloc (.cells (ints .i64 16 nought) 41)).alloc (.cells (ints .i64 16 A) 41)) m)
          case atStart => exact ⟨A, m, hDA, ⟨HM.out, rfl⟩, rfl⟩
          case round =>
            clear hDA HM
            obtain ⟨A, m, hDA, HM, rfl⟩ := hrel
            by_cases hB : lessB A primeN = true
            · have hlt : dval A 16 < 57896044618658097711785492504343953926634992332820282019728792003956564819949 := by
                have := of_decide_eq_true hB
                rw [prime_val] at this
                exact this
              have h0 := (dval_bd hDA 16 (by decide)).1
              have e : ints .i64 16 A = ints .i64 16 (numN (dval l 16 % 57896044618658097711785492504343953926634992332820282019728792003956564819949)) := by
                rw [numN_of hDA, ← HM.out.1, Int.emod_eq_of_lt h0 hlt]
              have E : Hid (ints .i64 16 A = ints .i64 16 (numN (dval l 16 % 57896044618658097711785492504343953926634992332820282019728792003956564819949))) := e
              clear e hlt h0 HM
              go_wp2
              ((first | (with_reducible refine wp_region_on (by kernel_rfl) (by kernel_rfl) ?_) | refine wp_region_more (by kernel_rfl) (by kernel_rfl) ?_); (repeat (first | go_big_quiet_skip | (go_big_quiet_want; go_big_quiet_op; first | go_big_quiet_on | (apply Exists.intro; refine ⟨fun _ => ?_, ?_⟩; (focus (first | (with_reducible exact Calls.of_more (prime_any _)) | (with_reducible exact Calls.of_more (less_any A primeN _ hDA prime_digits)))); go_big_quiet_on)))); refine wpQuiet_nil ?_; rintro _ ⟨mq, rfl⟩)
              go_wp2
              refine ret_row rfl w.heap.size 41 (ints .i64 16 A) (0, 0) _ rfl (by (repeat (first | assumption | exact objAt_alloc_at _ _ _ rfl | (refine objAt_alloc_at _ _ _ ?_; (simp; done)) | refine keep_alloc _ ?_ | refine keep_drewN _ ?_ | refine keep_more _ ?_ | exact keep_row _ (by assumption) | refine keep_setRow _ _ ?_ (by first | omega | (simp; omega) | simp)))) Try.underlying41 rfl (by rw [ints_size]; kernel_rfl) rfl ⟨by rw [E.out], by (repeat (first | assumption | exact Grew.refl _ | refine Grew.more ?_ _ | refine Grew.alloc ?_ _ | refine Grew.drewN ?_ _ | refine Grew.setRow ?_ _ _ (by omega) | refine Grew.setRow ?_ _ _ (by simp; omega) | refine Grew.setRow ?_ _ _ (by simp)))⟩
            · have hB' : lessB A primeN = false := by simpa using hB
              have hge : 57896044618658097711785492504343953926634992332820282019728792003956564819949 ≤ dval A 16 := by
                have := of_decide_eq_false hB'
                rw [prime_val] at this
                omega
              clear hB
              have hA' := minus_digits hDA prime_digits
              have hv := minus_val A primeN 16
              have X : Hid (dval (minusF A primeN) 16 = dval A 16 - 57896044618658097711785492504343953926634992332820282019728792003956564819949) := by
                have h1 := dval_bd hA' 16 (by decide)
                have h2 := dval_bd hDA 16 (by decide)
                have h3 := borrow_bd A primeN 16
                rw [prime_val] at hv
                have e : (65536 : Int) ^ 16 = 115792089237316195423570985008687907853269984665640564039457584007913129639936 := by decide
                rw [e] at hv h1 h2
                show dval (minusF A primeN) 16 = dval A 16 - 57896044618658097711785492504343953926634992332820282019728792003956564819949
                omega
              have HG : Hid (57896044618658097711785492504343953926634992332820282019728792003956564819949 ≤ dval A 16) := hge
              clear hv hge
              go_wp2
              ((first | (with_reducible refine wp_region_on (by kernel_rfl) (by kernel_rfl) ?_) | refine wp_region_more (by kernel_rfl) (by kernel_rfl) ?_); (repeat (first | go_big_quiet_skip | (go_big_quiet_want; go_big_quiet_op; first | go_big_quiet_on | (apply Exists.intro; refine ⟨fun _ => ?_, ?_⟩; (focus (first | (with_reducible exact Calls.of_more (prime_any _)) | (with_reducible exact Calls.of_more (less_any A primeN _ hDA prime_digits)))); go_big_quiet_on)))); refine wpQuiet_nil ?_; rintro _ ⟨mq, rfl⟩)
              go_wp2
              ((first | (with_reducible refine wp_region_tail_on 3 (by kernel_rfl) (by kernel_rfl) (by kernel_rfl) (by kernel_rfl) (by kernel_rfl) ?_) | refine wp_region_tail_more 3 (by kernel_rfl) (by kernel_rfl) (by kernel_rfl) (by kernel_rfl) (by kernel_rfl) ?_); simp only [List.take_succ_cons, List.take_zero]; (repeat (first | go_big_quiet_skip | (go_big_quiet_want; go_big_quiet_op; first | go_big_quiet_on | (apply Exists.intro; refine ⟨fun _ => ?_, ?_⟩; (focus (first | (with_reducible exact Calls.of_more (prime_any _)) | (with_reducible exact Calls.of_more (minus_any A primeN _ hDA prime_digits)))); go_big_quiet_on)))); refine wpQuiet_nil ?_; rintro _ ⟨mq, rfl⟩)
              (refine tail_one (i := 3) (fuel := 0) (by kernel_rfl) rfl ?_; intro K hK; go_simp; refine hK _ _ ?_; clear hK K)
              (refine wpAny_done (by kernel_rfl) ?_ _)
              go_wp2
              go_roundg (dval (minusF A primeN) 16).toNat
              case measure =>
                have h1 := X.out
                have h2 := HG.out
                have h3 := HM.out.2
                omega
              case rel =>
                refine ⟨minusF A primeN, _, hA', ⟨?_, rfl⟩, rfl⟩
                rw [X.out, ← HM.out.1]
                omega
        · have hpos : 0 < o' := by omega
          have HR : Hid (FoldRel l A o' gk) := ⟨hA, ho, hD, hM, hV, hG⟩
          clear hD hM hV hG hz ho
          go_wp2
          go_loopw [7, 8] (fun o i wr => ∃ k : Nat, ∃ m : More, k ≤ 16 ∧ i = .int .i64 k ∧ o = .int .i64 (if k = 16 then cp A 16 else 0) ∧ wr = more ((w.alloc (.cells (ints .i64 16 nought) 41)).alloc (.cells (ints .i64 16 (if k = 16 then passEnd A else passRow A k)) 41)) m) (fun _ i _ => 16 - (intOf i).toNat)
          case atStart => exact ⟨0, m, by omega, rfl, by rw [if_neg (by decide)], by rw [if_neg (by decide), passRow_zero]⟩
          case round =>
            obtain ⟨k, m, hk, rfl, rfl, rfl⟩ := hrel
            by_cases h16 : k = 16
            · subst h16
              rw [if_pos rfl, if_pos rfl]
              obtain ⟨g', hg', hR'⟩ := HR.out.next hpos
              have X : Hid (g' < gk ∧ FoldRel l (passEnd A) (cp A 16) g') := ⟨hg', hR'⟩
              clear hg' hR'
              go_wp2
              go_roundg g'
              case measure => exact X.out.1
              case rel => exact ⟨passEnd A, cp A 16, m, X.out.2, rfl, rfl⟩
            · rw [if_neg h16, if_neg h16]
              have hk16 : k < 16 := by omega
              obtain ⟨a0, a1⟩ := hA k hk16
              obtain ⟨c0, c1⟩ := cp_bd hA k (by omega)
              have r0 := passRow_at A k
              by_cases h15 : k < 15
              · have hk1 : k + 1 < 16 := by omega
                obtain ⟨b0, b1⟩ := hA (k + 1) hk1
                have r1 : upd (passRow A k) k ((A k + cp A k) % 65536) (k + 1) = A (k + 1) := by rw [upd_other _ _ _ _ (by omega), passRow_up]
                clear hA h16
                go_wp2
                go_roundw
                case rel => exact ⟨k + 1, m, by omega, by go_num, by rw [if_neg (by omega)], by rw [if_neg (by omega), passRow_next]⟩
                case measure => simp [intOf]; omega
              · obtain rfl : k = 15 := by omega
                obtain ⟨b0, b1⟩ := hA 0 (by decide)
                have r1 : upd (passRow A 15) 15 ((A 15 + cp A 15) % 65536) 0 = A 0 % 65536 := by rw [upd_other _ _ _ _ (by omega), passRow_low]
                have r2 := passRow_last A
                clear hA h16 h15
                go_wp2
                go_roundw
                case rel => exact ⟨16, m, by omega, by rfl, by rw [if_pos rfl]; rfl, by rw [if_pos rfl]⟩
                case measure => simp [intOf] <;> omega
end Go.Proofs.Ytfapmpnkemogkaa
