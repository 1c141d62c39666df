/- Math02 -/
import Derived.Test.YtconieddcjpbjaaGreatDoorMem
import Derived.Deep.LoopGhost
import Derived.Test.YtconieddcjpbjaaGreatDoorBase
import Derived.Test.YtconieddcjpbjaaGreatDoorLimb
import Derived.Test.YtconieddcjpbjaaGreatDoorLaw02
set_option linter.unusedVariables false
set_option linter.unusedSimpArgs false
set_option maxRecDepth 100000
set_option maxHeartbeats 4000000
namespace Go.Proofs.YtconieddcjpbjaaGreatDoor
open Go.RowKit
def dval (f : Nat -> Int) : Nat -> Int
 | 0 => 0
 | k + 1 => dval f k + f k * 65536 ^ k
def zqcy (f : Nat -> Int) : Prop := ∀ i, i < 16 -> 0 <= f i /\ f i < 65536
theorem zqgk {f g : Nat -> Int} : ∀ k, (∀ i, i < k -> f i = g i) -> dval f k = dval g k
 | 0, _ => rfl
 | k + 1, h => by
  show dval f k + f k * 65536 ^ k = dval g k + g k * 65536 ^ k
  rw [zqgk k (fun i hi => h i (by omega)), h k (by omega)]
theorem zqfl {f : Nat -> Int} (hf : zqcy f) : ∀ k, k <= 16 -> 0 <= dval f k /\ dval f k < 65536 ^ k
 | 0, _ => by simp [dval]
 | k + 1, hk => by
  obtain ⟨h0, h1⟩ := zqfl hf k (by omega);obtain ⟨c0, c1⟩ := hf k (by omega);have e : (65536 : Int) ^ (k + 1) = 65536 * 65536 ^ k := by rw [Int.pow_succ, Int.mul_comm]
  have hm0 : 0 <= f k * 65536 ^ k := Int.mul_nonneg c0 (by omega);have hm1 : f k * 65536 ^ k <= 65535 * 65536 ^ k := Int.mul_le_mul_of_nonneg_right (by omega) (by omega)
  show 0 <= dval f k + f k * 65536 ^ k /\ dval f k + f k * 65536 ^ k < 65536 ^ (k + 1)
  rw [e]
  omega
def zqca : Nat -> Int := fun i => if i = 0 then 65517 else if i < 15 then 65535 else 32767
theorem zqc0 : zqcy zqca := fun i hi => by unfold zqca; split; omega; split <;> omega
theorem zq4f : ints .i64 16 (upd (zqcj zqca 15) 15 32767) = ints .i64 16 zqca := by
 refine zqa4 fun i hi => ?_
 unfold upd zqcj
 by_cases h : i = 15
 ·subst h; rfl
 ·rw [if_neg h, if_pos (by omega)]
set_option maxHeartbeats 400000 in
theorem zqfw (w : World) :
  Calls Tryz.prog 137 #[] w (Rt w (.agg (ints .i64 16 zqca))) := by
 have p1 := zq4f
 go_enter Tryz.func137, Tryz.ntmps137
 go_wp2
 go_loopw [2] (fun i wr => ∃ k : Nat, ∃ m : More, 1 <= k /\ k <= 16 /\ i = .int .i64 k /\ wr = more ((w.alloc (.cells (ints .i64 16 zqg) 129)).alloc (.cells (ints .i64 16 (if k = 16 then upd (zqcj zqca 15) 15 65535 else zqcj zqca k)) 129)) m) (fun i _ => 16 - (intOf i).toNat)
 case atStart =>
  have e : upd zqg 0 65517 = zqcj zqca 1 := by
   funext i; unfold upd zqg zqcj zqca
   by_cases h : i = 0
   ·subst h; rfl
   ·rw [if_neg h, if_neg (by omega)]
  exact ⟨1, _, by omega, by omega, rfl, by rw [if_neg (by decide), e]; exact (zqch _).symm⟩
 case round =>
  obtain ⟨k, m, hk0, hk, rfl, rfl⟩ := hrel
  by_cases hlt : k < 16
  ·rw [if_neg (by omega)]
   go_wp2
   go_roundw
   case rel =>
    refine ⟨k + 1, m, by omega, by omega, by go_num, ?_⟩
    by_cases h15 : k = 15
    ·subst h15; rw [if_pos rfl]
    ·rw [if_neg (by omega), <- zqcl, show zqca k = 65535 by unfold zqca; rw [if_neg (by omega), if_pos (by omega)]]
   case measure => simp [intOf]; omega
  ·obtain rfl : k = 16 := by omega
   rw [if_pos rfl];have p2 : ints .i64 16 (upd (upd (zqcj zqca 15) 15 65535) 15 32767) = ints .i64 16 zqca := by
    rw [<- p1]; refine zqa4 fun i hi => ?_
    unfold upd; split <;> rfl
   clear hlt p1;go_wp2;refine zqaf rfl _ 129 _ (0, 0) _ rfl (by simp [go_sem]) Tryz.underlying129 rfl (by rw [zqh]; kernel_rfl) rfl ⟨rfl, by exact zqf⟩
def zql9 (a b : Nat -> Int) : Bool := decide (dval a 16 < dval b 16)
theorem zqri {a b : Nat -> Int} (ha : zqcy a) (hb : zqcy b) (j : Nat) (hj : j < 16) (he : ∀ i, j < i -> i < 16 -> a i = b i) (hlt : a j < b j) : dval a 16 < dval b 16 := by
 have step : ∀ k, j < k -> k <= 16 -> dval a k < dval b k := by
  intro k
  induction k with
  | zero => intro h; omega
  | succ k ih =>
   intro h1 h2
   show dval a k + a k * 65536 ^ k < dval b k + b k * 65536 ^ k
   by_cases hk : k = j
   ·subst hk
    obtain ⟨p0, p1⟩ := zqfl ha k (by omega);obtain ⟨q0, q1⟩ := zqfl hb k (by omega);have : (a k + 1) * 65536 ^ k <= b k * 65536 ^ k := Int.mul_le_mul_of_nonneg_right (by omega) (by omega);rw [Int.add_mul] at this
    omega
   ·rw [he k (by omega) (by omega)]
    have := ih (by omega) (by omega)
    omega
 exact step 16 hj (Nat.le_refl _)
set_option maxHeartbeats 400000 in
theorem zqjs (a b : Nat -> Int) (w : World) (ha : zqcy a) (hb : zqcy b) :
  Calls Tryz.prog 136 #[.agg (ints .i64 16 a), .agg (ints .i64 16 b)] w (Rt w (.bool (zql9 a b))) := by
 go_enter Tryz.func136, Tryz.ntmps136
 go_wp2
 go_loopw [5] (fun i wr => ∃ k : Nat, ∃ m : More, k <= 16 /\ i = .int .i64 ((k : Int) - 1) /\ (∀ j, k <= j -> j < 16 -> a j = b j) /\ wr = more ((w.alloc (.cells (ints .i64 16 a) 129)).alloc (.cells (ints .i64 16 b) 129)) m) (fun i _ => (intOf i + 1).toNat)
 case atStart => exact ⟨16, _, by omega, rfl, fun j h1 h2 => by omega, (zqch _).symm⟩
 case round =>
  obtain ⟨k, m, hk, rfl, he, rfl⟩ := hrel
  cases k with
  | zero =>
   have e : zql9 a b = false := by
    unfold zql9; rw [zqgk 16 (fun i hi => he i (by omega) hi)]; simp
   have E : Hid (zql9 a b = false) := e;clear e he;go_wp2;go_ret;exact ⟨by rw [E.out] <;> rfl, by exact zqf⟩
  | succ j =>
   have hj : j < 16 := by omega
   have hr : ((j + 1 : Nat) : Int) - 1 = j := by omega
   rw [hr];have HE : Hid (∀ i, j + 1 <= i -> i < 16 -> a i = b i) := he;clear he hr
   by_cases hab : a j = b j
   ·have hne : (b j != b j) = false := by simp
    have hne' : (a j != b j) = false := by rw [hab]; simp
    have HA : Hid (a j = b j) := hab;clear hab;go_wp2
    ((first | (with_reducible refine zq5 zqc zqc ?_) | refine zqt zqc zqc ?_); (repeat (first | go_big_quiet_skip | (go_big_quiet_want; go_big_quiet_op; go_big_quiet_on))); refine wpQuiet_nil ?_; rintro _ ⟨mq, rfl⟩)
    go_wp2
    go_roundw
    case rel => exact ⟨j, _, by omega, rfl, fun i h1 h2 => by
     by_cases hi : i = j
     ·subst hi; exact HA.out
     ·exact HE.out i (by omega) h2, rfl⟩
    case measure => simp [intOf] <;> omega
   ·have hne : (a j != b j) = true := by simp [hab]
    have e : zql9 a b = decide (a j < b j) := by
     unfold zql9
     rcases (by omega : a j < b j \/ b j < a j) with h | h
     ·rw [decide_eq_true h, decide_eq_true (zqri ha hb j hj (fun i h1 h2 => HE.out i (by omega) h2) h)]
     ·have := zqri hb ha j hj (fun i h1 h2 => (HE.out i (by omega) h2).symm) h
      rw [decide_eq_false (by omega), decide_eq_false (by omega)]
    have E : Hid (zql9 a b = decide (a j < b j)) := e;clear e hab;go_wp2
    ((first | (with_reducible refine zq5 zqc zqc ?_) | refine zqt zqc zqc ?_); (repeat (first | go_big_quiet_skip | (go_big_quiet_want; go_big_quiet_op; go_big_quiet_on))); refine wpQuiet_nil ?_; rintro _ ⟨mq, rfl⟩)
    go_wp2
    ((first | (with_reducible refine zq5 zqc zqc ?_) | refine zqt zqc zqc ?_); (repeat (first | go_big_quiet_skip | (go_big_quiet_want; go_big_quiet_op; go_big_quiet_on))); refine wpQuiet_nil ?_; rintro _ ⟨mq, rfl⟩)
    go_wp2;go_ret;exact ⟨by rw [E.out] <;> rfl, by exact zqf⟩
def zqcw (a b : Nat -> Int) : Nat -> Int
 | 0 => 0
 | k + 1 => if a k - b k - zqcw a b k < 0 then 1 else 0
def zqdr (a b : Nat -> Int) : Nat -> Int := fun k => if a k - b k - zqcw a b k < 0 then a k - b k - zqcw a b k + 65536 else a k - b k - zqcw a b k
theorem zqhi (a b : Nat -> Int) : ∀ k, 0 <= zqcw a b k /\ zqcw a b k <= 1
 | 0 => by simp [zqcw]
 | k + 1 => by unfold zqcw; split <;> omega
theorem zqhm {a b : Nat -> Int} (ha : zqcy a) (hb : zqcy b) : zqcy (zqdr a b) := fun i hi => by
 have := ha i hi; have := hb i hi; have := zqhi a b i;unfold zqdr; split <;> omega
theorem zqkh (a b : Nat -> Int) : ∀ k, dval (zqdr a b) k = dval a k - dval b k + zqcw a b k * 65536 ^ k
 | 0 => by simp [dval, zqcw]
 | k + 1 => by
  have ih := zqkh a b k;have e : (65536 : Int) ^ (k + 1) = 65536 * 65536 ^ k := by rw [Int.pow_succ, Int.mul_comm]
  show dval (zqdr a b) k + zqdr a b k * 65536 ^ k = dval a k + a k * 65536 ^ k - (dval b k + b k * 65536 ^ k) + zqcw a b (k + 1) * 65536 ^ (k + 1)
  rw [ih, e];unfold zqdr;rw [zqcw];generalize (65536 : Int) ^ k = m;generalize zqcw a b k = c
  split
  ·rw [Int.add_mul, Int.sub_mul, Int.sub_mul]; omega
  ·rw [Int.sub_mul, Int.sub_mul]; omega
set_option maxHeartbeats 400000 in
theorem zqod (a b : Nat -> Int) (w : World) (ha : zqcy a) (hb : zqcy b) :
  Calls Tryz.prog 138 #[.agg (ints .i64 16 a), .agg (ints .i64 16 b)] w (Rt w (.agg (ints .i64 16 (zqdr a b)))) := by
 go_enter Tryz.func138, Tryz.ntmps138
 go_wp2
 go_loopw [5, 6] (fun c i wr => ∃ k : Nat, ∃ m : More, k <= 16 /\ i = .int .i64 k /\ c = .int .i64 (zqcw a b k) /\ wr = more (((w.alloc (.cells (ints .i64 16 (mix (zqdr a b) a k)) 129)).alloc (.cells (ints .i64 16 b) 129)).alloc (.cells (ints .i64 16 zqg) 129)) m) (fun _ i _ => 16 - (intOf i).toNat)
 case atStart => exact ⟨0, _, by omega, rfl, rfl, by rw [zqf2]; exact (zqch _).symm⟩
 case round =>
  obtain ⟨k, m, hk, rfl, rfl, rfl⟩ := hrel
  by_cases hlt : k < 16
  ·obtain ⟨a0, a1⟩ := ha k hlt
   obtain ⟨b0, b1⟩ := hb k hlt;obtain ⟨c0, c1⟩ := zqhi a b k;have hm := zqne (zqdr a b) a k
   by_cases hd : a k - b k - zqcw a b k < 0
   ·have e1 : zqdr a b k = a k - b k - zqcw a b k + 65536 := if_pos hd
    have e2 : zqcw a b (k + 1) = 1 := if_pos hd;have E1 : Hid (zqdr a b k = a k - b k - zqcw a b k + 65536) := e1;have E2 : Hid (zqcw a b (k + 1) = 1) := e2;clear e1 e2;go_wp2
    ((first | (with_reducible refine zq5 zqc zqc ?_) | refine zqt zqc zqc ?_); (repeat (first | go_big_quiet_skip | (go_big_quiet_want; go_big_quiet_op; go_big_quiet_on))); refine wpQuiet_nil ?_; rintro _ ⟨mq, rfl⟩)
    go_wp2
    go_roundw
    case rel => exact ⟨k + 1, _, by omega, by go_num, by rw [E2.out], by rw [<- zqe9, E1.out]⟩
    case measure => simp [intOf]; omega
   ·have e1 : zqdr a b k = a k - b k - zqcw a b k := if_neg hd
    have e2 : zqcw a b (k + 1) = 0 := if_neg hd;have E1 : Hid (zqdr a b k = a k - b k - zqcw a b k) := e1;have E2 : Hid (zqcw a b (k + 1) = 0) := e2;clear e1 e2;go_wp2
    ((first | (with_reducible refine zq5 zqc zqc ?_) | refine zqt zqc zqc ?_); (repeat (first | go_big_quiet_skip | (go_big_quiet_want; go_big_quiet_op; go_big_quiet_on))); refine wpQuiet_nil ?_; rintro _ ⟨mq, rfl⟩)
    go_wp2
    go_roundw
    case rel => exact ⟨k + 1, _, by omega, by go_num, by rw [E2.out], by rw [<- zqe9, E1.out]⟩
    case measure => simp [intOf]; omega
  ·obtain rfl : k = 16 := by omega
   rw [zqgw];clear hlt;go_wp2;refine zqaf rfl _ 129 _ (0, 0) _ rfl (by simp [go_sem]) Tryz.underlying129 rfl (by rw [zqh]; kernel_rfl) rfl ⟨rfl, by exact zqf⟩
def cp (a : Nat -> Int) : Nat -> Int
 | 0 => 0
 | k + 1 => (a k + cp a k) / 65536
def zqdf (a : Nat -> Int) (k : Nat) : Nat -> Int := fun j => if j < k then (a j + cp a j) % 65536 else if j = k then a j + cp a j else a j
def zqdl (a : Nat -> Int) : Nat -> Int := fun j => if j = 0 then a 0 % 65536 + 38 * cp a 16 else (a j + cp a j) % 65536
def zqe0 (a : Nat -> Int) : Prop := ∀ i, i < 16 -> 0 <= a i /\ a i <= 2251799813685248
theorem zq4b {a : Nat -> Int} (ha : zqe0 a) : ∀ k, k <= 16 -> 0 <= cp a k /\ cp a k <= 34360262665
 | 0, _ => by simp [cp]
 | k + 1, hk => by
  have := zq4b ha k (by omega); have := ha k (by omega);unfold cp; omega
theorem zqwy (a : Nat -> Int) : ∀ k, dval (fun j => (a j + cp a j) % 65536) k + cp a k * 65536 ^ k = dval a k
 | 0 => by simp [dval, cp]
 | k + 1 => by
  have ih := zqwy a k;have e : (65536 : Int) ^ (k + 1) = 65536 * 65536 ^ k := by rw [Int.pow_succ, Int.mul_comm]
  show dval (fun j => (a j + cp a j) % 65536) k + (a k + cp a k) % 65536 * 65536 ^ k + cp a (k + 1) * 65536 ^ (k + 1) = dval a k + a k * 65536 ^ k
  rw [e, <- ih, cp];generalize (65536 : Int) ^ k = m;have h := Int.emod_add_mul_ediv (a k + cp a k) 65536;have h2 : (a k + cp a k) % 65536 * m + (a k + cp a k) / 65536 * (65536 * m) = (a k + cp a k) * m := by
   rw [<- Int.mul_assoc, <- Int.add_mul, Int.mul_comm ((a k + cp a k) / 65536) 65536, h]
  rw [Int.add_mul] at h2
  omega
theorem zqtx (f g : Nat -> Int) (h : ∀ i, 0 < i -> f i = g i) : ∀ k, 0 < k -> dval f k = dval g k + (f 0 - g 0)
 | 0, h0 => absurd h0 (by omega)
 | 1, _ => by simp [dval]; omega
 | k + 2, _ => by
  show dval f (k + 1) + f (k + 1) * 65536 ^ (k + 1) = dval g (k + 1) + g (k + 1) * 65536 ^ (k + 1) + (f 0 - g 0)
  rw [zqtx f g h (k + 1) (by omega), h (k + 1) (by omega)]
  omega
theorem zqwe (a : Nat -> Int) : dval (zqdl a) 16 = dval a 16 - cp a 16 * 115792089237316195423570985008687907853269984665640564039457584007913129639898 := by
 have h1 := zqwy a 16;have h2 := zqtx (zqdl a) (fun j => (a j + cp a j) % 65536) (fun i hi => by unfold zqdl; rw [if_neg (by omega)]) 16 (by decide);have h3 : zqdl a 0 = a 0 % 65536 + 38 * cp a 16 := rfl;have h4 : cp a 0 = 0 := rfl;rw [h2, h3]
 simp only [h4, Int.add_zero]
 have e : (65536 : Int) ^ 16 = 115792089237316195423570985008687907853269984665640564039457584007913129639936 := by decide
 rw [e] at h1
 omega
theorem zqqy {a : Nat -> Int} (ha : zqe0 a) : zqe0 (zqdl a) := fun i hi => by
 have := zq4b ha 16 (by omega);unfold zqdl; split <;> omega
theorem zqox {a : Nat -> Int} (h : cp a 16 = 0) : zqcy (zqdl a) := fun i hi => by
 unfold zqdl; split <;> omega
theorem zqlv (a : Nat -> Int) : zqdf a 0 = a := by
 funext j; unfold zqdf; rw [if_neg (by omega)]; split
 ·rename_i h; subst h; simp [cp]
 ·rfl
theorem zqlr (a : Nat -> Int) (k : Nat) : upd (upd (zqdf a k) k ((a k + cp a k) % 65536)) (k + 1) (a (k + 1) + (a k + cp a k) / 65536) = zqdf a (k + 1) := by
 funext j
 unfold upd zqdf
 by_cases h1 : j = k + 1
 ·subst h1; rw [if_pos rfl, if_neg (by omega), if_pos rfl]; rfl
 ·by_cases h2 : j = k
  ·subst h2; rw [if_neg h1, if_pos rfl, if_pos (by omega)]
  ·by_cases h3 : j < k
   ·rw [if_neg h1, if_neg h2, if_pos h3, if_pos (by omega)]
   ·rw [if_neg h1, if_neg h2, if_neg h3, if_neg h2, if_neg (by omega), if_neg h1]
theorem zqlx (a : Nat -> Int) : ints .i64 16 (upd (upd (zqdf a 15) 15 ((a 15 + cp a 15) % 65536)) 0 (a 0 % 65536 + 38 * ((a 15 + cp a 15) / 65536))) = ints .i64 16 (zqdl a) := by
 refine zqa4 fun j hj => ?_
 unfold upd zqdf zqdl
 by_cases h1 : j = 0
 ·subst h1; rw [if_pos rfl, if_pos rfl]; rfl
 ·by_cases h2 : j = 15
  ·subst h2; rw [if_neg h1, if_pos rfl, if_neg h1]
  ·rw [if_neg h1, if_neg h2, if_pos (by omega), if_neg h1]
theorem zqo4 (a : Nat -> Int) (k : Nat) : zqdf a k k = a k + cp a k := by unfold zqdf; rw [if_neg (by omega), if_pos rfl]
theorem zqp0 (a : Nat -> Int) (k : Nat) : zqdf a k (k + 1) = a (k + 1) := by unfold zqdf; rw [if_neg (by omega), if_neg (by omega)]
theorem zqm0 (a : Nat -> Int) : zqdf a 15 0 = a 0 % 65536 := by unfold zqdf; rw [if_pos (by omega)]; simp [cp]
def numN (v : Int) : Nat -> Int := fun i => v / 65536 ^ i % 65536
theorem zqby (v : Int) : zqcy (numN v) := fun i _ => by unfold numN; omega
theorem zqzp (v m : Int) (hm : 0 < m) : v % (m * 65536) = v % m + v / m % 65536 * m := by
 have h1 := Int.emod_add_mul_ediv v m;have h2 := Int.emod_add_mul_ediv (v / m) 65536;have a1 := Int.emod_nonneg v (show m ≠ 0 by omega);have a2 := Int.emod_lt_of_pos v hm;have b1 := Int.emod_nonneg (v / m) (show (65536 : Int) ≠ 0 by decide);have b2 := Int.emod_lt_of_pos (v / m) (show (0 : Int) < 65536 by decide);have e : v = (v % m + v / m % 65536 * m) + (m * 65536) * (v / m / 65536) := by
  have h3 : m * (v / m) = m * (v / m % 65536) + m * (65536 * (v / m / 65536)) := by rw [<- Int.mul_add, h2]
  rw [Int.mul_comm (v / m % 65536) m, Int.mul_assoc]
  omega
 have c1 : 0 <= v / m % 65536 * m := Int.mul_nonneg b1 (by omega);have c2 : v / m % 65536 * m <= 65535 * m := Int.mul_le_mul_of_nonneg_right (by omega) (by omega);have hr : (v % m + v / m % 65536 * m) % (m * 65536) = v % m + v / m % 65536 * m := Int.emod_eq_of_lt (by omega) (by omega);have hs := Int.add_mul_emod_self_left (v % m + v / m % 65536 * m) (m * 65536) (v / m / 65536);rw [<- e, hr] at hs;exact hs
theorem zqkd (v : Int) : ∀ k, dval (numN v) k = v % 65536 ^ k
 | 0 => by simp [dval, Int.emod_one]
 | k + 1 => by
  show dval (numN v) k + v / 65536 ^ k % 65536 * 65536 ^ k = _
  rw [zqkd v k, Int.pow_succ, zqzp v _ (Int.pow_pos (by decide))]
theorem zq1w {a b : Nat -> Int} (ha : zqcy a) (hb : zqcy b) (h : dval a 16 = dval b 16) : ∀ n k, k + n = 16 -> ∀ i, k <= i -> i < 16 -> a i = b i := by
 intro n
 induction n with
 | zero => intro k hk i h1 h2; omega
 | succ n ih =>
  intro k hk i h1 h2;have hup := ih (k + 1) (by omega)
  by_cases hi : i = k
  ·subst hi
   rcases (by omega : a i < b i \/ b i < a i \/ a i = b i) with h' | h' | h'
   ·have := zqri ha hb i h2 (fun j hj1 hj2 => hup j (by omega) hj2) h'; omega
   ·have := zqri hb ha i h2 (fun j hj1 hj2 => (hup j (by omega) hj2).symm) h'; omega
   ·exact h'
  ·exact hup i (by omega) h2
theorem zqoi {a : Nat -> Int} (ha : zqcy a) : ints .i64 16 a = ints .i64 16 (numN (dval a 16)) := by
 obtain ⟨h0, h1⟩ := zqfl ha 16 (by decide);exact zqa4 fun i hi => zq1w ha (zqby _) (by rw [zqkd, Int.emod_eq_of_lt h0 h1]) 16 0 rfl i (by omega) hi
theorem zqfp : dval zqca 16 = 57896044618658097711785492504343953926634992332820282019728792003956564819949 := by kernel_rfl
structure FoldRel (l A : Nat -> Int) (o : Int) (g : Nat) : Prop where
 small : zqe0 A
 over : 0 <= o
 digits : o = 0 -> zqcy A
 same : dval A 16 % 57896044618658097711785492504343953926634992332820282019728792003956564819949 = dval l 16 % 57896044618658097711785492504343953926634992332820282019728792003956564819949
 val : 0 <= dval A 16
 left : g = 2 * (dval A 16).toNat + if o = 0 then 0 else 1
theorem zqiv {f : Nat -> Int} (hf : zqe0 f) : ∀ k, k <= 16 -> 0 <= dval f k
 | 0, _ => by simp [dval]
 | k + 1, hk => by
  have h0 := zqiv hf k (by omega);have hm : 0 <= f k * 65536 ^ k := Int.mul_nonneg (hf k (by omega)).1 (Int.le_of_lt (Int.pow_pos (by decide)))
  show 0 <= dval f k + f k * 65536 ^ k
  omega
theorem FoldRel.start {l : Nat -> Int} (hl : zqe0 l) : FoldRel l l 1 (2 * (dval l 16).toNat + 1) :=
 ⟨hl, by decide, (fun h => absurd h (by decide)), rfl, zqiv hl 16 (by decide), by rw [if_neg (by decide)]⟩
theorem FoldRel.next {l A : Nat -> Int} {o : Int} {g : Nat} (h : FoldRel l A o g) (ho : 0 < o) : ∃ g', g' < g /\ FoldRel l (zqdl A) (cp A 16) g' := by
 obtain ⟨hA, _, _, hM, hV, hG⟩ := h;rw [if_neg (by omega)] at hG;have hc := zq4b hA 16 (by decide);have hv := zqwe A;have hs := zqqy hA;have hn := zqiv hs 16 (by decide);refine ⟨2 * (dval (zqdl A) 16).toNat + if cp A 16 = 0 then 0 else 1, ?_, hs, hc.1, zqox, ?_, hn, rfl⟩
 ·split <;> omega
 ·rw [<- hM, hv]; omega
set_option maxHeartbeats 1000000 in
theorem zqpd (l : Nat -> Int) (b c N : Nat) (t : TypeId) (fr : Nat × Nat) (w : World) (hl : zqe0 l) (hb : zqd w b = some (.cells (ints .i64 N l) t fr)) (hN : 16 <= N) :
  Calls Tryz.prog 116 #[.slice (some ⟨b, 0, none⟩) 16 c] w (Rt w (.agg (ints .i64 16 (numN (dval l 16 % 57896044618658097711785492504343953926634992332820282019728792003956564819949))))) := by
 have lb := zqa hb
 go_enter Tryz.func116, Tryz.ntmps116
 go_wp2
 go_loop [0] (fun v => v = .slice (some ⟨b, 0, none⟩) 16 c) (fun _ => 0)
 case atStart => rfl
 subst hrel;go_wp2
 go_loopw [6] (fun i wr => ∃ k : Nat, ∃ m : More, k <= 16 /\ i = .int .i64 k /\ wr = more ((w.alloc (.cells (ints .i64 16 zqg) 129)).alloc (.cells (ints .i64 16 (zqcj l k)) 129)) m) (fun i _ => 16 - (intOf i).toNat)
 case atStart => exact ⟨0, _, by omega, rfl, by rw [zqc9]; exact (zqch _).symm⟩
 case round =>
  obtain ⟨k, m, hk, rfl, rfl⟩ := hrel
  by_cases hlt : k < 16
  ·have hkN : k < N := by omega
   go_wp2
   go_roundw
   case rel => exact ⟨k + 1, _, by omega, by go_num, by rw [<- zqcl]⟩
   case measure => simp [intOf]; omega
  ·obtain rfl : k = 16 := by omega
   rw [zqdi];clear hlt;go_wp2
   go_loopg [7] (2 * (dval l 16).toNat + 1) (fun g o wr => ∃ A : Nat -> Int, ∃ o' : Int, ∃ m : More, FoldRel l A o' g /\ o = .int .i64 o' /\ wr = more ((w.alloc (.cells (ints .i64 16 zqg) 129)).alloc (.cells (ints .i64 16 A) 129)) m)
   case atStart => exact ⟨l, 1, m, FoldRel.start hl, rfl, rfl⟩
   case round =>
    obtain ⟨A, o', m, hR, rfl, rfl⟩ := hrel;obtain ⟨hA, ho, hD, hM, hV, hG⟩ := hR
    by_cases hz : o' = 0
    ·subst hz
     have hDA := hD rfl;have HM : Hid (dval A 16 % 57896044618658097711785492504343953926634992332820282019728792003956564819949 = dval l 16 % 57896044618658097711785492504343953926634992332820282019728792003956564819949) := hM;clear hA hD hG ho hl hb lb hM;go_wp2
     go_loopg [] (dval A 16).toNat (fun g wr => ∃ A : Nat -> Int, ∃ m : More, zqcy A /\ Hid (dval A 16 % 57896044618658097711785492504343953926634992332820282019728792003956564819949 = dval l 16 % 57896044618658097711785492504343953926634992332820282019728792003956564819949 /\ g = (dval A 16).toNat) /\ wr = more ((w.alloc (.cells (ints .i64 16 zqg) 129)).alloc (.cells (ints .i64 16 A) 129)) m)
     case atStart => exact ⟨A, m, hDA, ⟨HM.out, rfl⟩, rfl⟩
     case round =>
      clear hDA HM;obtain ⟨A, m, hDA, HM, rfl⟩ := hrel
      by_cases hB : zql9 A zqca = true
      ·have hlt : dval A 16 < 57896044618658097711785492504343953926634992332820282019728792003956564819949 := by
        have := of_decide_eq_true hB;rw [zqfp] at this;exact this
       have h0 := (zqfl hDA 16 (by decide)).1;have e : ints .i64 16 A = ints .i64 16 (numN (dval l 16 % 57896044618658097711785492504343953926634992332820282019728792003956564819949)) := by
        rw [zqoi hDA, <- HM.out.1, Int.emod_eq_of_lt h0 hlt]
       have E : Hid (ints .i64 16 A = ints .i64 16 (numN (dval l 16 % 57896044618658097711785492504343953926634992332820282019728792003956564819949))) := e;clear e hlt h0 HM;go_wp2
       ((first | (with_reducible refine zq5 zqc zqc ?_) | refine zqt zqc zqc ?_); (repeat (first | go_big_quiet_skip | (go_big_quiet_want; go_big_quiet_op; first | go_big_quiet_on | (apply Exists.intro; refine ⟨fun _ => ?_, ?_⟩; (focus (first | (with_reducible exact Calls.of_more (zqfw _)) | (with_reducible exact Calls.of_more (zqjs A zqca _ hDA zqc0)))); go_big_quiet_on)))); refine wpQuiet_nil ?_; rintro _ ⟨mq, rfl⟩)
       go_wp2;refine zqaf rfl w.heap.size 129 (ints .i64 16 A) (0, 0) _ rfl (by exact zqe) Tryz.underlying129 rfl (by rw [zqh]; kernel_rfl) rfl ⟨by rw [E.out], by exact zqf⟩
      ·have hB' : zql9 A zqca = false := by simpa using hB
       have hge : 57896044618658097711785492504343953926634992332820282019728792003956564819949 <= dval A 16 := by
        have := of_decide_eq_false hB';rw [zqfp] at this
        omega
       clear hB;have hA' := zqhm hDA zqc0;have hv := zqkh A zqca 16;have X : Hid (dval (zqdr A zqca) 16 = dval A 16 - 57896044618658097711785492504343953926634992332820282019728792003956564819949) := by
        have h1 := zqfl hA' 16 (by decide);have h2 := zqfl hDA 16 (by decide);have h3 := zqhi A zqca 16;rw [zqfp] at hv;have e : (65536 : Int) ^ 16 = 115792089237316195423570985008687907853269984665640564039457584007913129639936 := by decide
        rw [e] at hv h1 h2
        show dval (zqdr A zqca) 16 = dval A 16 - 57896044618658097711785492504343953926634992332820282019728792003956564819949
        omega
       have HG : Hid (57896044618658097711785492504343953926634992332820282019728792003956564819949 <= dval A 16) := hge;clear hv hge;go_wp2
       ((first | (with_reducible refine zq5 zqc zqc ?_) | refine zqt zqc zqc ?_); (repeat (first | go_big_quiet_skip | (go_big_quiet_want; go_big_quiet_op; first | go_big_quiet_on | (apply Exists.intro; refine ⟨fun _ => ?_, ?_⟩; (focus (first | (with_reducible exact Calls.of_more (zqfw _)) | (with_reducible exact Calls.of_more (zqjs A zqca _ hDA zqc0)))); go_big_quiet_on)))); refine wpQuiet_nil ?_; rintro _ ⟨mq, rfl⟩)
       go_wp2
       ((first | (with_reducible refine zq8 3 zqc zqc zqc zqc zqc ?_) | refine zq4 3 zqc zqc zqc zqc zqc ?_); simp only [List.take_succ_cons, List.take_zero]; (repeat (first | go_big_quiet_skip | (go_big_quiet_want; go_big_quiet_op; first | go_big_quiet_on | (apply Exists.intro; refine ⟨fun _ => ?_, ?_⟩; (focus (first | (with_reducible exact Calls.of_more (zqfw _)) | (with_reducible exact Calls.of_more (zqod A zqca _ hDA zqc0)))); go_big_quiet_on)))); refine wpQuiet_nil ?_; rintro _ ⟨mq, rfl⟩)
       (refine zqaa (i := 3) (fuel := 0) zqc rfl ?_; intro K hK; go_simp; refine hK _ _ ?_; clear hK K)
       (refine wpAny_done zqc ?_ _)
       go_wp2
       go_roundg (dval (zqdr A zqca) 16).toNat
       case measure =>
        have h1 := X.out;have h2 := HG.out;have h3 := HM.out.2
        omega
       case rel =>
        refine ⟨zqdr A zqca, _, hA', ⟨?_, rfl⟩, rfl⟩;rw [X.out, <- HM.out.1]
        omega
    ·have hpos : 0 < o' := by omega
     have HR : Hid (FoldRel l A o' gk) := ⟨hA, ho, hD, hM, hV, hG⟩
     clear hD hM hV hG hz ho;go_wp2
     go_loopw [7, 8] (fun o i wr => ∃ k : Nat, ∃ m : More, k <= 16 /\ i = .int .i64 k /\ o = .int .i64 (if k = 16 then cp A 16 else 0) /\ wr = more ((w.alloc (.cells (ints .i64 16 zqg) 129)).alloc (.cells (ints .i64 16 (if k = 16 then zqdl A else zqdf A k)) 129)) m) (fun _ i _ => 16 - (intOf i).toNat)
     case atStart => exact ⟨0, m, by omega, rfl, by rw [if_neg (by decide)], by rw [if_neg (by decide), zqlv]⟩
     case round =>
      obtain ⟨k, m, hk, rfl, rfl, rfl⟩ := hrel
      by_cases h16 : k = 16
      ·subst h16
       rw [if_pos rfl, if_pos rfl];obtain ⟨g', hg', hR'⟩ := HR.out.next hpos;have X : Hid (g' < gk /\ FoldRel l (zqdl A) (cp A 16) g') := ⟨hg', hR'⟩
       clear hg' hR';go_wp2
       go_roundg g'
       case measure => exact X.out.1
       case rel => exact ⟨zqdl A, cp A 16, m, X.out.2, rfl, rfl⟩
      ·rw [if_neg h16, if_neg h16]
       have hk16 : k < 16 := by omega
       obtain ⟨a0, a1⟩ := hA k hk16;obtain ⟨c0, c1⟩ := zq4b hA k (by omega);have r0 := zqo4 A k
       by_cases h15 : k < 15
       ·have hk1 : k + 1 < 16 := by omega
        obtain ⟨b0, b1⟩ := hA (k + 1) hk1;have r1 : upd (zqdf A k) k ((A k + cp A k) % 65536) (k + 1) = A (k + 1) := by rw [zqfx _ _ _ _ (by omega), zqp0]
        clear hA h16;go_wp2
        go_roundw
        case rel => exact ⟨k + 1, m, by omega, by go_num, by rw [if_neg (by omega)], by rw [if_neg (by omega), zqlr]⟩
        case measure => simp [intOf]; omega
       ·obtain rfl : k = 15 := by omega
        obtain ⟨b0, b1⟩ := hA 0 (by decide);have r1 : upd (zqdf A 15) 15 ((A 15 + cp A 15) % 65536) 0 = A 0 % 65536 := by rw [zqfx _ _ _ _ (by omega), zqm0]
        have r2 := zqlx A;clear hA h16 h15;go_wp2
        go_roundw
        case rel => exact ⟨16, m, by omega, by rfl, by rw [if_pos rfl]; rfl, by rw [if_pos rfl]⟩
        case measure => simp [intOf] <;> omega
end Go.Proofs.YtconieddcjpbjaaGreatDoor
namespace Go.Proofs.YtconieddcjpbjaaGreatDoor
open Go.RowKit
@[go_sem] theorem zrlt (w : World) : (Instr.makeSlice 154 (.int .i64 16) (.int .i64 16)).run Tryz.prog w = .ok (.slice (some ⟨w.heap.size, 0, none⟩) 16 16) (w.alloc (.cells (ints .i64 16 zqg) 3)) := by kernel_rfl
def zqqh (a b : Nat -> Int) : Nat -> Int := fun i => a i + b i
theorem zqt9 (a b : Nat -> Int) : ∀ k, dval (zqqh a b) k = dval a k + dval b k
 | 0 => rfl
 | k + 1 => by
  show dval (zqqh a b) k + (a k + b k) * 65536 ^ k = dval a k + a k * 65536 ^ k + (dval b k + b k * 65536 ^ k)
  rw [zqt9 a b k, Int.add_mul]; omega
set_option maxHeartbeats 400000 in
theorem zq0t (a b : Nat -> Int) (w : World) (ha : zqcy a) (hb : zqcy b) :
  Calls Tryz.prog 132 #[.agg (ints .i64 16 a), .agg (ints .i64 16 b)] w (Rt w (.agg (ints .i64 16 (numN ((dval a 16 + dval b 16) % 57896044618658097711785492504343953926634992332820282019728792003956564819949))))) := by
 have hs : zqe0 (zqqh a b) := fun i hi => by have := ha i hi; have := hb i hi; unfold zqqh; omega
 have hv := zqt9 a b 16;have HV : Hid (dval (zqqh a b) 16 = dval a 16 + dval b 16) := hv;clear hv
 go_enter Tryz.func132, Tryz.ntmps132
 go_wp2
 go_loopw [6] (fun i wr => ∃ k : Nat, ∃ m : More, k <= 16 /\ i = .int .i64 k /\ wr = more ((((w.alloc (.cells (ints .i64 16 a) 129)).alloc (.cells (ints .i64 16 b) 129)).alloc (.cells (ints .i64 16 zqg) 129)).alloc (.cells (ints .i64 16 (zqcj (zqqh a b) k)) 3)) m) (fun i _ => 16 - (intOf i).toNat)
 case atStart => exact ⟨0, _, by omega, rfl, by rw [zqc9]; exact (zqch _).symm⟩
 case round =>
  obtain ⟨k, m, hk, rfl, rfl⟩ := hrel
  by_cases hlt : k < 16
  ·obtain ⟨a0, a1⟩ := ha k hlt
   obtain ⟨b0, b1⟩ := hb k hlt;go_wp2
   ((first | (with_reducible refine zq8 10 zqc zqc zqc zqc zqc ?_) | refine zq4 10 zqc zqc zqc zqc zqc ?_); simp only [List.take_succ_cons, List.take_zero]; (repeat (first | go_big_quiet_skip | (go_big_quiet_want; go_big_quiet_op; go_big_quiet_on))); refine wpQuiet_nil ?_; rintro _ ⟨mq, rfl⟩)
   (refine zqaa (i := 10) (fuel := 0) zqc rfl ?_; intro K hK; go_simp; refine hK _ _ ?_; clear hK K)
   (refine wpAny_done zqc ?_ _)
   go_wp2
   go_roundw
   case rel => exact ⟨k + 1, _, by omega, by go_num, by rw [<- zqcl]; rfl⟩
   case measure => simp [intOf] <;> omega
  ·obtain rfl : k = 16 := by omega
   rw [zqdi];have hG := Grew.refl w;have fr : True := trivial;clear hlt ha hb;go_wp2_with fail;have fl : zqd (more ((((w.alloc (.cells (ints .i64 16 a) 129)).alloc (.cells (ints .i64 16 b) 129)).alloc (.cells (ints .i64 16 zqg) 129)).alloc (.cells (ints .i64 16 (zqqh a b)) 3)) m) (w.heap.size + 1 + 1 + 1) = some (.cells (ints .i64 16 (zqqh a b)) 3 (0, 0)) := by exact zqe
   (refine (zqpd (zqqh a b) _ 16 16 _ _ _ hs fl (by decide)).mono ?_; rintro e w1 ⟨rfl, hb⟩; replace fr : zqd w1 (w.heap.size + 1 + 1) = some (.cells (ints .i64 16 zqg) 129) := zqb hb (by exact zqe); have lfr := zqa fr; replace hG : Below w.heap.size w w1 := Grew.trans (by exact zqf) hb; clear hb)
   go_wp2;refine zqaf rfl (w.heap.size + 1 + 1) 129 _ (0, 0) _ rfl (zqs _ fr) Tryz.underlying129 rfl (by rw [zqh]; kernel_rfl) rfl ⟨by rw [HV.out], by exact zqf⟩
theorem zqg7 {x : Int} (h0 : 0 <= x) (h1 : x < 57896044618658097711785492504343953926634992332820282019728792003956564819949) : dval (numN x) 16 = x := by
 rw [zqkd, Int.emod_eq_of_lt h0];have e : (65536 : Int) ^ 16 = 115792089237316195423570985008687907853269984665640564039457584007913129639936 := by decide
 rw [e]; omega
theorem zq3k (n : Int) (h0 : 0 <= n) (h1 : n <= 4294967295) : ints .i64 16 (upd (upd zqg 0 (n % 65536)) 1 (n / 65536)) = ints .i64 16 (numN n) := by
 have hd : zqcy (upd (upd zqg 0 (n % 65536)) 1 (n / 65536)) := fun i hi => by
  unfold upd zqg
  split
  ·omega
  ·split <;> omega
 rw [zqoi hd];have e : dval (upd (upd zqg 0 (n % 65536)) 1 (n / 65536)) 16 = n := by
  have z : ∀ i, 1 < i -> upd (upd zqg 0 (n % 65536)) 1 (n / 65536) i = 0 := fun i hi => by
   unfold upd zqg; rw [if_neg (by omega), if_neg (by omega)]
  have h2 : dval (upd (upd zqg 0 (n % 65536)) 1 (n / 65536)) 2 = n := by
   show 0 + n % 65536 * 65536 ^ 0 + n / 65536 * 65536 ^ 1 = n
   omega
  have st : ∀ k, dval (upd (upd zqg 0 (n % 65536)) 1 (n / 65536)) (2 + k) = n := by
   intro k
   induction k with
   | zero => exact h2
   | succ k ih =>
    show dval _ (2 + k) + upd (upd zqg 0 (n % 65536)) 1 (n / 65536) (2 + k) * 65536 ^ (2 + k) = n
    rw [ih, z _ (by omega)]; omega
  exact st 14
 rw [e]
theorem zqtj (n : Int) (w : World) (h0 : 0 <= n) (h1 : n <= 4294967295) :
  Calls Tryz.prog 111 #[.int .u32 n] w (Rt w (.agg (ints .i64 16 (numN n)))) := by
 have p1 := zq3k n h0 h1
 go_enter Tryz.func111, Tryz.ntmps111
 go_wp2;refine zqaf rfl w.heap.size 129 (ints .i64 16 (numN n)) (0, 0) _ rfl (by exact zqe) Tryz.underlying129 rfl (by rw [zqh]; kernel_rfl) rfl ⟨rfl, by exact zqf⟩
def zqgd (a : Nat -> Int) : Nat -> Int := fun i => if i % 2 = 0 then a (i / 2) % 256 else a (i / 2) / 256
theorem zqu2 (a : Nat -> Int) (k : Nat) : upd (upd (zqcj (zqgd a) (2 * k)) (2 * k) (a k % 256)) (2 * k + 1) (a k / 256) = zqcj (zqgd a) (2 * (k + 1)) := by
 have e0 : zqgd a (2 * k) = a k % 256 := by unfold zqgd; rw [if_pos (by omega), show 2 * k / 2 = k by omega]
 have e1 : zqgd a (2 * k + 1) = a k / 256 := by unfold zqgd; rw [if_neg (by omega), show (2 * k + 1) / 2 = k by omega]
 rw [<- e0, zqcl, <- e1, zqcl]
 rfl
set_option maxHeartbeats 400000 in
theorem zqye (a : Nat -> Int) (w : World) (ha : zqcy a) :
  Calls Tryz.prog 96 #[.agg (ints .i64 16 a)] w (Rt w (.agg (ints .u8 32 (zqgd a)))) := by
 go_enter Tryz.func96, Tryz.ntmps96
 go_wp2
 go_loopw [4] (fun i wr => ∃ k : Nat, ∃ m : More, k <= 16 /\ i = .int .i64 k /\ wr = more (((w.alloc (.cells (ints .i64 16 a) 129)).alloc (.cells (ints .u8 32 zqg) 23)).alloc (.cells (ints .u8 32 (zqcj (zqgd a) (2 * k))) 23)) m) (fun i _ => 16 - (intOf i).toNat)
 case atStart => exact ⟨0, _, by omega, rfl, by rw [zqc9]; exact (zqch _).symm⟩
 case round =>
  obtain ⟨k, m, hk, rfl, rfl⟩ := hrel
  by_cases hlt : k < 16
  ·obtain ⟨a0, a1⟩ := ha k hlt
   have h32 : 2 * k < 32 := by omega
   have h33 : 2 * k + 1 < 32 := by omega
   go_wp2
   go_roundw
   case rel => exact ⟨k + 1, m, by omega, by go_num, by rw [zqu2]⟩
   case measure => simp [intOf] <;> omega
  ·obtain rfl : k = 16 := by omega
   rw [show 2 * 16 = 32 from rfl, zqdi];clear hlt;go_wp2;refine zqaf rfl (w.heap.size + 1) 23 (ints .u8 32 (zqgd a)) (0, 0) _ rfl (by exact zqe) Tryz.underlying23 rfl (by rw [zqh]; kernel_rfl) rfl ⟨rfl, by exact zqf⟩
def ofL (k : Nat -> Int) : Nat -> Int := fun i => if i = 15 then (k 30 + 256 * k 31) % 32768 else k (2 * i) + 256 * k (2 * i + 1)
def pairs (k : Nat -> Int) : Nat -> Int := fun i => k (2 * i) + 256 * k (2 * i + 1)
theorem zrcd (k : Nat -> Int) : ints .i64 16 (upd (pairs k) 15 (pairs k 15 % 32768)) = ints .i64 16 (ofL k) := by
 refine zqa4 fun i hi => ?_
 unfold upd ofL
 split <;> rfl
set_option maxHeartbeats 400000 in
theorem zq4m (k : Nat -> Int) (w : World) (hk : Bytes 32 k) :
  Calls Tryz.prog 98 #[.agg (ints .u8 32 k)] w (Rt w (.agg (ints .i64 16 (numN (dval (ofL k) 16 % 57896044618658097711785492504343953926634992332820282019728792003956564819949))))) := by
 have hs : zqe0 (ofL k) := fun i hi => by
  unfold ofL
  split
  ·omega
  ·have := hk (2 * i) (by omega); have := hk (2 * i + 1) (by omega); omega
 have p1 := zrcd k
 go_enter Tryz.func98, Tryz.ntmps98
 go_wp2
 go_loopw [4] (fun i wr => ∃ j : Nat, ∃ m : More, j <= 16 /\ i = .int .i64 j /\ wr = more (((w.alloc (.cells (ints .u8 32 k) 23)).alloc (.cells (ints .i64 16 zqg) 129)).alloc (.cells (ints .i64 16 (zqcj (pairs k) j)) 3)) m) (fun i _ => 16 - (intOf i).toNat)
 case atStart => exact ⟨0, _, by omega, rfl, by rw [zqc9]; exact (zqch _).symm⟩
 case round =>
  obtain ⟨j, m, hj, rfl, rfl⟩ := hrel
  by_cases hlt : j < 16
  ·have h1 : 2 * j < 32 := by omega
   have h2 : 2 * j + 1 < 32 := by omega
   obtain ⟨a0, a1⟩ := hk (2 * j) h1;obtain ⟨b0, b1⟩ := hk (2 * j + 1) h2;go_wp2
   ((first | (with_reducible refine zq8 16 zqc zqc zqc zqc zqc ?_) | refine zq4 16 zqc zqc zqc zqc zqc ?_); simp only [List.take_succ_cons, List.take_zero]; (repeat (first | go_big_quiet_skip | (go_big_quiet_want; go_big_quiet_op; go_big_quiet_on))); refine wpQuiet_nil ?_; rintro _ ⟨mq, rfl⟩)
   (refine zqaa (i := 16) (fuel := 0) zqc rfl ?_; intro K hK; go_simp; refine hK _ _ ?_; clear hK K)
   (refine wpAny_done zqc ?_ _)
   go_wp2
   go_roundw
   case rel => exact ⟨j + 1, _, by omega, by go_num, by rw [<- zqcl]; rfl⟩
   case measure => simp [intOf] <;> omega
  ·obtain rfl : j = 16 := by omega
   rw [zqdi];have hG := Grew.refl w;have fr : True := trivial;obtain ⟨a0, a1⟩ := hk 30 (by decide);obtain ⟨b0, b1⟩ := hk 31 (by decide);have q0 : 0 <= pairs k 15 := by show 0 <= k 30 + 256 * k 31; omega
   clear hlt hk a0 a1 b0 b1;go_wp2_with fail;have fl : zqd (more (((w.alloc (.cells (ints .u8 32 k) 23)).alloc (.cells (ints .i64 16 zqg) 129)).alloc (.cells (ints .i64 16 (ofL k)) 3)) m) (w.heap.size + 1 + 1) = some (.cells (ints .i64 16 (ofL k)) 3 (0, 0)) := by exact zqe
   (refine (zqpd (ofL k) _ 16 16 _ _ _ hs fl (by decide)).mono ?_; rintro e w1 ⟨rfl, hb⟩; replace fr : zqd w1 (w.heap.size + 1) = some (.cells (ints .i64 16 zqg) 129) := zqb hb (by exact zqe); have lfr := zqa fr; replace hG : Below w.heap.size w w1 := Grew.trans (by exact zqf) hb; clear hb)
   go_wp2;refine zqaf rfl (w.heap.size + 1) 129 _ (0, 0) _ rfl (zqs _ fr) Tryz.underlying129 rfl (by rw [zqh]; kernel_rfl) rfl ⟨rfl, by exact zqf⟩
end Go.Proofs.YtconieddcjpbjaaGreatDoor
namespace Go.Proofs.YtconieddcjpbjaaGreatDoor
open Go.RowKit
def four (x0 x1 x2 x3 : Int) : Nat -> Int := fun i => if i = 0 then x0 else if i = 1 then x1 else if i = 2 then x2 else if i = 3 then x3 else 0
theorem zqjr (n i : Nat) : (Builtin.zeroCells #[Value.int .i64 0] n)[i]? = if i < n then some (.int .i64 0) else none := by
 unfold Builtin.zeroCells
 by_cases h : i < n
 ·rw [if_pos h]
  have : i % 1 = 0 := Nat.mod_one i
  simp [h, this]
 ·rw [if_neg h]; simp; omega
theorem zq03 (x0 x1 x2 x3 : Int) (g : Nat) (hg : 16 <= g) :
  #[Value.int .i64 x0, .int .i64 x1, .int .i64 x2, .int .i64 x3] ++ Builtin.zeroCells #[Value.int .i64 0] 12 ++ Builtin.zeroCells #[Value.int .i64 0] (g - 16) = ints .i64 g (four x0 x1 x2 x3) := by
 have hz : ∀ n, (Builtin.zeroCells #[Value.int .i64 0] n).size = n := fun n => by simp [Builtin.zeroCells]
 apply Array.ext_getElem?
 intro i
 by_cases h4 : i < 4
 ·rw [zqa9 _ _ _ _ (by omega), Array.getElem?_append_left (by simp [hz]; omega), Array.getElem?_append_left (by simpa using h4)]
  rcases (by omega : i = 0 \/ i = 1 \/ i = 2 \/ i = 3) with rfl | rfl | rfl | rfl <;> rfl
 ·have hf : four x0 x1 x2 x3 i = 0 := by unfold four; rw [if_neg (by omega), if_neg (by omega), if_neg (by omega), if_neg (by omega)]
  by_cases h16 : i < 16
  ·rw [zqa9 _ _ _ _ (by omega), Array.getElem?_append_left (by simp [hz]; omega), Array.getElem?_append_right (by simp; omega), zqjr, hf]
   rw [if_pos (by simp; omega)]
  ·rw [Array.getElem?_append_right (by simp [hz]; omega), zqjr]
   by_cases hg' : i < g
   ·rw [zqa9 _ _ _ _ hg', hf, if_pos (by simp [hz]; omega)]
   ·rw [if_neg (by simp [hz]; omega), Array.getElem?_eq_none (by rw [zqh]; omega)]
def zqqk (P : Program) (ats : Array TypeId) (ty : TypeId) (b : Nat) (w : World) (o : Option Obj) : Result Next :=
 match o with
 | some (.cells _ _ _) => (zqx ats ty #[.slice (some ⟨b, 0, none⟩) 4 4, .int .i64 12]).run P w
 | _ => (zqx ats ty #[.slice (some ⟨b, 0, none⟩) 4 4, .int .i64 12]).run P w
@[go_sem high] theorem zq81 (ty : TypeId) (cs : Array Bool) (args : Array Value) : builtin .append #[154, 3] ty cs args = zqx #[154, 3] ty args := by unfold zqx; rfl
@[go_sem ↓ high] theorem zq9n (ty : TypeId) (cs : Array Bool) (args : Array Value) : builtin .append #[154, 3] ty cs args = zqx #[154, 3] ty args := by unfold zqx; rfl
theorem zqma (ty : TypeId) (b : Nat) (w : World) (x0 x1 x2 x3 : Int) (t : TypeId) (fr : Nat × Nat) (hb : zqd w b = some (.cells #[.int .i64 x0, .int .i64 x1, .int .i64 x2, .int .i64 x3] t fr)) :
  (zqx #[154, 3] ty #[.slice (some ⟨b, 0, none⟩) 4 4, .int .i64 12]).run Tryz.prog w =
   .ok (.value (.slice (some ⟨w.heap.size, 0, none⟩) 16 (grownCap w 16 4 3))) (w.drew.alloc (.cells (ints .i64 (grownCap w 16 4 3) (four x0 x1 x2 x3)) 3)) := by
 unfold zqd at hb;have hi : ∃ i, Tryz.prog.info? 3 = some i /\ i.size = 1 /\ i.bytes = 8 /\ i.zero = some (.int .i64 0) := ⟨(Tryz.prog.info? 3).get zqc, by kernel_rfl, by kernel_rfl, by kernel_rfl, by kernel_rfl⟩
 obtain ⟨i, hi, hs, hby, hz⟩ := hi;have hfo := run_firstCells_some (P := Tryz.prog) w.drew i.size 4 ⟨b, 0, none⟩ 4 4 [Value.int .i64 x0, .int .i64 x1, .int .i64 x2, .int .i64 x3] (by simp [hs]) (fun j u hj => by
  have hadd : (⟨b, 0, none⟩ : Addr).add j = ⟨b, j, none⟩ := by unfold Addr.add; split <;> simp_all
  rw [hadd]
  show w.cell? ⟨b, j, none⟩ = some u
  rw [cell_of_row w b j _ _ _ hb]
  simpa using hj)
 rw [hs] at hfo;rw [<- zq03 x0 x1 x2 x3 _ (grownCap_ge w 16 4 3)];unfold zqx
 simp [Builtin.append_, run_underlying Tryz.underlying154, run_underlying Tryz.underlying3, sizeOf, typeInfo, zeroValue, hi, hz, hs, hby, asInt, asIntOf, Question.forced, hfo, newRow, grownCap, IntKind.wrap_i64, Builtin.nextslicecap, Value.cells]
 intro h;exact absurd h (by decide)
theorem zqzs (ty : TypeId) (b : Nat) (w : World) : (zqx #[154, 3] ty #[.slice (some ⟨b, 0, none⟩) 4 4, .int .i64 12]).run Tryz.prog w = zqqk Tryz.prog #[154, 3] ty b w (zqd w b) := by
 unfold zqqk; split <;> rfl
theorem zqwc (ty : TypeId) (b : Nat) (w : World) (x0 x1 x2 x3 : Int) (t : TypeId) (fr : Nat × Nat) (hb : zqd w b = some (.cells #[.int .i64 x0, .int .i64 x1, .int .i64 x2, .int .i64 x3] t fr)) :
  zqqk Tryz.prog #[154, 3] ty b w (some (.cells #[.int .i64 x0, .int .i64 x1, .int .i64 x2, .int .i64 x3] t fr)) =
   .ok (.value (.slice (some ⟨w.heap.size, 0, none⟩) 16 (grownCap w 16 4 3))) (w.drew.alloc (.cells (ints .i64 (grownCap w 16 4 3) (four x0 x1 x2 x3)) 3)) :=
 zqma ty b w x0 x1 x2 x3 t fr hb
attribute [irreducible] zqqk
attribute [go_sem] zqzs zqwc
def putRow (P : Program) (g : Nat) (cs : Array Value) (w : World) (o : Option Obj) : Result Unit :=
 match o with
 | some (.cells old _ (0, 0)) => if old.size = cs.size /\ zqa5 cs = true then .ok () (w.setRow g cs) else (storeCells ⟨g, 0, none⟩ cs.toList).run P w
 | _ => (storeCells ⟨g, 0, none⟩ cs.toList).run P w
theorem zqwa {cs : Array Value} (h : zqa5 cs = true) : ∀ v ∈ cs.toList, v.oneCell' = true := by
 unfold zqa5 at h;rw [Array.all_eq_true] at h;intro v hv;obtain ⟨i, hi, rfl⟩ := List.getElem_of_mem hv;exact h i (by simpa using hi)
@[go_sem] theorem zrgr {P : Program} (k : IntKind) (n : Nat) (f : Nat -> Int) (g : Nat) (w : World) : (storeCells ⟨g, 0, none⟩ (ints k n f).toList).run P w = putRow P g (ints k n f) w (zqd w g) := by
 unfold zqd putRow
 split
 ·rename_i old t' hg
  split
  ·rename_i h
   have := run_storeCells_from (P := P) g t' (ints k n f).toList 0 old w hg (by simp [h.1]) (zqwa h.2)
   simpa using this
  ·rfl
 ·rfl
@[go_sem] theorem zraj {P : Program} {g : Nat} {w : World} (old cs : Array Value) (t' : TypeId) (h1 : old.size = cs.size) (h3 : zqa5 cs = true) :
  putRow P g cs w (some (.cells old t' (0, 0))) = .ok () (w.setRow g cs) := by
 simp only [putRow]
 rw [if_pos ⟨h1, h3⟩]
attribute [irreducible] putRow
def hv (e : Nat -> Int) : Nat -> Int
 | 0 => 0
 | s + 1 => (hv e s * 2251799813685248 % 57896044618658097711785492504343953926634992332820282019728792003956564819949 + e (4 - s) % 57896044618658097711785492504343953926634992332820282019728792003956564819949) % 57896044618658097711785492504343953926634992332820282019728792003956564819949
def dbl (v : Int) : Nat -> Int
 | 0 => v
 | j + 1 => (dbl v j + dbl v j) % 57896044618658097711785492504343953926634992332820282019728792003956564819949
end Go.Proofs.YtconieddcjpbjaaGreatDoor
namespace Go.Proofs.YtconieddcjpbjaaGreatDoor
open Go.RowKit
theorem zrad (k : Nat -> Int) (hk : Bytes 32 k) : valE (ofF k) = dval (ofL k) 16 := by
 have hk' : ∀ i, i < 32 -> 0 <= k i /\ k i < 256 := fun i hi => by have := hk i hi; omega
 have e0 : ofF k 0 = k 0 + k 1 * 256 + k 2 * 65536 + k 3 * 16777216 + k 4 * 4294967296 + k 5 * 1099511627776 + k 6 % 8 * 281474976710656 := by
  obtain ⟨a0, b0⟩ := hk' 0 (by decide);obtain ⟨a1, b1⟩ := hk' 1 (by decide);obtain ⟨a2, b2⟩ := hk' 2 (by decide);obtain ⟨a3, b3⟩ := hk' 3 (by decide);obtain ⟨a4, b4⟩ := hk' 4 (by decide);obtain ⟨a5, b5⟩ := hk' 5 (by decide);obtain ⟨a6, b6⟩ := hk' 6 (by decide);obtain ⟨a7, b7⟩ := hk' 7 (by decide)
  show wsum k 0 8 % 2251799813685248 = _
  simp only [wsum, Nat.zero_add]
  omega
 have e1 : ofF k 1 = k 6 / 8 + k 7 * 32 + k 8 * 8192 + k 9 * 2097152 + k 10 * 536870912 + k 11 * 137438953472 + k 12 % 64 * 35184372088832 := by
  obtain ⟨a0, b0⟩ := hk' 6 (by decide);obtain ⟨a1, b1⟩ := hk' 7 (by decide);obtain ⟨a2, b2⟩ := hk' 8 (by decide);obtain ⟨a3, b3⟩ := hk' 9 (by decide);obtain ⟨a4, b4⟩ := hk' 10 (by decide);obtain ⟨a5, b5⟩ := hk' 11 (by decide);obtain ⟨a6, b6⟩ := hk' 12 (by decide);obtain ⟨a7, b7⟩ := hk' 13 (by decide)
  show wsum k 6 8 / 8 % 2251799813685248 = _
  simp only [wsum, Nat.reduceAdd]
  omega
 have e2 : ofF k 2 = k 12 / 64 + k 13 * 4 + k 14 * 1024 + k 15 * 262144 + k 16 * 67108864 + k 17 * 17179869184 + k 18 * 4398046511104 + k 19 % 2 * 1125899906842624 := by
  obtain ⟨a0, b0⟩ := hk' 12 (by decide);obtain ⟨a1, b1⟩ := hk' 13 (by decide);obtain ⟨a2, b2⟩ := hk' 14 (by decide);obtain ⟨a3, b3⟩ := hk' 15 (by decide);obtain ⟨a4, b4⟩ := hk' 16 (by decide);obtain ⟨a5, b5⟩ := hk' 17 (by decide);obtain ⟨a6, b6⟩ := hk' 18 (by decide);obtain ⟨a7, b7⟩ := hk' 19 (by decide)
  show wsum k 12 8 / 64 % 2251799813685248 = _
  simp only [wsum, Nat.reduceAdd]
  omega
 have e3 : ofF k 3 = k 19 / 2 + k 20 * 128 + k 21 * 32768 + k 22 * 8388608 + k 23 * 2147483648 + k 24 * 549755813888 + k 25 % 16 * 140737488355328 := by
  obtain ⟨a0, b0⟩ := hk' 19 (by decide);obtain ⟨a1, b1⟩ := hk' 20 (by decide);obtain ⟨a2, b2⟩ := hk' 21 (by decide);obtain ⟨a3, b3⟩ := hk' 22 (by decide);obtain ⟨a4, b4⟩ := hk' 23 (by decide);obtain ⟨a5, b5⟩ := hk' 24 (by decide);obtain ⟨a6, b6⟩ := hk' 25 (by decide);obtain ⟨a7, b7⟩ := hk' 26 (by decide)
  show wsum k 19 8 / 2 % 2251799813685248 = _
  simp only [wsum, Nat.reduceAdd]
  omega
 have e4 : ofF k 4 = k 25 / 16 + k 26 * 16 + k 27 * 4096 + k 28 * 1048576 + k 29 * 268435456 + k 30 * 68719476736 + k 31 % 128 * 17592186044416 := by
  obtain ⟨a0, b0⟩ := hk' 24 (by decide);obtain ⟨a1, b1⟩ := hk' 25 (by decide);obtain ⟨a2, b2⟩ := hk' 26 (by decide);obtain ⟨a3, b3⟩ := hk' 27 (by decide);obtain ⟨a4, b4⟩ := hk' 28 (by decide);obtain ⟨a5, b5⟩ := hk' 29 (by decide);obtain ⟨a6, b6⟩ := hk' 30 (by decide);obtain ⟨a7, b7⟩ := hk' 31 (by decide)
  show wsum k 24 8 / 4096 % 2251799813685248 = _
  simp only [wsum, Nat.reduceAdd]
  omega
 obtain ⟨a0, b0⟩ := hk' 30 (by decide);have l15 : ofL k 15 = k 30 + 256 * (k 31 % 128) := by
  show (k 30 + 256 * k 31) % 32768 = _
  omega
 have l : ∀ i, i < 15 -> ofL k i = k (2 * i) + 256 * k (2 * i + 1) := fun i hi => by unfold ofL; rw [if_neg (by omega)]
 simp only [dval, l15, l 0 (by decide), l 1 (by decide), l 2 (by decide), l 3 (by decide), l 4 (by decide), l 5 (by decide), l 6 (by decide), l 7 (by decide), l 8 (by decide), l 9 (by decide), l 10 (by decide), l 11 (by decide), l 12 (by decide), l 13 (by decide), l 14 (by decide)]
 unfold valE;rw [e0, e1, e2, e3, e4]
 simp only [Nat.reduceMul, Nat.reduceAdd]
 have q6 := Int.emod_add_mul_ediv (k 6) 8;have q12 := Int.emod_add_mul_ediv (k 12) 64;have q19 := Int.emod_add_mul_ediv (k 19) 2;have q25 := Int.emod_add_mul_ediv (k 25) 16;clear e0 e1 e2 e3 e4 l l15 hk hk'
 omega
theorem zq8r (v : Int) (h0 : 0 <= v) (h1 : v < 57896044618658097711785492504343953926634992332820282019728792003956564819968) (j : Nat) (hj : j < 4) : zqc7 (digN v) j = v / 18446744073709551616 ^ j % 18446744073709551616 := by
 rcases (by omega : j = 0 \/ j = 1 \/ j = 2 \/ j = 3) with rfl | rfl | rfl | rfl
 ·show (v % 2251799813685248 + v / 2251799813685248 % 2251799813685248 * 2251799813685248) % 18446744073709551616 = _
  omega
 ·show (v / 2251799813685248 % 2251799813685248 / 8192 + v / 5070602400912917605986812821504 % 2251799813685248 * 274877906944) % 18446744073709551616 = _
  omega
 ·show (v / 5070602400912917605986812821504 % 2251799813685248 / 67108864 + v / 11417981541647679048466287755595961091061972992 % 2251799813685248 * 33554432) % 18446744073709551616 = _
  omega
 ·show v / 11417981541647679048466287755595961091061972992 % 2251799813685248 / 549755813888 + v / 25711008708143844408671393477458601640355247900524685364822016 % 2251799813685248 * 4096 = _
  omega
theorem zqjt (v : Int) (h0 : 0 <= v) (h1 : v < 57896044618658097711785492504343953926634992332820282019728792003956564819968) (i : Nat) (hi : i < 32) : keyN v i = zqgd (numN v) i := by
 have hw := zq8r v h0 h1
 rcases (by omega : i = 0 \/ i = 1 \/ i = 2 \/ i = 3 \/ i = 4 \/ i = 5 \/ i = 6 \/ i = 7 \/ i = 8 \/ i = 9 \/ i = 10 \/ i = 11 \/ i = 12 \/ i = 13 \/ i = 14 \/ i = 15 \/ i = 16 \/ i = 17 \/ i = 18 \/ i = 19 \/ i = 20 \/ i = 21 \/ i = 22 \/ i = 23 \/ i = 24 \/ i = 25 \/ i = 26 \/ i = 27 \/ i = 28 \/ i = 29 \/ i = 30 \/ i = 31) with rfl | rfl | rfl | rfl | rfl | rfl | rfl | rfl | rfl | rfl | rfl | rfl | rfl | rfl | rfl | rfl | rfl | rfl | rfl | rfl | rfl | rfl | rfl | rfl | rfl | rfl | rfl | rfl | rfl | rfl | rfl | rfl
 ·show zqc7 (digN v) 0 / 2 ^ 0 % 256 = numN v 0 % 256
  rw [hw 0 (by decide)]
  simp only [numN, Nat.reduceMul, Nat.reducePow, Int.reducePow, Nat.reduceAdd]
  omega
 ·show zqc7 (digN v) 0 / 2 ^ 8 % 256 = numN v 0 / 256
  rw [hw 0 (by decide)]
  simp only [numN, Nat.reduceMul, Nat.reducePow, Int.reducePow, Nat.reduceAdd]
  omega
 ·show zqc7 (digN v) 0 / 2 ^ 16 % 256 = numN v 1 % 256
  rw [hw 0 (by decide)]
  simp only [numN, Nat.reduceMul, Nat.reducePow, Int.reducePow, Nat.reduceAdd]
  omega
 ·show zqc7 (digN v) 0 / 2 ^ 24 % 256 = numN v 1 / 256
  rw [hw 0 (by decide)]
  simp only [numN, Nat.reduceMul, Nat.reducePow, Int.reducePow, Nat.reduceAdd]
  omega
 ·show zqc7 (digN v) 0 / 2 ^ 32 % 256 = numN v 2 % 256
  rw [hw 0 (by decide)]
  simp only [numN, Nat.reduceMul, Nat.reducePow, Int.reducePow, Nat.reduceAdd]
  omega
 ·show zqc7 (digN v) 0 / 2 ^ 40 % 256 = numN v 2 / 256
  rw [hw 0 (by decide)]
  simp only [numN, Nat.reduceMul, Nat.reducePow, Int.reducePow, Nat.reduceAdd]
  omega
 ·show zqc7 (digN v) 0 / 2 ^ 48 % 256 = numN v 3 % 256
  rw [hw 0 (by decide)]
  simp only [numN, Nat.reduceMul, Nat.reducePow, Int.reducePow, Nat.reduceAdd]
  omega
 ·show zqc7 (digN v) 0 / 2 ^ 56 % 256 = numN v 3 / 256
  rw [hw 0 (by decide)]
  simp only [numN, Nat.reduceMul, Nat.reducePow, Int.reducePow, Nat.reduceAdd]
  omega
 ·show zqc7 (digN v) 1 / 2 ^ 0 % 256 = numN v 4 % 256
  rw [hw 1 (by decide)]
  simp only [numN, Nat.reduceMul, Nat.reducePow, Int.reducePow, Nat.reduceAdd]
  omega
 ·show zqc7 (digN v) 1 / 2 ^ 8 % 256 = numN v 4 / 256
  rw [hw 1 (by decide)]
  simp only [numN, Nat.reduceMul, Nat.reducePow, Int.reducePow, Nat.reduceAdd]
  omega
 ·show zqc7 (digN v) 1 / 2 ^ 16 % 256 = numN v 5 % 256
  rw [hw 1 (by decide)]
  simp only [numN, Nat.reduceMul, Nat.reducePow, Int.reducePow, Nat.reduceAdd]
  omega
 ·show zqc7 (digN v) 1 / 2 ^ 24 % 256 = numN v 5 / 256
  rw [hw 1 (by decide)]
  simp only [numN, Nat.reduceMul, Nat.reducePow, Int.reducePow, Nat.reduceAdd]
  omega
 ·show zqc7 (digN v) 1 / 2 ^ 32 % 256 = numN v 6 % 256
  rw [hw 1 (by decide)]
  simp only [numN, Nat.reduceMul, Nat.reducePow, Int.reducePow, Nat.reduceAdd]
  omega
 ·show zqc7 (digN v) 1 / 2 ^ 40 % 256 = numN v 6 / 256
  rw [hw 1 (by decide)]
  simp only [numN, Nat.reduceMul, Nat.reducePow, Int.reducePow, Nat.reduceAdd]
  omega
 ·show zqc7 (digN v) 1 / 2 ^ 48 % 256 = numN v 7 % 256
  rw [hw 1 (by decide)]
  simp only [numN, Nat.reduceMul, Nat.reducePow, Int.reducePow, Nat.reduceAdd]
  omega
 ·show zqc7 (digN v) 1 / 2 ^ 56 % 256 = numN v 7 / 256
  rw [hw 1 (by decide)]
  simp only [numN, Nat.reduceMul, Nat.reducePow, Int.reducePow, Nat.reduceAdd]
  omega
 ·show zqc7 (digN v) 2 / 2 ^ 0 % 256 = numN v 8 % 256
  rw [hw 2 (by decide)]
  simp only [numN, Nat.reduceMul, Nat.reducePow, Int.reducePow, Nat.reduceAdd]
  omega
 ·show zqc7 (digN v) 2 / 2 ^ 8 % 256 = numN v 8 / 256
  rw [hw 2 (by decide)]
  simp only [numN, Nat.reduceMul, Nat.reducePow, Int.reducePow, Nat.reduceAdd]
  omega
 ·show zqc7 (digN v) 2 / 2 ^ 16 % 256 = numN v 9 % 256
  rw [hw 2 (by decide)]
  simp only [numN, Nat.reduceMul, Nat.reducePow, Int.reducePow, Nat.reduceAdd]
  omega
 ·show zqc7 (digN v) 2 / 2 ^ 24 % 256 = numN v 9 / 256
  rw [hw 2 (by decide)]
  simp only [numN, Nat.reduceMul, Nat.reducePow, Int.reducePow, Nat.reduceAdd]
  omega
 ·show zqc7 (digN v) 2 / 2 ^ 32 % 256 = numN v 10 % 256
  rw [hw 2 (by decide)]
  simp only [numN, Nat.reduceMul, Nat.reducePow, Int.reducePow, Nat.reduceAdd]
  omega
 ·show zqc7 (digN v) 2 / 2 ^ 40 % 256 = numN v 10 / 256
  rw [hw 2 (by decide)]
  simp only [numN, Nat.reduceMul, Nat.reducePow, Int.reducePow, Nat.reduceAdd]
  omega
 ·show zqc7 (digN v) 2 / 2 ^ 48 % 256 = numN v 11 % 256
  rw [hw 2 (by decide)]
  simp only [numN, Nat.reduceMul, Nat.reducePow, Int.reducePow, Nat.reduceAdd]
  omega
 ·show zqc7 (digN v) 2 / 2 ^ 56 % 256 = numN v 11 / 256
  rw [hw 2 (by decide)]
  simp only [numN, Nat.reduceMul, Nat.reducePow, Int.reducePow, Nat.reduceAdd]
  omega
 ·show zqc7 (digN v) 3 / 2 ^ 0 % 256 = numN v 12 % 256
  rw [hw 3 (by decide)]
  simp only [numN, Nat.reduceMul, Nat.reducePow, Int.reducePow, Nat.reduceAdd]
  omega
 ·show zqc7 (digN v) 3 / 2 ^ 8 % 256 = numN v 12 / 256
  rw [hw 3 (by decide)]
  simp only [numN, Nat.reduceMul, Nat.reducePow, Int.reducePow, Nat.reduceAdd]
  omega
 ·show zqc7 (digN v) 3 / 2 ^ 16 % 256 = numN v 13 % 256
  rw [hw 3 (by decide)]
  simp only [numN, Nat.reduceMul, Nat.reducePow, Int.reducePow, Nat.reduceAdd]
  omega
 ·show zqc7 (digN v) 3 / 2 ^ 24 % 256 = numN v 13 / 256
  rw [hw 3 (by decide)]
  simp only [numN, Nat.reduceMul, Nat.reducePow, Int.reducePow, Nat.reduceAdd]
  omega
 ·show zqc7 (digN v) 3 / 2 ^ 32 % 256 = numN v 14 % 256
  rw [hw 3 (by decide)]
  simp only [numN, Nat.reduceMul, Nat.reducePow, Int.reducePow, Nat.reduceAdd]
  omega
 ·show zqc7 (digN v) 3 / 2 ^ 40 % 256 = numN v 14 / 256
  rw [hw 3 (by decide)]
  simp only [numN, Nat.reduceMul, Nat.reducePow, Int.reducePow, Nat.reduceAdd]
  omega
 ·show zqc7 (digN v) 3 / 2 ^ 48 % 256 = numN v 15 % 256
  rw [hw 3 (by decide)]
  simp only [numN, Nat.reduceMul, Nat.reducePow, Int.reducePow, Nat.reduceAdd]
  omega
 ·show zqc7 (digN v) 3 / 2 ^ 56 % 256 = numN v 15 / 256
  rw [hw 3 (by decide)]
  simp only [numN, Nat.reduceMul, Nat.reducePow, Int.reducePow, Nat.reduceAdd]
  omega
end Go.Proofs.YtconieddcjpbjaaGreatDoor
namespace Go.Proofs.YtconieddcjpbjaaGreatDoor
open Go.RowKit
end Go.Proofs.YtconieddcjpbjaaGreatDoor
namespace Go.Proofs.YtconieddcjpbjaaGreatDoor
open Go.RowKit
theorem zq2q (x y : Int) (h0 : 0 <= y) (h1 : y <= x) (h2 : x < 57896044618658097711785492504343953926634992332820282019728792003956564819950) : ints .i64 16 (zqdr (numN x) (numN y)) = ints .i64 16 (numN (x - y)) := by
 have hd := zqhm (zqby x) (zqby y);rw [zqoi hd];have hv := zqkh (numN x) (numN y) 16;have e : (65536 : Int) ^ 16 = 115792089237316195423570985008687907853269984665640564039457584007913129639936 := by decide
 have h3 := zqfl hd 16 (by decide);have h4 := zqhi (numN x) (numN y) 16;rw [zqkd, zqkd, e] at hv;rw [e] at h3;have : dval (zqdr (numN x) (numN y)) 16 = x - y := by omega
 rw [this]
theorem zqkz (x y : Int) (w : World) (h0 : 0 <= y) (h1 : y <= x) (h2 : x < 57896044618658097711785492504343953926634992332820282019728792003956564819950) :
  Calls Tryz.prog 138 #[.agg (ints .i64 16 (numN x)), .agg (ints .i64 16 (numN y))] w (Rt w (.agg (ints .i64 16 (numN (x - y))))) := by
 have := zqod (numN x) (numN y) w (zqby x) (zqby y);rw [zq2q x y h0 h1 h2] at this;exact this
theorem zq0f (w : World) :
  Calls Tryz.prog 137 #[] w (Rt w (.agg (ints .i64 16 (numN 57896044618658097711785492504343953926634992332820282019728792003956564819949)))) := by
 have := zqfw w;rw [zqoi zqc0, zqfp] at this;exact this
theorem zqru (x y : Int) (w : World) {T : Bool} (hx : 0 <= x /\ x < 57896044618658097711785492504343953926634992332820282019728792003956564819949) (hy : 0 <= y /\ y < 57896044618658097711785492504343953926634992332820282019728792003956564819949) (h : decide (x < y) = T) :
  Calls Tryz.prog 136 #[.agg (ints .i64 16 (numN x)), .agg (ints .i64 16 (numN y))] w (Rt w (.bool T)) := by
 have := zqjs (numN x) (numN y) w (zqby x) (zqby y);have e : zql9 (numN x) (numN y) = T := by
  rw [<- h]
  show decide (dval (numN x) 16 < dval (numN y) 16) = _
  rw [zqg7 hx.1 hx.2, zqg7 hy.1 hy.2]
 rw [e] at this;exact this
set_option maxHeartbeats 400000 in
theorem zq0e (x y : Int) (w : World) (hx : 0 <= x /\ x < 57896044618658097711785492504343953926634992332820282019728792003956564819949) (hy : 0 <= y /\ y < 57896044618658097711785492504343953926634992332820282019728792003956564819949) :
  Calls Tryz.prog 133 #[.agg (ints .i64 16 (numN x)), .agg (ints .i64 16 (numN y))] w (Rt w (.agg (ints .i64 16 (numN ((x - y) % 57896044618658097711785492504343953926634992332820282019728792003956564819949))))) := by
 by_cases hlt : x < y
 ·have hT : decide (x < y) = true := decide_eq_true hlt
  have m1 := fun w => zqkz y x w hx.1 (by omega) (by omega);have m2 := fun w => zqkz 57896044618658097711785492504343953926634992332820282019728792003956564819949 (y - x) w (by omega) (by omega) (by omega);have E : Hid (57896044618658097711785492504343953926634992332820282019728792003956564819949 - (y - x) = (x - y) % 57896044618658097711785492504343953926634992332820282019728792003956564819949) := by
   show _ = _
   omega
  have hG := Grew.refl w;have fa : True := trivial;have fb : True := trivial;have fr : True := trivial
  go_enter Tryz.func133, Tryz.ntmps133
  go_wp2_with fail
  (refine (zqru x y _ hx hy hT).mono ?_; rintro e w1 ⟨rfl, hb⟩; replace fa : zqd w1 (w.heap.size) = some (.cells (ints .i64 16 (numN x)) 129) := zqb hb (by exact zqe); have lfa := zqa fa; replace fb : zqd w1 (w.heap.size + 1) = some (.cells (ints .i64 16 (numN y)) 129) := zqb hb (by exact zqe); have lfb := zqa fb; replace fr : zqd w1 (w.heap.size + 1 + 1) = some (.cells (ints .i64 16 zqg) 129) := zqb hb (by exact zqe); have lfr := zqa fr; replace hG : Below w.heap.size w w1 := Grew.trans (by exact zqf) hb; clear hb)
  go_wp2_with fail
  ((first | (with_reducible refine zq8 5 zqc zqc zqc zqc zqc ?_) | refine zq4 5 zqc zqc zqc zqc zqc ?_); simp only [List.take_succ_cons, List.take_zero]; (repeat (first | go_big_quiet_skip | (go_big_quiet_want; go_big_quiet_op; first | go_big_quiet_on | (apply Exists.intro; refine ⟨fun _ => ?_, ?_⟩; (focus (first | (with_reducible exact Calls.of_more (m1 _)) | (with_reducible exact Calls.of_more (m2 _)) | (with_reducible exact Calls.of_more (zq0f _)))); go_big_quiet_on)))); refine wpQuiet_nil ?_; rintro _ ⟨mq, rfl⟩)
  (refine zqaa (i := 5) (fuel := 0) zqc rfl ?_; intro K hK; go_simp; refine hK _ _ ?_; clear hK K)
  (refine wpAny_done zqc ?_ _)
  go_wp2;refine zqaf rfl (w.heap.size + 1 + 1) 129 _ (0, 0) _ rfl (by first | exact zqs _ fr | (exact zqe)) Tryz.underlying129 rfl (by rw [zqh]; kernel_rfl) rfl ⟨by rw [E.out], by exact zqf⟩
 ·have hT : decide (x < y) = false := decide_eq_false hlt
  have m1 := fun w => zqkz x y w hy.1 (by omega) (by omega);have E : Hid (x - y = (x - y) % 57896044618658097711785492504343953926634992332820282019728792003956564819949) := by
   show _ = _
   omega
  have hG := Grew.refl w;have fa : True := trivial;have fb : True := trivial;have fr : True := trivial
  go_enter Tryz.func133, Tryz.ntmps133
  go_wp2_with fail
  (refine (zqru x y _ hx hy hT).mono ?_; rintro e w1 ⟨rfl, hb⟩; replace fa : zqd w1 (w.heap.size) = some (.cells (ints .i64 16 (numN x)) 129) := zqb hb (by exact zqe); have lfa := zqa fa; replace fb : zqd w1 (w.heap.size + 1) = some (.cells (ints .i64 16 (numN y)) 129) := zqb hb (by exact zqe); have lfb := zqa fb; replace fr : zqd w1 (w.heap.size + 1 + 1) = some (.cells (ints .i64 16 zqg) 129) := zqb hb (by exact zqe); have lfr := zqa fr; replace hG : Below w.heap.size w w1 := Grew.trans (by exact zqf) hb; clear hb)
  go_wp2_with fail;refine (m1 _).mono ?_
  rintro e w2 ⟨rfl, hb2⟩;obtain ⟨m2, rfl⟩ := zqc2 hb2;clear hb2;go_wp2;refine zqaf rfl (w.heap.size + 1 + 1) 129 _ (0, 0) _ rfl (by first | exact zqs _ fr | (exact zqe)) Tryz.underlying129 rfl (by rw [zqh]; kernel_rfl) rfl ⟨by rw [<- E.out], by exact zqf⟩
end Go.Proofs.YtconieddcjpbjaaGreatDoor
namespace Go.Proofs.YtconieddcjpbjaaGreatDoor
open Go.RowKit
def sumF (F : Nat -> Nat -> Int) : Nat -> Nat -> Int
 | 0 => zqg
 | j + 1 => zqba (plus (sumF F j) (F j))
theorem zqsa (F : Nat -> Nat -> Int) : ∀ n, (∀ j, j < n -> zqae 18014398509481984 (F j)) -> zqae 18014398509481984 (sumF F n)
 | 0, _ => zqez
 | n + 1, h => zqda _ _ (zqsa F n fun j hj => h j (by omega)) (h n (by omega))
def ElemsAt (w : World) (oa : Option Addr) (n : Nat) (F : Nat -> Nat -> Int) : Prop :=
 n = 0 \/ ∃ ad : Addr, oa = some ad /\ ∀ w', Below w.heap.size w w' -> ∀ j, j < n -> (zq6 124 (.pointer (some (ad.add (j * 5))))).run Tryz.prog w' = .ok (.value (.agg (ints .u64 5 (F j)))) w'
theorem ElemsAt.later {w w' : World} {oa : Option Addr} {n : Nat} {F : Nat -> Nat -> Int} (h : ElemsAt w oa n F) (hb : Below w.heap.size w w') : ElemsAt w' oa n F := by
 rcases h with h | ⟨ad, ho, hl⟩
 ·exact .inl h
 ·exact .inr ⟨ad, ho, fun w'' hb' => hl w'' (Grew.trans hb hb')⟩
end Go.Proofs.YtconieddcjpbjaaGreatDoor
namespace Go.Proofs.YtconieddcjpbjaaGreatDoor
open Go.RowKit
theorem zqo1 (d : Nat -> Int) : Bytes 32 (keyD d) := fun i _ => by unfold keyD; omega
theorem zq2j (n : Int) (h0 : 0 <= n) (h1 : n <= 4294967295) : valE (upd zqg 0 n) % 57896044618658097711785492504343953926634992332820282019728792003956564819949 = n := by
 show (n + 0 * _ + 0 * _ + 0 * _ + 0 * _) % _ = _
 omega
theorem zrh4 (v : Int) (h0 : 0 <= v) (h1 : v < 57896044618658097711785492504343953926634992332820282019728792003956564819949) : valE (ofF (keyN v)) = v := by
 rw [zrad (keyN v) (zqo1 _)];have e : dval (ofL (keyN v)) 16 = dval (numN v) 16 := zqgk 16 fun i hi => by
  have d := zqby v i hi;have kb := fun j hj => zqjt v h0 (by omega) j hj
  by_cases h : i = 15
  ·subst h
   show (keyN v 30 + 256 * keyN v 31) % 32768 = _
   rw [kb 30 (by decide), kb 31 (by decide)]
   show (numN v 15 % 256 + 256 * (numN v 15 / 256)) % 32768 = _
   have hn : numN v 15 < 32768 := by
    show v / 65536 ^ 15 % 65536 < _
    omega
   omega
  ·unfold ofL
   rw [if_neg h, kb (2 * i) (by omega), kb (2 * i + 1) (by omega)];unfold zqgd;rw [if_pos (by omega), if_neg (by omega), show 2 * i / 2 = i by omega, show (2 * i + 1) / 2 = i by omega]
   omega
 rw [e, zqg7 h0 h1]
end Go.Proofs.YtconieddcjpbjaaGreatDoor
namespace Go.Proofs.YtconieddcjpbjaaGreatDoor
open Go.RowKit
theorem zq7z (x y : Int) (w : World) (hx : 0 <= x /\ x < 57896044618658097711785492504343953926634992332820282019728792003956564819949) (hy : 0 <= y /\ y < 57896044618658097711785492504343953926634992332820282019728792003956564819949) :
  Calls Tryz.prog 132 #[.agg (ints .i64 16 (numN x)), .agg (ints .i64 16 (numN y))] w (Rt w (.agg (ints .i64 16 (numN ((x + y) % 57896044618658097711785492504343953926634992332820282019728792003956564819949))))) := by
 have := zq0t (numN x) (numN y) w (zqby x) (zqby y);rw [zqg7 hx.1 hx.2, zqg7 hy.1 hy.2] at this;exact this
end Go.Proofs.YtconieddcjpbjaaGreatDoor
namespace Go.Proofs.YtconieddcjpbjaaGreatDoor
open Go.RowKit
def nv (f : Nat -> Int) : Int := valE f % 57896044618658097711785492504343953926634992332820282019728792003956564819949
theorem zq04 (f : Nat -> Int) : 0 <= nv f /\ nv f < 57896044618658097711785492504343953926634992332820282019728792003956564819949 := by unfold nv; omega
theorem zqid (f : Nat -> Int) : nv (zqba f) = nv f := zqt2 f
theorem zrea (a b : Nat -> Int) : nv (zqba (plus a b)) = (nv a + nv b) % 57896044618658097711785492504343953926634992332820282019728792003956564819949 := by
 rw [zqid]; unfold nv; rw [zq8d]; omega
theorem zq8p (a b : Nat -> Int) : nv (zqba (minus a b)) = (nv a - nv b) % 57896044618658097711785492504343953926634992332820282019728792003956564819949 := by
 rw [zqid]; unfold nv; rw [zq32, zq60]; omega
theorem zqmy : nv zqg = 0 := by unfold nv; rw [zq08]; rfl
def keyV (x : Int) : Nat -> Int := keyN x
theorem zqg3 (f : Nat -> Int) (w : World) (hf : zqae 18014398509481984 f) :
  Calls Tryz.prog 95 #[.agg (ints .u64 5 f)] w (Rt w (.agg (ints .u8 32 (keyV (nv f))))) := by
 have := zqvx f w hf;rw [zrcg f hf] at this;exact this
theorem zq5g {x y : Int} (h : x = y) : same 32 (keyV x) (keyV y) = true := by rw [h]; exact zqet _ _
theorem zqcx {f : Nat -> Int} (h : zqae 4503599627370496 f) : zqae 18014398509481984 f := fun i hi => by have := h i hi; omega
end Go.Proofs.YtconieddcjpbjaaGreatDoor
