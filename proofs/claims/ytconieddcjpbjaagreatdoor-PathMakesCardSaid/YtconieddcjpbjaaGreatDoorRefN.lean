/- RefN -/
import Derived.Test.YtconieddcjpbjaaGreatDoorMath02
import Derived.Test.YtconieddcjpbjaaGreatDoorInv
import Derived.Test.YtconieddcjpbjaaGreatDoorMat
import Derived.Test.YtconieddcjpbjaaGreatDoorRel
import Derived.Test.YtconieddcjpbjaaGreatDoorOrder
import Derived.Test.YtconieddcjpbjaaGreatDoorDh
set_option linter.unusedVariables false
set_option linter.unusedSimpArgs false
set_option maxRecDepth 100000
set_option maxHeartbeats 4000000
namespace Go.Proofs.YtconieddcjpbjaaGreatDoor
open Go.RowKit
def lenOf : Value -> Nat | .slice _ n _ => n | _ => 0
def zqiz (l : Nat -> Int) (i : Nat) : Nat -> Int := fun j => (if j < i then l j else 0) + (if j + 16 < i then 38 * l (j + 16) else 0)
theorem zqzt (l : Nat -> Int) : zqiz l 0 = zqg := by funext j; simp [zqiz, zqg]
theorem zq29 (l : Nat -> Int) (i : Nat) (h : i < 16) : zqiz l i i = 0 := by unfold zqiz; rw [if_neg (by omega), if_neg (by omega)]; rfl
theorem zq0c (l : Nat -> Int) (i : Nat) (h : i < 16) : ints .i64 16 (upd (zqiz l i) i (l i)) = ints .i64 16 (zqiz l (i + 1)) := zqa4 fun j hj => by
 unfold upd zqiz
 by_cases e : j = i
 ·subst e; (repeat' split) <;> omega
 ·(repeat' split) <;> omega
theorem zqyy (l : Nat -> Int) (i : Nat) (h : 16 <= i) (h2 : i < 32) : zqiz l i (i - 16) = l (i - 16) := by unfold zqiz; rw [if_pos (by omega), if_neg (by omega)]; omega
theorem zqzj (l : Nat -> Int) (i : Nat) (h : 16 <= i) (h2 : i < 32) : ints .i64 16 (upd (zqiz l i) (i - 16) (l (i - 16) + 38 * l i)) = ints .i64 16 (zqiz l (i + 1)) := zqa4 fun j hj => by
 unfold upd zqiz
 by_cases e : j = i - 16
 ·subst e
  rw [show i - 16 + 16 = i by omega]
  (repeat' split) <;> omega
 ·(repeat' split) <;> omega
def zqmc (l : Nat -> Int) : Nat -> Int := fun j => l j + 38 * l (j + 16)
theorem zq1j (l : Nat -> Int) : ints .i64 16 (zqiz l 32) = ints .i64 16 (zqmc l) := zqa4 fun j hj => by
 unfold zqiz zqmc; rw [if_pos (by omega), if_pos (by omega)]
theorem zquv (l : Nat -> Int) (hl : ∀ i, i < 32 -> 0 <= l i /\ l i <= 1099511627776) : zqe0 (zqmc l) := fun i hi => by
 have := hl i (by omega); have := hl (i + 16) (by omega); unfold zqmc; omega
theorem zq4q (l : Nat -> Int) : dval (zqmc l) 16 % 57896044618658097711785492504343953926634992332820282019728792003956564819949 = dval l 32 % 57896044618658097711785492504343953926634992332820282019728792003956564819949 := by
 have e : ∀ n, dval l (16 + n) = dval l 16 + 65536 ^ 16 * dval (fun j => l (j + 16)) n := fun n => by
  induction n with
  | zero => simp [dval]
  | succ n ih =>
   show dval l (16 + n) + l (16 + n) * 65536 ^ (16 + n) = dval l 16 + 65536 ^ 16 * (dval (fun j => l (j + 16)) n + l (n + 16) * 65536 ^ n)
   rw [ih, Nat.add_comm 16 n, Int.pow_add]
   grind
 have e2 : ∀ n, dval (zqmc l) n = dval l n + 38 * dval (fun j => l (j + 16)) n := fun n => by
  induction n with
  | zero => rfl
  | succ n ih =>
   show dval (zqmc l) n + (l n + 38 * l (n + 16)) * 65536 ^ n = dval l n + l n * 65536 ^ n + 38 * (dval (fun j => l (j + 16)) n + l (n + 16) * 65536 ^ n)
   rw [ih]
   grind
 have e3 := e 16;rw [e2, show 32 = 16 + 16 from rfl, e3];have e4 : (65536 : Int) ^ 16 = 38 + 57896044618658097711785492504343953926634992332820282019728792003956564819949 * 2 := by decide
 rw [e4];generalize dval (fun j => l (j + 16)) 16 = X;generalize dval l 16 = Y
 omega
structure FoldIn (l : Nat -> Int) (nb : Nat) (w wr : World) : Prop where
 g : Below w.heap.size w wr
 fr : zqd wr w.heap.size = some (.cells (ints .i64 16 zqg) 129)
 fl : zqd wr nb = some (.cells (ints .i64 16 (zqmc l)) 3)
set_option maxHeartbeats 2000000 in
theorem zqyd (l0 : Nat -> Int) (b c : Nat) (t : TypeId) (fr0 : Nat × Nat) (w : World) (hl0 : ∀ i, i < 32 -> 0 <= l0 i /\ l0 i <= 1099511627776) (hb : zqd w b = some (.cells (ints .i64 32 l0) t fr0)) :
  Calls Tryz.prog 116 #[.slice (some ⟨b, 0, none⟩) 32 c] w fun e w' => e = .returned (.agg (ints .i64 16 (numN (dval l0 32 % 57896044618658097711785492504343953926634992332820282019728792003956564819949)))) /\ Below w.heap.size w w' := by
 have lb := zqa hb;rw [<- zq4q];have HL : Hid (zqe0 (zqmc l0)) := zquv l0 hl0
 go_enter Tryz.func116, Tryz.ntmps116
 go_wp2
 go_loopw [0] (fun v wr => (v = .slice (some ⟨b, 0, none⟩) 32 c /\ wr = w.alloc (.cells (ints .i64 16 zqg) 129)) \/ (∃ nb, v = .slice (some ⟨nb, 0, none⟩) 16 16 /\ FoldIn l0 nb w wr)) (fun v _ => lenOf v)
 case atStart => exact .inl ⟨rfl, rfl⟩
 case round =>
  rcases hrel with ⟨rfl, rfl⟩ | ⟨nb, rfl, hG0, fr, hb⟩
  ·go_wp2
   go_loopw [4] (fun i wr => ∃ k : Nat, ∃ m : More, k <= 32 /\ i = .int .i64 k /\ wr = more ((w.alloc (.cells (ints .i64 16 zqg) 129)).alloc (.cells (ints .i64 16 (zqiz l0 k)) 3)) m) (fun i _ => 32 - (intOf i).toNat)
   case atStart => exact ⟨0, _, by omega, rfl, by rw [zqzt]; exact (zqch _).symm⟩
   case round =>
    obtain ⟨k, m, hk, rfl, rfl⟩ := hrel
    by_cases hlt : k < 32
    ·obtain ⟨a0, a1⟩ := hl0 k hlt
     by_cases h16 : k < 16
     ·have hz := zq29 l0 k h16
      have S : Hid _ := zq0c l0 k h16;go_wp2
      ((first | (with_reducible refine zq8 12 zqc zqc zqc zqc zqc ?_) | refine zq4 12 zqc zqc zqc zqc zqc ?_); simp only [List.take_succ_cons, List.take_zero]; (repeat (first | go_big_quiet_skip | (go_big_quiet_want; go_big_quiet_op; go_big_quiet_on))); refine wpQuiet_nil ?_; rintro _ ⟨mq, rfl⟩)
      (refine zqaa (i := 12) (fuel := 0) zqc rfl ?_; intro K hK; go_simp; refine hK _ _ ?_; clear hK K)
      (refine wpAny_done zqc ?_ _)
      go_wp2
      go_roundw
      case rel => exact ⟨k + 1, _, by omega, by go_num, by rw [<- S.out]⟩
      case measure => simp [intOf] <;> omega
     ·obtain ⟨b0, b1⟩ := hl0 (k - 16) (by omega)
      have hz := zqyy l0 k (by omega) hlt;have S : Hid _ := zqzj l0 k (by omega) hlt;have hm : k % 16 = k - 16 := by omega
      have hm2 : k - 16 < 16 := by omega
      go_wp2
      ((first | (with_reducible refine zq8 15 zqc zqc zqc zqc zqc ?_) | refine zq4 15 zqc zqc zqc zqc zqc ?_); simp only [List.take_succ_cons, List.take_zero]; (repeat (first | go_big_quiet_skip | (go_big_quiet_want; go_big_quiet_op; go_big_quiet_on))); refine wpQuiet_nil ?_; rintro _ ⟨mq, rfl⟩)
      (refine zqaa (i := 15) (fuel := 0) zqc rfl ?_; intro K hK; go_simp; refine hK _ _ ?_; clear hK K)
      (refine wpAny_done zqc ?_ _)
      go_wp2
      go_roundw
      case rel => exact ⟨k + 1, _, by omega, by go_num, by rw [<- S.out]⟩
      case measure => simp [intOf] <;> omega
    ·obtain rfl : k = 32 := by omega
     clear hlt;rw [zq1j];go_wp2
     go_roundw
     case rel => exact .inr ⟨_, rfl, ⟨by exact zqf, by exact zqe, by exact zqe⟩⟩
     case measure => simp [lenOf]
  ·have hl := HL.out
   have HL2 : Hid (zqe0 (zqmc l0)) := HL;clear hl0 HL;generalize hfl : zqmc l0 = l at *;have HFL : Hid (zqmc l0 = l) := hfl;clear hfl;clear HL2 lb;have lb := zqa hb;have lfr := zqa fr;obtain ⟨w0, hw0⟩ : ∃ w0, w0 = wr := ⟨_, rfl⟩
   subst hw0;go_wp2
   go_loopw [6] (fun i wr => ∃ k : Nat, ∃ m : More, k <= 16 /\ i = .int .i64 k /\ wr = more (w0.alloc (.cells (ints .i64 16 (zqcj l k)) 129)) m) (fun i _ => 16 - (intOf i).toNat)
   case atStart => exact ⟨0, _, by omega, rfl, by rw [zqc9]; exact (zqch _).symm⟩
   case round =>
    obtain ⟨k, m, hk, rfl, rfl⟩ := hrel
    by_cases hlt : k < 16
    ·have hkN : k < 16 := by omega
     go_wp2
     go_roundw
     case rel => exact ⟨k + 1, _, by omega, by go_num, by rw [<- zqcl]⟩
     case measure => simp [intOf]; omega
    ·obtain rfl : k = 16 := by omega
     rw [zqdi];clear hlt;go_wp2
     go_loopg [7] (2 * (dval l 16).toNat + 1) (fun g o wr => ∃ A : Nat -> Int, ∃ o' : Int, ∃ m : More, FoldRel l A o' g /\ o = .int .i64 o' /\ wr = more (w0.alloc (.cells (ints .i64 16 A) 129)) m)
     case atStart => exact ⟨l, 1, m, FoldRel.start hl, rfl, rfl⟩
     case round =>
      obtain ⟨A, o', m, hR, rfl, rfl⟩ := hrel;obtain ⟨hA, ho, hD, hM, hV, hG⟩ := hR
      by_cases hz : o' = 0
      ·subst hz
       have hDA := hD rfl;have HM : Hid (dval A 16 % 57896044618658097711785492504343953926634992332820282019728792003956564819949 = dval l 16 % 57896044618658097711785492504343953926634992332820282019728792003956564819949) := hM;clear hA hD hG ho hl hb lb hM;go_wp2
       go_loopg [] (dval A 16).toNat (fun g wr => ∃ A : Nat -> Int, ∃ m : More, zqcy A /\ Hid (dval A 16 % 57896044618658097711785492504343953926634992332820282019728792003956564819949 = dval l 16 % 57896044618658097711785492504343953926634992332820282019728792003956564819949 /\ g = (dval A 16).toNat) /\ wr = more (w0.alloc (.cells (ints .i64 16 A) 129)) m)
       case atStart => exact ⟨A, m, hDA, ⟨HM.out, rfl⟩, rfl⟩
       case round =>
        clear hDA HM;obtain ⟨A, m, hDA, HM, rfl⟩ := hrel
        by_cases hB : zql9 A zqca = true
        ·have hlt : dval A 16 < 57896044618658097711785492504343953926634992332820282019728792003956564819949 := by
          have := of_decide_eq_true hB;rw [zqfp] at this;exact this
         have h0 := (zqfl hDA 16 (by decide)).1;have e : ints .i64 16 A = ints .i64 16 (numN (dval l 16 % 57896044618658097711785492504343953926634992332820282019728792003956564819949)) := by
          rw [zqoi hDA, <- HM.out.1, Int.emod_eq_of_lt h0 hlt]
         have E : Hid (ints .i64 16 A = ints .i64 16 (numN (dval l 16 % 57896044618658097711785492504343953926634992332820282019728792003956564819949))) := e;clear e hlt h0 HM;go_wp2
         ((first | (with_reducible refine zq5 zqc zqc ?_) | refine zqt zqc zqc ?_); (repeat (first | go_big_quiet_skip | (go_big_quiet_want; go_big_quiet_op; first | go_big_quiet_on | (apply Exists.intro; refine ⟨fun _ => ?_, ?_⟩; (focus (first | (with_reducible exact Calls.of_more (zqfw _)) | (with_reducible exact Calls.of_more (zqjs A zqca _ hDA zqc0)))); go_big_quiet_on)))); refine wpQuiet_nil ?_; rintro _ ⟨mq, rfl⟩)
         go_wp2;refine zqaf rfl w.heap.size 129 (ints .i64 16 A) (0, 0) _ rfl (by exact zqe) Tryz.underlying129 rfl (by rw [zqh]; kernel_rfl) rfl ⟨by rw [E.out, HFL.out], by exact zqf⟩
        ·have hB' : zql9 A zqca = false := by simpa using hB
         have hge : 57896044618658097711785492504343953926634992332820282019728792003956564819949 <= dval A 16 := by
          have := of_decide_eq_false hB';rw [zqfp] at this
          omega
         clear hB;have hA' := zqhm hDA zqc0;have hv := zqkh A zqca 16;have X : Hid (dval (zqdr A zqca) 16 = dval A 16 - 57896044618658097711785492504343953926634992332820282019728792003956564819949) := by
          have h1 := zqfl hA' 16 (by decide);have h2 := zqfl hDA 16 (by decide);have h3 := zqhi A zqca 16;rw [zqfp] at hv;have e : (65536 : Int) ^ 16 = 115792089237316195423570985008687907853269984665640564039457584007913129639936 := by decide
          rw [e] at hv h1 h2
          show dval (zqdr A zqca) 16 = dval A 16 - 57896044618658097711785492504343953926634992332820282019728792003956564819949
          omega
         have HG : Hid (57896044618658097711785492504343953926634992332820282019728792003956564819949 <= dval A 16) := hge;clear hv hge;go_wp2
         ((first | (with_reducible refine zq5 zqc zqc ?_) | refine zqt zqc zqc ?_); (repeat (first | go_big_quiet_skip | (go_big_quiet_want; go_big_quiet_op; first | go_big_quiet_on | (apply Exists.intro; refine ⟨fun _ => ?_, ?_⟩; (focus (first | (with_reducible exact Calls.of_more (zqfw _)) | (with_reducible exact Calls.of_more (zqjs A zqca _ hDA zqc0)))); go_big_quiet_on)))); refine wpQuiet_nil ?_; rintro _ ⟨mq, rfl⟩)
         go_wp2
         ((first | (with_reducible refine zq8 3 zqc zqc zqc zqc zqc ?_) | refine zq4 3 zqc zqc zqc zqc zqc ?_); simp only [List.take_succ_cons, List.take_zero]; (repeat (first | go_big_quiet_skip | (go_big_quiet_want; go_big_quiet_op; first | go_big_quiet_on | (apply Exists.intro; refine ⟨fun _ => ?_, ?_⟩; (focus (first | (with_reducible exact Calls.of_more (zqfw _)) | (with_reducible exact Calls.of_more (zqod A zqca _ hDA zqc0)))); go_big_quiet_on)))); refine wpQuiet_nil ?_; rintro _ ⟨mq, rfl⟩)
         (refine zqaa (i := 3) (fuel := 0) zqc rfl ?_; intro K hK; go_simp; refine hK _ _ ?_; clear hK K)
         (refine wpAny_done zqc ?_ _)
         go_wp2
         go_roundg (dval (zqdr A zqca) 16).toNat
         case measure =>
          have h1 := X.out;have h2 := HG.out;have h3 := HM.out.2
          omega
         case rel =>
          refine ⟨zqdr A zqca, _, hA', ⟨?_, rfl⟩, rfl⟩;rw [X.out, <- HM.out.1]
          omega
      ·have hpos : 0 < o' := by omega
       have HR : Hid (FoldRel l A o' gk) := ⟨hA, ho, hD, hM, hV, hG⟩
       clear hD hM hV hG hz ho;go_wp2
       go_loopw [7, 8] (fun o i wr => ∃ k : Nat, ∃ m : More, k <= 16 /\ i = .int .i64 k /\ o = .int .i64 (if k = 16 then cp A 16 else 0) /\ wr = more (w0.alloc (.cells (ints .i64 16 (if k = 16 then zqdl A else zqdf A k)) 129)) m) (fun _ i _ => 16 - (intOf i).toNat)
       case atStart => exact ⟨0, m, by omega, rfl, by rw [if_neg (by decide)], by rw [if_neg (by decide), zqlv]⟩
       case round =>
        obtain ⟨k, m, hk, rfl, rfl, rfl⟩ := hrel
        by_cases h16 : k = 16
        ·subst h16
         rw [if_pos rfl, if_pos rfl];obtain ⟨g', hg', hR'⟩ := HR.out.next hpos;have X : Hid (g' < gk /\ FoldRel l (zqdl A) (cp A 16) g') := ⟨hg', hR'⟩
         clear hg' hR';go_wp2
         go_roundg g'
         case measure => exact X.out.1
         case rel => exact ⟨zqdl A, cp A 16, m, X.out.2, rfl, rfl⟩
        ·rw [if_neg h16, if_neg h16]
         have hk16 : k < 16 := by omega
         obtain ⟨a0, a1⟩ := hA k hk16;obtain ⟨c0, c1⟩ := zq4b hA k (by omega);have r0 := zqo4 A k
         by_cases h15 : k < 15
         ·have hk1 : k + 1 < 16 := by omega
          obtain ⟨b0, b1⟩ := hA (k + 1) hk1;have r1 : upd (zqdf A k) k ((A k + cp A k) % 65536) (k + 1) = A (k + 1) := by rw [zqfx _ _ _ _ (by omega), zqp0]
          clear hA h16;go_wp2
          go_roundw
          case rel => exact ⟨k + 1, m, by omega, by go_num, by rw [if_neg (by omega)], by rw [if_neg (by omega), zqlr]⟩
          case measure => simp [intOf]; omega
         ·obtain rfl : k = 15 := by omega
          obtain ⟨b0, b1⟩ := hA 0 (by decide);have r1 : upd (zqdf A 15) 15 ((A 15 + cp A 15) % 65536) 0 = A 0 % 65536 := by rw [zqfx _ _ _ _ (by omega), zqm0]
          have r2 := zqlx A;clear hA h16 h15;go_wp2
          go_roundw
          case rel => exact ⟨16, m, by omega, by rfl, by rw [if_pos rfl]; rfl, by rw [if_pos rfl]⟩
          case measure => simp [intOf] <;> omega
end Go.Proofs.YtconieddcjpbjaaGreatDoor
namespace Go.Proofs.YtconieddcjpbjaaGreatDoor
open Go.RowKit
@[go_sem] theorem zrly (w : World) : (Instr.makeSlice 154 (.int .i64 32) (.int .i64 32)).run Tryz.prog w = .ok (.slice (some ⟨w.heap.size, 0, none⟩) 32 32) (w.alloc (.cells (ints .i64 32 zqg) 3)) := by kernel_rfl
def rowF (a b f : Nat -> Int) (i : Nat) : Nat -> Nat -> Int
 | 0 => f
 | k + 1 => upd (rowF a b f i k) (i + k) (rowF a b f i k (i + k) + a i * b k)
def colF (a b : Nat -> Int) : Nat -> Nat -> Int
 | 0 => zqg
 | i + 1 => rowF a b (colF a b i) i 16
theorem zq4x (a b : Nat -> Int) (ha : zqcy a) (hb : zqcy b) (i k : Nat) (hi : i < 16) (hk : k < 16) : 0 <= a i * b k /\ a i * b k <= 4294967296 := by
 obtain ⟨a0, a1⟩ := ha i hi;obtain ⟨b0, b1⟩ := hb k hk;exact ⟨Int.mul_nonneg a0 b0, by have := Int.mul_le_mul (Int.le_of_lt a1) (Int.le_of_lt b1) b0 (by decide); omega⟩
theorem zq3a (a b f : Nat -> Int) (ha : zqcy a) (hb : zqcy b) (i : Nat) (hi : i < 16) (B : Int) (hf : ∀ j, 0 <= f j /\ f j <= B) : ∀ k, k <= 16 -> ∀ j, 0 <= rowF a b f i k j /\ rowF a b f i k j <= B + k * 4294967296
 | 0, _, j => by have := hf j; show 0 <= f j /\ f j <= _; omega
 | k + 1, h, j => by
  have ih := zq3a a b f ha hb i hi B hf k (by omega);have hm := zq4x a b ha hb i k hi (by omega);have h1 := ih j;have h2 := ih (i + k);unfold rowF upd
  split <;> omega
theorem zq4a (a b : Nat -> Int) (ha : zqcy a) (hb : zqcy b) : ∀ i, i <= 16 -> ∀ j, 0 <= colF a b i j /\ colF a b i j <= i * 68719476736
 | 0, _, j => by show 0 <= zqg j /\ zqg j <= _; unfold zqg; omega
 | i + 1, h, j => by
  have := zq3a a b (colF a b i) ha hb i (by omega) _ (zq4a a b ha hb i (by omega)) 16 (by omega) j
  show 0 <= rowF a b (colF a b i) i 16 j /\ rowF a b (colF a b i) i 16 j <= _
  omega
theorem zqxr (f : Nat -> Int) (j : Nat) (v : Int) : ∀ n, j < n -> dval (upd f j v) n = dval f n + (v - f j) * 65536 ^ j
 | 0, h => by omega
 | n + 1, h => by
  show dval (upd f j v) n + upd f j v n * 65536 ^ n = dval f n + f n * 65536 ^ n + (v - f j) * 65536 ^ j
  by_cases e : j = n
  ·subst e
   rw [zqgk (f := upd f j v) (g := f) j (fun i hi => zqfx _ _ _ _ (by omega)), upd_same]
   grind
  ·rw [zqxr f j v n (by omega), zqfx _ _ _ _ (fun h => e h.symm)]
   grind
theorem zq3r (a b f : Nat -> Int) (i : Nat) (hi : i < 16) : ∀ k, k <= 16 -> dval (rowF a b f i k) 32 = dval f 32 + a i * 65536 ^ i * dval b k
 | 0, _ => by show dval f 32 = dval f 32 + a i * 65536 ^ i * 0; omega
 | k + 1, h => by
  show dval (upd (rowF a b f i k) (i + k) (rowF a b f i k (i + k) + a i * b k)) 32 = dval f 32 + a i * 65536 ^ i * (dval b k + b k * 65536 ^ k)
  rw [zqxr _ _ _ 32 (by omega), zq3r a b f i hi k (by omega), Int.pow_add]
  grind
theorem zq4t (a b : Nat -> Int) : ∀ i, i <= 16 -> dval (colF a b i) 32 = dval a i * dval b 16
 | 0, _ => by
  show dval zqg 32 = 0 * dval b 16
  rw [Int.zero_mul]; rfl
 | i + 1, h => by
  show dval (rowF a b (colF a b i) i 16) 32 = (dval a i + a i * 65536 ^ i) * dval b 16
  rw [zq3r a b _ i (by omega) 16 (by omega), zq4t a b i (by omega), Int.add_mul]
set_option maxHeartbeats 2000000 in
theorem zqys (a b : Nat -> Int) (w : World) (ha : zqcy a) (hb : zqcy b) :
  Calls Tryz.prog 114 #[.agg (ints .i64 16 a), .agg (ints .i64 16 b)] w fun e w' => e = .returned (.agg (ints .i64 16 (numN ((dval a 16 * dval b 16) % 57896044618658097711785492504343953926634992332820282019728792003956564819949)))) /\ Below w.heap.size w w' := by
 have HV : Hid (dval (colF a b 16) 32 = dval a 16 * dval b 16) := zq4t a b 16 (by omega)
 go_enter Tryz.func114, Tryz.ntmps114
 go_wp2
 go_loopw [6] (fun i wr => ∃ j : Nat, ∃ m : More, j <= 16 /\ i = .int .i64 j /\ wr = more ((((w.alloc (.cells (ints .i64 16 a) 129)).alloc (.cells (ints .i64 16 b) 129)).alloc (.cells (ints .i64 16 zqg) 129)).alloc (.cells (ints .i64 32 (colF a b j)) 3)) m) (fun i _ => 16 - (intOf i).toNat)
 case atStart => exact ⟨0, _, by omega, rfl, (zqch _).symm⟩
 case round =>
  obtain ⟨j, m, hj, rfl, rfl⟩ := hrel
  by_cases hlt : j < 16
  ·have hcb := zq4a a b ha hb j (by omega)
   have hrb := zq3a a b (colF a b j) ha hb j hlt _ hcb;have hdec : decide ((j : Int) < 16) = true := decide_eq_true (by omega);have Z : Hid (rowF a b (colF a b j) j 16 = colF a b (j + 1)) := rfl;have Z0 : Hid (colF a b j = rowF a b (colF a b j) j 0) := rfl;go_wp2
   go_loopw [7] (fun i wr => ∃ k : Nat, ∃ m : More, k <= 16 /\ i = .int .i64 k /\ wr = more ((((w.alloc (.cells (ints .i64 16 a) 129)).alloc (.cells (ints .i64 16 b) 129)).alloc (.cells (ints .i64 16 zqg) 129)).alloc (.cells (ints .i64 32 (rowF a b (colF a b j) j k)) 3)) m) (fun i _ => 16 - (intOf i).toNat)
   case atStart => exact ⟨0, _, by omega, rfl, rfl⟩
   case round =>
    obtain ⟨k, m, hk, rfl, rfl⟩ := hrel
    by_cases hlk : k < 16
    ·obtain ⟨a0, a1⟩ := ha j hlt
     obtain ⟨b0, b1⟩ := hb k hlk;obtain ⟨p0, p1⟩ := zq4x a b ha hb j k hlt hlk;obtain ⟨r0, r1⟩ := hrb k hk (j + k);have hj16 : (j : Int) <= 15 := by omega
     have hk16 : (k : Int) <= 15 := by omega
     have r2 : rowF a b (colF a b j) j k (j + k) <= 1168231104512 := by omega
     have hjk : j + k < 32 := by omega
     have S : Hid (upd (rowF a b (colF a b j) j k) (j + k) (rowF a b (colF a b j) j k (j + k) + a j * b k) = rowF a b (colF a b j) j (k + 1)) := rfl;clear hrb hcb r1;go_wp2
     ((first | (with_reducible refine zq8 19 zqc zqc zqc zqc zqc ?_) | refine zq4 19 zqc zqc zqc zqc zqc ?_); simp only [List.take_succ_cons, List.take_zero]; (repeat (first | go_big_quiet_skip | (go_big_quiet_want; go_big_quiet_op; go_big_quiet_on))); refine wpQuiet_nil ?_; rintro _ ⟨mq, rfl⟩)
     (refine zqaa (i := 19) (fuel := 0) zqc rfl ?_; intro K hK; go_simp; refine hK _ _ ?_; clear hK K)
     (refine wpAny_done zqc ?_ _)
     go_wp2
     go_roundw
     case rel => exact ⟨k + 1, _, by omega, by go_num, by rw [<- S.out]⟩
     case measure => simp [intOf] <;> omega
    ·obtain rfl : k = 16 := by omega
     clear hlk;rw [Z.out];go_wp2
     go_roundw
     case rel => exact ⟨j + 1, _, by omega, by go_num, rfl⟩
     case measure => simp [intOf] <;> omega
  ·obtain rfl : j = 16 := by omega
   have hcb : ∀ i, i < 32 -> 0 <= colF a b 16 i /\ colF a b 16 i <= 1099511627776 := fun i _ => by have := zq4a a b ha hb 16 (by omega) i; omega
   have hG := Grew.refl w;have fr : True := trivial;clear hlt ha hb;go_wp2_with fail;have fl : zqd (more ((((w.alloc (.cells (ints .i64 16 a) 129)).alloc (.cells (ints .i64 16 b) 129)).alloc (.cells (ints .i64 16 zqg) 129)).alloc (.cells (ints .i64 32 (colF a b 16)) 3)) m) (w.heap.size + 1 + 1 + 1) = some (.cells (ints .i64 32 (colF a b 16)) 3) := by exact zqe
   (refine (zqyd (colF a b 16) _ 32 _ _ _ hcb fl).mono ?_; rintro e w1 ⟨rfl, hb⟩; replace fr : zqd w1 (w.heap.size + 1 + 1) = some (.cells (ints .i64 16 zqg) 129) := zqb hb (by exact zqe); have lfr := zqa fr; replace hG : Below w.heap.size w w1 := Grew.trans (by exact zqf) hb; clear hb)
   go_wp2;refine zqaf rfl (w.heap.size + 1 + 1) 129 _ (0, 0) _ rfl (zqs _ fr) Tryz.underlying129 rfl (by rw [zqh]; kernel_rfl) rfl ⟨by rw [HV.out], by exact zqf⟩
end Go.Proofs.YtconieddcjpbjaaGreatDoor
namespace Go.Proofs.YtconieddcjpbjaaGreatDoor
open Go.RowKit
set_option maxHeartbeats 400000 in
theorem zq1v (k : Nat -> Int) (i : Nat) (w : World) (hk : Bytes 32 k) (hi : i < 256) :
  Calls Tryz.prog 112 #[.agg (ints .u8 32 k), .int .i64 i] w fun e w' => e = .returned (.int .i64 (bitN k i)) /\ Below w.heap.size w w' := by
 have hi8 : i / 8 < 32 := by omega
 obtain ⟨k0, k1⟩ := hk (i / 8) hi8;have hi64 : (i : Int) <= 255 := by omega
 have HB : Hid (k (i / 8) / 2 ^ (i % 8) % 2 = bitN k i) := rfl;have HD : ∀ j : Nat, k (i / 8) / 2 ^ j / 2 = k (i / 8) / 2 ^ (j + 1) := fun j => by
  rw [Int.pow_succ, Int.ediv_ediv, if_neg (fun h => absurd h.1 (Int.not_lt.2 (Int.le_of_lt (Int.pow_pos (by decide))))), Int.sub_zero]
 have HX : ∀ j : Nat, 0 <= k (i / 8) / 2 ^ j /\ k (i / 8) / 2 ^ j <= 255 := fun j =>
  ⟨Int.ediv_nonneg k0 (Int.le_of_lt (Int.pow_pos (by decide))), Int.le_trans (Int.ediv_le_self _ k0) k1⟩
 have HH : Hid ((∀ j : Nat, k (i / 8) / 2 ^ j / 2 = k (i / 8) / 2 ^ (j + 1)) /\ ∀ j : Nat, 0 <= k (i / 8) / 2 ^ j /\ k (i / 8) / 2 ^ j <= 255) := ⟨HD, HX⟩
 clear HD HX;have hd : (0 : Int) <= (i : Int) % 8 := by omega
 go_enter Tryz.func112, Tryz.ntmps112
 go_wp2
 go_loop [5, 6] (fun b j => ∃ n : Nat, n <= i % 8 /\ j = .int .i64 n /\ b = .int .i64 (k (i / 8) / 2 ^ n)) (fun _ j => 8 - (intOf j).toNat)
 case atStart => exact ⟨0, by omega, rfl, by simp⟩
 case round =>
  obtain ⟨n, hn, rfl, rfl⟩ := hrel;have hn8 : n <= 7 := by omega
  by_cases hlt : n < i % 8
  ·obtain ⟨x0, x1⟩ := HH.out.2 n
   have E : Hid (k (i / 8) / 2 ^ n / 2 = k (i / 8) / 2 ^ (n + 1)) := HH.out.1 n;generalize k (i / 8) / 2 ^ n = X at *;go_wp2
   go_round
   case rel => exact ⟨n + 1, by omega, by go_num, by rw [<- E.out]⟩
   case measure => simp [intOf] <;> omega
  ·obtain rfl : n = i % 8 := by omega
   obtain ⟨x0, x1⟩ := HH.out.2 (i % 8);clear hlt hn8;have E : Hid (k (i / 8) / 2 ^ (i % 8) % 2 = bitN k i) := HB;generalize hX : k (i / 8) / 2 ^ (i % 8) = X at *;go_wp2;go_ret;exact ⟨zquc E.out, by exact zqf⟩
def zq3c : Nat -> Int := upd (upd zqo8 0 235) 31 127
theorem zq1o : knum zq3c 32 = undo := by kernel_rfl
theorem zquz : Bytes 32 zq3c := fun i _ => by unfold zq3c upd zqo8; split <;> (try split) <;> decide
set_option maxHeartbeats 400000 in
theorem zq4n (w : World) :
  Calls Tryz.prog 135 #[] w fun e w' => e = .returned (.agg (ints .u8 32 zq3c)) /\ Below w.heap.size w w' := by
 go_enter Tryz.func135, Tryz.ntmps135
 go_wp2
 go_loopw [2] (fun i wr => ∃ k : Nat, k <= 32 /\ i = .int .i64 k /\ wr = (w.alloc (.cells (ints .u8 32 zqg) 23)).alloc (.cells (ints .u8 32 (zqcj zqo8 k)) 23)) (fun i _ => 32 - (intOf i).toNat)
 case atStart => exact ⟨0, by omega, rfl, by rw [zqc9]⟩
 case round =>
  obtain ⟨k, hk, rfl, rfl⟩ := hrel
  by_cases hlt : k < 32
  ·have S : Hid (upd (zqcj zqo8 k) k 255 = zqcj zqo8 (k + 1)) := zqcl zqo8 k
   go_wp2
   go_roundw
   case rel => exact ⟨k + 1, by omega, by go_num, by rw [<- S.out]⟩
   case measure => simp [intOf] <;> omega
  ·obtain rfl : k = 32 := by omega
   clear hlt;rw [zqdi];go_wp2;refine zqaf rfl _ 23 _ (0, 0) _ rfl (by simp [go_sem]; rfl) Tryz.underlying23 rfl (by rw [zqh]; kernel_rfl) rfl ⟨rfl, by exact zqf⟩
theorem zqqs (x y : Int) (w : World) (hx : 0 <= x /\ x < 57896044618658097711785492504343953926634992332820282019728792003956564819949) (hy : 0 <= y /\ y < 57896044618658097711785492504343953926634992332820282019728792003956564819949) :
  Calls Tryz.prog 114 #[.agg (ints .i64 16 (numN x)), .agg (ints .i64 16 (numN y))] w fun e w' => e = .returned (.agg (ints .i64 16 (numN ((x * y) % 57896044618658097711785492504343953926634992332820282019728792003956564819949)))) /\ Below w.heap.size w w' := by
 have := zqys (numN x) (numN y) w (zqby x) (zqby y);rw [zqg7 hx.1 hx.2, zqg7 hy.1 hy.2] at this;exact this
theorem zqig (n : Int) (w : World) (h0 : 0 <= n) (h1 : n <= 4294967295) :
  Calls Tryz.prog 111 #[.int .u32 n] w fun e w' => e = .returned (.agg (ints .i64 16 (numN n))) /\ Below w.heap.size w w' := zqtj n w h0 h1
def outN (x : Int) (K i : Nat) : Int := x ^ (K % 2 ^ i) % 57896044618658097711785492504343953926634992332820282019728792003956564819949
def sqN (x : Int) (i : Nat) : Int := x ^ (2 ^ i) % 57896044618658097711785492504343953926634992332820282019728792003956564819949
theorem zrdz (x : Int) (K i : Nat) : 0 <= outN x K i /\ outN x K i < 57896044618658097711785492504343953926634992332820282019728792003956564819949 := by unfold outN; omega
theorem zrf5 (x : Int) (i : Nat) : 0 <= sqN x i /\ sqN x i < 57896044618658097711785492504343953926634992332820282019728792003956564819949 := by unfold sqN; omega
theorem zq28 (x : Int) (K : Nat) : outN x K 0 = 1 := by
 unfold outN; rw [Nat.pow_zero, Nat.mod_one, Int.pow_zero]; rfl
theorem zq8v (x : Int) (hx : 0 <= x /\ x < 57896044618658097711785492504343953926634992332820282019728792003956564819949) : sqN x 0 = x := by
 unfold sqN; rw [Nat.pow_zero, Int.pow_one]; omega
theorem zq6d (x : Int) (i : Nat) : sqN x i * sqN x i % 57896044618658097711785492504343953926634992332820282019728792003956564819949 = sqN x (i + 1) := by
 unfold sqN;rw [zqi1, zqna, <- Int.pow_add]
 congr 2
 rw [Nat.pow_succ]; omega
theorem zrde (x : Int) (K i : Nat) (h : K / 2 ^ i % 2 = 0) : outN x K (i + 1) = outN x K i := by
 unfold outN;rw [Nat.mod_pow_succ, h, Nat.mul_zero, Nat.add_zero]
theorem zq6z (x : Int) (K i : Nat) (h : K / 2 ^ i % 2 = 1) : outN x K i * sqN x i % 57896044618658097711785492504343953926634992332820282019728792003956564819949 = outN x K (i + 1) := by
 unfold outN sqN;rw [zqi1, zqna, <- Int.pow_add, Nat.mod_pow_succ, h, Nat.mul_one]
structure RPowInv (x : Int) (K : Nat) (k : Nat -> Int) (gp : Nat) (w : World) (i : Nat) (wr : World) : Prop where
 g : Below w.heap.size w wr
 fa : zqd wr w.heap.size = some (.cells (ints .i64 16 (numN (sqN x i))) 129)
 fk : zqd wr (w.heap.size + 1) = some (.cells (ints .u8 32 k) 23)
 fr : zqd wr (w.heap.size + 1 + 1) = some (.cells (ints .i64 16 zqg) 129)
 fp : zqd wr gp = some (.cells (ints .i64 16 (numN (outN x K i))) 129)
set_option maxHeartbeats 2000000 in
theorem zq7a (x : Int) (k : Nat -> Int) (w : World) (hx : 0 <= x /\ x < 57896044618658097711785492504343953926634992332820282019728792003956564819949) (hk : Bytes 32 k) :
  Calls Tryz.prog 134 #[.agg (ints .i64 16 (numN x)), .agg (ints .u8 32 k)] w fun e w' => e = .returned (.agg (ints .i64 16 (numN (x ^ knum k 32 % 57896044618658097711785492504343953926634992332820282019728792003956564819949)))) /\ Below w.heap.size w w' := by
 have HE : Hid (outN x (knum k 32) 256 = x ^ knum k 32 % 57896044618658097711785492504343953926634992332820282019728792003956564819949) := by
  show outN x (knum k 32) 256 = _
  unfold outN;rw [Nat.mod_eq_of_lt (show knum k 32 < 2 ^ 256 from zqkw k hk 32 (by omega))]
 have HA : Hid (sqN x 0 = x) := zq8v x hx;have hG := Grew.refl w;have fa : True := trivial;have fk : True := trivial;have fr : True := trivial
 go_enter Tryz.func134, Tryz.ntmps134
 go_wp2_with fail
 (refine (zqig 1 _ (by decide) (by decide)).mono ?_; rintro e w1 ⟨rfl, hb⟩; replace fa : zqd w1 (w.heap.size) = some (.cells (ints .i64 16 (numN x)) 129) := zqb hb (by exact zqe); have lfa := zqa fa; replace fk : zqd w1 (w.heap.size + 1) = some (.cells (ints .u8 32 k) 23) := zqb hb (by exact zqe); have lfk := zqa fk; replace fr : zqd w1 (w.heap.size + 1 + 1) = some (.cells (ints .i64 16 zqg) 129) := zqb hb (by exact zqe); have lfr := zqa fr; replace hG : Below w.heap.size w w1 := Grew.trans (by exact zqf) hb; clear hb)
 have hw1 := hG.size;have ha1 := lfa;have hk1 := lfk;have hr1 := lfr;have n0 : ¬ (w.heap.size = w1.heap.size) := by omega
 have n1 : ¬ (w.heap.size + 1 = w1.heap.size) := by omega
 have n2 : ¬ (w.heap.size + 1 + 1 = w1.heap.size) := by omega
 have n3 : ¬ (w1.heap.size = w.heap.size) := by omega
 go_wp2_with fail
 go_loopw [6] (fun i wr => ∃ j : Nat, j <= 256 /\ i = .int .i64 j /\ RPowInv x (knum k 32) k w1.heap.size w j wr) (fun i _ => 256 - (intOf i).toNat)
 case atStart => exact ⟨0, by omega, rfl, ⟨by exact zqf, by rw [HA.out]; exact zqe, by exact zqe, by exact zqe, by rw [zq28]; exact zqe⟩⟩
 case round =>
  clear fa fk fr hG lfa lfk lfr;obtain ⟨j, hj, rfl, hG, fa, fk, fr, fp⟩ := hrel;have lfa := zqa fa;have lfk := zqa fk;have lfr := zqa fr;have lfp := zqa fp
  by_cases hlt : j < 256
  ·have hb := fun w => zq1v k j w hk hlt
   have hbit := zqme k hk j hlt;have h01 := zqi6 k j;have ho := zrdz x (knum k 32) j;have hs := zrf5 x j;have hsq := fun w => zqqs (sqN x j) (sqN x j) w hs hs;have hmu := fun w => zqqs (outN x (knum k 32) j) (sqN x j) w ho hs;rw [zq6d] at hsq;generalize bitN k j = B at *
   rcases h01 with rfl | rfl
   ·have Z : Hid (outN x (knum k 32) (j + 1) = outN x (knum k 32) j) := zrde x _ j (by simpa using hbit)
    clear hbit hmu ho hs;go_wp2_with fail
    (refine (hb _).mono ?_; rintro e w2 ⟨rfl, hb⟩; replace fa : zqd w2 (w.heap.size) = some (.cells (ints .i64 16 (numN (sqN x j))) 129) := zqb hb (by exact zqe); have lfa := zqa fa; replace fk : zqd w2 (w.heap.size + 1) = some (.cells (ints .u8 32 k) 23) := zqb hb (by exact zqe); have lfk := zqa fk; replace fr : zqd w2 (w.heap.size + 1 + 1) = some (.cells (ints .i64 16 zqg) 129) := zqb hb (by exact zqe); have lfr := zqa fr; replace fp : zqd w2 (w1.heap.size) = some (.cells (ints .i64 16 (numN (outN x (knum k 32) j))) 129) := zqb hb (by exact zqe); have lfp := zqa fp; replace hG : Below w.heap.size w w2 := Grew.trans (by exact zqf) hb; clear hb)
    go_wp2_with fail
    (refine (hsq _).mono ?_; rintro e w3 ⟨rfl, hb⟩; replace fa : zqd w3 (w.heap.size) = some (.cells (ints .i64 16 (numN (sqN x j))) 129) := zqb hb (by exact zqe); have lfa := zqa fa; replace fk : zqd w3 (w.heap.size + 1) = some (.cells (ints .u8 32 k) 23) := zqb hb (by exact zqe); have lfk := zqa fk; replace fr : zqd w3 (w.heap.size + 1 + 1) = some (.cells (ints .i64 16 zqg) 129) := zqb hb (by exact zqe); have lfr := zqa fr; replace fp : zqd w3 (w1.heap.size) = some (.cells (ints .i64 16 (numN (outN x (knum k 32) j))) 129) := zqb hb (by exact zqe); have lfp := zqa fp; replace hG : Below w.heap.size w w3 := Grew.trans (by exact zqf) hb; clear hb)
    go_wp2
    go_roundw
    case rel => exact ⟨j + 1, by omega, by go_num, ⟨by exact zqf, by exact zqe, by exact zqe, by exact zqe, by rw [Z.out]; exact zqe⟩⟩
    case measure => simp [intOf] <;> omega
   ·have Z := zq6z x (knum k 32) j (by simpa using hbit)
    rw [Z] at hmu;clear hbit ho hs Z;go_wp2_with fail
    (refine (hb _).mono ?_; rintro e w2 ⟨rfl, hb⟩; replace fa : zqd w2 (w.heap.size) = some (.cells (ints .i64 16 (numN (sqN x j))) 129) := zqb hb (by exact zqe); have lfa := zqa fa; replace fk : zqd w2 (w.heap.size + 1) = some (.cells (ints .u8 32 k) 23) := zqb hb (by exact zqe); have lfk := zqa fk; replace fr : zqd w2 (w.heap.size + 1 + 1) = some (.cells (ints .i64 16 zqg) 129) := zqb hb (by exact zqe); have lfr := zqa fr; replace fp : zqd w2 (w1.heap.size) = some (.cells (ints .i64 16 (numN (outN x (knum k 32) j))) 129) := zqb hb (by exact zqe); have lfp := zqa fp; replace hG : Below w.heap.size w w2 := Grew.trans (by exact zqf) hb; clear hb)
    go_wp2_with fail
    (refine (hmu _).mono ?_; rintro e w3 ⟨rfl, hb⟩; replace fa : zqd w3 (w.heap.size) = some (.cells (ints .i64 16 (numN (sqN x j))) 129) := zqb hb (by exact zqe); have lfa := zqa fa; replace fk : zqd w3 (w.heap.size + 1) = some (.cells (ints .u8 32 k) 23) := zqb hb (by exact zqe); have lfk := zqa fk; replace fr : zqd w3 (w.heap.size + 1 + 1) = some (.cells (ints .i64 16 zqg) 129) := zqb hb (by exact zqe); have lfr := zqa fr; replace fp : zqd w3 (w1.heap.size) = some (.cells (ints .i64 16 (numN (outN x (knum k 32) j))) 129) := zqb hb (by exact zqe); have lfp := zqa fp; replace hG : Below w.heap.size w w3 := Grew.trans (by exact zqf) hb; clear hb)
    have fp2 : zqd (w3.setRow w1.heap.size (ints .i64 16 (numN (outN x (knum k 32) (j + 1))))) w1.heap.size = some (.cells (ints .i64 16 (numN (outN x (knum k 32) (j + 1)))) 129) := zqs _ fp;go_wp2_with fail;clear fp
    (refine (hsq _).mono ?_; rintro e w4 ⟨rfl, hb⟩; replace fa : zqd w4 (w.heap.size) = some (.cells (ints .i64 16 (numN (sqN x j))) 129) := zqb hb (by exact zqe); have lfa := zqa fa; replace fk : zqd w4 (w.heap.size + 1) = some (.cells (ints .u8 32 k) 23) := zqb hb (by exact zqe); have lfk := zqa fk; replace fr : zqd w4 (w.heap.size + 1 + 1) = some (.cells (ints .i64 16 zqg) 129) := zqb hb (by exact zqe); have lfr := zqa fr; replace fp2 : zqd w4 (w1.heap.size) = some (.cells (ints .i64 16 (numN (outN x (knum k 32) (j + 1)))) 129) := zqb hb (by exact zqe); have lfp2 := zqa fp2; replace hG : Below w.heap.size w w4 := Grew.trans (by exact zqf) hb; clear hb)
    go_wp2
    go_roundw
    case rel => exact ⟨j + 1, by omega, by go_num, ⟨by exact zqf, by exact zqe, by exact zqe, by exact zqe, by exact zqe⟩⟩
    case measure => simp [intOf] <;> omega
  ·obtain rfl : j = 256 := by omega
   clear hlt;go_wp2;refine zqaf rfl _ 129 _ (0, 0) _ rfl (zqs _ fr) Tryz.underlying129 rfl (by rw [zqh]; kernel_rfl) rfl ⟨by rw [HE.out], by exact zqf⟩
set_option maxHeartbeats 400000 in
theorem zq82 (x : Int) (w : World) (hx : 0 <= x /\ x < 57896044618658097711785492504343953926634992332820282019728792003956564819949) :
  Calls Tryz.prog 115 #[.agg (ints .i64 16 (numN x))] w fun e w' => e = .returned (.agg (ints .i64 16 (numN (x ^ undo % 57896044618658097711785492504343953926634992332820282019728792003956564819949)))) /\ Below w.heap.size w w' := by
 have hp := fun w => zq7a x zq3c w hx zquz;rw [zq1o] at hp;have hG := Grew.refl w
 go_enter Tryz.func115, Tryz.ntmps115
 go_wp2_with fail
 ((first | (with_reducible refine zq8 3 zqc zqc zqc zqc zqc ?_) | refine zq4 3 zqc zqc zqc zqc zqc ?_); simp only [List.take_succ_cons, List.take_zero]; (repeat (first | go_big_quiet_skip | (go_big_quiet_want; go_big_quiet_op; first | go_big_quiet_on | (apply Exists.intro; refine ⟨fun _ => ?_, ?_⟩; (focus (first | (with_reducible exact Calls.of_more (zq4n _)) | (with_reducible exact Calls.of_more (hp _)))); go_big_quiet_on)))); refine wpQuiet_nil ?_; rintro _ ⟨mq, rfl⟩)
 (refine zqaa (i := 3) (fuel := 0) zqc rfl ?_; intro K hK; go_simp; refine hK _ _ ?_; clear hK K)
 (refine wpAny_done zqc ?_ _)
 go_wp2;refine zqaf rfl _ 129 _ (0, 0) _ rfl (by simp [go_sem]) Tryz.underlying129 rfl (by rw [zqh]; kernel_rfl) rfl ⟨rfl, by exact zqf⟩
end Go.Proofs.YtconieddcjpbjaaGreatDoor
namespace Go.Proofs.YtconieddcjpbjaaGreatDoor
open Go.RowKit
def BD (x : Int) : Prop := 0 <= x /\ x < 57896044618658097711785492504343953926634992332820282019728792003956564819949
def aN (x y : Int) : Int := (x + y) % 57896044618658097711785492504343953926634992332820282019728792003956564819949
def sN (x y : Int) : Int := (x - y) % 57896044618658097711785492504343953926634992332820282019728792003956564819949
def mN (x y : Int) : Int := x * y % 57896044618658097711785492504343953926634992332820282019728792003956564819949
def iN (x : Int) : Int := x ^ undo % 57896044618658097711785492504343953926634992332820282019728792003956564819949
theorem zqvw (x y : Int) : BD (aN x y) := by unfold BD aN; omega
theorem zqtw (x y : Int) : BD (sN x y) := by unfold BD sN; omega
theorem zqio (x y : Int) : BD (mN x y) := by unfold BD mN; omega
theorem zrk9 (x : Int) : BD (iN x) := by unfold BD iN; omega
theorem zrkr (f : Nat -> Int) : BD (nv f) := zq04 f
theorem zqmi (n : Int) (h0 : 0 <= n) (h1 : n <= 4294967295) : BD n := by unfold BD; omega
theorem zqxm (x y : Int) (w : World) (hx : BD x) (hy : BD y) : Calls Tryz.prog 132 #[.agg (ints .i64 16 (numN (x))), .agg (ints .i64 16 (numN (y)))] w fun e w' => e = .returned (.agg (ints .i64 16 (numN (aN x y)))) /\ Below w.heap.size w w' := zq7z x y w hx hy
theorem zqxj (x y : Int) (w : World) (hx : BD x) (hy : BD y) : Calls Tryz.prog 133 #[.agg (ints .i64 16 (numN (x))), .agg (ints .i64 16 (numN (y)))] w fun e w' => e = .returned (.agg (ints .i64 16 (numN (sN x y)))) /\ Below w.heap.size w w' := zq0e x y w hx hy
theorem zqhr (x y : Int) (w : World) (hx : BD x) (hy : BD y) : Calls Tryz.prog 114 #[.agg (ints .i64 16 (numN (x))), .agg (ints .i64 16 (numN (y)))] w fun e w' => e = .returned (.agg (ints .i64 16 (numN (mN x y)))) /\ Below w.heap.size w w' := zqqs x y w hx hy
theorem zriv (x : Int) (w : World) (hx : BD x) : Calls Tryz.prog 115 #[.agg (ints .i64 16 (numN (x)))] w fun e w' => e = .returned (.agg (ints .i64 16 (numN (iN x)))) /\ Below w.heap.size w w' := zq82 x w hx
def twXN (x z : Int) : Int := mN (mN (aN x z) (aN x z)) (mN (sN x z) (sN x z))
def twEN (x z : Int) : Int := sN (mN (aN x z) (aN x z)) (mN (sN x z) (sN x z))
def twZN (x z : Int) : Int := mN (twEN x z) (aN (mN (aN x z) (aN x z)) (mN 121665 (twEN x z)))
def daN (x z x' z' : Int) : Int := mN (sN x' z') (aN x z)
def cbN (x z x' z' : Int) : Int := mN (aN x' z') (sN x z)
def boXN (x z x' z' : Int) : Int := mN (aN (daN x z x' z') (cbN x z x' z')) (aN (daN x z x' z') (cbN x z x' z'))
def boZN (u x z x' z' : Int) : Int := mN u (mN (sN (daN x z x' z') (cbN x z x' z')) (sN (daN x z x' z') (cbN x z x' z')))
theorem zq8o {P : Program} {fn : Func} {R : Ending -> World -> Prop} {a : Act} {w : World} {p0 p1 p2 p3 : Tmp} (ty : TypeId) (h : fn.results = #[.cell p0 ty, .cell p1 ty, .cell p2 ty, .cell p3 ty]) (g0 g1 g2 g3 : Nat) (c0 c1 c2 c3 : Array Value) {t0 t1 t2 t3 : TypeId} {f0 f1 f2 f3 : Nat × Nat} {d : TypeDesc} {n : Nat}
  (h0 : a.tmps.getD p0 undef = .pointer (some ⟨g0, 0, none⟩)) (h1 : a.tmps.getD p1 undef = .pointer (some ⟨g1, 0, none⟩)) (h2 : a.tmps.getD p2 undef = .pointer (some ⟨g2, 0, none⟩)) (h3 : a.tmps.getD p3 undef = .pointer (some ⟨g3, 0, none⟩))
  (k0 : zqd w g0 = some (.cells c0 t0 f0)) (k1 : zqd w g1 = some (.cells c1 t1 f1)) (k2 : zqd w g2 = some (.cells c2 t2 f2)) (k3 : zqd w g3 = some (.cells c3 t3 f3))
  (hu : P.underlying ty = some d) (hd : (match d with | .struct _ | .array _ _ => true | _ => false) = true) (hi : (P.info? ty).map (·.size) = some n)
  (s0 : c0.size = n) (s1 : c1.size = n) (s2 : c2.size = n) (s3 : c3.size = n)
  (hD : a.defers = []) (hR : R (.returned (.tuple #[.agg c0, .agg c1, .agg c2, .agg c3])) w) : bodyPost P fn R .ret a w := by
 refine bodyPost_ret_by ?_ hD hR
 have e0 : a.tmps[p0]?.getD undef = .pointer (some ⟨g0, 0, none⟩) := by simpa using h0
 have e1 : a.tmps[p1]?.getD undef = .pointer (some ⟨g1, 0, none⟩) := by simpa using h1
 have e2 : a.tmps[p2]?.getD undef = .pointer (some ⟨g2, 0, none⟩) := by simpa using h2
 have e3 : a.tmps[p3]?.getD undef = .pointer (some ⟨g3, 0, none⟩) := by simpa using h3
 unfold zqd at k0 k1 k2 k3
 simp [results, h, e0, e1, e2, e3, asAddr, run_loadVar_row w g0 t0 ty c0 f0 d k0 hu hd (by rw [hi, s0]), run_loadVar_row w g1 t1 ty c1 f1 d k1 hu hd (by rw [hi, s1]), run_loadVar_row w g2 t2 ty c2 f2 d k2 hu hd (by rw [hi, s2]), run_loadVar_row w g3 t3 ty c3 f3 d k3 hu hd (by rw [hi, s3])]
set_option maxHeartbeats 2000000 in
theorem zq1n (u x z x' z' : Int) (w : World) (hu : BD u) (hx : BD x) (hz : BD z) (hx' : BD x') (hz' : BD z') :
  Calls Tryz.prog 113 #[.agg (ints .i64 16 (numN (u))), .agg (ints .i64 16 (numN (x))), .agg (ints .i64 16 (numN (z))), .agg (ints .i64 16 (numN (x'))), .agg (ints .i64 16 (numN (z')))] w fun e w' => e = .returned (.tuple #[.agg (ints .i64 16 (numN (twXN x z))), .agg (ints .i64 16 (numN (twZN x z))), .agg (ints .i64 16 (numN (boXN x z x' z'))), .agg (ints .i64 16 (numN (boZN u x z x' z')))]) /\ Below w.heap.size w w' := by
 have hG := Grew.refl w;have fu : True := trivial;have fx : True := trivial;have fz : True := trivial;have fp : True := trivial;have fq : True := trivial;have fr0 : True := trivial;have fr1 : True := trivial;have fr2 : True := trivial;have fr3 : True := trivial
 go_enter Tryz.func113, Tryz.ntmps113
 have c1 : ∀ w, Calls Tryz.prog 132 #[.agg (ints .i64 16 (numN (x))), .agg (ints .i64 16 (numN (z)))] w fun e w' => e = .returned (.agg (ints .i64 16 (numN (aN x z)))) /\ Below w.heap.size w w' := fun w => zqxm _ _ w hx hz;have c2 : ∀ w, Calls Tryz.prog 133 #[.agg (ints .i64 16 (numN (x))), .agg (ints .i64 16 (numN (z)))] w fun e w' => e = .returned (.agg (ints .i64 16 (numN (sN x z)))) /\ Below w.heap.size w w' := fun w => zqxj _ _ w hx hz;have c3 : ∀ w, Calls Tryz.prog 132 #[.agg (ints .i64 16 (numN (x'))), .agg (ints .i64 16 (numN (z')))] w fun e w' => e = .returned (.agg (ints .i64 16 (numN (aN x' z')))) /\ Below w.heap.size w w' := fun w => zqxm _ _ w hx' hz'
 have c4 : ∀ w, Calls Tryz.prog 133 #[.agg (ints .i64 16 (numN (x'))), .agg (ints .i64 16 (numN (z')))] w fun e w' => e = .returned (.agg (ints .i64 16 (numN (sN x' z')))) /\ Below w.heap.size w w' := fun w => zqxj _ _ w hx' hz';have c5 : ∀ w, Calls Tryz.prog 114 #[.agg (ints .i64 16 (numN (sN x' z'))), .agg (ints .i64 16 (numN (aN x z)))] w fun e w' => e = .returned (.agg (ints .i64 16 (numN (daN x z x' z')))) /\ Below w.heap.size w w' := fun w => zqhr _ _ w (zqtw _ _) (zqvw _ _);have c6 : ∀ w, Calls Tryz.prog 114 #[.agg (ints .i64 16 (numN (aN x' z'))), .agg (ints .i64 16 (numN (sN x z)))] w fun e w' => e = .returned (.agg (ints .i64 16 (numN (cbN x z x' z')))) /\ Below w.heap.size w w' := fun w => zqhr _ _ w (zqvw _ _) (zqtw _ _)
 have c7 : ∀ w, Calls Tryz.prog 114 #[.agg (ints .i64 16 (numN (aN x z))), .agg (ints .i64 16 (numN (aN x z)))] w fun e w' => e = .returned (.agg (ints .i64 16 (numN (mN (aN x z) (aN x z))))) /\ Below w.heap.size w w' := fun w => zqhr _ _ w (zqvw _ _) (zqvw _ _);have c8 : ∀ w, Calls Tryz.prog 114 #[.agg (ints .i64 16 (numN (sN x z))), .agg (ints .i64 16 (numN (sN x z)))] w fun e w' => e = .returned (.agg (ints .i64 16 (numN (mN (sN x z) (sN x z))))) /\ Below w.heap.size w w' := fun w => zqhr _ _ w (zqtw _ _) (zqtw _ _);have c9 : ∀ w, Calls Tryz.prog 133 #[.agg (ints .i64 16 (numN (mN (aN x z) (aN x z)))), .agg (ints .i64 16 (numN (mN (sN x z) (sN x z))))] w fun e w' => e = .returned (.agg (ints .i64 16 (numN (twEN x z)))) /\ Below w.heap.size w w' := fun w => zqxj _ _ w (zqio _ _) (zqio _ _)
 have c10 : ∀ w, Calls Tryz.prog 132 #[.agg (ints .i64 16 (numN (daN x z x' z'))), .agg (ints .i64 16 (numN (cbN x z x' z')))] w fun e w' => e = .returned (.agg (ints .i64 16 (numN (aN (daN x z x' z') (cbN x z x' z'))))) /\ Below w.heap.size w w' := fun w => zqxm _ _ w (zqio _ _) (zqio _ _);have c11 : ∀ w, Calls Tryz.prog 133 #[.agg (ints .i64 16 (numN (daN x z x' z'))), .agg (ints .i64 16 (numN (cbN x z x' z')))] w fun e w' => e = .returned (.agg (ints .i64 16 (numN (sN (daN x z x' z') (cbN x z x' z'))))) /\ Below w.heap.size w w' := fun w => zqxj _ _ w (zqio _ _) (zqio _ _);have d1 : ∀ w, Calls Tryz.prog 114 #[.agg (ints .i64 16 (numN (mN (aN x z) (aN x z)))), .agg (ints .i64 16 (numN (mN (sN x z) (sN x z))))] w fun e w' => e = .returned (.agg (ints .i64 16 (numN (twXN x z)))) /\ Below w.heap.size w w' := fun w => zqhr _ _ w (zqio _ _) (zqio _ _)
 have d2 : ∀ w, Calls Tryz.prog 114 #[.agg (ints .i64 16 (numN (121665))), .agg (ints .i64 16 (numN (twEN x z)))] w fun e w' => e = .returned (.agg (ints .i64 16 (numN (mN 121665 (twEN x z))))) /\ Below w.heap.size w w' := fun w => zqhr _ _ w (zqmi _ (by decide) (by decide)) (zqtw _ _);have d3 : ∀ w, Calls Tryz.prog 132 #[.agg (ints .i64 16 (numN (mN (aN x z) (aN x z)))), .agg (ints .i64 16 (numN (mN 121665 (twEN x z))))] w fun e w' => e = .returned (.agg (ints .i64 16 (numN (aN (mN (aN x z) (aN x z)) (mN 121665 (twEN x z)))))) /\ Below w.heap.size w w' := fun w => zqxm _ _ w (zqio _ _) (zqio _ _)
 have d4 : ∀ w, Calls Tryz.prog 114 #[.agg (ints .i64 16 (numN (twEN x z))), .agg (ints .i64 16 (numN (aN (mN (aN x z) (aN x z)) (mN 121665 (twEN x z)))))] w fun e w' => e = .returned (.agg (ints .i64 16 (numN (twZN x z)))) /\ Below w.heap.size w w' := fun w => zqhr _ _ w (zqtw _ _) (zqvw _ _);have d5 : ∀ w, Calls Tryz.prog 114 #[.agg (ints .i64 16 (numN (aN (daN x z x' z') (cbN x z x' z')))), .agg (ints .i64 16 (numN (aN (daN x z x' z') (cbN x z x' z'))))] w fun e w' => e = .returned (.agg (ints .i64 16 (numN (boXN x z x' z')))) /\ Below w.heap.size w w' := fun w => zqhr _ _ w (zqvw _ _) (zqvw _ _)
 have d6 : ∀ w, Calls Tryz.prog 114 #[.agg (ints .i64 16 (numN (sN (daN x z x' z') (cbN x z x' z')))), .agg (ints .i64 16 (numN (sN (daN x z x' z') (cbN x z x' z'))))] w fun e w' => e = .returned (.agg (ints .i64 16 (numN (mN (sN (daN x z x' z') (cbN x z x' z')) (sN (daN x z x' z') (cbN x z x' z')))))) /\ Below w.heap.size w w' := fun w => zqhr _ _ w (zqtw _ _) (zqtw _ _);have d7 : ∀ w, Calls Tryz.prog 114 #[.agg (ints .i64 16 (numN (u))), .agg (ints .i64 16 (numN (mN (sN (daN x z x' z') (cbN x z x' z')) (sN (daN x z x' z') (cbN x z x' z')))))] w fun e w' => e = .returned (.agg (ints .i64 16 (numN (boZN u x z x' z')))) /\ Below w.heap.size w w' := fun w => zqhr _ _ w hu (zqio _ _);have d8 := fun w => zqig 121665 w (by decide) (by decide);go_wp2_with fail
 generalize hW : ((((((((w.alloc (.cells (ints .i64 16 (numN (u))) 129)).alloc (.cells (ints .i64 16 (numN (x))) 129)).alloc (.cells (ints .i64 16 (numN (z))) 129)).alloc (.cells (ints .i64 16 (numN (x'))) 129)).alloc (.cells (ints .i64 16 (numN (z'))) 129)).alloc (.cells (ints .i64 16 zqg) 129)).alloc (.cells (ints .i64 16 zqg) 129)).alloc (.cells (ints .i64 16 zqg) 129)).alloc (.cells (ints .i64 16 zqg) 129) = w1;replace fu : zqd w1 (w.heap.size) = some (.cells (ints .i64 16 (numN (u))) 129) := zqk hW;replace fx : zqd w1 (w.heap.size + 1) = some (.cells (ints .i64 16 (numN (x))) 129) := zqk hW;replace fz : zqd w1 (w.heap.size + 1 + 1) = some (.cells (ints .i64 16 (numN (z))) 129) := zqk hW;replace fp : zqd w1 (w.heap.size + 1 + 1 + 1) = some (.cells (ints .i64 16 (numN (x'))) 129) := zqk hW
 replace fq : zqd w1 (w.heap.size + 1 + 1 + 1 + 1) = some (.cells (ints .i64 16 (numN (z'))) 129) := zqk hW;replace fr0 : zqd w1 (w.heap.size + 1 + 1 + 1 + 1 + 1) = some (.cells (ints .i64 16 zqg) 129) := zqk hW;replace fr1 : zqd w1 (w.heap.size + 1 + 1 + 1 + 1 + 1 + 1) = some (.cells (ints .i64 16 zqg) 129) := zqk hW;replace fr2 : zqd w1 (w.heap.size + 1 + 1 + 1 + 1 + 1 + 1 + 1) = some (.cells (ints .i64 16 zqg) 129) := zqk hW;replace fr3 : zqd w1 (w.heap.size + 1 + 1 + 1 + 1 + 1 + 1 + 1 + 1) = some (.cells (ints .i64 16 zqg) 129) := zqk hW;replace hG : Below w.heap.size w w1 := zq2 hW;clear hW;have lfu := zqa fu;have lfx := zqa fx;have lfz := zqa fz;have lfp := zqa fp;have lfq := zqa fq;have lfr0 := zqa fr0;have lfr1 := zqa fr1;have lfr2 := zqa fr2;have lfr3 := zqa fr3
 go_wp2_with fail
 (refine zqeh zqc zqc ?_; (repeat (first | refine zq0 rfl ?_ | (refine zqr rfl ?_; apply Exists.intro))); refine zqbl ?_; intro γ hinj hbase; (repeat (first | (refine zqab rfl ?_; ((first | go_big_quiet_skip | (go_big_quiet_want; go_big_quiet_op; go_big_quiet_on)); refine wpQuiet_nil ?_)) | ((first | refine zqq rfl (fun _ => rfl) ?_ | ((try simp only [Nat.zero_add, Nat.reduceAdd]); apply zqce zqo; (focus rfl); (focus (first | exact zqy _ | exact zq3 _ _ | exact zqv _ | rfl)); (focus (exact zqu))) | ((try simp only [Nat.zero_add, Nat.reduceAdd]); apply zqav _ _ zqo; (focus rfl); (focus (intro W; (first | exact zqa8 _ | exact zqas _ | exact zqa6 _ | exact zqaw _ | exact zqah _ | exact zqag _))); (focus (first | exact zqai _ _ _ | exact zqaq _ _ | rfl)); (focus (exact zqu))) | ((try simp only [Nat.zero_add, Nat.reduceAdd]); apply zqbc zqo; (focus rfl); (focus (intro W; simp only [List.map_toArray, List.map_cons, List.map_nil]; first | fail)); (focus (exact zqu))) | (apply zqaz; (focus rfl); (focus rfl); (focus rfl); (focus (intro W hC hF; go_big_quiet_want; go_big_quiet_op; (first | go_big_quiet_on | (apply Exists.intro; refine ⟨fun _ => ?_, ?_⟩; (focus (first | (with_reducible exact Calls.of_more (c1 _)) | (with_reducible exact Calls.of_more (c2 _)))); go_big_quiet_on)); exact wpQuiet_nil rfl)); (focus (first | exact fun _ => ⟨rfl, rfl⟩ | exact fun h => absurd h (by decide))))); ((first | go_big_quiet_skip | (go_big_quiet_want; go_big_quiet_op; go_big_quiet_on)); refine wpQuiet_nil ?_)) | refine zqp rfl (fun _ => rfl) ?_ | ((try simp only [Nat.zero_add, Nat.reduceAdd]); apply zqar (zqaj (hbase _)); (focus rfl); (focus rfl); (focus rfl); (focus (first | exact zqy _ | exact zq3 _ _ | exact zqv _ | rfl)); rotate_left 3; (focus (exact zqcq)); rotate_right 3; (focus kernel_rfl); (focus (first | exact zqh _ _ _ | rfl)); (focus (first | exact zqan _ _ _ | exact zqa3 _ _ _ _ | kernel_rfl)); (focus (decide +kernel)); (focus (exact zqu))))))
 (refine zqbz ?_; rintro _ ⟨mq, rfl⟩ hF; simp only [List.forall_mem_cons] at hF; obtain ⟨fb, fa, -⟩ := hF)
 have nab : ¬ (γ 6 = γ 7) := hinj _ _ (by decide);replace fu : zqd (more w1 mq) (w.heap.size) = some (.cells (ints .i64 16 (numN (u))) 129) := zql _ fu;replace fx : zqd (more w1 mq) (w.heap.size + 1) = some (.cells (ints .i64 16 (numN (x))) 129) := zql _ fx;replace fz : zqd (more w1 mq) (w.heap.size + 1 + 1) = some (.cells (ints .i64 16 (numN (z))) 129) := zql _ fz;replace fp : zqd (more w1 mq) (w.heap.size + 1 + 1 + 1) = some (.cells (ints .i64 16 (numN (x'))) 129) := zql _ fp;replace fq : zqd (more w1 mq) (w.heap.size + 1 + 1 + 1 + 1) = some (.cells (ints .i64 16 (numN (z'))) 129) := zql _ fq;replace fr0 : zqd (more w1 mq) (w.heap.size + 1 + 1 + 1 + 1 + 1) = some (.cells (ints .i64 16 zqg) 129) := zql _ fr0
 replace fr1 : zqd (more w1 mq) (w.heap.size + 1 + 1 + 1 + 1 + 1 + 1) = some (.cells (ints .i64 16 zqg) 129) := zql _ fr1;replace fr2 : zqd (more w1 mq) (w.heap.size + 1 + 1 + 1 + 1 + 1 + 1 + 1) = some (.cells (ints .i64 16 zqg) 129) := zql _ fr2;replace fr3 : zqd (more w1 mq) (w.heap.size + 1 + 1 + 1 + 1 + 1 + 1 + 1 + 1) = some (.cells (ints .i64 16 zqg) 129) := zql _ fr3;replace hG : Below w.heap.size w (more w1 mq) := Grew.more hG _;replace fa : zqd (more w1 mq) (γ 6) = some (.cells (ints .i64 16 (numN (aN x z))) 129) := fa;replace fb : zqd (more w1 mq) (γ 7) = some (.cells (ints .i64 16 (numN (sN x z))) 129) := fb;clear lfu lfx lfz lfp lfq lfr0 lfr1 lfr2 lfr3;clear hinj hbase;generalize γ 6 = ga at *;generalize γ 7 = gb at *;generalize more w1 mq = w2 at *;clear γ;have lfu := zqa fu;have lfx := zqa fx;have lfz := zqa fz
 have lfp := zqa fp;have lfq := zqa fq;have lfr0 := zqa fr0;have lfr1 := zqa fr1;have lfr2 := zqa fr2;have lfr3 := zqa fr3;have lfa := zqa fa;have lfb := zqa fb;go_wp2_with fail
 (refine zqeh zqc zqc ?_; (repeat (first | refine zq0 rfl ?_ | (refine zqr rfl ?_; apply Exists.intro))); refine zqbl ?_; intro γ hinj hbase; (repeat (first | (refine zqab rfl ?_; ((first | go_big_quiet_skip | (go_big_quiet_want; go_big_quiet_op; go_big_quiet_on)); refine wpQuiet_nil ?_)) | ((first | refine zqq rfl (fun _ => rfl) ?_ | ((try simp only [Nat.zero_add, Nat.reduceAdd]); apply zqce zqo; (focus rfl); (focus (first | exact zqy _ | exact zq3 _ _ | exact zqv _ | rfl)); (focus (exact zqu))) | ((try simp only [Nat.zero_add, Nat.reduceAdd]); apply zqav _ _ zqo; (focus rfl); (focus (intro W; (first | exact zqa8 _ | exact zqas _ | exact zqa6 _ | exact zqaw _ | exact zqah _ | exact zqag _))); (focus (first | exact zqai _ _ _ | exact zqaq _ _ | rfl)); (focus (exact zqu))) | ((try simp only [Nat.zero_add, Nat.reduceAdd]); apply zqbc zqo; (focus rfl); (focus (intro W; simp only [List.map_toArray, List.map_cons, List.map_nil]; first | fail)); (focus (exact zqu))) | (apply zqaz; (focus rfl); (focus rfl); (focus rfl); (focus (intro W hC hF; go_big_quiet_want; go_big_quiet_op; (first | go_big_quiet_on | (apply Exists.intro; refine ⟨fun _ => ?_, ?_⟩; (focus (first | (with_reducible exact Calls.of_more (c3 _)) | (with_reducible exact Calls.of_more (c4 _)))); go_big_quiet_on)); exact wpQuiet_nil rfl)); (focus (first | exact fun _ => ⟨rfl, rfl⟩ | exact fun h => absurd h (by decide))))); ((first | go_big_quiet_skip | (go_big_quiet_want; go_big_quiet_op; go_big_quiet_on)); refine wpQuiet_nil ?_)) | refine zqp rfl (fun _ => rfl) ?_ | ((try simp only [Nat.zero_add, Nat.reduceAdd]); apply zqar (zqaj (hbase _)); (focus rfl); (focus rfl); (focus rfl); (focus (first | exact zqy _ | exact zq3 _ _ | exact zqv _ | rfl)); rotate_left 3; (focus (exact zqcq)); rotate_right 3; (focus kernel_rfl); (focus (first | exact zqh _ _ _ | rfl)); (focus (first | exact zqan _ _ _ | exact zqa3 _ _ _ _ | kernel_rfl)); (focus (decide +kernel)); (focus (exact zqu))))))
 (refine zqbz ?_; rintro _ ⟨mq, rfl⟩ hF; simp only [List.forall_mem_cons] at hF; obtain ⟨fd, fc, -⟩ := hF)
 have ncd : ¬ (γ 6 = γ 7) := hinj _ _ (by decide);replace fu : zqd (more w2 mq) (w.heap.size) = some (.cells (ints .i64 16 (numN (u))) 129) := zql _ fu;replace fx : zqd (more w2 mq) (w.heap.size + 1) = some (.cells (ints .i64 16 (numN (x))) 129) := zql _ fx;replace fz : zqd (more w2 mq) (w.heap.size + 1 + 1) = some (.cells (ints .i64 16 (numN (z))) 129) := zql _ fz;replace fp : zqd (more w2 mq) (w.heap.size + 1 + 1 + 1) = some (.cells (ints .i64 16 (numN (x'))) 129) := zql _ fp;replace fq : zqd (more w2 mq) (w.heap.size + 1 + 1 + 1 + 1) = some (.cells (ints .i64 16 (numN (z'))) 129) := zql _ fq;replace fr0 : zqd (more w2 mq) (w.heap.size + 1 + 1 + 1 + 1 + 1) = some (.cells (ints .i64 16 zqg) 129) := zql _ fr0
 replace fr1 : zqd (more w2 mq) (w.heap.size + 1 + 1 + 1 + 1 + 1 + 1) = some (.cells (ints .i64 16 zqg) 129) := zql _ fr1;replace fr2 : zqd (more w2 mq) (w.heap.size + 1 + 1 + 1 + 1 + 1 + 1 + 1) = some (.cells (ints .i64 16 zqg) 129) := zql _ fr2;replace fr3 : zqd (more w2 mq) (w.heap.size + 1 + 1 + 1 + 1 + 1 + 1 + 1 + 1) = some (.cells (ints .i64 16 zqg) 129) := zql _ fr3;replace fa : zqd (more w2 mq) (ga) = some (.cells (ints .i64 16 (numN (aN x z))) 129) := zql _ fa;replace fb : zqd (more w2 mq) (gb) = some (.cells (ints .i64 16 (numN (sN x z))) 129) := zql _ fb;replace hG : Below w.heap.size w (more w2 mq) := Grew.more hG _;replace fc : zqd (more w2 mq) (γ 6) = some (.cells (ints .i64 16 (numN (aN x' z'))) 129) := fc;replace fd : zqd (more w2 mq) (γ 7) = some (.cells (ints .i64 16 (numN (sN x' z'))) 129) := fd
 clear lfu lfx lfz lfp lfq lfr0 lfr1 lfr2 lfr3 lfa lfb;clear hinj hbase;generalize γ 6 = gc at *;generalize γ 7 = gd at *;generalize more w2 mq = w3 at *;clear γ;have lfu := zqa fu;have lfx := zqa fx;have lfz := zqa fz;have lfp := zqa fp;have lfq := zqa fq;have lfr0 := zqa fr0;have lfr1 := zqa fr1;have lfr2 := zqa fr2;have lfr3 := zqa fr3;have lfa := zqa fa;have lfb := zqa fb;have lfc := zqa fc;have lfd := zqa fd;go_wp2_with fail
 (refine zqeh zqc zqc ?_; (repeat (first | refine zq0 rfl ?_ | (refine zqr rfl ?_; apply Exists.intro))); refine zqbl ?_; intro γ hinj hbase; (repeat (first | (refine zqab rfl ?_; ((first | go_big_quiet_skip | (go_big_quiet_want; go_big_quiet_op; go_big_quiet_on)); refine wpQuiet_nil ?_)) | ((first | refine zqq rfl (fun _ => rfl) ?_ | ((try simp only [Nat.zero_add, Nat.reduceAdd]); apply zqce zqo; (focus rfl); (focus (first | exact zqy _ | exact zq3 _ _ | exact zqv _ | rfl)); (focus (exact zqu))) | ((try simp only [Nat.zero_add, Nat.reduceAdd]); apply zqav _ _ zqo; (focus rfl); (focus (intro W; (first | exact zqa8 _ | exact zqas _ | exact zqa6 _ | exact zqaw _ | exact zqah _ | exact zqag _))); (focus (first | exact zqai _ _ _ | exact zqaq _ _ | rfl)); (focus (exact zqu))) | ((try simp only [Nat.zero_add, Nat.reduceAdd]); apply zqbc zqo; (focus rfl); (focus (intro W; simp only [List.map_toArray, List.map_cons, List.map_nil]; first | fail)); (focus (exact zqu))) | (apply zqaz; (focus rfl); (focus rfl); (focus rfl); (focus (intro W hC hF; go_big_quiet_want; go_big_quiet_op; (first | go_big_quiet_on | (apply Exists.intro; refine ⟨fun _ => ?_, ?_⟩; (focus (first | (with_reducible exact Calls.of_more (c5 _)) | (with_reducible exact Calls.of_more (c6 _)))); go_big_quiet_on)); exact wpQuiet_nil rfl)); (focus (first | exact fun _ => ⟨rfl, rfl⟩ | exact fun h => absurd h (by decide))))); ((first | go_big_quiet_skip | (go_big_quiet_want; go_big_quiet_op; go_big_quiet_on)); refine wpQuiet_nil ?_)) | refine zqp rfl (fun _ => rfl) ?_ | ((try simp only [Nat.zero_add, Nat.reduceAdd]); apply zqar (zqaj (hbase _)); (focus rfl); (focus rfl); (focus rfl); (focus (first | exact zqy _ | exact zq3 _ _ | exact zqv _ | rfl)); rotate_left 3; (focus (exact zqcq)); rotate_right 3; (focus kernel_rfl); (focus (first | exact zqh _ _ _ | rfl)); (focus (first | exact zqan _ _ _ | exact zqa3 _ _ _ _ | kernel_rfl)); (focus (decide +kernel)); (focus (exact zqu))))))
 (refine zqbz ?_; rintro _ ⟨mq, rfl⟩ hF; simp only [List.forall_mem_cons] at hF; obtain ⟨fcb, fda, -⟩ := hF)
 have ncbda : ¬ (γ 7 = γ 6) := hinj _ _ (by decide);replace fu : zqd (more w3 mq) (w.heap.size) = some (.cells (ints .i64 16 (numN (u))) 129) := zql _ fu;replace fx : zqd (more w3 mq) (w.heap.size + 1) = some (.cells (ints .i64 16 (numN (x))) 129) := zql _ fx;replace fz : zqd (more w3 mq) (w.heap.size + 1 + 1) = some (.cells (ints .i64 16 (numN (z))) 129) := zql _ fz;replace fp : zqd (more w3 mq) (w.heap.size + 1 + 1 + 1) = some (.cells (ints .i64 16 (numN (x'))) 129) := zql _ fp;replace fq : zqd (more w3 mq) (w.heap.size + 1 + 1 + 1 + 1) = some (.cells (ints .i64 16 (numN (z'))) 129) := zql _ fq;replace fr0 : zqd (more w3 mq) (w.heap.size + 1 + 1 + 1 + 1 + 1) = some (.cells (ints .i64 16 zqg) 129) := zql _ fr0
 replace fr1 : zqd (more w3 mq) (w.heap.size + 1 + 1 + 1 + 1 + 1 + 1) = some (.cells (ints .i64 16 zqg) 129) := zql _ fr1;replace fr2 : zqd (more w3 mq) (w.heap.size + 1 + 1 + 1 + 1 + 1 + 1 + 1) = some (.cells (ints .i64 16 zqg) 129) := zql _ fr2;replace fr3 : zqd (more w3 mq) (w.heap.size + 1 + 1 + 1 + 1 + 1 + 1 + 1 + 1) = some (.cells (ints .i64 16 zqg) 129) := zql _ fr3;replace fa : zqd (more w3 mq) (ga) = some (.cells (ints .i64 16 (numN (aN x z))) 129) := zql _ fa;replace fb : zqd (more w3 mq) (gb) = some (.cells (ints .i64 16 (numN (sN x z))) 129) := zql _ fb;replace fc : zqd (more w3 mq) (gc) = some (.cells (ints .i64 16 (numN (aN x' z'))) 129) := zql _ fc;replace fd : zqd (more w3 mq) (gd) = some (.cells (ints .i64 16 (numN (sN x' z'))) 129) := zql _ fd;replace hG : Below w.heap.size w (more w3 mq) := Grew.more hG _
 replace fda : zqd (more w3 mq) (γ 6) = some (.cells (ints .i64 16 (numN (daN x z x' z'))) 129) := fda;replace fcb : zqd (more w3 mq) (γ 7) = some (.cells (ints .i64 16 (numN (cbN x z x' z'))) 129) := fcb;clear lfu lfx lfz lfp lfq lfr0 lfr1 lfr2 lfr3 lfa lfb lfc lfd;clear hinj hbase;generalize γ 6 = gda at *;generalize γ 7 = gcb at *;generalize more w3 mq = w4 at *;clear γ;have lfu := zqa fu;have lfx := zqa fx;have lfz := zqa fz;have lfp := zqa fp;have lfq := zqa fq;have lfr0 := zqa fr0;have lfr1 := zqa fr1;have lfr2 := zqa fr2;have lfr3 := zqa fr3;have lfa := zqa fa;have lfb := zqa fb;have lfc := zqa fc;have lfd := zqa fd;have lfda := zqa fda;have lfcb := zqa fcb;clear fc lfc;clear fd lfd;clear fx lfx;clear fz lfz;clear fp lfp;clear fq lfq;go_wp2_with fail
 (refine zqeh zqc zqc ?_; (repeat (first | refine zq0 rfl ?_ | (refine zqr rfl ?_; apply Exists.intro))); refine zqbl ?_; intro γ hinj hbase; (repeat (first | (refine zqab rfl ?_; ((first | go_big_quiet_skip | (go_big_quiet_want; go_big_quiet_op; go_big_quiet_on)); refine wpQuiet_nil ?_)) | ((first | refine zqq rfl (fun _ => rfl) ?_ | ((try simp only [Nat.zero_add, Nat.reduceAdd]); apply zqce zqo; (focus rfl); (focus (first | exact zqy _ | exact zq3 _ _ | exact zqv _ | rfl)); (focus (exact zqu))) | ((try simp only [Nat.zero_add, Nat.reduceAdd]); apply zqav _ _ zqo; (focus rfl); (focus (intro W; (first | exact zqa8 _ | exact zqas _ | exact zqa6 _ | exact zqaw _ | exact zqah _ | exact zqag _))); (focus (first | exact zqai _ _ _ | exact zqaq _ _ | rfl)); (focus (exact zqu))) | ((try simp only [Nat.zero_add, Nat.reduceAdd]); apply zqbc zqo; (focus rfl); (focus (intro W; simp only [List.map_toArray, List.map_cons, List.map_nil]; first | fail)); (focus (exact zqu))) | (apply zqaz; (focus rfl); (focus rfl); (focus rfl); (focus (intro W hC hF; go_big_quiet_want; go_big_quiet_op; (first | go_big_quiet_on | (apply Exists.intro; refine ⟨fun _ => ?_, ?_⟩; (focus (first | (with_reducible exact Calls.of_more (c7 _)) | (with_reducible exact Calls.of_more (c8 _)))); go_big_quiet_on)); exact wpQuiet_nil rfl)); (focus (first | exact fun _ => ⟨rfl, rfl⟩ | exact fun h => absurd h (by decide))))); ((first | go_big_quiet_skip | (go_big_quiet_want; go_big_quiet_op; go_big_quiet_on)); refine wpQuiet_nil ?_)) | refine zqp rfl (fun _ => rfl) ?_ | ((try simp only [Nat.zero_add, Nat.reduceAdd]); apply zqar (zqaj (hbase _)); (focus rfl); (focus rfl); (focus rfl); (focus (first | exact zqy _ | exact zq3 _ _ | exact zqv _ | rfl)); rotate_left 3; (focus (exact zqcq)); rotate_right 3; (focus kernel_rfl); (focus (first | exact zqh _ _ _ | rfl)); (focus (first | exact zqan _ _ _ | exact zqa3 _ _ _ _ | kernel_rfl)); (focus (decide +kernel)); (focus (exact zqu))))))
 (refine zqbz ?_; rintro _ ⟨mq, rfl⟩ hF; simp only [List.forall_mem_cons] at hF; obtain ⟨fbb, faa, -⟩ := hF)
 have naabb : ¬ (γ 6 = γ 7) := hinj _ _ (by decide);replace fu : zqd (more w4 mq) (w.heap.size) = some (.cells (ints .i64 16 (numN (u))) 129) := zql _ fu;replace fr0 : zqd (more w4 mq) (w.heap.size + 1 + 1 + 1 + 1 + 1) = some (.cells (ints .i64 16 zqg) 129) := zql _ fr0;replace fr1 : zqd (more w4 mq) (w.heap.size + 1 + 1 + 1 + 1 + 1 + 1) = some (.cells (ints .i64 16 zqg) 129) := zql _ fr1;replace fr2 : zqd (more w4 mq) (w.heap.size + 1 + 1 + 1 + 1 + 1 + 1 + 1) = some (.cells (ints .i64 16 zqg) 129) := zql _ fr2;replace fr3 : zqd (more w4 mq) (w.heap.size + 1 + 1 + 1 + 1 + 1 + 1 + 1 + 1) = some (.cells (ints .i64 16 zqg) 129) := zql _ fr3;replace fa : zqd (more w4 mq) (ga) = some (.cells (ints .i64 16 (numN (aN x z))) 129) := zql _ fa
 replace fb : zqd (more w4 mq) (gb) = some (.cells (ints .i64 16 (numN (sN x z))) 129) := zql _ fb;replace fda : zqd (more w4 mq) (gda) = some (.cells (ints .i64 16 (numN (daN x z x' z'))) 129) := zql _ fda;replace fcb : zqd (more w4 mq) (gcb) = some (.cells (ints .i64 16 (numN (cbN x z x' z'))) 129) := zql _ fcb;replace hG : Below w.heap.size w (more w4 mq) := Grew.more hG _;replace faa : zqd (more w4 mq) (γ 6) = some (.cells (ints .i64 16 (numN (mN (aN x z) (aN x z)))) 129) := faa;replace fbb : zqd (more w4 mq) (γ 7) = some (.cells (ints .i64 16 (numN (mN (sN x z) (sN x z)))) 129) := fbb;clear lfu lfr0 lfr1 lfr2 lfr3 lfa lfb lfda lfcb;clear hinj hbase;generalize γ 6 = gaa at *;generalize γ 7 = gbb at *;generalize more w4 mq = w5 at *;clear γ;have lfu := zqa fu;have lfr0 := zqa fr0;have lfr1 := zqa fr1;have lfr2 := zqa fr2
 have lfr3 := zqa fr3;have lfa := zqa fa;have lfb := zqa fb;have lfda := zqa fda;have lfcb := zqa fcb;have lfaa := zqa faa;have lfbb := zqa fbb;clear fa lfa;clear fb lfb;go_wp2_with fail
 (refine (c9 _).mono ?_; rintro e w6 ⟨rfl, hb⟩; replace fu : zqd w6 (w.heap.size) = some (.cells (ints .i64 16 (numN (u))) 129) := zqb hb (by exact zqe); have lfu := zqa fu; replace fr0 : zqd w6 (w.heap.size + 1 + 1 + 1 + 1 + 1) = some (.cells (ints .i64 16 zqg) 129) := zqb hb (by exact zqe); have lfr0 := zqa fr0; replace fr1 : zqd w6 (w.heap.size + 1 + 1 + 1 + 1 + 1 + 1) = some (.cells (ints .i64 16 zqg) 129) := zqb hb (by exact zqe); have lfr1 := zqa fr1; replace fr2 : zqd w6 (w.heap.size + 1 + 1 + 1 + 1 + 1 + 1 + 1) = some (.cells (ints .i64 16 zqg) 129) := zqb hb (by exact zqe); have lfr2 := zqa fr2; replace fr3 : zqd w6 (w.heap.size + 1 + 1 + 1 + 1 + 1 + 1 + 1 + 1) = some (.cells (ints .i64 16 zqg) 129) := zqb hb (by exact zqe); have lfr3 := zqa fr3; replace fda : zqd w6 (gda) = some (.cells (ints .i64 16 (numN (daN x z x' z'))) 129) := zqb hb (by exact zqe); have lfda := zqa fda; replace fcb : zqd w6 (gcb) = some (.cells (ints .i64 16 (numN (cbN x z x' z'))) 129) := zqb hb (by exact zqe); have lfcb := zqa fcb; replace faa : zqd w6 (gaa) = some (.cells (ints .i64 16 (numN (mN (aN x z) (aN x z)))) 129) := zqb hb (by exact zqe); have lfaa := zqa faa; replace fbb : zqd w6 (gbb) = some (.cells (ints .i64 16 (numN (mN (sN x z) (sN x z)))) 129) := zqb hb (by exact zqe); have lfbb := zqa fbb; replace hG : Below w.heap.size w w6 := Grew.trans (by exact zqf) hb; clear hb)
 go_wp2_with fail;have fe : zqd (w6.alloc (.cells (ints .i64 16 (numN (twEN x z))) 129)) w6.heap.size = some (.cells (ints .i64 16 (numN (twEN x z))) 129) := zqj _ _ _ rfl;replace fu : zqd (w6.alloc (.cells (ints .i64 16 (numN (twEN x z))) 129)) (w.heap.size) = some (.cells (ints .i64 16 (numN (u))) 129) := zqm _ fu;replace fr0 : zqd (w6.alloc (.cells (ints .i64 16 (numN (twEN x z))) 129)) (w.heap.size + 1 + 1 + 1 + 1 + 1) = some (.cells (ints .i64 16 zqg) 129) := zqm _ fr0;replace fr1 : zqd (w6.alloc (.cells (ints .i64 16 (numN (twEN x z))) 129)) (w.heap.size + 1 + 1 + 1 + 1 + 1 + 1) = some (.cells (ints .i64 16 zqg) 129) := zqm _ fr1;replace fr2 : zqd (w6.alloc (.cells (ints .i64 16 (numN (twEN x z))) 129)) (w.heap.size + 1 + 1 + 1 + 1 + 1 + 1 + 1) = some (.cells (ints .i64 16 zqg) 129) := zqm _ fr2
 replace fr3 : zqd (w6.alloc (.cells (ints .i64 16 (numN (twEN x z))) 129)) (w.heap.size + 1 + 1 + 1 + 1 + 1 + 1 + 1 + 1) = some (.cells (ints .i64 16 zqg) 129) := zqm _ fr3;replace fda : zqd (w6.alloc (.cells (ints .i64 16 (numN (twEN x z))) 129)) (gda) = some (.cells (ints .i64 16 (numN (daN x z x' z'))) 129) := zqm _ fda;replace fcb : zqd (w6.alloc (.cells (ints .i64 16 (numN (twEN x z))) 129)) (gcb) = some (.cells (ints .i64 16 (numN (cbN x z x' z'))) 129) := zqm _ fcb;replace faa : zqd (w6.alloc (.cells (ints .i64 16 (numN (twEN x z))) 129)) (gaa) = some (.cells (ints .i64 16 (numN (mN (aN x z) (aN x z)))) 129) := zqm _ faa;replace fbb : zqd (w6.alloc (.cells (ints .i64 16 (numN (twEN x z))) 129)) (gbb) = some (.cells (ints .i64 16 (numN (mN (sN x z) (sN x z)))) 129) := zqm _ fbb
 replace hG : Below w.heap.size w (w6.alloc (.cells (ints .i64 16 (numN (twEN x z))) 129)) := Grew.alloc hG _;clear lfu lfr0 lfr1 lfr2 lfr3 lfda lfcb lfaa lfbb;generalize w6.alloc (.cells (ints .i64 16 (numN (twEN x z))) 129) = w7 at *;generalize w6.heap.size = ge at *;have lfu := zqa fu;have lfr0 := zqa fr0;have lfr1 := zqa fr1;have lfr2 := zqa fr2;have lfr3 := zqa fr3;have lfda := zqa fda;have lfcb := zqa fcb;have lfaa := zqa faa;have lfbb := zqa fbb;have lfe := zqa fe;go_wp2_with fail
 (refine zqeh zqc zqc ?_; (repeat (first | refine zq0 rfl ?_ | (refine zqr rfl ?_; apply Exists.intro))); refine zqbl ?_; intro γ hinj hbase; (repeat (first | (refine zqab rfl ?_; ((first | go_big_quiet_skip | (go_big_quiet_want; go_big_quiet_op; go_big_quiet_on)); refine wpQuiet_nil ?_)) | ((first | refine zqq rfl (fun _ => rfl) ?_ | ((try simp only [Nat.zero_add, Nat.reduceAdd]); apply zqce zqo; (focus rfl); (focus (first | exact zqy _ | exact zq3 _ _ | exact zqv _ | rfl)); (focus (exact zqu))) | ((try simp only [Nat.zero_add, Nat.reduceAdd]); apply zqav _ _ zqo; (focus rfl); (focus (intro W; (first | exact zqa8 _ | exact zqas _ | exact zqa6 _ | exact zqaw _ | exact zqah _ | exact zqag _))); (focus (first | exact zqai _ _ _ | exact zqaq _ _ | rfl)); (focus (exact zqu))) | ((try simp only [Nat.zero_add, Nat.reduceAdd]); apply zqbc zqo; (focus rfl); (focus (intro W; simp only [List.map_toArray, List.map_cons, List.map_nil]; first | fail)); (focus (exact zqu))) | (apply zqaz; (focus rfl); (focus rfl); (focus rfl); (focus (intro W hC hF; go_big_quiet_want; go_big_quiet_op; (first | go_big_quiet_on | (apply Exists.intro; refine ⟨fun _ => ?_, ?_⟩; (focus (first | (with_reducible exact Calls.of_more (c10 _)) | (with_reducible exact Calls.of_more (c11 _)))); go_big_quiet_on)); exact wpQuiet_nil rfl)); (focus (first | exact fun _ => ⟨rfl, rfl⟩ | exact fun h => absurd h (by decide))))); ((first | go_big_quiet_skip | (go_big_quiet_want; go_big_quiet_op; go_big_quiet_on)); refine wpQuiet_nil ?_)) | refine zqp rfl (fun _ => rfl) ?_ | ((try simp only [Nat.zero_add, Nat.reduceAdd]); apply zqar (zqaj (hbase _)); (focus rfl); (focus rfl); (focus rfl); (focus (first | exact zqy _ | exact zq3 _ _ | exact zqv _ | rfl)); rotate_left 3; (focus (exact zqcq)); rotate_right 3; (focus kernel_rfl); (focus (first | exact zqh _ _ _ | rfl)); (focus (first | exact zqan _ _ _ | exact zqa3 _ _ _ _ | kernel_rfl)); (focus (decide +kernel)); (focus (exact zqu))))))
 (refine zqbz ?_; rintro _ ⟨mq, rfl⟩ hF; simp only [List.forall_mem_cons] at hF; obtain ⟨fdif, fsum, -⟩ := hF)
 have ndifsum : ¬ (γ 7 = γ 6) := hinj _ _ (by decide);replace fu : zqd (more w7 mq) (w.heap.size) = some (.cells (ints .i64 16 (numN (u))) 129) := zql _ fu;replace fr0 : zqd (more w7 mq) (w.heap.size + 1 + 1 + 1 + 1 + 1) = some (.cells (ints .i64 16 zqg) 129) := zql _ fr0;replace fr1 : zqd (more w7 mq) (w.heap.size + 1 + 1 + 1 + 1 + 1 + 1) = some (.cells (ints .i64 16 zqg) 129) := zql _ fr1;replace fr2 : zqd (more w7 mq) (w.heap.size + 1 + 1 + 1 + 1 + 1 + 1 + 1) = some (.cells (ints .i64 16 zqg) 129) := zql _ fr2;replace fr3 : zqd (more w7 mq) (w.heap.size + 1 + 1 + 1 + 1 + 1 + 1 + 1 + 1) = some (.cells (ints .i64 16 zqg) 129) := zql _ fr3;replace fda : zqd (more w7 mq) (gda) = some (.cells (ints .i64 16 (numN (daN x z x' z'))) 129) := zql _ fda
 replace fcb : zqd (more w7 mq) (gcb) = some (.cells (ints .i64 16 (numN (cbN x z x' z'))) 129) := zql _ fcb;replace faa : zqd (more w7 mq) (gaa) = some (.cells (ints .i64 16 (numN (mN (aN x z) (aN x z)))) 129) := zql _ faa;replace fbb : zqd (more w7 mq) (gbb) = some (.cells (ints .i64 16 (numN (mN (sN x z) (sN x z)))) 129) := zql _ fbb;replace fe : zqd (more w7 mq) (ge) = some (.cells (ints .i64 16 (numN (twEN x z))) 129) := zql _ fe;replace hG : Below w.heap.size w (more w7 mq) := Grew.more hG _;replace fsum : zqd (more w7 mq) (γ 6) = some (.cells (ints .i64 16 (numN (aN (daN x z x' z') (cbN x z x' z')))) 129) := fsum;replace fdif : zqd (more w7 mq) (γ 7) = some (.cells (ints .i64 16 (numN (sN (daN x z x' z') (cbN x z x' z')))) 129) := fdif;clear lfu lfr0 lfr1 lfr2 lfr3 lfda lfcb lfaa lfbb lfe;clear hinj hbase;generalize γ 6 = gsum at *
 generalize γ 7 = gdif at *;generalize more w7 mq = w8 at *;clear γ;have lfu := zqa fu;have lfr0 := zqa fr0;have lfr1 := zqa fr1;have lfr2 := zqa fr2;have lfr3 := zqa fr3;have lfda := zqa fda;have lfcb := zqa fcb;have lfaa := zqa faa;have lfbb := zqa fbb;have lfe := zqa fe;have lfsum := zqa fsum;have lfdif := zqa fdif;clear fda lfda;clear fcb lfcb;have n2 : ¬ (w.heap.size + 1 + 1 = w.heap.size) := by omega
 have n3 : ¬ (w.heap.size + 1 + 1 + 1 = w.heap.size) := by omega
 clear c1 c2 c3 c4 c5 c6 c7 c8 c9 c10 c11;go_wp2_with fail
 ((first | (with_reducible refine zqjh 18 zqc zqc zqc zqc zqc ?_) | refine zqin 18 zqc zqc zqc zqc zqc ?_); simp only [List.take_succ_cons, List.take_zero]; (repeat (first | go_big_quiet_skip | (go_big_quiet_want; go_big_quiet_op; first | go_big_quiet_on | (apply Exists.intro; refine ⟨fun _ => ?_, ?_⟩; (focus (first | (with_reducible exact Calls.of_more (d1 _)) | (with_reducible exact Calls.of_more (d2 _)) | (with_reducible exact Calls.of_more (d3 _)) | (with_reducible exact Calls.of_more (d4 _)) | (with_reducible exact Calls.of_more (d5 _)) | (with_reducible exact Calls.of_more (d6 _)) | (with_reducible exact Calls.of_more (d7 _)) | (with_reducible exact Calls.of_more (d8 _)))); go_big_quiet_on)))); refine wpQuiet_nil ?_; rintro _ ⟨mq, rfl⟩)
 (refine zqaa (i := 18) (fuel := 3) zqc rfl ?_; intro K hK; go_simp; refine hK _ _ ?_; clear hK K)
 (refine zqaa (i := 19) (fuel := 2) zqc rfl ?_; intro K hK; go_simp; refine hK _ _ ?_; clear hK K)
 (refine zqaa (i := 20) (fuel := 1) zqc rfl ?_; intro K hK; go_simp; refine hK _ _ ?_; clear hK K)
 (refine zqaa (i := 21) (fuel := 0) zqc rfl ?_; intro K hK; go_simp; refine hK _ _ ?_; clear hK K)
 (refine wpAny_done zqc ?_ _)
 go_wp2;refine zq8o 129 rfl _ _ _ _ _ _ _ _ rfl rfl rfl rfl (zql _ (zqi _ _ (zqi _ _ (zqi _ _ (zqs _ (fr0)) (by omega)) (by omega)) (by omega))) (zql _ (zqi _ _ (zqi _ _ (zqs _ (zqi _ _ (fr1) (by omega))) (by omega)) (by omega))) (zql _ (zqi _ _ (zqs _ (zqi _ _ (zqi _ _ (fr2) (by omega)) (by omega))) (by omega))) (zql _ (zqs _ (zqi _ _ (zqi _ _ (zqi _ _ (fr3) (by omega)) (by omega)) (by omega)))) Tryz.underlying129 rfl (n := 16) zqc (zqh _ _ _) (zqh _ _ _) (zqh _ _ _) (zqh _ _ _) rfl ⟨rfl, Grew.more (Grew.setRow (Grew.setRow (Grew.setRow (Grew.setRow hG _ _ (by omega)) _ _ (by omega)) _ _ (by omega)) _ _ (by omega)) _⟩
end Go.Proofs.YtconieddcjpbjaaGreatDoor
namespace Go.Proofs.YtconieddcjpbjaaGreatDoor
open Go.RowKit
open Edw (red tv)
structure Nu where
 a : Int
 b : Int
 c : Int
 e : Int
def swN (bit : Int) (s : Nu) : Nu := if bit = 0 then s else ⟨s.c, s.e, s.a, s.b⟩
theorem zqr0 (s : Nu) : swN 0 s = s := if_pos rfl
theorem zqns (s : Nu) : swN 1 s = ⟨s.c, s.e, s.a, s.b⟩ := if_neg (by decide)
def stN (u : Int) (s : Nu) : Nu := ⟨twXN s.a s.b, twZN s.a s.b, boXN s.a s.b s.c s.e, boZN u s.a s.b s.c s.e⟩
def ruN (u : Int) (k : Nat -> Int) : Nat -> Nu
 | 0 => ⟨1, 0, u, 1⟩
 | c + 1 => swN (bitN k (255 - c)) (stN u (swN (bitN k (255 - c)) (ruN u k c)))
structure BDP (s : Nu) : Prop where
 a : BD s.a
 b : BD s.b
 c : BD s.c
 e : BD s.e
theorem BDP.sw {s : Nu} (h : BDP s) (b : Int) : BDP (swN b s) := by
 unfold swN
 split
 ·exact h
 ·exact ⟨h.c, h.e, h.a, h.b⟩
theorem BDP.st (s : Nu) (u : Int) : BDP (stN u s) := ⟨zqio _ _, zqio _ _, zqio _ _, zqio _ _⟩
theorem zrie (u : Int) (k : Nat -> Int) (hu : BD u) : ∀ c, BDP (ruN u k c)
 | 0 => ⟨zqmi 1 (by decide) (by decide), zqmi 0 (by decide) (by decide), hu, zqmi 1 (by decide) (by decide)⟩
 | c + 1 => (BDP.st _ u).sw _
theorem zq4h (u : Int) (s : Nu) (w : World) (hu : BD u) (h : BDP s) : Calls Tryz.prog 113 #[.agg (ints .i64 16 (numN (u))), .agg (ints .i64 16 (numN (s.a))), .agg (ints .i64 16 (numN (s.b))), .agg (ints .i64 16 (numN (s.c))), .agg (ints .i64 16 (numN (s.e)))] w fun e w' => e = .returned (.tuple #[.agg (ints .i64 16 (numN ((stN u s).a))), .agg (ints .i64 16 (numN ((stN u s).b))), .agg (ints .i64 16 (numN ((stN u s).c))), .agg (ints .i64 16 (numN ((stN u s).e)))]) /\ Below w.heap.size w w' := zq1n u s.a s.b s.c s.e w hu h.a h.b h.c h.e
theorem zqs1 (x y : Int) : red (aN x y) = red x + red y := by unfold aN; rw [Edw.red_mod, Edw.red_add]
theorem zqxn (x y : Int) : red (sN x y) = red x - red y := by unfold sN; rw [Edw.red_mod, Edw.red_sub]
theorem zqqa (x y : Int) : red (mN x y) = red x * red y := by unfold mN; rw [Edw.red_mod, Edw.red_mul]
theorem zrh7 (x : Int) : red (iN x) = Edw.finv (red x) := by unfold iN Edw.finv; rw [Edw.red_mod, Edw.red_pow]
theorem zq9b (x z : Int) : red (twEN x z) = Edw.dblE (red x) (red z) := by simp only [twEN, Edw.dblE, zqqa, zqs1, zqxn]
theorem zqxd (x z : Int) : red (twXN x z) = Edw.dblX (red x) (red z) := by simp only [twXN, Edw.dblX, zqqa, zqs1, zqxn]
theorem zqxa (x z : Int) : red (twZN x z) = Edw.dblZ (red x) (red z) := by simp only [twZN, Edw.dblZ, zqqa, zqs1, zq9b, zq2o]
theorem zqwv (x z x' z' : Int) : red (boXN x z x' z') = Edw.difX (red x) (red z) (red x') (red z') := by simp only [boXN, daN, cbN, Edw.difX, zqqa, zqs1, zqxn]
theorem zqxq (u x z x' z' : Int) : red (boZN u x z x' z') = Edw.difZ (red u) (red x) (red z) (red x') (red z') := by simp only [boZN, daN, cbN, Edw.difZ, zqqa, zqs1, zqxn]
def stRN (s : Nu) : Edw.St Edw.Gp := ⟨red s.a, red s.b, red s.c, red s.e⟩
theorem zq2v (u : Int) (k : Nat -> Int) (hk : Bytes 32 k) : ∀ c, c <= 256 -> stRN (ruN u k c) = Edw.runN (red u) (knum k 32) c
 | 0, _ => by simp only [ruN, stRN, Edw.runN, Edw.red_one, Edw.red_zero]
 | c + 1, hc => by
  have ih := zq2v u k hk c (by omega);have hb := zqme k hk (255 - c) (by omega);have h01 := zqi6 k (255 - c)
  show stRN (swN (bitN k (255 - c)) (stN u (swN (bitN k (255 - c)) (ruN u k c)))) = Edw.stp (red u) (Edw.bitN (knum k 32) (255 - c)) (Edw.runN (red u) (knum k 32) c)
  rw [<- ih];unfold Edw.bitN;rw [hb];generalize ruN u k c = s;generalize bitN k (255 - c) = B at *
  rcases h01 with rfl | rfl
  ·rw [zqr0, zqr0]; simp only [stN, stRN, zqxd, zqxa, zqwv, zqxq]; rfl
  ·rw [zqns, zqns]; simp only [stN, stRN, zqxd, zqxa, zqwv, zqxq]; rfl
theorem zq1q (u : Int) (k : Nat -> Int) (hk : Bytes 32 k) : mN (ruN u k 256).a (iN (ruN u k 256).b) = tv (knum k 32) u := by
 refine Edw.tv_of (zqio _ _) ?_
 rw [zqqa, zrh7];have h := zq2v u k hk 256 (Nat.le_refl _);unfold Edw.lad
 show (stRN (ruN u k 256)).a * Edw.finv (stRN (ruN u k 256)).b = _
 rw [h]
structure TimesNInv (u : Int) (k : Nat -> Int) (ga gb gc ge : Nat) (w : World) (c : Nat) (wr : World) : Prop where
 g : Below w.heap.size w wr
 fk : zqd wr (w.heap.size) = some (.cells (ints .u8 32 (k)) 23)
 fx : zqd wr (w.heap.size + 1) = some (.cells (ints .i64 16 (numN (u))) 129)
 fr : zqd wr (w.heap.size + 1 + 1) = some (.cells (ints .i64 16 zqg) 129)
 fa : zqd wr ga = some (.cells (ints .i64 16 (numN ((ruN u k c).a))) 129)
 fb : zqd wr gb = some (.cells (ints .i64 16 (numN ((ruN u k c).b))) 129)
 fc : zqd wr gc = some (.cells (ints .i64 16 (numN ((ruN u k c).c))) 129)
 fe : zqd wr ge = some (.cells (ints .i64 16 (numN ((ruN u k c).e))) 129)
set_option maxHeartbeats 2000000 in
theorem zqsd (k : Nat -> Int) (u : Int) (w : World) (hk : Bytes 32 k) (hu : BD u) :
  Calls Tryz.prog 97 #[.agg (ints .u8 32 (k)), .agg (ints .i64 16 (numN (u)))] w fun e w' => e = .returned (.agg (ints .i64 16 (numN (tv (knum k 32) u)))) /\ Below w.heap.size w w' := by
 have hG := Grew.refl w;have fk : True := trivial;have fx : True := trivial;have fr : True := trivial
 go_enter Tryz.func97, Tryz.ntmps97
 go_wp2_with fail;generalize hW : ((w.alloc (.cells (ints .u8 32 (k)) 23)).alloc (.cells (ints .i64 16 (numN (u))) 129)).alloc (.cells (ints .i64 16 zqg) 129) = w1;replace fk : zqd w1 (w.heap.size) = some (.cells (ints .u8 32 (k)) 23) := zqk hW;replace fx : zqd w1 (w.heap.size + 1) = some (.cells (ints .i64 16 (numN (u))) 129) := zqk hW;replace fr : zqd w1 (w.heap.size + 1 + 1) = some (.cells (ints .i64 16 zqg) 129) := zqk hW;replace hG : Below w.heap.size w w1 := zq2 hW;clear hW;have lfk := zqa fk;have lfx := zqa fx;have lfr := zqa fr;go_wp2_with fail
 (refine zqeh zqc zqc ?_; (repeat (first | refine zq0 rfl ?_ | (refine zqr rfl ?_; apply Exists.intro))); refine zqbl ?_; intro γ hinj hbase; (repeat (first | (refine zqab rfl ?_; ((first | go_big_quiet_skip | (go_big_quiet_want; go_big_quiet_op; go_big_quiet_on)); refine wpQuiet_nil ?_)) | ((first | refine zqq rfl (fun _ => rfl) ?_ | ((try simp only [Nat.zero_add, Nat.reduceAdd]); apply zqce zqo; (focus rfl); (focus (first | exact zqy _ | exact zq3 _ _ | exact zqv _ | rfl)); (focus (exact zqu))) | ((try simp only [Nat.zero_add, Nat.reduceAdd]); apply zqav _ _ zqo; (focus rfl); (focus (intro W; (first | exact zqa8 _ | exact zqas _ | exact zqa6 _ | exact zqaw _ | exact zqah _ | exact zqag _))); (focus (first | exact zqai _ _ _ | exact zqaq _ _ | rfl)); (focus (exact zqu))) | ((try simp only [Nat.zero_add, Nat.reduceAdd]); apply zqbc zqo; (focus rfl); (focus (intro W; simp only [List.map_toArray, List.map_cons, List.map_nil]; first | fail)); (focus (exact zqu))) | (apply zqaz; (focus rfl); (focus rfl); (focus rfl); (focus (intro W hC hF; go_big_quiet_want; go_big_quiet_op; (first | go_big_quiet_on | (apply Exists.intro; refine ⟨fun _ => ?_, ?_⟩; (focus (first | (with_reducible exact Calls.of_more (zqig 1 _ (by decide) (by decide))) | (with_reducible exact Calls.of_more (zqig 0 _ (by decide) (by decide))))); go_big_quiet_on)); exact wpQuiet_nil rfl)); (focus (first | exact fun _ => ⟨rfl, rfl⟩ | exact fun h => absurd h (by decide))))); ((first | go_big_quiet_skip | (go_big_quiet_want; go_big_quiet_op; go_big_quiet_on)); refine wpQuiet_nil ?_)) | refine zqp rfl (fun _ => rfl) ?_ | ((try simp only [Nat.zero_add, Nat.reduceAdd]); apply zqar (zqaj (hbase _)); (focus rfl); (focus rfl); (focus rfl); (focus (first | exact zqy _ | exact zq3 _ _ | exact zqv _ | rfl)); rotate_left 3; (focus (exact zqcq)); rotate_right 3; (focus kernel_rfl); (focus (first | exact zqh _ _ _ | rfl)); (focus (first | exact zqan _ _ _ | exact zqa3 _ _ _ _ | kernel_rfl)); (focus (decide +kernel)); (focus (exact zqu))))))
 (refine zqbz ?_; rintro _ ⟨mq, rfl⟩ hF; simp only [List.forall_mem_cons] at hF; obtain ⟨fe, fc, fb, fa, -⟩ := hF)
 have nak : ¬ (γ 4 = w.heap.size) := by have := hbase 4; omega
 have nka : ¬ (w.heap.size = γ 4) := fun e => nak e.symm;have nax : ¬ (γ 4 = w.heap.size + 1) := by have := hbase 4; omega
 have nxa : ¬ (w.heap.size + 1 = γ 4) := fun e => nax e.symm;have nar : ¬ (γ 4 = w.heap.size + 1 + 1) := by have := hbase 4; omega
 have nra : ¬ (w.heap.size + 1 + 1 = γ 4) := fun e => nar e.symm;have nbk : ¬ (γ 5 = w.heap.size) := by have := hbase 5; omega
 have nkb : ¬ (w.heap.size = γ 5) := fun e => nbk e.symm;have nbx : ¬ (γ 5 = w.heap.size + 1) := by have := hbase 5; omega
 have nxb : ¬ (w.heap.size + 1 = γ 5) := fun e => nbx e.symm;have nbr : ¬ (γ 5 = w.heap.size + 1 + 1) := by have := hbase 5; omega
 have nrb : ¬ (w.heap.size + 1 + 1 = γ 5) := fun e => nbr e.symm;have nck : ¬ (γ 6 = w.heap.size) := by have := hbase 6; omega
 have nkc : ¬ (w.heap.size = γ 6) := fun e => nck e.symm;have ncx : ¬ (γ 6 = w.heap.size + 1) := by have := hbase 6; omega
 have nxc : ¬ (w.heap.size + 1 = γ 6) := fun e => ncx e.symm;have ncr : ¬ (γ 6 = w.heap.size + 1 + 1) := by have := hbase 6; omega
 have nrc : ¬ (w.heap.size + 1 + 1 = γ 6) := fun e => ncr e.symm;have nek : ¬ (γ 7 = w.heap.size) := by have := hbase 7; omega
 have nke : ¬ (w.heap.size = γ 7) := fun e => nek e.symm;have nex : ¬ (γ 7 = w.heap.size + 1) := by have := hbase 7; omega
 have nxe : ¬ (w.heap.size + 1 = γ 7) := fun e => nex e.symm;have ner : ¬ (γ 7 = w.heap.size + 1 + 1) := by have := hbase 7; omega
 have nre : ¬ (w.heap.size + 1 + 1 = γ 7) := fun e => ner e.symm;have hw0 := hG.size;have l0a : w.heap.size <= γ 4 := by have := hbase 4; omega
 have l0b : w.heap.size <= γ 5 := by have := hbase 5; omega
 have l0c : w.heap.size <= γ 6 := by have := hbase 6; omega
 have l0e : w.heap.size <= γ 7 := by have := hbase 7; omega
 clear hw0;have nab : ¬ (γ 4 = γ 5) := hinj _ _ (by decide);have nac : ¬ (γ 4 = γ 6) := hinj _ _ (by decide);have nae : ¬ (γ 4 = γ 7) := hinj _ _ (by decide);have nba : ¬ (γ 5 = γ 4) := hinj _ _ (by decide);have nbc : ¬ (γ 5 = γ 6) := hinj _ _ (by decide);have nbe : ¬ (γ 5 = γ 7) := hinj _ _ (by decide);have nca : ¬ (γ 6 = γ 4) := hinj _ _ (by decide);have ncb : ¬ (γ 6 = γ 5) := hinj _ _ (by decide);have nce : ¬ (γ 6 = γ 7) := hinj _ _ (by decide);have nea : ¬ (γ 7 = γ 4) := hinj _ _ (by decide);have neb : ¬ (γ 7 = γ 5) := hinj _ _ (by decide);have nec : ¬ (γ 7 = γ 6) := hinj _ _ (by decide);replace fk : zqd (more w1 mq) (w.heap.size) = some (.cells (ints .u8 32 (k)) 23) := zql _ fk;replace fx : zqd (more w1 mq) (w.heap.size + 1) = some (.cells (ints .i64 16 (numN (u))) 129) := zql _ fx
 replace fr : zqd (more w1 mq) (w.heap.size + 1 + 1) = some (.cells (ints .i64 16 zqg) 129) := zql _ fr;replace hG : Below w.heap.size w (more w1 mq) := Grew.more hG _;replace fa : zqd (more w1 mq) (γ 4) = some (.cells (ints .i64 16 (numN (1))) 129) := fa;replace fb : zqd (more w1 mq) (γ 5) = some (.cells (ints .i64 16 (numN (0))) 129) := fb;replace fc : zqd (more w1 mq) (γ 6) = some (.cells (ints .i64 16 (numN (u))) 129) := fc;replace fe : zqd (more w1 mq) (γ 7) = some (.cells (ints .i64 16 (numN (1))) 129) := fe;clear lfk lfx lfr;clear hinj hbase;generalize γ 4 = ga at *;generalize γ 5 = gb at *;generalize γ 6 = gc at *;generalize γ 7 = ge at *;generalize more w1 mq = w2 at *;clear γ;have lfk := zqa fk;have lfx := zqa fx;have lfr := zqa fr;have lfa := zqa fa;have lfb := zqa fb;have lfc := zqa fc
 have lfe := zqa fe;go_wp2_with fail
 go_loopw [9] (fun i wr => ∃ c : Nat, c <= 256 /\ ((c < 256 /\ i = .int .i64 ((255 - c : Nat) : Int)) \/ (c = 256 /\ i = .int .i64 (-1))) /\ TimesNInv u k ga gb gc ge w c wr) (fun i _ => (intOf i + 1).toNat)
 case atStart => exact ⟨0, by omega, .inl ⟨by omega, rfl⟩, ⟨hG, fk, fx, fr, fa, fb, fc, fe⟩⟩
 case round =>
  clear fk lfk fx lfx fr lfr fa lfa fb lfb fc lfc fe lfe hG;obtain ⟨c, hc, hi, hG, fk, fx, fr, fa, fb, fc, fe⟩ := hrel;have lfk := zqa fk;have lfx := zqa fx;have lfr := zqa fr;have lfa := zqa fa;have lfb := zqa fb;have lfc := zqa fc;have lfe := zqa fe
  rcases hi with ⟨hlt, rfl⟩ | ⟨rfl, rfl⟩
  ·have hL := zrie u k hu c
   have Z : Hid (ruN u k (c + 1) = swN (bitN k (255 - c)) (stN u (swN (bitN k (255 - c)) (ruN u k c)))) := rfl;generalize hb : 255 - c = b at *;have hb255 : b <= 255 := by omega
   have q1 := fun w => zq1v k b w hk (by omega);have h01 := zqi6 k b;generalize bitN k b = B at *;have hL1 := hL.sw B;have p2 := fun w => zq4h u (swN B (ruN u k c)) w hu hL1;have hend : ∀ b : Nat, 255 - c = b -> ((c + 1 < 256 /\ Value.int .i64 ((b : Int) - 1) = .int .i64 ((255 - (c + 1) : Nat) : Int)) \/ (c + 1 = 256 /\ Value.int .i64 ((b : Int) - 1) = .int .i64 (-1))) := fun b hb => by
    by_cases h : b = 0
    ·exact .inr ⟨by omega, by rw [h]; rfl⟩
    ·exact .inl ⟨by omega, by congr 1; omega⟩
   have HE : Hid _ := hend b hb;clear hend
   rcases h01 with rfl | rfl
   ·rw [zqr0] at p2
    rw [zqr0, zqr0] at Z;generalize stN u (ruN u k c) = t2 at *;clear hL hL1;go_wp2_with fail
    (refine (q1 _).mono ?_; rintro e w21 ⟨rfl, hb⟩; replace fk : zqd w21 (w.heap.size) = some (.cells (ints .u8 32 (k)) 23) := zqb hb (by exact zqe); have lfk := zqa fk; replace fx : zqd w21 (w.heap.size + 1) = some (.cells (ints .i64 16 (numN (u))) 129) := zqb hb (by exact zqe); have lfx := zqa fx; replace fr : zqd w21 (w.heap.size + 1 + 1) = some (.cells (ints .i64 16 zqg) 129) := zqb hb (by exact zqe); have lfr := zqa fr; replace fa : zqd w21 (ga) = some (.cells (ints .i64 16 (numN ((ruN u k c).a))) 129) := zqb hb (by exact zqe); have lfa := zqa fa; replace fb : zqd w21 (gb) = some (.cells (ints .i64 16 (numN ((ruN u k c).b))) 129) := zqb hb (by exact zqe); have lfb := zqa fb; replace fc : zqd w21 (gc) = some (.cells (ints .i64 16 (numN ((ruN u k c).c))) 129) := zqb hb (by exact zqe); have lfc := zqa fc; replace fe : zqd w21 (ge) = some (.cells (ints .i64 16 (numN ((ruN u k c).e))) 129) := zqb hb (by exact zqe); have lfe := zqa fe; replace hG : Below w.heap.size w w21 := Grew.trans (by exact zqf) hb; clear hb)
    go_wp2_with fail
    (refine (p2 _).mono ?_; rintro e w22 ⟨rfl, hb⟩; replace fk : zqd w22 (w.heap.size) = some (.cells (ints .u8 32 (k)) 23) := zqb hb (by exact zqe); have lfk := zqa fk; replace fx : zqd w22 (w.heap.size + 1) = some (.cells (ints .i64 16 (numN (u))) 129) := zqb hb (by exact zqe); have lfx := zqa fx; replace fr : zqd w22 (w.heap.size + 1 + 1) = some (.cells (ints .i64 16 zqg) 129) := zqb hb (by exact zqe); have lfr := zqa fr; replace fa : zqd w22 (ga) = some (.cells (ints .i64 16 (numN ((ruN u k c).a))) 129) := zqb hb (by exact zqe); have lfa := zqa fa; replace fb : zqd w22 (gb) = some (.cells (ints .i64 16 (numN ((ruN u k c).b))) 129) := zqb hb (by exact zqe); have lfb := zqa fb; replace fc : zqd w22 (gc) = some (.cells (ints .i64 16 (numN ((ruN u k c).c))) 129) := zqb hb (by exact zqe); have lfc := zqa fc; replace fe : zqd w22 (ge) = some (.cells (ints .i64 16 (numN ((ruN u k c).e))) 129) := zqb hb (by exact zqe); have lfe := zqa fe; replace hG : Below w.heap.size w w22 := Grew.trans (by exact zqf) hb; clear hb)
    go_wp2_with fail;have ek : zqd ((((w22.setRow (ga) ((ints .i64 16 (numN (t2.a))))).setRow (gb) ((ints .i64 16 (numN (t2.b))))).setRow (gc) ((ints .i64 16 (numN (t2.c))))).setRow (ge) ((ints .i64 16 (numN (t2.e))))) (w.heap.size) = some (.cells (ints .u8 32 (k)) 23) := zqi _ _ (zqi _ _ (zqi _ _ (zqi _ _ (fk) (by first | assumption | omega | simp)) (by first | assumption | omega | simp)) (by first | assumption | omega | simp)) (by first | assumption | omega | simp)
    have ex : zqd ((((w22.setRow (ga) ((ints .i64 16 (numN (t2.a))))).setRow (gb) ((ints .i64 16 (numN (t2.b))))).setRow (gc) ((ints .i64 16 (numN (t2.c))))).setRow (ge) ((ints .i64 16 (numN (t2.e))))) (w.heap.size + 1) = some (.cells (ints .i64 16 (numN (u))) 129) := zqi _ _ (zqi _ _ (zqi _ _ (zqi _ _ (fx) (by first | assumption | omega | simp)) (by first | assumption | omega | simp)) (by first | assumption | omega | simp)) (by first | assumption | omega | simp)
    have er : zqd ((((w22.setRow (ga) ((ints .i64 16 (numN (t2.a))))).setRow (gb) ((ints .i64 16 (numN (t2.b))))).setRow (gc) ((ints .i64 16 (numN (t2.c))))).setRow (ge) ((ints .i64 16 (numN (t2.e))))) (w.heap.size + 1 + 1) = some (.cells (ints .i64 16 zqg) 129) := zqi _ _ (zqi _ _ (zqi _ _ (zqi _ _ (fr) (by first | assumption | omega | simp)) (by first | assumption | omega | simp)) (by first | assumption | omega | simp)) (by first | assumption | omega | simp)
    have ea : zqd ((((w22.setRow (ga) ((ints .i64 16 (numN (t2.a))))).setRow (gb) ((ints .i64 16 (numN (t2.b))))).setRow (gc) ((ints .i64 16 (numN (t2.c))))).setRow (ge) ((ints .i64 16 (numN (t2.e))))) (ga) = some (.cells (ints .i64 16 (numN (t2.a))) 129) := zqi _ _ (zqi _ _ (zqi _ _ (zqs _ (fa)) (by first | assumption | omega | simp)) (by first | assumption | omega | simp)) (by first | assumption | omega | simp);have eb : zqd ((((w22.setRow (ga) ((ints .i64 16 (numN (t2.a))))).setRow (gb) ((ints .i64 16 (numN (t2.b))))).setRow (gc) ((ints .i64 16 (numN (t2.c))))).setRow (ge) ((ints .i64 16 (numN (t2.e))))) (gb) = some (.cells (ints .i64 16 (numN (t2.b))) 129) := zqi _ _ (zqi _ _ (zqs _ (zqi _ _ (fb) (by first | assumption | omega | simp))) (by first | assumption | omega | simp)) (by first | assumption | omega | simp)
    have ec : zqd ((((w22.setRow (ga) ((ints .i64 16 (numN (t2.a))))).setRow (gb) ((ints .i64 16 (numN (t2.b))))).setRow (gc) ((ints .i64 16 (numN (t2.c))))).setRow (ge) ((ints .i64 16 (numN (t2.e))))) (gc) = some (.cells (ints .i64 16 (numN (t2.c))) 129) := zqi _ _ (zqs _ (zqi _ _ (zqi _ _ (fc) (by first | assumption | omega | simp)) (by first | assumption | omega | simp))) (by first | assumption | omega | simp);have ee : zqd ((((w22.setRow (ga) ((ints .i64 16 (numN (t2.a))))).setRow (gb) ((ints .i64 16 (numN (t2.b))))).setRow (gc) ((ints .i64 16 (numN (t2.c))))).setRow (ge) ((ints .i64 16 (numN (t2.e))))) (ge) = some (.cells (ints .i64 16 (numN (t2.e))) 129) := zqs _ (zqi _ _ (zqi _ _ (zqi _ _ (fe) (by first | assumption | omega | simp)) (by first | assumption | omega | simp)) (by first | assumption | omega | simp))
    clear fk lfk fx lfx fr lfr fa lfa fb lfb fc lfc fe lfe;replace hG : Below w.heap.size w ((((w22.setRow (ga) ((ints .i64 16 (numN (t2.a))))).setRow (gb) ((ints .i64 16 (numN (t2.b))))).setRow (gc) ((ints .i64 16 (numN (t2.c))))).setRow (ge) ((ints .i64 16 (numN (t2.e))))) := by exact zqf
    generalize (((w22.setRow (ga) ((ints .i64 16 (numN (t2.a))))).setRow (gb) ((ints .i64 16 (numN (t2.b))))).setRow (gc) ((ints .i64 16 (numN (t2.c))))).setRow (ge) ((ints .i64 16 (numN (t2.e)))) = w23 at *;have fk := ek;have fx := ex;have fr := er;have fa := ea;have fb := eb;have fc := ec;have fe := ee;clear ek ex er ea eb ec ee;have lfk := zqa fk;have lfx := zqa fx;have lfr := zqa fr;have lfa := zqa fa;have lfb := zqa fb;have lfc := zqa fc;have lfe := zqa fe
    go_roundw
    case rel => exact ⟨c + 1, by omega, HE.out, ⟨hG, fk, fx, fr, by rw [Z.out]; exact fa, by rw [Z.out]; exact fb, by rw [Z.out]; exact fc, by rw [Z.out]; exact fe⟩⟩
    case measure => simp [intOf] <;> omega
   ·rw [zqns] at p2
    rw [zqns, zqns] at Z;generalize stN u ⟨(ruN u k c).c, (ruN u k c).e, (ruN u k c).a, (ruN u k c).b⟩ = t2 at *;clear hL hL1;go_wp2_with fail
    (refine (q1 _).mono ?_; rintro e w21 ⟨rfl, hb⟩; replace fk : zqd w21 (w.heap.size) = some (.cells (ints .u8 32 (k)) 23) := zqb hb (by exact zqe); have lfk := zqa fk; replace fx : zqd w21 (w.heap.size + 1) = some (.cells (ints .i64 16 (numN (u))) 129) := zqb hb (by exact zqe); have lfx := zqa fx; replace fr : zqd w21 (w.heap.size + 1 + 1) = some (.cells (ints .i64 16 zqg) 129) := zqb hb (by exact zqe); have lfr := zqa fr; replace fa : zqd w21 (ga) = some (.cells (ints .i64 16 (numN ((ruN u k c).a))) 129) := zqb hb (by exact zqe); have lfa := zqa fa; replace fb : zqd w21 (gb) = some (.cells (ints .i64 16 (numN ((ruN u k c).b))) 129) := zqb hb (by exact zqe); have lfb := zqa fb; replace fc : zqd w21 (gc) = some (.cells (ints .i64 16 (numN ((ruN u k c).c))) 129) := zqb hb (by exact zqe); have lfc := zqa fc; replace fe : zqd w21 (ge) = some (.cells (ints .i64 16 (numN ((ruN u k c).e))) 129) := zqb hb (by exact zqe); have lfe := zqa fe; replace hG : Below w.heap.size w w21 := Grew.trans (by exact zqf) hb; clear hb)
    go_wp2_with fail
    (refine (p2 _).mono ?_; rintro e w22 ⟨rfl, hb⟩; replace fk : zqd w22 (w.heap.size) = some (.cells (ints .u8 32 (k)) 23) := zqb hb (by exact zqe); have lfk := zqa fk; replace fx : zqd w22 (w.heap.size + 1) = some (.cells (ints .i64 16 (numN (u))) 129) := zqb hb (by exact zqe); have lfx := zqa fx; replace fr : zqd w22 (w.heap.size + 1 + 1) = some (.cells (ints .i64 16 zqg) 129) := zqb hb (by exact zqe); have lfr := zqa fr; replace fa : zqd w22 (ga) = some (.cells (ints .i64 16 (numN ((ruN u k c).a))) 129) := zqb hb (by exact zqe); have lfa := zqa fa; replace fb : zqd w22 (gb) = some (.cells (ints .i64 16 (numN ((ruN u k c).b))) 129) := zqb hb (by exact zqe); have lfb := zqa fb; replace fc : zqd w22 (gc) = some (.cells (ints .i64 16 (numN ((ruN u k c).c))) 129) := zqb hb (by exact zqe); have lfc := zqa fc; replace fe : zqd w22 (ge) = some (.cells (ints .i64 16 (numN ((ruN u k c).e))) 129) := zqb hb (by exact zqe); have lfe := zqa fe; replace hG : Below w.heap.size w w22 := Grew.trans (by exact zqf) hb; clear hb)
    go_wp2_with fail;have ek : zqd ((((w22.setRow (gc) ((ints .i64 16 (numN (t2.a))))).setRow (ge) ((ints .i64 16 (numN (t2.b))))).setRow (ga) ((ints .i64 16 (numN (t2.c))))).setRow (gb) ((ints .i64 16 (numN (t2.e))))) (w.heap.size) = some (.cells (ints .u8 32 (k)) 23) := zqi _ _ (zqi _ _ (zqi _ _ (zqi _ _ (fk) (by first | assumption | omega | simp)) (by first | assumption | omega | simp)) (by first | assumption | omega | simp)) (by first | assumption | omega | simp)
    have ex : zqd ((((w22.setRow (gc) ((ints .i64 16 (numN (t2.a))))).setRow (ge) ((ints .i64 16 (numN (t2.b))))).setRow (ga) ((ints .i64 16 (numN (t2.c))))).setRow (gb) ((ints .i64 16 (numN (t2.e))))) (w.heap.size + 1) = some (.cells (ints .i64 16 (numN (u))) 129) := zqi _ _ (zqi _ _ (zqi _ _ (zqi _ _ (fx) (by first | assumption | omega | simp)) (by first | assumption | omega | simp)) (by first | assumption | omega | simp)) (by first | assumption | omega | simp)
    have er : zqd ((((w22.setRow (gc) ((ints .i64 16 (numN (t2.a))))).setRow (ge) ((ints .i64 16 (numN (t2.b))))).setRow (ga) ((ints .i64 16 (numN (t2.c))))).setRow (gb) ((ints .i64 16 (numN (t2.e))))) (w.heap.size + 1 + 1) = some (.cells (ints .i64 16 zqg) 129) := zqi _ _ (zqi _ _ (zqi _ _ (zqi _ _ (fr) (by first | assumption | omega | simp)) (by first | assumption | omega | simp)) (by first | assumption | omega | simp)) (by first | assumption | omega | simp)
    have ea : zqd ((((w22.setRow (gc) ((ints .i64 16 (numN (t2.a))))).setRow (ge) ((ints .i64 16 (numN (t2.b))))).setRow (ga) ((ints .i64 16 (numN (t2.c))))).setRow (gb) ((ints .i64 16 (numN (t2.e))))) (ga) = some (.cells (ints .i64 16 (numN (t2.c))) 129) := zqi _ _ (zqs _ (zqi _ _ (zqi _ _ (fa) (by first | assumption | omega | simp)) (by first | assumption | omega | simp))) (by first | assumption | omega | simp);have eb : zqd ((((w22.setRow (gc) ((ints .i64 16 (numN (t2.a))))).setRow (ge) ((ints .i64 16 (numN (t2.b))))).setRow (ga) ((ints .i64 16 (numN (t2.c))))).setRow (gb) ((ints .i64 16 (numN (t2.e))))) (gb) = some (.cells (ints .i64 16 (numN (t2.e))) 129) := zqs _ (zqi _ _ (zqi _ _ (zqi _ _ (fb) (by first | assumption | omega | simp)) (by first | assumption | omega | simp)) (by first | assumption | omega | simp))
    have ec : zqd ((((w22.setRow (gc) ((ints .i64 16 (numN (t2.a))))).setRow (ge) ((ints .i64 16 (numN (t2.b))))).setRow (ga) ((ints .i64 16 (numN (t2.c))))).setRow (gb) ((ints .i64 16 (numN (t2.e))))) (gc) = some (.cells (ints .i64 16 (numN (t2.a))) 129) := zqi _ _ (zqi _ _ (zqi _ _ (zqs _ (fc)) (by first | assumption | omega | simp)) (by first | assumption | omega | simp)) (by first | assumption | omega | simp);have ee : zqd ((((w22.setRow (gc) ((ints .i64 16 (numN (t2.a))))).setRow (ge) ((ints .i64 16 (numN (t2.b))))).setRow (ga) ((ints .i64 16 (numN (t2.c))))).setRow (gb) ((ints .i64 16 (numN (t2.e))))) (ge) = some (.cells (ints .i64 16 (numN (t2.b))) 129) := zqi _ _ (zqi _ _ (zqs _ (zqi _ _ (fe) (by first | assumption | omega | simp))) (by first | assumption | omega | simp)) (by first | assumption | omega | simp)
    clear fk lfk fx lfx fr lfr fa lfa fb lfb fc lfc fe lfe;replace hG : Below w.heap.size w ((((w22.setRow (gc) ((ints .i64 16 (numN (t2.a))))).setRow (ge) ((ints .i64 16 (numN (t2.b))))).setRow (ga) ((ints .i64 16 (numN (t2.c))))).setRow (gb) ((ints .i64 16 (numN (t2.e))))) := by exact zqf
    generalize (((w22.setRow (gc) ((ints .i64 16 (numN (t2.a))))).setRow (ge) ((ints .i64 16 (numN (t2.b))))).setRow (ga) ((ints .i64 16 (numN (t2.c))))).setRow (gb) ((ints .i64 16 (numN (t2.e)))) = w23 at *;have fk := ek;have fx := ex;have fr := er;have fa := ea;have fb := eb;have fc := ec;have fe := ee;clear ek ex er ea eb ec ee;have lfk := zqa fk;have lfx := zqa fx;have lfr := zqa fr;have lfa := zqa fa;have lfb := zqa fb;have lfc := zqa fc;have lfe := zqa fe
    go_roundw
    case rel => exact ⟨c + 1, by omega, HE.out, ⟨hG, fk, fx, fr, by rw [Z.out]; exact fa, by rw [Z.out]; exact fb, by rw [Z.out]; exact fc, by rw [Z.out]; exact fe⟩⟩
    case measure => simp [intOf] <;> omega
  ·have hL := zrie u k hu 256
   have p1 := fun w => zriv (ruN u k 256).b w hL.b;have p2 := fun w => zqhr (ruN u k 256).a (iN (ruN u k 256).b) w hL.a (zrk9 _);have E := zq1q u k hk;generalize mN (ruN u k 256).a (iN (ruN u k 256).b) = V at *;go_wp2_with fail
   ((first | (with_reducible refine zq8 4 zqc zqc zqc zqc zqc ?_) | refine zq4 4 zqc zqc zqc zqc zqc ?_); simp only [List.take_succ_cons, List.take_zero]; (repeat (first | go_big_quiet_skip | (go_big_quiet_want; go_big_quiet_op; first | go_big_quiet_on | (apply Exists.intro; refine ⟨fun _ => ?_, ?_⟩; (focus (first | (with_reducible exact Calls.of_more (p1 _)) | (with_reducible exact Calls.of_more (p2 _)))); go_big_quiet_on)))); refine wpQuiet_nil ?_; rintro _ ⟨mq, rfl⟩)
   (refine zqaa (i := 4) (fuel := 0) zqc rfl ?_; intro K hK; go_simp; refine hK _ _ ?_; clear hK K)
   (refine wpAny_done zqc ?_ _)
   go_wp2;refine zqaf rfl _ 129 _ (0, 0) _ rfl (zql _ (zqs _ fr)) Tryz.underlying129 rfl (by rw [zqh]; kernel_rfl) rfl ⟨rfl, Grew.more (Grew.setRow hG _ _ (by omega)) _⟩
end Go.Proofs.YtconieddcjpbjaaGreatDoor
namespace Go.Proofs.YtconieddcjpbjaaGreatDoor
open Go.RowKit
open Edw (red tv)
theorem zqrt (k : Nat -> Int) (hk : Bytes 32 k) : ints .u8 32 (upd (upd k 0 (k 0 - k 0 % 8)) 31 ((((upd k 0 (k 0 - k 0 % 8)) 31).tmod 64 + 64) % 256)) = ints .u8 32 (zqc3 k) := zqa4 fun i hi => by
 have h31 := hk 31 (by decide);have e : (k 31).tmod 64 = k 31 % 64 := Int.tmod_eq_emod_of_nonneg h31.1;unfold zqc3
 by_cases h0 : i = 0
 ·subst h0; simp [upd]; omega
 ·by_cases h1 : i = 31
  ·subst h1; simp [upd, e]; omega
  ·simp [upd, h0, h1]
theorem zrb9 (p : Nat -> Int) (w : World) (hp : Bytes 32 p) : Calls Tryz.prog 98 #[.agg (ints .u8 32 (p))] w fun e w' => e = .returned (.agg (ints .i64 16 (numN (nv (ofF p))))) /\ Below w.heap.size w w' := by
 have h := zq4m p w hp;rw [<- zrad p hp] at h;exact h
theorem zq3z (v : Int) (hv : BD v) : ints .u8 32 (zqgd (numN v)) = ints .u8 32 (keyV v) := zqa4 fun i hi => (zqjt v hv.1 (by have := hv.2; omega) i hi).symm
theorem zq6h (v : Int) (w : World) (hv : BD v) : Calls Tryz.prog 96 #[.agg (ints .i64 16 (numN (v)))] w fun e w' => e = .returned (.agg (ints .u8 32 (keyV v))) /\ Below w.heap.size w w' := by
 have h := zqye (numN v) w (zqby v);rwa [zq3z v hv] at h
set_option maxHeartbeats 1000000 in
theorem zqps (k : Nat -> Int) (w : World) (hk : Bytes 32 k) :
  Calls Tryz.prog 82 #[.agg (ints .u8 32 (k))] w fun e w' => e = .returned (.agg (ints .u8 32 (zqc3 k))) /\ Below w.heap.size w w' := by
 have hG := Grew.refl w
 go_enter Tryz.func82, Tryz.ntmps82
 have hk0 := hk 0 (by decide);have hk31 := hk 31 (by decide);have hm : 0 <= k 0 - k 0 % 8 /\ k 0 - k 0 % 8 <= 255 := by omega
 have hm2 : 0 <= k 31 % 64 + 64 /\ k 31 % 64 + 64 <= 255 := by omega
 go_wp2_with fail;rw [zqrt k hk];refine zqaf rfl _ 23 _ (0, 0) _ rfl (by simp [go_sem]) Tryz.underlying23 rfl (by rw [zqh]; kernel_rfl) rfl ⟨rfl, by exact zqf⟩
set_option maxHeartbeats 1000000 in
theorem zq3q (k p V : Nat -> Int) (x y : Int) (w : World)
  (c1 : ∀ w : World, Calls Tryz.prog 98 #[.agg (ints .u8 32 (p))] w fun e w' => e = .returned (.agg (ints .i64 16 (numN (x)))) /\ Below w.heap.size w w')
  (c2 : ∀ w : World, Calls Tryz.prog 97 #[.agg (ints .u8 32 (k)), .agg (ints .i64 16 (numN (x)))] w fun e w' => e = .returned (.agg (ints .i64 16 (numN (y)))) /\ Below w.heap.size w w')
  (c3 : ∀ w : World, Calls Tryz.prog 96 #[.agg (ints .i64 16 (numN (y)))] w fun e w' => e = .returned (.agg (ints .u8 32 (V))) /\ Below w.heap.size w w') :
  Calls Tryz.prog 81 #[.agg (ints .u8 32 (k)), .agg (ints .u8 32 (p))] w fun e w' => e = .returned (.agg (ints .u8 32 (V))) /\ Below w.heap.size w w' := by
 have hG := Grew.refl w;have fk : True := trivial;have fp : True := trivial;have fr : True := trivial
 go_enter Tryz.func81, Tryz.ntmps81
 go_wp2_with fail;generalize hW : ((w.alloc (.cells (ints .u8 32 (k)) 23)).alloc (.cells (ints .u8 32 (p)) 23)).alloc (.cells (ints .u8 32 (zqg)) 23) = w1;replace fk : zqd w1 (w.heap.size) = some (.cells (ints .u8 32 (k)) 23) := zqk hW;replace fp : zqd w1 (w.heap.size + 1) = some (.cells (ints .u8 32 (p)) 23) := zqk hW;replace fr : zqd w1 (w.heap.size + 1 + 1) = some (.cells (ints .u8 32 (zqg)) 23) := zqk hW;replace hG : Below w.heap.size w w1 := zq2 hW;clear hW;have lfk := zqa fk;have lfp := zqa fp;have lfr := zqa fr
 ((first | (with_reducible refine zq8 5 zqc zqc zqc zqc zqc ?_) | refine zq4 5 zqc zqc zqc zqc zqc ?_); simp only [List.take_succ_cons, List.take_zero]; (repeat (first | go_big_quiet_skip | (go_big_quiet_want; go_big_quiet_op; first | go_big_quiet_on | (apply Exists.intro; refine ⟨fun _ => ?_, ?_⟩; (focus (first | (with_reducible exact Calls.of_more (c1 _)) | (with_reducible exact Calls.of_more (c2 _)) | (with_reducible exact Calls.of_more (c3 _)))); go_big_quiet_on)))); refine wpQuiet_nil ?_; rintro _ ⟨mq, rfl⟩)
 (refine zqaa (i := 5) (fuel := 0) zqc rfl ?_; intro K hK; go_simp; refine hK _ _ ?_; clear hK K)
 (refine wpAny_done zqc ?_ _)
 go_wp2;refine zqaf rfl _ 23 _ (0, 0) _ rfl (zql _ (zqs _ fr)) Tryz.underlying23 rfl (by rw [zqh]; kernel_rfl) rfl ⟨rfl, Grew.more (Grew.setRow hG _ _ (by omega)) _⟩
theorem zqw7 (k p : Nat -> Int) (w : World) (hk : Bytes 32 k) (hp : Bytes 32 p) : Calls Tryz.prog 81 #[.agg (ints .u8 32 (k)), .agg (ints .u8 32 (p))] w fun e w' => e = .returned (.agg (ints .u8 32 (keyV (tv (knum k 32) (nv (ofF p)))))) /\ Below w.heap.size w w' :=
 zq3q k p _ _ _ w (fun w => zrb9 p w hp) (fun w => zqsd k (nv (ofF p)) w hk (zrkr _)) (fun w => zq6h _ w (Edw.tv_bd _ _))
set_option maxHeartbeats 1000000 in
theorem zq06 (k J V : Nat -> Int) (w : World)
  (c1 : ∀ w : World, Calls Tryz.prog 82 #[.agg (ints .u8 32 (k))] w fun e w' => e = .returned (.agg (ints .u8 32 (J))) /\ Below w.heap.size w w')
  (c2 : ∀ w : World, Calls Tryz.prog 81 #[.agg (ints .u8 32 (J)), .agg (ints .u8 32 (upd zqg 0 9))] w fun e w' => e = .returned (.agg (ints .u8 32 (V))) /\ Below w.heap.size w w') :
  Calls Tryz.prog 50 #[.agg (ints .u8 32 (k))] w fun e w' => e = .returned (.agg (ints .u8 32 (V))) /\ Below w.heap.size w w' := by
 have hG := Grew.refl w;have fk : True := trivial;have fr : True := trivial
 go_enter Tryz.func50, Tryz.ntmps50
 go_wp2_with fail;generalize hW : (w.alloc (.cells (ints .u8 32 (k)) 23)).alloc (.cells (ints .u8 32 (zqg)) 23) = w1;replace fk : zqd w1 (w.heap.size) = some (.cells (ints .u8 32 (k)) 23) := zqk hW;replace fr : zqd w1 (w.heap.size + 1) = some (.cells (ints .u8 32 (zqg)) 23) := zqk hW;replace hG : Below w.heap.size w w1 := zq2 hW;clear hW;have lfk := zqa fk;have lfr := zqa fr;go_wp2_with fail
 (refine (c1 _).mono ?_; rintro e w2 ⟨rfl, hb⟩; replace fk : zqd w2 (w.heap.size) = some (.cells (ints .u8 32 (k)) 23) := zqb hb (by exact zqe); have lfk := zqa fk; replace fr : zqd w2 (w.heap.size + 1) = some (.cells (ints .u8 32 (zqg)) 23) := zqb hb (by exact zqe); have lfr := zqa fr; replace hG : Below w.heap.size w w2 := Grew.trans (by exact zqf) hb; clear hb)
 go_wp2_with fail
 (refine (c2 _).mono ?_; rintro e w3 ⟨rfl, hb⟩; replace fk : zqd w3 (w.heap.size) = some (.cells (ints .u8 32 (k)) 23) := zqb hb (by exact zqe); have lfk := zqa fk; replace fr : zqd w3 (w.heap.size + 1) = some (.cells (ints .u8 32 (zqg)) 23) := zqb hb (by exact zqe); have lfr := zqa fr; replace hG : Below w.heap.size w w3 := Grew.trans (by exact zqf) hb; clear hb)
 go_wp2;refine zqaf rfl _ 23 _ (0, 0) _ rfl (zqs _ fr) Tryz.underlying23 rfl (by rw [zqh]; kernel_rfl) rfl ⟨rfl, by exact zqf⟩
theorem zq41 (k : Nat -> Int) (w : World) (hk : Bytes 32 k) : Calls Tryz.prog 50 #[.agg (ints .u8 32 (k))] w fun e w' => e = .returned (.agg (ints .u8 32 (keyV (pubV k)))) /\ Below w.heap.size w w' := by
 have h := fun w => zqw7 (zqc3 k) (upd zqg 0 9) w (zqen k hk) zqlb;rw [zqul] at h;exact zq06 k _ _ w (fun w => zqps k w hk) h
set_option maxHeartbeats 1000000 in
theorem zqrq (k p J V : Nat -> Int) (Z : Bool) (w : World)
  (c1 : ∀ w : World, Calls Tryz.prog 82 #[.agg (ints .u8 32 (k))] w fun e w' => e = .returned (.agg (ints .u8 32 (J))) /\ Below w.heap.size w w')
  (c2 : ∀ w : World, Calls Tryz.prog 81 #[.agg (ints .u8 32 (J)), .agg (ints .u8 32 (p))] w fun e w' => e = .returned (.agg (ints .u8 32 (V))) /\ Below w.heap.size w w')
  (eV : same 32 V zqg = Z) :
  Calls Tryz.prog 91 #[.agg (ints .u8 32 (k)), .agg (ints .u8 32 (p))] w fun e w' => e = .returned (.tuple #[.agg (ints .u8 32 (V)), .bool (!Z)]) /\ Below w.heap.size w w' := by
 have hG := Grew.refl w;have fk : True := trivial;have fp : True := trivial;have fr : True := trivial
 go_enter Tryz.func91, Tryz.ntmps91
 go_wp2_with fail;generalize hW : ((w.alloc (.cells (ints .u8 32 (k)) 23)).alloc (.cells (ints .u8 32 (p)) 23)).alloc (.cells (ints .u8 32 (zqg)) 23) = w1;replace fk : zqd w1 (w.heap.size) = some (.cells (ints .u8 32 (k)) 23) := zqk hW;replace fp : zqd w1 (w.heap.size + 1) = some (.cells (ints .u8 32 (p)) 23) := zqk hW;replace fr : zqd w1 (w.heap.size + 1 + 1) = some (.cells (ints .u8 32 (zqg)) 23) := zqk hW;replace hG : Below w.heap.size w w1 := zq2 hW;clear hW;have lfk := zqa fk;have lfp := zqa fp;have lfr := zqa fr;go_wp2_with fail
 (refine zqeh zqc zqc ?_; (repeat (first | refine zq0 rfl ?_ | (refine zqr rfl ?_; apply Exists.intro))); refine zqbl ?_; intro γ hinj hbase; (repeat (first | (refine zqab rfl ?_; ((first | go_big_quiet_skip | (go_big_quiet_want; go_big_quiet_op; go_big_quiet_on)); refine wpQuiet_nil ?_)) | ((first | refine zqq rfl (fun _ => rfl) ?_ | ((try simp only [Nat.zero_add, Nat.reduceAdd]); apply zqce zqo; (focus rfl); (focus (first | exact zqy _ | exact zq3 _ _ | exact zqv _ | rfl)); (focus (exact zqu))) | ((try simp only [Nat.zero_add, Nat.reduceAdd]); apply zqav _ _ zqo; (focus rfl); (focus (intro W; (first | exact zqa8 _ | exact zqas _ | exact zqa6 _ | exact zqaw _ | exact zqah _ | exact zqag _))); (focus (first | exact zqai _ _ _ | exact zqaq _ _ | rfl)); (focus (exact zqu))) | ((try simp only [Nat.zero_add, Nat.reduceAdd]); apply zqbc zqo; (focus rfl); (focus (intro W; simp only [List.map_toArray, List.map_cons, List.map_nil]; first | fail)); (focus (exact zqu))) | (apply zqaz; (focus rfl); (focus rfl); (focus rfl); (focus (intro W hC hF; go_big_quiet_want; go_big_quiet_op; (first | go_big_quiet_on | (apply Exists.intro; refine ⟨fun _ => ?_, ?_⟩; (focus (first | (with_reducible exact Calls.of_more (c1 _)) | (with_reducible exact Calls.of_more (c2 _)))); go_big_quiet_on)); exact wpQuiet_nil rfl)); (focus (first | exact fun _ => ⟨rfl, rfl⟩ | exact fun h => absurd h (by decide))))); ((first | go_big_quiet_skip | (go_big_quiet_want; go_big_quiet_op; go_big_quiet_on)); refine wpQuiet_nil ?_)) | refine zqp rfl (fun _ => rfl) ?_ | ((try simp only [Nat.zero_add, Nat.reduceAdd]); apply zqar (zqaj (hbase _)); (focus rfl); (focus rfl); (focus rfl); (focus (first | exact zqy _ | exact zq3 _ _ | exact zqv _ | rfl)); rotate_left 3; (focus (exact zqcq)); rotate_right 3; (focus kernel_rfl); (focus (first | exact zqh _ _ _ | rfl)); (focus (first | exact zqan _ _ _ | exact zqa3 _ _ _ _ | kernel_rfl)); (focus (decide +kernel)); (focus (exact zqu))))))
 (refine zqbz ?_; rintro _ ⟨mq, rfl⟩ hF; simp only [List.forall_mem_cons] at hF; obtain ⟨fs, -⟩ := hF)
 have nsr : ¬ (γ 4 = w.heap.size + 1 + 1) := by have := hbase 4; omega
 have nrs : ¬ (w.heap.size + 1 + 1 = γ 4) := fun e => nsr e.symm;have hw0 := hG.size;have l0s : w.heap.size <= γ 4 := by have := hbase 4; omega
 clear hw0;replace fk : zqd (more w1 mq) (w.heap.size) = some (.cells (ints .u8 32 (k)) 23) := zql _ fk;replace fp : zqd (more w1 mq) (w.heap.size + 1) = some (.cells (ints .u8 32 (p)) 23) := zql _ fp;replace fr : zqd (more w1 mq) (w.heap.size + 1 + 1) = some (.cells (ints .u8 32 (zqg)) 23) := zql _ fr;replace hG : Below w.heap.size w (more w1 mq) := Grew.more hG _;replace fs : zqd (more w1 mq) (γ 4) = some (.cells (ints .u8 32 (V)) 23) := fs;clear lfk lfp lfr;clear hinj hbase;generalize γ 4 = gs at *;generalize more w1 mq = w2 at *;clear γ;have lfk := zqa fk;have lfp := zqa fp;have lfr := zqa fr;have lfs := zqa fs;go_wp2_with fail
 go_region
 all_goals
  go_wp2;refine zqak rfl _ 23 _ (0, 0) _ _ rfl rfl (by simp [go_sem, fr]) Tryz.underlying23 rfl (by rw [zqh]; kernel_rfl) rfl ⟨rfl, by exact zqf⟩
theorem zqvu (k p : Nat -> Int) (w : World) {Z : Bool} (hk : Bytes 32 k) (hp : Bytes 32 p) (hZ : decide (shV k p = 0) = Z) : Calls Tryz.prog 91 #[.agg (ints .u8 32 (k)), .agg (ints .u8 32 (p))] w fun e w' => e = .returned (.tuple #[.agg (ints .u8 32 (keyV (shV k p))), .bool (!Z)]) /\ Below w.heap.size w w' :=
 zqrq k p _ _ Z w (fun w => zqps k w hk) (fun w => zqw7 (zqc3 k) p w (zqen k hk) hp) ((zqtn _ (Edw.tv_bd _ _)).trans hZ)
end Go.Proofs.YtconieddcjpbjaaGreatDoor
