/- RefN -/
import Derived.Test.YtconieddcjpbjaaGreatDoorMath02
import Derived.Test.YtconieddcjpbjaaGreatDoorInv
import Derived.Test.YtconieddcjpbjaaGreatDoorMat
import Derived.Test.YtconieddcjpbjaaGreatDoorRel
import Derived.Test.YtconieddcjpbjaaGreatDoorOrder
import Derived.Test.YtconieddcjpbjaaGreatDoorDh
set_option maxRecDepth 100000
set_option maxHeartbeats 4000000
namespace Go.Proofs.YtconieddcjpbjaaGreatDoor
open Go.RowKit
set_option linter.unusedVariables false
set_option linter.unusedSimpArgs false
def lenOf : Value → Nat | .slice _ n _ => n | _ => 0
def foldA (l : Nat → Int) (i : Nat) : Nat → Int := fun j => (if j < i then l j else 0) + (if j + 16 < i then 38 * l (j + 16) else 0)
theorem zqw4 (l : Nat → Int) : foldA l 0 = zqd := by funext j; simp [foldA, zqd]
theorem foldA_low (l : Nat → Int) (i : Nat) (h : i < 16) : foldA l i i = 0 := by unfold foldA; rw [if_neg (by omega), if_neg (by omega)]; rfl
theorem zqv7 (l : Nat → Int) (i : Nat) (h : i < 16) : ints .i64 16 (upd (foldA l i) i (l i)) = ints .i64 16 (foldA l (i + 1)) := zqay fun j hj => by
 unfold upd foldA
 by_cases e : j = i
 ·subst e; (repeat' split) <;> omega
 ·(repeat' split) <;> omega
theorem zqwu (l : Nat → Int) (i : Nat) (h : 16 ≤ i) (h2 : i < 32) : foldA l i (i - 16) = l (i - 16) := by unfold foldA; rw [if_pos (by omega), if_neg (by omega)]; omega
theorem zqvq (l : Nat → Int) (i : Nat) (h : 16 ≤ i) (h2 : i < 32) : ints .i64 16 (upd (foldA l i) (i - 16) (l (i - 16) + 38 * l i)) = ints .i64 16 (foldA l (i + 1)) := zqay fun j hj => by
 unfold upd foldA
 by_cases e : j = i - 16
 ·subst e
  rw [show i - 16 + 16 = i by omega]
  (repeat' split) <;> omega
 ·(repeat' split) <;> omega
def foldL (l : Nat → Int) : Nat → Int := fun j => l j + 38 * l (j + 16)
theorem foldA_end (l : Nat → Int) : ints .i64 16 (foldA l 32) = ints .i64 16 (foldL l) := zqay fun j hj => by
 unfold foldA foldL; rw [if_pos (by omega), if_pos (by omega)]
theorem zqso (l : Nat → Int) (hl : ∀ i, i < 32 → 0 ≤ l i ∧ l i ≤ 1099511627776) : zqd9 (foldL l) := fun i hi => by
 have := hl i (by omega); have := hl (i + 16) (by omega); unfold foldL; omega
theorem foldL_val (l : Nat → Int) : dval (foldL l) 16 % 57896044618658097711785492504343953926634992332820282019728792003956564819949 = dval l 32 % 57896044618658097711785492504343953926634992332820282019728792003956564819949 := by
 have e : ∀ n, dval l (16 + n) = dval l 16 + 65536 ^ 16 * dval (fun j => l (j + 16)) n := fun n => by
  induction n with
  | zero => simp [dval]
  | succ n ih =>
   show dval l (16 + n) + l (16 + n) * 65536 ^ (16 + n) = dval l 16 + 65536 ^ 16 * (dval (fun j => l (j + 16)) n + l (n + 16) * 65536 ^ n)
   rw [ih, Nat.add_comm 16 n, Int.pow_add]
   grind
 have e2 : ∀ n, dval (foldL l) n = dval l n + 38 * dval (fun j => l (j + 16)) n := fun n => by
  induction n with
  | zero => rfl
  | succ n ih =>
   show dval (foldL l) n + (l n + 38 * l (n + 16)) * 65536 ^ n = dval l n + l n * 65536 ^ n + 38 * (dval (fun j => l (j + 16)) n + l (n + 16) * 65536 ^ n)
   rw [ih]
   grind
 have e3 := e 16
 rw [e2, show 32 = 16 + 16 from rfl, e3]
 have e4 : (65536 : Int) ^ 16 = 38 + 57896044618658097711785492504343953926634992332820282019728792003956564819949 * 2 := by decide
 rw [e4]
 generalize dval (fun j => l (j + 16)) 16 = X
 generalize dval l 16 = Y
 omega
structure FoldIn (l : Nat → Int) (nb : Nat) (w wr : World) : Prop where
 g : Below w.heap.size w wr
 fr : objAt wr w.heap.size = some (.cells (ints .i64 16 zqd) 129)
 fl : objAt wr nb = some (.cells (ints .i64 16 (foldL l)) 3)
set_option maxHeartbeats 2000000 in
theorem zqwh (l0 : Nat → Int) (b c : Nat) (t : TypeId) (fr0 : Nat × Nat) (w : World) (hl0 : ∀ i, i < 32 → 0 ≤ l0 i ∧ l0 i ≤ 1099511627776) (hb : objAt w b = some (.cells (ints .i64 32 l0) t fr0)) :
  Calls Tryz.prog 116 #[.slice (some ⟨b, 0, none⟩) 32 c] w fun e w' => e = .returned (.agg (ints .i64 16 (numN (dval l0 32 % 57896044618658097711785492504343953926634992332820282019728792003956564819949)))) ∧ Below w.heap.size w w' := by
 have lb := zqa hb
 rw [← foldL_val]
 have HL : Hid (zqd9 (foldL l0)) := zqso l0 hl0
 go_enter Tryz.func116, Tryz.ntmps116
 go_wp2
 go_loopw [0] (fun v wr => (v = .slice (some ⟨b, 0, none⟩) 32 c ∧ wr = w.alloc (.cells (ints .i64 16 zqd) 129)) ∨ (∃ nb, v = .slice (some ⟨nb, 0, none⟩) 16 16 ∧ FoldIn l0 nb w wr)) (fun v _ => lenOf v)
 case atStart => exact .inl ⟨rfl, rfl⟩
 case round =>
  rcases hrel with ⟨rfl, rfl⟩ | ⟨nb, rfl, hG0, fr, hb⟩
  ·go_wp2
   go_loopw [4] (fun i wr => ∃ k : Nat, ∃ m : More, k ≤ 32 ∧ i = .int .i64 k ∧ wr = more ((w.alloc (.cells (ints .i64 16 zqd) 129)).alloc (.cells (ints .i64 16 (foldA l0 k)) 3)) m) (fun i _ => 32 - (intOf i).toNat)
   case atStart => exact ⟨0, _, by omega, rfl, by rw [zqw4]; exact (zqb2 _).symm⟩
   case round =>
    obtain ⟨k, m, hk, rfl, rfl⟩ := hrel
    by_cases hlt : k < 32
    ·obtain ⟨a0, a1⟩ := hl0 k hlt
     by_cases h16 : k < 16
     ·have hz := foldA_low l0 k h16
      have S : Hid _ := zqv7 l0 k h16
      go_wp2
      ((first | (with_reducible refine zqz 12 (by kernel_rfl) (by kernel_rfl) (by kernel_rfl) (by kernel_rfl) (by kernel_rfl) ?_) | refine zqy 12 (by kernel_rfl) (by kernel_rfl) (by kernel_rfl) (by kernel_rfl) (by kernel_rfl) ?_); simp only [List.take_succ_cons, List.take_zero]; (repeat (first | go_big_quiet_skip | (go_big_quiet_want; go_big_quiet_op; first | go_big_quiet_on | (apply Exists.intro; refine ⟨fun _ => ?_, ?_⟩; (focus (fail)); go_big_quiet_on)))); refine wpQuiet_nil ?_; rintro _ ⟨mq, rfl⟩)
      (refine zqaa (i := 12) (fuel := 0) (by kernel_rfl) rfl ?_; intro K hK; go_simp; refine hK _ _ ?_; clear hK K)
      (refine wpAny_done (by kernel_rfl) ?_ _)
      go_wp2
      go_roundw
      case rel => exact ⟨k + 1, _, by omega, by go_num, by rw [← S.out]⟩
      case measure => simp [intOf] <;> omega
     ·obtain ⟨b0, b1⟩ := hl0 (k - 16) (by omega)
      have hz := zqwu l0 k (by omega) hlt
      have S : Hid _ := zqvq l0 k (by omega) hlt
      have hm : k % 16 = k - 16 := by omega
      have hm2 : k - 16 < 16 := by omega
      go_wp2
      ((first | (with_reducible refine zqz 15 (by kernel_rfl) (by kernel_rfl) (by kernel_rfl) (by kernel_rfl) (by kernel_rfl) ?_) | refine zqy 15 (by kernel_rfl) (by kernel_rfl) (by kernel_rfl) (by kernel_rfl) (by kernel_rfl) ?_); simp only [List.take_succ_cons, List.take_zero]; (repeat (first | go_big_quiet_skip | (go_big_quiet_want; go_big_quiet_op; first | go_big_quiet_on | (apply Exists.intro; refine ⟨fun _ => ?_, ?_⟩; (focus (fail)); go_big_quiet_on)))); refine wpQuiet_nil ?_; rintro _ ⟨mq, rfl⟩)
      (refine zqaa (i := 15) (fuel := 0) (by kernel_rfl) rfl ?_; intro K hK; go_simp; refine hK _ _ ?_; clear hK K)
      (refine wpAny_done (by kernel_rfl) ?_ _)
      go_wp2
      go_roundw
      case rel => exact ⟨k + 1, _, by omega, by go_num, by rw [← S.out]⟩
      case measure => simp [intOf] <;> omega
    ·obtain rfl : k = 32 := by omega
     clear hlt
     rw [foldA_end]
     go_wp2
     go_roundw
     case rel => exact .inr ⟨_, rfl, ⟨by exact zqe, by exact zqc, by exact zqc⟩⟩
     case measure => simp [lenOf]
  ·have hl := HL.out
   have HL2 : Hid (zqd9 (foldL l0)) := HL
   clear hl0 HL
   generalize hfl : foldL l0 = l at *
   have HFL : Hid (foldL l0 = l) := hfl
   clear hfl
   clear HL2 lb
   have lb := zqa hb
   have lfr := zqa fr
   obtain ⟨w0, hw0⟩ : ∃ w0, w0 = wr := ⟨_, rfl⟩
   subst hw0
   go_wp2
   go_loopw [6] (fun i wr => ∃ k : Nat, ∃ m : More, k ≤ 16 ∧ i = .int .i64 k ∧ wr = more (w0.alloc (.cells (ints .i64 16 (part' l k)) 129)) m) (fun i _ => 16 - (intOf i).toNat)
   case atStart => exact ⟨0, _, by omega, rfl, by rw [zqcq]; exact (zqb2 _).symm⟩
   case round =>
    obtain ⟨k, m, hk, rfl, rfl⟩ := hrel
    by_cases hlt : k < 16
    ·have hkN : k < 16 := by omega
     go_wp2
     go_roundw
     case rel => exact ⟨k + 1, _, by omega, by go_num, by rw [← zqb1]⟩
     case measure => simp [intOf]; omega
    ·obtain rfl : k = 16 := by omega
     rw [zqc0]
     clear hlt
     go_wp2
     go_loopg [7] (2 * (dval l 16).toNat + 1) (fun g o wr => ∃ A : Nat → Int, ∃ o' : Int, ∃ m : More, FoldRel l A o' g ∧ o = .int .i64 o' ∧ wr = more (w0.alloc (.cells (ints .i64 16 A) 129)) m)
     case atStart => exact ⟨l, 1, m, FoldRel.start hl, rfl, rfl⟩
     case round =>
      obtain ⟨A, o', m, hR, rfl, rfl⟩ := hrel
      obtain ⟨hA, ho, hD, hM, hV, hG⟩ := hR
      by_cases hz : o' = 0
      ·subst hz
       have hDA := hD rfl
       have HM : Hid (dval A 16 % 57896044618658097711785492504343953926634992332820282019728792003956564819949 = dval l 16 % 57896044618658097711785492504343953926634992332820282019728792003956564819949) := hM
       clear hA hD hG ho hl hb lb hM
       go_wp2
       go_loopg [] (dval A 16).toNat (fun g wr => ∃ A : Nat → Int, ∃ m : More, zqcc A ∧ Hid (dval A 16 % 57896044618658097711785492504343953926634992332820282019728792003956564819949 = dval l 16 % 57896044618658097711785492504343953926634992332820282019728792003956564819949 ∧ g = (dval A 16).toNat) ∧ wr = more (w0.alloc (.cells (ints .i64 16 A) 129)) m)
       case atStart => exact ⟨A, m, hDA, ⟨HM.out, rfl⟩, rfl⟩
       case round =>
        clear hDA HM
        obtain ⟨A, m, hDA, HM, rfl⟩ := hrel
        by_cases hB : lessB A zqbx = true
        ·have hlt : dval A 16 < 57896044618658097711785492504343953926634992332820282019728792003956564819949 := by
          have := of_decide_eq_true hB
          rw [zqen] at this
          exact this
         have h0 := (zqev hDA 16 (by decide)).1
         have e : ints .i64 16 A = ints .i64 16 (numN (dval l 16 % 57896044618658097711785492504343953926634992332820282019728792003956564819949)) := by
          rw [zqlv hDA, ← HM.out.1, Int.emod_eq_of_lt h0 hlt]
         have E : Hid (ints .i64 16 A = ints .i64 16 (numN (dval l 16 % 57896044618658097711785492504343953926634992332820282019728792003956564819949))) := e
         clear e hlt h0 HM
         go_wp2
         ((first | (with_reducible refine zqw (by kernel_rfl) (by kernel_rfl) ?_) | refine zqs (by kernel_rfl) (by kernel_rfl) ?_); (repeat (first | go_big_quiet_skip | (go_big_quiet_want; go_big_quiet_op; first | go_big_quiet_on | (apply Exists.intro; refine ⟨fun _ => ?_, ?_⟩; (focus (first | (with_reducible exact Calls.of_more (zqeq _)) | (with_reducible exact Calls.of_more (zqh4 A zqbx _ hDA zqcm)))); go_big_quiet_on)))); refine wpQuiet_nil ?_; rintro _ ⟨mq, rfl⟩)
         go_wp2
         refine zqai rfl w.heap.size 129 (ints .i64 16 A) (0, 0) _ rfl (by exact zqc) Tryz.underlying129 rfl (by rw [zqf]; kernel_rfl) rfl ⟨by rw [E.out, HFL.out], by exact zqe⟩
        ·have hB' : lessB A zqbx = false := by simpa using hB
         have hge : 57896044618658097711785492504343953926634992332820282019728792003956564819949 ≤ dval A 16 := by
          have := of_decide_eq_false hB'
          rw [zqen] at this
          omega
         clear hB
         have hA' := zqgk hDA zqcm
         have hv := zqil A zqbx 16
         have X : Hid (dval (zqc3 A zqbx) 16 = dval A 16 - 57896044618658097711785492504343953926634992332820282019728792003956564819949) := by
          have h1 := zqev hA' 16 (by decide)
          have h2 := zqev hDA 16 (by decide)
          have h3 := zqgo A zqbx 16
          rw [zqen] at hv
          have e : (65536 : Int) ^ 16 = 115792089237316195423570985008687907853269984665640564039457584007913129639936 := by decide
          rw [e] at hv h1 h2
          show dval (zqc3 A zqbx) 16 = dval A 16 - 57896044618658097711785492504343953926634992332820282019728792003956564819949
          omega
         have HG : Hid (57896044618658097711785492504343953926634992332820282019728792003956564819949 ≤ dval A 16) := hge
         clear hv hge
         go_wp2
         ((first | (with_reducible refine zqw (by kernel_rfl) (by kernel_rfl) ?_) | refine zqs (by kernel_rfl) (by kernel_rfl) ?_); (repeat (first | go_big_quiet_skip | (go_big_quiet_want; go_big_quiet_op; first | go_big_quiet_on | (apply Exists.intro; refine ⟨fun _ => ?_, ?_⟩; (focus (first | (with_reducible exact Calls.of_more (zqeq _)) | (with_reducible exact Calls.of_more (zqh4 A zqbx _ hDA zqcm)))); go_big_quiet_on)))); refine wpQuiet_nil ?_; rintro _ ⟨mq, rfl⟩)
         go_wp2
         ((first | (with_reducible refine zqz 3 (by kernel_rfl) (by kernel_rfl) (by kernel_rfl) (by kernel_rfl) (by kernel_rfl) ?_) | refine zqy 3 (by kernel_rfl) (by kernel_rfl) (by kernel_rfl) (by kernel_rfl) (by kernel_rfl) ?_); simp only [List.take_succ_cons, List.take_zero]; (repeat (first | go_big_quiet_skip | (go_big_quiet_want; go_big_quiet_op; first | go_big_quiet_on | (apply Exists.intro; refine ⟨fun _ => ?_, ?_⟩; (focus (first | (with_reducible exact Calls.of_more (zqeq _)) | (with_reducible exact Calls.of_more (zqlk A zqbx _ hDA zqcm)))); go_big_quiet_on)))); refine wpQuiet_nil ?_; rintro _ ⟨mq, rfl⟩)
         (refine zqaa (i := 3) (fuel := 0) (by kernel_rfl) rfl ?_; intro K hK; go_simp; refine hK _ _ ?_; clear hK K)
         (refine wpAny_done (by kernel_rfl) ?_ _)
         go_wp2
         go_roundg (dval (zqc3 A zqbx) 16).toNat
         case measure =>
          have h1 := X.out
          have h2 := HG.out
          have h3 := HM.out.2
          omega
         case rel =>
          refine ⟨zqc3 A zqbx, _, hA', ⟨?_, rfl⟩, rfl⟩
          rw [X.out, ← HM.out.1]
          omega
      ·have hpos : 0 < o' := by omega
       have HR : Hid (FoldRel l A o' gk) := ⟨hA, ho, hD, hM, hV, hG⟩
       clear hD hM hV hG hz ho
       go_wp2
       go_loopw [7, 8] (fun o i wr => ∃ k : Nat, ∃ m : More, k ≤ 16 ∧ i = .int .i64 k ∧ o = .int .i64 (if k = 16 then cp A 16 else 0) ∧ wr = more (w0.alloc (.cells (ints .i64 16 (if k = 16 then zqc1 A else zqct A k)) 129)) m) (fun _ i _ => 16 - (intOf i).toNat)
       case atStart => exact ⟨0, m, by omega, rfl, by rw [if_neg (by decide)], by rw [if_neg (by decide), zqj8]⟩
       case round =>
        obtain ⟨k, m, hk, rfl, rfl, rfl⟩ := hrel
        by_cases h16 : k = 16
        ·subst h16
         rw [if_pos rfl, if_pos rfl]
         obtain ⟨g', hg', hR'⟩ := HR.out.next hpos
         have X : Hid (g' < gk ∧ FoldRel l (zqc1 A) (cp A 16) g') := ⟨hg', hR'⟩
         clear hg' hR'
         go_wp2
         go_roundg g'
         case measure => exact X.out.1
         case rel => exact ⟨zqc1 A, cp A 16, m, X.out.2, rfl, rfl⟩
        ·rw [if_neg h16, if_neg h16]
         have hk16 : k < 16 := by omega
         obtain ⟨a0, a1⟩ := hA k hk16
         obtain ⟨c0, c1⟩ := cp_bd hA k (by omega)
         have r0 := zqn8 A k
         by_cases h15 : k < 15
         ·have hk1 : k + 1 < 16 := by omega
          obtain ⟨b0, b1⟩ := hA (k + 1) hk1
          have r1 : upd (zqct A k) k ((A k + cp A k) % 65536) (k + 1) = A (k + 1) := by rw [zqem _ _ _ _ (by omega), zqnp]
          clear hA h16
          go_wp2
          go_roundw
          case rel => exact ⟨k + 1, m, by omega, by go_num, by rw [if_neg (by omega)], by rw [if_neg (by omega), zqj9]⟩
          case measure => simp [intOf]; omega
         ·obtain rfl : k = 15 := by omega
          obtain ⟨b0, b1⟩ := hA 0 (by decide)
          have r1 : upd (zqct A 15) 15 ((A 15 + cp A 15) % 65536) 0 = A 0 % 65536 := by rw [zqem _ _ _ _ (by omega), zql2]
          have r2 := zqkh A
          clear hA h16 h15
          go_wp2
          go_roundw
          case rel => exact ⟨16, m, by omega, by rfl, by rw [if_pos rfl]; rfl, by rw [if_pos rfl]⟩
          case measure => simp [intOf] <;> omega
end Go.Proofs.YtconieddcjpbjaaGreatDoor
namespace Go.Proofs.YtconieddcjpbjaaGreatDoor
open Go.RowKit
set_option linter.unusedVariables false
set_option linter.unusedSimpArgs false
@[go_sem] theorem make32 (w : World) : (Instr.makeSlice 154 (.int .i64 32) (.int .i64 32)).run Tryz.prog w = .ok (.slice (some ⟨w.heap.size, 0, none⟩) 32 32) (w.alloc (.cells (ints .i64 32 zqd) 3)) := by kernel_rfl
def rowF (a b f : Nat → Int) (i : Nat) : Nat → Nat → Int
 | 0 => f
 | k + 1 => upd (rowF a b f i k) (i + k) (rowF a b f i k (i + k) + a i * b k)
def colF (a b : Nat → Int) : Nat → Nat → Int
 | 0 => zqd
 | i + 1 => rowF a b (colF a b i) i 16
theorem dig_mul (a b : Nat → Int) (ha : zqcc a) (hb : zqcc b) (i k : Nat) (hi : i < 16) (hk : k < 16) : 0 ≤ a i * b k ∧ a i * b k ≤ 4294967296 := by
 obtain ⟨a0, a1⟩ := ha i hi
 obtain ⟨b0, b1⟩ := hb k hk
 exact ⟨Int.mul_nonneg a0 b0, by have := Int.mul_le_mul (Int.le_of_lt a1) (Int.le_of_lt b1) b0 (by decide); omega⟩
theorem row_bd (a b f : Nat → Int) (ha : zqcc a) (hb : zqcc b) (i : Nat) (hi : i < 16) (B : Int) (hf : ∀ j, 0 ≤ f j ∧ f j ≤ B) : ∀ k, k ≤ 16 → ∀ j, 0 ≤ rowF a b f i k j ∧ rowF a b f i k j ≤ B + k * 4294967296
 | 0, _, j => by have := hf j; show 0 ≤ f j ∧ f j ≤ _; omega
 | k + 1, h, j => by
  have ih := row_bd a b f ha hb i hi B hf k (by omega)
  have hm := dig_mul a b ha hb i k hi (by omega)
  have h1 := ih j
  have h2 := ih (i + k)
  unfold rowF upd
  split <;> omega
theorem col_bd (a b : Nat → Int) (ha : zqcc a) (hb : zqcc b) : ∀ i, i ≤ 16 → ∀ j, 0 ≤ colF a b i j ∧ colF a b i j ≤ i * 68719476736
 | 0, _, j => by show 0 ≤ zqd j ∧ zqd j ≤ _; unfold zqd; omega
 | i + 1, h, j => by
  have := row_bd a b (colF a b i) ha hb i (by omega) _ (col_bd a b ha hb i (by omega)) 16 (by omega) j
  show 0 ≤ rowF a b (colF a b i) i 16 j ∧ rowF a b (colF a b i) i 16 j ≤ _
  omega
theorem zquv (f : Nat → Int) (j : Nat) (v : Int) : ∀ n, j < n → dval (upd f j v) n = dval f n + (v - f j) * 65536 ^ j
 | 0, h => by omega
 | n + 1, h => by
  show dval (upd f j v) n + upd f j v n * 65536 ^ n = dval f n + f n * 65536 ^ n + (v - f j) * 65536 ^ j
  by_cases e : j = n
  ·subst e
   rw [zqfk (f := upd f j v) (g := f) j (fun i hi => zqem _ _ _ _ (by omega)), upd_same]
   grind
  ·rw [zquv f j v n (by omega), zqem _ _ _ _ (fun h => e h.symm)]
   grind
theorem row_val (a b f : Nat → Int) (i : Nat) (hi : i < 16) : ∀ k, k ≤ 16 → dval (rowF a b f i k) 32 = dval f 32 + a i * 65536 ^ i * dval b k
 | 0, _ => by show dval f 32 = dval f 32 + a i * 65536 ^ i * 0; omega
 | k + 1, h => by
  show dval (upd (rowF a b f i k) (i + k) (rowF a b f i k (i + k) + a i * b k)) 32 = dval f 32 + a i * 65536 ^ i * (dval b k + b k * 65536 ^ k)
  rw [zquv _ _ _ 32 (by omega), row_val a b f i hi k (by omega), Int.pow_add]
  grind
theorem col_val (a b : Nat → Int) : ∀ i, i ≤ 16 → dval (colF a b i) 32 = dval a i * dval b 16
 | 0, _ => by
  show dval zqd 32 = 0 * dval b 16
  rw [Int.zero_mul]; rfl
 | i + 1, h => by
  show dval (rowF a b (colF a b i) i 16) 32 = (dval a i + a i * 65536 ^ i) * dval b 16
  rw [row_val a b _ i (by omega) 16 (by omega), col_val a b i (by omega), Int.add_mul]
set_option maxHeartbeats 2000000 in
theorem zqw1 (a b : Nat → Int) (w : World) (ha : zqcc a) (hb : zqcc b) :
  Calls Tryz.prog 114 #[.agg (ints .i64 16 a), .agg (ints .i64 16 b)] w fun e w' => e = .returned (.agg (ints .i64 16 (numN ((dval a 16 * dval b 16) % 57896044618658097711785492504343953926634992332820282019728792003956564819949)))) ∧ Below w.heap.size w w' := by
 have HV : Hid (dval (colF a b 16) 32 = dval a 16 * dval b 16) := col_val a b 16 (by omega)
 go_enter Tryz.func114, Tryz.ntmps114
 go_wp2
 go_loopw [6] (fun i wr => ∃ j : Nat, ∃ m : More, j ≤ 16 ∧ i = .int .i64 j ∧ wr = more ((((w.alloc (.cells (ints .i64 16 a) 129)).alloc (.cells (ints .i64 16 b) 129)).alloc (.cells (ints .i64 16 zqd) 129)).alloc (.cells (ints .i64 32 (colF a b j)) 3)) m) (fun i _ => 16 - (intOf i).toNat)
 case atStart => exact ⟨0, _, by omega, rfl, (zqb2 _).symm⟩
 case round =>
  obtain ⟨j, m, hj, rfl, rfl⟩ := hrel
  by_cases hlt : j < 16
  ·have hcb := col_bd a b ha hb j (by omega)
   have hrb := row_bd a b (colF a b j) ha hb j hlt _ hcb
   have hdec : decide ((j : Int) < 16) = true := decide_eq_true (by omega)
   have Z : Hid (rowF a b (colF a b j) j 16 = colF a b (j + 1)) := rfl
   have Z0 : Hid (colF a b j = rowF a b (colF a b j) j 0) := rfl
   go_wp2
   go_loopw [7] (fun i wr => ∃ k : Nat, ∃ m : More, k ≤ 16 ∧ i = .int .i64 k ∧ wr = more ((((w.alloc (.cells (ints .i64 16 a) 129)).alloc (.cells (ints .i64 16 b) 129)).alloc (.cells (ints .i64 16 zqd) 129)).alloc (.cells (ints .i64 32 (rowF a b (colF a b j) j k)) 3)) m) (fun i _ => 16 - (intOf i).toNat)
   case atStart => exact ⟨0, _, by omega, rfl, rfl⟩
   case round =>
    obtain ⟨k, m, hk, rfl, rfl⟩ := hrel
    by_cases hlk : k < 16
    ·obtain ⟨a0, a1⟩ := ha j hlt
     obtain ⟨b0, b1⟩ := hb k hlk
     obtain ⟨p0, p1⟩ := dig_mul a b ha hb j k hlt hlk
     obtain ⟨r0, r1⟩ := hrb k hk (j + k)
     have hj16 : (j : Int) ≤ 15 := by omega
     have hk16 : (k : Int) ≤ 15 := by omega
     have r2 : rowF a b (colF a b j) j k (j + k) ≤ 1168231104512 := by omega
     have hjk : j + k < 32 := by omega
     have S : Hid (upd (rowF a b (colF a b j) j k) (j + k) (rowF a b (colF a b j) j k (j + k) + a j * b k) = rowF a b (colF a b j) j (k + 1)) := rfl
     clear hrb hcb r1
     go_wp2
     ((first | (with_reducible refine zqz 19 (by kernel_rfl) (by kernel_rfl) (by kernel_rfl) (by kernel_rfl) (by kernel_rfl) ?_) | refine zqy 19 (by kernel_rfl) (by kernel_rfl) (by kernel_rfl) (by kernel_rfl) (by kernel_rfl) ?_); simp only [List.take_succ_cons, List.take_zero]; (repeat (first | go_big_quiet_skip | (go_big_quiet_want; go_big_quiet_op; first | go_big_quiet_on | (apply Exists.intro; refine ⟨fun _ => ?_, ?_⟩; (focus (fail)); go_big_quiet_on)))); refine wpQuiet_nil ?_; rintro _ ⟨mq, rfl⟩)
     (refine zqaa (i := 19) (fuel := 0) (by kernel_rfl) rfl ?_; intro K hK; go_simp; refine hK _ _ ?_; clear hK K)
     (refine wpAny_done (by kernel_rfl) ?_ _)
     go_wp2
     go_roundw
     case rel => exact ⟨k + 1, _, by omega, by go_num, by rw [← S.out]⟩
     case measure => simp [intOf] <;> omega
    ·obtain rfl : k = 16 := by omega
     clear hlk
     rw [Z.out]
     go_wp2
     go_roundw
     case rel => exact ⟨j + 1, _, by omega, by go_num, rfl⟩
     case measure => simp [intOf] <;> omega
  ·obtain rfl : j = 16 := by omega
   have hcb : ∀ i, i < 32 → 0 ≤ colF a b 16 i ∧ colF a b 16 i ≤ 1099511627776 := fun i _ => by have := col_bd a b ha hb 16 (by omega) i; omega
   have hG := Grew.refl w
   have fr : True := trivial
   clear hlt ha hb
   go_wp2_with fail
   have fl : objAt (more ((((w.alloc (.cells (ints .i64 16 a) 129)).alloc (.cells (ints .i64 16 b) 129)).alloc (.cells (ints .i64 16 zqd) 129)).alloc (.cells (ints .i64 32 (colF a b 16)) 3)) m) (w.heap.size + 1 + 1 + 1) = some (.cells (ints .i64 32 (colF a b 16)) 3) := by exact zqc
   (refine (zqwh (colF a b 16) _ 32 _ _ _ hcb fl).mono ?_; rintro e w1 ⟨rfl, hb⟩; replace fr : objAt w1 (w.heap.size + 1 + 1) = some (.cells (ints .i64 16 zqd) 129) := zqb hb (by exact zqc); have lfr := zqa fr; replace hG : Below w.heap.size w w1 := Grew.trans (by exact zqe) hb; clear hb)
   go_wp2
   refine zqai rfl (w.heap.size + 1 + 1) 129 _ (0, 0) _ rfl (zqt _ fr) Tryz.underlying129 rfl (by rw [zqf]; kernel_rfl) rfl ⟨by rw [HV.out], by exact zqe⟩
end Go.Proofs.YtconieddcjpbjaaGreatDoor
namespace Go.Proofs.YtconieddcjpbjaaGreatDoor
open Go.RowKit
set_option linter.unusedVariables false
set_option linter.unusedSimpArgs false
set_option maxHeartbeats 400000 in
theorem bit_any (k : Nat → Int) (i : Nat) (w : World) (hk : Bytes 32 k) (hi : i < 256) :
  Calls Tryz.prog 112 #[.agg (ints .u8 32 k), .int .i64 i] w fun e w' => e = .returned (.int .i64 (bitN k i)) ∧ Below w.heap.size w w' := by
 have hi8 : i / 8 < 32 := by omega
 obtain ⟨k0, k1⟩ := hk (i / 8) hi8
 have hi64 : (i : Int) ≤ 255 := by omega
 have HB : Hid (k (i / 8) / 2 ^ (i % 8) % 2 = bitN k i) := rfl
 have HD : ∀ j : Nat, k (i / 8) / 2 ^ j / 2 = k (i / 8) / 2 ^ (j + 1) := fun j => by
  rw [Int.pow_succ, Int.ediv_ediv, if_neg (fun h => absurd h.1 (Int.not_lt.2 (Int.le_of_lt (Int.pow_pos (by decide))))), Int.sub_zero]
 have HX : ∀ j : Nat, 0 ≤ k (i / 8) / 2 ^ j ∧ k (i / 8) / 2 ^ j ≤ 255 := fun j =>
  ⟨Int.ediv_nonneg k0 (Int.le_of_lt (Int.pow_pos (by decide))), Int.le_trans (Int.ediv_le_self _ k0) k1⟩
 have HH : Hid ((∀ j : Nat, k (i / 8) / 2 ^ j / 2 = k (i / 8) / 2 ^ (j + 1)) ∧ ∀ j : Nat, 0 ≤ k (i / 8) / 2 ^ j ∧ k (i / 8) / 2 ^ j ≤ 255) := ⟨HD, HX⟩
 clear HD HX
 have hd : (0 : Int) ≤ (i : Int) % 8 := by omega
 go_enter Tryz.func112, Tryz.ntmps112
 go_wp2
 go_loop [5, 6] (fun b j => ∃ n : Nat, n ≤ i % 8 ∧ j = .int .i64 n ∧ b = .int .i64 (k (i / 8) / 2 ^ n)) (fun _ j => 8 - (intOf j).toNat)
 case atStart => exact ⟨0, by omega, rfl, by simp⟩
 case round =>
  obtain ⟨n, hn, rfl, rfl⟩ := hrel
  have hn8 : n ≤ 7 := by omega
  by_cases hlt : n < i % 8
  ·obtain ⟨x0, x1⟩ := HH.out.2 n
   have E : Hid (k (i / 8) / 2 ^ n / 2 = k (i / 8) / 2 ^ (n + 1)) := HH.out.1 n
   generalize k (i / 8) / 2 ^ n = X at *
   go_wp2
   go_round
   case rel => exact ⟨n + 1, by omega, by go_num, by rw [← E.out]⟩
   case measure => simp [intOf] <;> omega
  ·obtain rfl : n = i % 8 := by omega
   obtain ⟨x0, x1⟩ := HH.out.2 (i % 8)
   clear hlt hn8
   have E : Hid (k (i / 8) / 2 ^ (i % 8) % 2 = bitN k i) := HB
   generalize hX : k (i / 8) / 2 ^ (i % 8) = X at *
   go_wp2
   go_ret
   exact ⟨zqsl E.out, by exact zqe⟩
def lessK : Nat → Int := upd (upd zqn7 0 235) 31 127
theorem lessK_num : knum lessK 32 = undo := by kernel_rfl
theorem zqs2 : Bytes 32 lessK := fun i _ => by unfold lessK upd zqn7; split <;> (try split) <;> decide
set_option maxHeartbeats 400000 in
theorem less2_any (w : World) :
  Calls Tryz.prog 135 #[] w fun e w' => e = .returned (.agg (ints .u8 32 lessK)) ∧ Below w.heap.size w w' := by
 go_enter Tryz.func135, Tryz.ntmps135
 go_wp2
 go_loopw [2] (fun i wr => ∃ k : Nat, k ≤ 32 ∧ i = .int .i64 k ∧ wr = (w.alloc (.cells (ints .u8 32 zqd) 23)).alloc (.cells (ints .u8 32 (part' zqn7 k)) 23)) (fun i _ => 32 - (intOf i).toNat)
 case atStart => exact ⟨0, by omega, rfl, by rw [zqcq]⟩
 case round =>
  obtain ⟨k, hk, rfl, rfl⟩ := hrel
  by_cases hlt : k < 32
  ·have S : Hid (upd (part' zqn7 k) k 255 = part' zqn7 (k + 1)) := zqb1 zqn7 k
   go_wp2
   go_roundw
   case rel => exact ⟨k + 1, by omega, by go_num, by rw [← S.out]⟩
   case measure => simp [intOf] <;> omega
  ·obtain rfl : k = 32 := by omega
   clear hlt
   rw [zqc0]
   go_wp2
   refine zqai rfl _ 23 _ (0, 0) _ rfl (by simp [go_sem]; rfl) Tryz.underlying23 rfl (by rw [zqf]; kernel_rfl) rfl ⟨rfl, by exact zqe⟩
theorem zqoh (x y : Int) (w : World) (hx : 0 ≤ x ∧ x < 57896044618658097711785492504343953926634992332820282019728792003956564819949) (hy : 0 ≤ y ∧ y < 57896044618658097711785492504343953926634992332820282019728792003956564819949) :
  Calls Tryz.prog 114 #[.agg (ints .i64 16 (numN x)), .agg (ints .i64 16 (numN y))] w fun e w' => e = .returned (.agg (ints .i64 16 (numN ((x * y) % 57896044618658097711785492504343953926634992332820282019728792003956564819949)))) ∧ Below w.heap.size w w' := by
 have := zqw1 (numN x) (numN y) w (zqbn x) (zqbn y)
 rw [zqfq hx.1 hx.2, zqfq hy.1 hy.2] at this
 exact this
theorem zqgs (n : Int) (w : World) (h0 : 0 ≤ n) (h1 : n ≤ 4294967295) :
  Calls Tryz.prog 111 #[.int .u32 n] w fun e w' => e = .returned (.agg (ints .i64 16 (numN n))) ∧ Below w.heap.size w w' := zqpp n w h0 h1
def outN (x : Int) (K i : Nat) : Int := x ^ (K % 2 ^ i) % 57896044618658097711785492504343953926634992332820282019728792003956564819949
def sqN (x : Int) (i : Nat) : Int := x ^ (2 ^ i) % 57896044618658097711785492504343953926634992332820282019728792003956564819949
theorem outN_bd (x : Int) (K i : Nat) : 0 ≤ outN x K i ∧ outN x K i < 57896044618658097711785492504343953926634992332820282019728792003956564819949 := by unfold outN; omega
theorem sqN_bd (x : Int) (i : Nat) : 0 ≤ sqN x i ∧ sqN x i < 57896044618658097711785492504343953926634992332820282019728792003956564819949 := by unfold sqN; omega
theorem outN_zero (x : Int) (K : Nat) : outN x K 0 = 1 := by
 unfold outN; rw [Nat.pow_zero, Nat.mod_one, Int.pow_zero]; rfl
theorem sqN_zero (x : Int) (hx : 0 ≤ x ∧ x < 57896044618658097711785492504343953926634992332820282019728792003956564819949) : sqN x 0 = x := by
 unfold sqN; rw [Nat.pow_zero, Int.pow_one]; omega
theorem sqN_next (x : Int) (i : Nat) : sqN x i * sqN x i % 57896044618658097711785492504343953926634992332820282019728792003956564819949 = sqN x (i + 1) := by
 unfold sqN
 rw [zqhn, zql9, ← Int.pow_add]
 congr 2
 rw [Nat.pow_succ]; omega
theorem outN_no (x : Int) (K i : Nat) (h : K / 2 ^ i % 2 = 0) : outN x K (i + 1) = outN x K i := by
 unfold outN
 rw [Nat.mod_pow_succ, h, Nat.mul_zero, Nat.add_zero]
theorem outN_yes (x : Int) (K i : Nat) (h : K / 2 ^ i % 2 = 1) : outN x K i * sqN x i % 57896044618658097711785492504343953926634992332820282019728792003956564819949 = outN x K (i + 1) := by
 unfold outN sqN
 rw [zqhn, zql9, ← Int.pow_add, Nat.mod_pow_succ, h, Nat.mul_one]
structure RPowInv (x : Int) (K : Nat) (k : Nat → Int) (gp : Nat) (w : World) (i : Nat) (wr : World) : Prop where
 g : Below w.heap.size w wr
 fa : objAt wr w.heap.size = some (.cells (ints .i64 16 (numN (sqN x i))) 129)
 fk : objAt wr (w.heap.size + 1) = some (.cells (ints .u8 32 k) 23)
 fr : objAt wr (w.heap.size + 1 + 1) = some (.cells (ints .i64 16 zqd) 129)
 fp : objAt wr gp = some (.cells (ints .i64 16 (numN (outN x K i))) 129)
set_option maxHeartbeats 2000000 in
theorem powN_any (x : Int) (k : Nat → Int) (w : World) (hx : 0 ≤ x ∧ x < 57896044618658097711785492504343953926634992332820282019728792003956564819949) (hk : Bytes 32 k) :
  Calls Tryz.prog 134 #[.agg (ints .i64 16 (numN x)), .agg (ints .u8 32 k)] w fun e w' => e = .returned (.agg (ints .i64 16 (numN (x ^ knum k 32 % 57896044618658097711785492504343953926634992332820282019728792003956564819949)))) ∧ Below w.heap.size w w' := by
 have HE : Hid (outN x (knum k 32) 256 = x ^ knum k 32 % 57896044618658097711785492504343953926634992332820282019728792003956564819949) := by
  show outN x (knum k 32) 256 = _
  unfold outN
  rw [Nat.mod_eq_of_lt (show knum k 32 < 2 ^ 256 from zqjp k hk 32 (by omega))]
 have HA : Hid (sqN x 0 = x) := sqN_zero x hx
 have hG := Grew.refl w
 have fa : True := trivial
 have fk : True := trivial
 have fr : True := trivial
 go_enter Tryz.func134, Tryz.ntmps134
 go_wp2_with fail
 (refine (zqgs 1 _ (by decide) (by decide)).mono ?_; rintro e w1 ⟨rfl, hb⟩; replace fa : objAt w1 (w.heap.size) = some (.cells (ints .i64 16 (numN x)) 129) := zqb hb (by exact zqc); have lfa := zqa fa; replace fk : objAt w1 (w.heap.size + 1) = some (.cells (ints .u8 32 k) 23) := zqb hb (by exact zqc); have lfk := zqa fk; replace fr : objAt w1 (w.heap.size + 1 + 1) = some (.cells (ints .i64 16 zqd) 129) := zqb hb (by exact zqc); have lfr := zqa fr; replace hG : Below w.heap.size w w1 := Grew.trans (by exact zqe) hb; clear hb)
 have hw1 := hG.size
 have ha1 := lfa
 have hk1 := lfk
 have hr1 := lfr
 have n0 : ¬ (w.heap.size = w1.heap.size) := by omega
 have n1 : ¬ (w.heap.size + 1 = w1.heap.size) := by omega
 have n2 : ¬ (w.heap.size + 1 + 1 = w1.heap.size) := by omega
 have n3 : ¬ (w1.heap.size = w.heap.size) := by omega
 go_wp2_with fail
 go_loopw [6] (fun i wr => ∃ j : Nat, j ≤ 256 ∧ i = .int .i64 j ∧ RPowInv x (knum k 32) k w1.heap.size w j wr) (fun i _ => 256 - (intOf i).toNat)
 case atStart => exact ⟨0, by omega, rfl, ⟨by exact zqe, by rw [HA.out]; exact zqc, by exact zqc, by exact zqc, by rw [outN_zero]; exact zqc⟩⟩
 case round =>
  clear fa fk fr hG lfa lfk lfr
  obtain ⟨j, hj, rfl, hG, fa, fk, fr, fp⟩ := hrel
  have lfa := zqa fa
  have lfk := zqa fk
  have lfr := zqa fr
  have lfp := zqa fp
  by_cases hlt : j < 256
  ·have hb := fun w => bit_any k j w hk hlt
   have hbit := zqko k hk j hlt
   have h01 := zqhr k j
   have ho := outN_bd x (knum k 32) j
   have hs := sqN_bd x j
   have hsq := fun w => zqoh (sqN x j) (sqN x j) w hs hs
   have hmu := fun w => zqoh (outN x (knum k 32) j) (sqN x j) w ho hs
   rw [sqN_next] at hsq
   generalize bitN k j = B at *
   rcases h01 with rfl | rfl
   ·have Z : Hid (outN x (knum k 32) (j + 1) = outN x (knum k 32) j) := outN_no x _ j (by simpa using hbit)
    clear hbit hmu ho hs
    go_wp2_with fail
    (refine (hb _).mono ?_; rintro e w2 ⟨rfl, hb⟩; replace fa : objAt w2 (w.heap.size) = some (.cells (ints .i64 16 (numN (sqN x j))) 129) := zqb hb (by exact zqc); have lfa := zqa fa; replace fk : objAt w2 (w.heap.size + 1) = some (.cells (ints .u8 32 k) 23) := zqb hb (by exact zqc); have lfk := zqa fk; replace fr : objAt w2 (w.heap.size + 1 + 1) = some (.cells (ints .i64 16 zqd) 129) := zqb hb (by exact zqc); have lfr := zqa fr; replace fp : objAt w2 (w1.heap.size) = some (.cells (ints .i64 16 (numN (outN x (knum k 32) j))) 129) := zqb hb (by exact zqc); have lfp := zqa fp; replace hG : Below w.heap.size w w2 := Grew.trans (by exact zqe) hb; clear hb)
    go_wp2_with fail
    (refine (hsq _).mono ?_; rintro e w3 ⟨rfl, hb⟩; replace fa : objAt w3 (w.heap.size) = some (.cells (ints .i64 16 (numN (sqN x j))) 129) := zqb hb (by exact zqc); have lfa := zqa fa; replace fk : objAt w3 (w.heap.size + 1) = some (.cells (ints .u8 32 k) 23) := zqb hb (by exact zqc); have lfk := zqa fk; replace fr : objAt w3 (w.heap.size + 1 + 1) = some (.cells (ints .i64 16 zqd) 129) := zqb hb (by exact zqc); have lfr := zqa fr; replace fp : objAt w3 (w1.heap.size) = some (.cells (ints .i64 16 (numN (outN x (knum k 32) j))) 129) := zqb hb (by exact zqc); have lfp := zqa fp; replace hG : Below w.heap.size w w3 := Grew.trans (by exact zqe) hb; clear hb)
    go_wp2
    go_roundw
    case rel => exact ⟨j + 1, by omega, by go_num, ⟨by exact zqe, by exact zqc, by exact zqc, by exact zqc, by rw [Z.out]; exact zqc⟩⟩
    case measure => simp [intOf] <;> omega
   ·have Z := outN_yes x (knum k 32) j (by simpa using hbit)
    rw [Z] at hmu
    clear hbit ho hs Z
    go_wp2_with fail
    (refine (hb _).mono ?_; rintro e w2 ⟨rfl, hb⟩; replace fa : objAt w2 (w.heap.size) = some (.cells (ints .i64 16 (numN (sqN x j))) 129) := zqb hb (by exact zqc); have lfa := zqa fa; replace fk : objAt w2 (w.heap.size + 1) = some (.cells (ints .u8 32 k) 23) := zqb hb (by exact zqc); have lfk := zqa fk; replace fr : objAt w2 (w.heap.size + 1 + 1) = some (.cells (ints .i64 16 zqd) 129) := zqb hb (by exact zqc); have lfr := zqa fr; replace fp : objAt w2 (w1.heap.size) = some (.cells (ints .i64 16 (numN (outN x (knum k 32) j))) 129) := zqb hb (by exact zqc); have lfp := zqa fp; replace hG : Below w.heap.size w w2 := Grew.trans (by exact zqe) hb; clear hb)
    go_wp2_with fail
    (refine (hmu _).mono ?_; rintro e w3 ⟨rfl, hb⟩; replace fa : objAt w3 (w.heap.size) = some (.cells (ints .i64 16 (numN (sqN x j))) 129) := zqb hb (by exact zqc); have lfa := zqa fa; replace fk : objAt w3 (w.heap.size + 1) = some (.cells (ints .u8 32 k) 23) := zqb hb (by exact zqc); have lfk := zqa fk; replace fr : objAt w3 (w.heap.size + 1 + 1) = some (.cells (ints .i64 16 zqd) 129) := zqb hb (by exact zqc); have lfr := zqa fr; replace fp : objAt w3 (w1.heap.size) = some (.cells (ints .i64 16 (numN (outN x (knum k 32) j))) 129) := zqb hb (by exact zqc); have lfp := zqa fp; replace hG : Below w.heap.size w w3 := Grew.trans (by exact zqe) hb; clear hb)
    have fp2 : objAt (w3.setRow w1.heap.size (ints .i64 16 (numN (outN x (knum k 32) (j + 1))))) w1.heap.size = some (.cells (ints .i64 16 (numN (outN x (knum k 32) (j + 1)))) 129) := zqt _ fp
    go_wp2_with fail
    clear fp
    (refine (hsq _).mono ?_; rintro e w4 ⟨rfl, hb⟩; replace fa : objAt w4 (w.heap.size) = some (.cells (ints .i64 16 (numN (sqN x j))) 129) := zqb hb (by exact zqc); have lfa := zqa fa; replace fk : objAt w4 (w.heap.size + 1) = some (.cells (ints .u8 32 k) 23) := zqb hb (by exact zqc); have lfk := zqa fk; replace fr : objAt w4 (w.heap.size + 1 + 1) = some (.cells (ints .i64 16 zqd) 129) := zqb hb (by exact zqc); have lfr := zqa fr; replace fp2 : objAt w4 (w1.heap.size) = some (.cells (ints .i64 16 (numN (outN x (knum k 32) (j + 1)))) 129) := zqb hb (by exact zqc); have lfp2 := zqa fp2; replace hG : Below w.heap.size w w4 := Grew.trans (by exact zqe) hb; clear hb)
    go_wp2
    go_roundw
    case rel => exact ⟨j + 1, by omega, by go_num, ⟨by exact zqe, by exact zqc, by exact zqc, by exact zqc, by exact zqc⟩⟩
    case measure => simp [intOf] <;> omega
  ·obtain rfl : j = 256 := by omega
   clear hlt
   go_wp2
   refine zqai rfl _ 129 _ (0, 0) _ rfl (zqt _ fr) Tryz.underlying129 rfl (by rw [zqf]; kernel_rfl) rfl ⟨by rw [HE.out], by exact zqe⟩
set_option maxHeartbeats 400000 in
theorem invN_any (x : Int) (w : World) (hx : 0 ≤ x ∧ x < 57896044618658097711785492504343953926634992332820282019728792003956564819949) :
  Calls Tryz.prog 115 #[.agg (ints .i64 16 (numN x))] w fun e w' => e = .returned (.agg (ints .i64 16 (numN (x ^ undo % 57896044618658097711785492504343953926634992332820282019728792003956564819949)))) ∧ Below w.heap.size w w' := by
 have hp := fun w => powN_any x lessK w hx zqs2
 rw [lessK_num] at hp
 have hG := Grew.refl w
 go_enter Tryz.func115, Tryz.ntmps115
 go_wp2_with fail
 ((first | (with_reducible refine zqz 3 (by kernel_rfl) (by kernel_rfl) (by kernel_rfl) (by kernel_rfl) (by kernel_rfl) ?_) | refine zqy 3 (by kernel_rfl) (by kernel_rfl) (by kernel_rfl) (by kernel_rfl) (by kernel_rfl) ?_); simp only [List.take_succ_cons, List.take_zero]; (repeat (first | go_big_quiet_skip | (go_big_quiet_want; go_big_quiet_op; first | go_big_quiet_on | (apply Exists.intro; refine ⟨fun _ => ?_, ?_⟩; (focus (first | (with_reducible exact Calls.of_more (less2_any _)) | (with_reducible exact Calls.of_more (hp _)))); go_big_quiet_on)))); refine wpQuiet_nil ?_; rintro _ ⟨mq, rfl⟩)
 (refine zqaa (i := 3) (fuel := 0) (by kernel_rfl) rfl ?_; intro K hK; go_simp; refine hK _ _ ?_; clear hK K)
 (refine wpAny_done (by kernel_rfl) ?_ _)
 go_wp2
 refine zqai rfl _ 129 _ (0, 0) _ rfl (by simp [go_sem]) Tryz.underlying129 rfl (by rw [zqf]; kernel_rfl) rfl ⟨rfl, by exact zqe⟩
end Go.Proofs.YtconieddcjpbjaaGreatDoor
namespace Go.Proofs.YtconieddcjpbjaaGreatDoor
open Go.RowKit
set_option linter.unusedVariables false
set_option linter.unusedSimpArgs false
def BD (x : Int) : Prop := 0 ≤ x ∧ x < 57896044618658097711785492504343953926634992332820282019728792003956564819949
def aN (x y : Int) : Int := (x + y) % 57896044618658097711785492504343953926634992332820282019728792003956564819949
def sN (x y : Int) : Int := (x - y) % 57896044618658097711785492504343953926634992332820282019728792003956564819949
def mN (x y : Int) : Int := x * y % 57896044618658097711785492504343953926634992332820282019728792003956564819949
def iN (x : Int) : Int := x ^ undo % 57896044618658097711785492504343953926634992332820282019728792003956564819949
theorem aN_bd (x y : Int) : BD (aN x y) := by unfold BD aN; omega
theorem sN_bd (x y : Int) : BD (sN x y) := by unfold BD sN; omega
theorem mN_bd (x y : Int) : BD (mN x y) := by unfold BD mN; omega
theorem iN_bd (x : Int) : BD (iN x) := by unfold BD iN; omega
theorem nv_BD (f : Nat → Int) : BD (nv f) := nv_bd f
theorem zqkq (n : Int) (h0 : 0 ≤ n) (h1 : n ≤ 4294967295) : BD n := by unfold BD; omega
theorem zqt6 (x y : Int) (w : World) (hx : BD x) (hy : BD y) : Calls Tryz.prog 132 #[.agg (ints .i64 16 (numN (x))), .agg (ints .i64 16 (numN (y)))] w fun e w' => e = .returned (.agg (ints .i64 16 (numN (aN x y)))) ∧ Below w.heap.size w w' := addN_any x y w hx hy
theorem zquc (x y : Int) (w : World) (hx : BD x) (hy : BD y) : Calls Tryz.prog 133 #[.agg (ints .i64 16 (numN (x))), .agg (ints .i64 16 (numN (y)))] w fun e w' => e = .returned (.agg (ints .i64 16 (numN (sN x y)))) ∧ Below w.heap.size w w' := zqxk x y w hx hy
theorem zqgi (x y : Int) (w : World) (hx : BD x) (hy : BD y) : Calls Tryz.prog 114 #[.agg (ints .i64 16 (numN (x))), .agg (ints .i64 16 (numN (y)))] w fun e w' => e = .returned (.agg (ints .i64 16 (numN (mN x y)))) ∧ Below w.heap.size w w' := zqoh x y w hx hy
theorem iN_any (x : Int) (w : World) (hx : BD x) : Calls Tryz.prog 115 #[.agg (ints .i64 16 (numN (x)))] w fun e w' => e = .returned (.agg (ints .i64 16 (numN (iN x)))) ∧ Below w.heap.size w w' := invN_any x w hx
def twXN (x z : Int) : Int := mN (mN (aN x z) (aN x z)) (mN (sN x z) (sN x z))
def twEN (x z : Int) : Int := sN (mN (aN x z) (aN x z)) (mN (sN x z) (sN x z))
def twZN (x z : Int) : Int := mN (twEN x z) (aN (mN (aN x z) (aN x z)) (mN 121665 (twEN x z)))
def daN (x z x' z' : Int) : Int := mN (sN x' z') (aN x z)
def cbN (x z x' z' : Int) : Int := mN (aN x' z') (sN x z)
def boXN (x z x' z' : Int) : Int := mN (aN (daN x z x' z') (cbN x z x' z')) (aN (daN x z x' z') (cbN x z x' z'))
def boZN (u x z x' z' : Int) : Int := mN u (mN (sN (daN x z x' z') (cbN x z x' z')) (sN (daN x z x' z') (cbN x z x' z')))
theorem ret_row4 {P : Program} {fn : Func} {R : Ending → World → Prop} {a : Act} {w : World} {p0 p1 p2 p3 : Tmp} (ty : TypeId) (h : fn.results = #[.cell p0 ty, .cell p1 ty, .cell p2 ty, .cell p3 ty]) (g0 g1 g2 g3 : Nat) (c0 c1 c2 c3 : Array Value) {t0 t1 t2 t3 : TypeId} {f0 f1 f2 f3 : Nat × Nat} {d : TypeDesc} {n : Nat}
  (h0 : a.tmps.getD p0 undef = .pointer (some ⟨g0, 0, none⟩)) (h1 : a.tmps.getD p1 undef = .pointer (some ⟨g1, 0, none⟩)) (h2 : a.tmps.getD p2 undef = .pointer (some ⟨g2, 0, none⟩)) (h3 : a.tmps.getD p3 undef = .pointer (some ⟨g3, 0, none⟩))
  (k0 : objAt w g0 = some (.cells c0 t0 f0)) (k1 : objAt w g1 = some (.cells c1 t1 f1)) (k2 : objAt w g2 = some (.cells c2 t2 f2)) (k3 : objAt w g3 = some (.cells c3 t3 f3))
  (hu : P.underlying ty = some d) (hd : (match d with | .struct _ | .array _ _ => true | _ => false) = true) (hi : (P.info? ty).map (·.size) = some n)
  (s0 : c0.size = n) (s1 : c1.size = n) (s2 : c2.size = n) (s3 : c3.size = n)
  (hD : a.defers = []) (hR : R (.returned (.tuple #[.agg c0, .agg c1, .agg c2, .agg c3])) w) : bodyPost P fn R .ret a w := by
 refine bodyPost_ret_by ?_ hD hR
 have e0 : a.tmps[p0]?.getD undef = .pointer (some ⟨g0, 0, none⟩) := by simpa using h0
 have e1 : a.tmps[p1]?.getD undef = .pointer (some ⟨g1, 0, none⟩) := by simpa using h1
 have e2 : a.tmps[p2]?.getD undef = .pointer (some ⟨g2, 0, none⟩) := by simpa using h2
 have e3 : a.tmps[p3]?.getD undef = .pointer (some ⟨g3, 0, none⟩) := by simpa using h3
 unfold objAt at k0 k1 k2 k3
 simp [results, h, e0, e1, e2, e3, asAddr, run_loadVar_row w g0 t0 ty c0 f0 d k0 hu hd (by rw [hi, s0]), run_loadVar_row w g1 t1 ty c1 f1 d k1 hu hd (by rw [hi, s1]), run_loadVar_row w g2 t2 ty c2 f2 d k2 hu hd (by rw [hi, s2]), run_loadVar_row w g3 t3 ty c3 f3 d k3 hu hd (by rw [hi, s3])]
set_option maxHeartbeats 2000000 in
theorem stepN_any (u x z x' z' : Int) (w : World) (hu : BD u) (hx : BD x) (hz : BD z) (hx' : BD x') (hz' : BD z') :
  Calls Tryz.prog 113 #[.agg (ints .i64 16 (numN (u))), .agg (ints .i64 16 (numN (x))), .agg (ints .i64 16 (numN (z))), .agg (ints .i64 16 (numN (x'))), .agg (ints .i64 16 (numN (z')))] w fun e w' => e = .returned (.tuple #[.agg (ints .i64 16 (numN (twXN x z))), .agg (ints .i64 16 (numN (twZN x z))), .agg (ints .i64 16 (numN (boXN x z x' z'))), .agg (ints .i64 16 (numN (boZN u x z x' z')))]) ∧ Below w.heap.size w w' := by
 have hG := Grew.refl w
 have fu : True := trivial
 have fx : True := trivial
 have fz : True := trivial
 have fp : True := trivial
 have fq : True := trivial
 have fr0 : True := trivial
 have fr1 : True := trivial
 have fr2 : True := trivial
 have fr3 : True := trivial
 go_enter Tryz.func113, Tryz.ntmps113
 have c1 : ∀ w, Calls Tryz.prog 132 #[.agg (ints .i64 16 (numN (x))), .agg (ints .i64 16 (numN (z)))] w fun e w' => e = .returned (.agg (ints .i64 16 (numN (aN x z)))) ∧ Below w.heap.size w w' := fun w => zqt6 _ _ w hx hz
 have c2 : ∀ w, Calls Tryz.prog 133 #[.agg (ints .i64 16 (numN (x))), .agg (ints .i64 16 (numN (z)))] w fun e w' => e = .returned (.agg (ints .i64 16 (numN (sN x z)))) ∧ Below w.heap.size w w' := fun w => zquc _ _ w hx hz
 have c3 : ∀ w, Calls Tryz.prog 132 #[.agg (ints .i64 16 (numN (x'))), .agg (ints .i64 16 (numN (z')))] w fun e w' => e = .returned (.agg (ints .i64 16 (numN (aN x' z')))) ∧ Below w.heap.size w w' := fun w => zqt6 _ _ w hx' hz'
 have c4 : ∀ w, Calls Tryz.prog 133 #[.agg (ints .i64 16 (numN (x'))), .agg (ints .i64 16 (numN (z')))] w fun e w' => e = .returned (.agg (ints .i64 16 (numN (sN x' z')))) ∧ Below w.heap.size w w' := fun w => zquc _ _ w hx' hz'
 have c5 : ∀ w, Calls Tryz.prog 114 #[.agg (ints .i64 16 (numN (sN x' z'))), .agg (ints .i64 16 (numN (aN x z)))] w fun e w' => e = .returned (.agg (ints .i64 16 (numN (daN x z x' z')))) ∧ Below w.heap.size w w' := fun w => zqgi _ _ w (sN_bd _ _) (aN_bd _ _)
 have c6 : ∀ w, Calls Tryz.prog 114 #[.agg (ints .i64 16 (numN (aN x' z'))), .agg (ints .i64 16 (numN (sN x z)))] w fun e w' => e = .returned (.agg (ints .i64 16 (numN (cbN x z x' z')))) ∧ Below w.heap.size w w' := fun w => zqgi _ _ w (aN_bd _ _) (sN_bd _ _)
 have c7 : ∀ w, Calls Tryz.prog 114 #[.agg (ints .i64 16 (numN (aN x z))), .agg (ints .i64 16 (numN (aN x z)))] w fun e w' => e = .returned (.agg (ints .i64 16 (numN (mN (aN x z) (aN x z))))) ∧ Below w.heap.size w w' := fun w => zqgi _ _ w (aN_bd _ _) (aN_bd _ _)
 have c8 : ∀ w, Calls Tryz.prog 114 #[.agg (ints .i64 16 (numN (sN x z))), .agg (ints .i64 16 (numN (sN x z)))] w fun e w' => e = .returned (.agg (ints .i64 16 (numN (mN (sN x z) (sN x z))))) ∧ Below w.heap.size w w' := fun w => zqgi _ _ w (sN_bd _ _) (sN_bd _ _)
 have c9 : ∀ w, Calls Tryz.prog 133 #[.agg (ints .i64 16 (numN (mN (aN x z) (aN x z)))), .agg (ints .i64 16 (numN (mN (sN x z) (sN x z))))] w fun e w' => e = .returned (.agg (ints .i64 16 (numN (twEN x z)))) ∧ Below w.heap.size w w' := fun w => zquc _ _ w (mN_bd _ _) (mN_bd _ _)
 have c10 : ∀ w, Calls Tryz.prog 132 #[.agg (ints .i64 16 (numN (daN x z x' z'))), .agg (ints .i64 16 (numN (cbN x z x' z')))] w fun e w' => e = .returned (.agg (ints .i64 16 (numN (aN (daN x z x' z') (cbN x z x' z'))))) ∧ Below w.heap.size w w' := fun w => zqt6 _ _ w (mN_bd _ _) (mN_bd _ _)
 have c11 : ∀ w, Calls Tryz.prog 133 #[.agg (ints .i64 16 (numN (daN x z x' z'))), .agg (ints .i64 16 (numN (cbN x z x' z')))] w fun e w' => e = .returned (.agg (ints .i64 16 (numN (sN (daN x z x' z') (cbN x z x' z'))))) ∧ Below w.heap.size w w' := fun w => zquc _ _ w (mN_bd _ _) (mN_bd _ _)
 have d1 : ∀ w, Calls Tryz.prog 114 #[.agg (ints .i64 16 (numN (mN (aN x z) (aN x z)))), .agg (ints .i64 16 (numN (mN (sN x z) (sN x z))))] w fun e w' => e = .returned (.agg (ints .i64 16 (numN (twXN x z)))) ∧ Below w.heap.size w w' := fun w => zqgi _ _ w (mN_bd _ _) (mN_bd _ _)
 have d2 : ∀ w, Calls Tryz.prog 114 #[.agg (ints .i64 16 (numN (121665))), .agg (ints .i64 16 (numN (twEN x z)))] w fun e w' => e = .returned (.agg (ints .i64 16 (numN (mN 121665 (twEN x z))))) ∧ Below w.heap.size w w' := fun w => zqgi _ _ w (zqkq _ (by decide) (by decide)) (sN_bd _ _)
 have d3 : ∀ w, Calls Tryz.prog 132 #[.agg (ints .i64 16 (numN (mN (aN x z) (aN x z)))), .agg (ints .i64 16 (numN (mN 121665 (twEN x z))))] w fun e w' => e = .returned (.agg (ints .i64 16 (numN (aN (mN (aN x z) (aN x z)) (mN 121665 (twEN x z)))))) ∧ Below w.heap.size w w' := fun w => zqt6 _ _ w (mN_bd _ _) (mN_bd _ _)
 have d4 : ∀ w, Calls Tryz.prog 114 #[.agg (ints .i64 16 (numN (twEN x z))), .agg (ints .i64 16 (numN (aN (mN (aN x z) (aN x z)) (mN 121665 (twEN x z)))))] w fun e w' => e = .returned (.agg (ints .i64 16 (numN (twZN x z)))) ∧ Below w.heap.size w w' := fun w => zqgi _ _ w (sN_bd _ _) (aN_bd _ _)
 have d5 : ∀ w, Calls Tryz.prog 114 #[.agg (ints .i64 16 (numN (aN (daN x z x' z') (cbN x z x' z')))), .agg (ints .i64 16 (numN (aN (daN x z x' z') (cbN x z x' z'))))] w fun e w' => e = .returned (.agg (ints .i64 16 (numN (boXN x z x' z')))) ∧ Below w.heap.size w w' := fun w => zqgi _ _ w (aN_bd _ _) (aN_bd _ _)
 have d6 : ∀ w, Calls Tryz.prog 114 #[.agg (ints .i64 16 (numN (sN (daN x z x' z') (cbN x z x' z')))), .agg (ints .i64 16 (numN (sN (daN x z x' z') (cbN x z x' z'))))] w fun e w' => e = .returned (.agg (ints .i64 16 (numN (mN (sN (daN x z x' z') (cbN x z x' z')) (sN (daN x z x' z') (cbN x z x' z')))))) ∧ Below w.heap.size w w' := fun w => zqgi _ _ w (sN_bd _ _) (sN_bd _ _)
 have d7 : ∀ w, Calls Tryz.prog 114 #[.agg (ints .i64 16 (numN (u))), .agg (ints .i64 16 (numN (mN (sN (daN x z x' z') (cbN x z x' z')) (sN (daN x z x' z') (cbN x z x' z')))))] w fun e w' => e = .returned (.agg (ints .i64 16 (numN (boZN u x z x' z')))) ∧ Below w.heap.size w w' := fun w => zqgi _ _ w hu (mN_bd _ _)
 have d8 := fun w => zqgs 121665 w (by decide) (by decide)
 go_wp2_with fail
 replace fu : objAt (((((((((w.alloc (.cells (ints .i64 16 (numN (u))) 129)).alloc (.cells (ints .i64 16 (numN (x))) 129)).alloc (.cells (ints .i64 16 (numN (z))) 129)).alloc (.cells (ints .i64 16 (numN (x'))) 129)).alloc (.cells (ints .i64 16 (numN (z'))) 129)).alloc (.cells (ints .i64 16 zqd) 129)).alloc (.cells (ints .i64 16 zqd) 129)).alloc (.cells (ints .i64 16 zqd) 129)).alloc (.cells (ints .i64 16 zqd) 129)) (w.heap.size) = some (.cells (ints .i64 16 (numN (u))) 129) := by exact zqc
 replace fx : objAt (((((((((w.alloc (.cells (ints .i64 16 (numN (u))) 129)).alloc (.cells (ints .i64 16 (numN (x))) 129)).alloc (.cells (ints .i64 16 (numN (z))) 129)).alloc (.cells (ints .i64 16 (numN (x'))) 129)).alloc (.cells (ints .i64 16 (numN (z'))) 129)).alloc (.cells (ints .i64 16 zqd) 129)).alloc (.cells (ints .i64 16 zqd) 129)).alloc (.cells (ints .i64 16 zqd) 129)).alloc (.cells (ints .i64 16 zqd) 129)) (w.heap.size + 1) = some (.cells (ints .i64 16 (numN (x))) 129) := by exact zqc
 replace fz : objAt (((((((((w.alloc (.cells (ints .i64 16 (numN (u))) 129)).alloc (.cells (ints .i64 16 (numN (x))) 129)).alloc (.cells (ints .i64 16 (numN (z))) 129)).alloc (.cells (ints .i64 16 (numN (x'))) 129)).alloc (.cells (ints .i64 16 (numN (z'))) 129)).alloc (.cells (ints .i64 16 zqd) 129)).alloc (.cells (ints .i64 16 zqd) 129)).alloc (.cells (ints .i64 16 zqd) 129)).alloc (.cells (ints .i64 16 zqd) 129)) (w.heap.size + 1 + 1) = some (.cells (ints .i64 16 (numN (z))) 129) := by exact zqc
 replace fp : objAt (((((((((w.alloc (.cells (ints .i64 16 (numN (u))) 129)).alloc (.cells (ints .i64 16 (numN (x))) 129)).alloc (.cells (ints .i64 16 (numN (z))) 129)).alloc (.cells (ints .i64 16 (numN (x'))) 129)).alloc (.cells (ints .i64 16 (numN (z'))) 129)).alloc (.cells (ints .i64 16 zqd) 129)).alloc (.cells (ints .i64 16 zqd) 129)).alloc (.cells (ints .i64 16 zqd) 129)).alloc (.cells (ints .i64 16 zqd) 129)) (w.heap.size + 1 + 1 + 1) = some (.cells (ints .i64 16 (numN (x'))) 129) := by exact zqc
 replace fq : objAt (((((((((w.alloc (.cells (ints .i64 16 (numN (u))) 129)).alloc (.cells (ints .i64 16 (numN (x))) 129)).alloc (.cells (ints .i64 16 (numN (z))) 129)).alloc (.cells (ints .i64 16 (numN (x'))) 129)).alloc (.cells (ints .i64 16 (numN (z'))) 129)).alloc (.cells (ints .i64 16 zqd) 129)).alloc (.cells (ints .i64 16 zqd) 129)).alloc (.cells (ints .i64 16 zqd) 129)).alloc (.cells (ints .i64 16 zqd) 129)) (w.heap.size + 1 + 1 + 1 + 1) = some (.cells (ints .i64 16 (numN (z'))) 129) := by exact zqc
 replace fr0 : objAt (((((((((w.alloc (.cells (ints .i64 16 (numN (u))) 129)).alloc (.cells (ints .i64 16 (numN (x))) 129)).alloc (.cells (ints .i64 16 (numN (z))) 129)).alloc (.cells (ints .i64 16 (numN (x'))) 129)).alloc (.cells (ints .i64 16 (numN (z'))) 129)).alloc (.cells (ints .i64 16 zqd) 129)).alloc (.cells (ints .i64 16 zqd) 129)).alloc (.cells (ints .i64 16 zqd) 129)).alloc (.cells (ints .i64 16 zqd) 129)) (w.heap.size + 1 + 1 + 1 + 1 + 1) = some (.cells (ints .i64 16 zqd) 129) := by exact zqc
 replace fr1 : objAt (((((((((w.alloc (.cells (ints .i64 16 (numN (u))) 129)).alloc (.cells (ints .i64 16 (numN (x))) 129)).alloc (.cells (ints .i64 16 (numN (z))) 129)).alloc (.cells (ints .i64 16 (numN (x'))) 129)).alloc (.cells (ints .i64 16 (numN (z'))) 129)).alloc (.cells (ints .i64 16 zqd) 129)).alloc (.cells (ints .i64 16 zqd) 129)).alloc (.cells (ints .i64 16 zqd) 129)).alloc (.cells (ints .i64 16 zqd) 129)) (w.heap.size + 1 + 1 + 1 + 1 + 1 + 1) = some (.cells (ints .i64 16 zqd) 129) := by exact zqc
 replace fr2 : objAt (((((((((w.alloc (.cells (ints .i64 16 (numN (u))) 129)).alloc (.cells (ints .i64 16 (numN (x))) 129)).alloc (.cells (ints .i64 16 (numN (z))) 129)).alloc (.cells (ints .i64 16 (numN (x'))) 129)).alloc (.cells (ints .i64 16 (numN (z'))) 129)).alloc (.cells (ints .i64 16 zqd) 129)).alloc (.cells (ints .i64 16 zqd) 129)).alloc (.cells (ints .i64 16 zqd) 129)).alloc (.cells (ints .i64 16 zqd) 129)) (w.heap.size + 1 + 1 + 1 + 1 + 1 + 1 + 1) = some (.cells (ints .i64 16 zqd) 129) := by exact zqc
 replace fr3 : objAt (((((((((w.alloc (.cells (ints .i64 16 (numN (u))) 129)).alloc (.cells (ints .i64 16 (numN (x))) 129)).alloc (.cells (ints .i64 16 (numN (z))) 129)).alloc (.cells (ints .i64 16 (numN (x'))) 129)).alloc (.cells (ints .i64 16 (numN (z'))) 129)).alloc (.cells (ints .i64 16 zqd) 129)).alloc (.cells (ints .i64 16 zqd) 129)).alloc (.cells (ints .i64 16 zqd) 129)).alloc (.cells (ints .i64 16 zqd) 129)) (w.heap.size + 1 + 1 + 1 + 1 + 1 + 1 + 1 + 1) = some (.cells (ints .i64 16 zqd) 129) := by exact zqc
 replace hG : Below w.heap.size w (((((((((w.alloc (.cells (ints .i64 16 (numN (u))) 129)).alloc (.cells (ints .i64 16 (numN (x))) 129)).alloc (.cells (ints .i64 16 (numN (z))) 129)).alloc (.cells (ints .i64 16 (numN (x'))) 129)).alloc (.cells (ints .i64 16 (numN (z'))) 129)).alloc (.cells (ints .i64 16 zqd) 129)).alloc (.cells (ints .i64 16 zqd) 129)).alloc (.cells (ints .i64 16 zqd) 129)).alloc (.cells (ints .i64 16 zqd) 129)) := by exact zqe
 generalize ((((((((w.alloc (.cells (ints .i64 16 (numN (u))) 129)).alloc (.cells (ints .i64 16 (numN (x))) 129)).alloc (.cells (ints .i64 16 (numN (z))) 129)).alloc (.cells (ints .i64 16 (numN (x'))) 129)).alloc (.cells (ints .i64 16 (numN (z'))) 129)).alloc (.cells (ints .i64 16 zqd) 129)).alloc (.cells (ints .i64 16 zqd) 129)).alloc (.cells (ints .i64 16 zqd) 129)).alloc (.cells (ints .i64 16 zqd) 129) = w1 at *
 have lfu := zqa fu
 have lfx := zqa fx
 have lfz := zqa fz
 have lfp := zqa fp
 have lfq := zqa fq
 have lfr0 := zqa fr0
 have lfr1 := zqa fr1
 have lfr2 := zqa fr2
 have lfr3 := zqa fr3
 go_wp2_with fail
 (refine zqdq (by kernel_rfl) (by kernel_rfl) ?_; (repeat (first | refine zqn rfl ?_ | (refine zql rfl ?_; apply Exists.intro))); refine zqbp ?_; intro γ hinj hbase; (repeat (first | (refine zqab rfl ?_; ((first | go_big_quiet_skip | (go_big_quiet_want; go_big_quiet_op; go_big_quiet_on)); refine wpQuiet_nil ?_)) | ((first | refine zqv rfl (fun _ => rfl) ?_ | ((try simp only [Nat.zero_add, Nat.reduceAdd]); apply zqaw zqi; (focus rfl); (focus (first | exact zqq _ | exact zqr _ _ | exact zqo _ | rfl)); (focus (exact zqm))) | ((try simp only [Nat.zero_add, Nat.reduceAdd]); apply zqac _ _ zqi; (focus rfl); (focus (intro W; (first | exact zqam _ | exact zqag _ | exact zqan _ | exact zqaf _ | exact zq3 _ | exact zq2 _))); (focus (first | exact zq1 _ _ _ | exact zqad _ _ | rfl)); (focus (exact zqm))) | ((try simp only [Nat.zero_add, Nat.reduceAdd]); apply zqah zqi; (focus rfl); (focus (intro W; simp only [List.map_toArray, List.map_cons, List.map_nil]; first | fail)); (focus (exact zqm))) | (apply zqao; (focus rfl); (focus rfl); (focus rfl); (focus (intro W hC hF; go_big_quiet_want; go_big_quiet_op; (first | go_big_quiet_on | (apply Exists.intro; refine ⟨fun _ => ?_, ?_⟩; (focus (first | (with_reducible exact Calls.of_more (c1 _)) | (with_reducible exact Calls.of_more (c2 _)))); go_big_quiet_on)); exact wpQuiet_nil rfl)); (focus (first | exact fun _ => ⟨rfl, rfl⟩ | exact fun h => absurd h (by decide))))); ((first | go_big_quiet_skip | (go_big_quiet_want; go_big_quiet_op; go_big_quiet_on)); refine wpQuiet_nil ?_)) | refine zqu rfl (fun _ => rfl) ?_ | ((try simp only [Nat.zero_add, Nat.reduceAdd]); apply zqae (zq4 (hbase _)); (focus rfl); (focus rfl); (focus rfl); (focus (first | exact zqq _ | exact zqr _ _ | exact zqo _ | rfl)); rotate_left 3; (focus (exact zqbi)); rotate_right 3; (focus kernel_rfl); (focus (first | exact zqf _ _ _ | rfl)); (focus (first | exact zq6 _ _ _ | exact zqaj _ _ _ _ | kernel_rfl)); (focus (decide +kernel)); (focus (exact zqm))))))
 (refine zqbs ?_; rintro _ ⟨mq, rfl⟩ hF; simp only [List.forall_mem_cons] at hF; obtain ⟨fb, fa, -⟩ := hF)
 have nab : ¬ (γ 6 = γ 7) := hinj _ _ (by decide)
 replace fu : objAt (more w1 mq) (w.heap.size) = some (.cells (ints .i64 16 (numN (u))) 129) := zqk _ fu
 replace fx : objAt (more w1 mq) (w.heap.size + 1) = some (.cells (ints .i64 16 (numN (x))) 129) := zqk _ fx
 replace fz : objAt (more w1 mq) (w.heap.size + 1 + 1) = some (.cells (ints .i64 16 (numN (z))) 129) := zqk _ fz
 replace fp : objAt (more w1 mq) (w.heap.size + 1 + 1 + 1) = some (.cells (ints .i64 16 (numN (x'))) 129) := zqk _ fp
 replace fq : objAt (more w1 mq) (w.heap.size + 1 + 1 + 1 + 1) = some (.cells (ints .i64 16 (numN (z'))) 129) := zqk _ fq
 replace fr0 : objAt (more w1 mq) (w.heap.size + 1 + 1 + 1 + 1 + 1) = some (.cells (ints .i64 16 zqd) 129) := zqk _ fr0
 replace fr1 : objAt (more w1 mq) (w.heap.size + 1 + 1 + 1 + 1 + 1 + 1) = some (.cells (ints .i64 16 zqd) 129) := zqk _ fr1
 replace fr2 : objAt (more w1 mq) (w.heap.size + 1 + 1 + 1 + 1 + 1 + 1 + 1) = some (.cells (ints .i64 16 zqd) 129) := zqk _ fr2
 replace fr3 : objAt (more w1 mq) (w.heap.size + 1 + 1 + 1 + 1 + 1 + 1 + 1 + 1) = some (.cells (ints .i64 16 zqd) 129) := zqk _ fr3
 replace hG : Below w.heap.size w (more w1 mq) := Grew.more hG _
 replace fa : objAt (more w1 mq) (γ 6) = some (.cells (ints .i64 16 (numN (aN x z))) 129) := fa
 replace fb : objAt (more w1 mq) (γ 7) = some (.cells (ints .i64 16 (numN (sN x z))) 129) := fb
 clear lfu lfx lfz lfp lfq lfr0 lfr1 lfr2 lfr3
 clear hinj hbase
 generalize γ 6 = ga at *
 generalize γ 7 = gb at *
 generalize more w1 mq = w2 at *
 clear γ
 have lfu := zqa fu
 have lfx := zqa fx
 have lfz := zqa fz
 have lfp := zqa fp
 have lfq := zqa fq
 have lfr0 := zqa fr0
 have lfr1 := zqa fr1
 have lfr2 := zqa fr2
 have lfr3 := zqa fr3
 have lfa := zqa fa
 have lfb := zqa fb
 go_wp2_with fail
 (refine zqdq (by kernel_rfl) (by kernel_rfl) ?_; (repeat (first | refine zqn rfl ?_ | (refine zql rfl ?_; apply Exists.intro))); refine zqbp ?_; intro γ hinj hbase; (repeat (first | (refine zqab rfl ?_; ((first | go_big_quiet_skip | (go_big_quiet_want; go_big_quiet_op; go_big_quiet_on)); refine wpQuiet_nil ?_)) | ((first | refine zqv rfl (fun _ => rfl) ?_ | ((try simp only [Nat.zero_add, Nat.reduceAdd]); apply zqaw zqi; (focus rfl); (focus (first | exact zqq _ | exact zqr _ _ | exact zqo _ | rfl)); (focus (exact zqm))) | ((try simp only [Nat.zero_add, Nat.reduceAdd]); apply zqac _ _ zqi; (focus rfl); (focus (intro W; (first | exact zqam _ | exact zqag _ | exact zqan _ | exact zqaf _ | exact zq3 _ | exact zq2 _))); (focus (first | exact zq1 _ _ _ | exact zqad _ _ | rfl)); (focus (exact zqm))) | ((try simp only [Nat.zero_add, Nat.reduceAdd]); apply zqah zqi; (focus rfl); (focus (intro W; simp only [List.map_toArray, List.map_cons, List.map_nil]; first | fail)); (focus (exact zqm))) | (apply zqao; (focus rfl); (focus rfl); (focus rfl); (focus (intro W hC hF; go_big_quiet_want; go_big_quiet_op; (first | go_big_quiet_on | (apply Exists.intro; refine ⟨fun _ => ?_, ?_⟩; (focus (first | (with_reducible exact Calls.of_more (c3 _)) | (with_reducible exact Calls.of_more (c4 _)))); go_big_quiet_on)); exact wpQuiet_nil rfl)); (focus (first | exact fun _ => ⟨rfl, rfl⟩ | exact fun h => absurd h (by decide))))); ((first | go_big_quiet_skip | (go_big_quiet_want; go_big_quiet_op; go_big_quiet_on)); refine wpQuiet_nil ?_)) | refine zqu rfl (fun _ => rfl) ?_ | ((try simp only [Nat.zero_add, Nat.reduceAdd]); apply zqae (zq4 (hbase _)); (focus rfl); (focus rfl); (focus rfl); (focus (first | exact zqq _ | exact zqr _ _ | exact zqo _ | rfl)); rotate_left 3; (focus (exact zqbi)); rotate_right 3; (focus kernel_rfl); (focus (first | exact zqf _ _ _ | rfl)); (focus (first | exact zq6 _ _ _ | exact zqaj _ _ _ _ | kernel_rfl)); (focus (decide +kernel)); (focus (exact zqm))))))
 (refine zqbs ?_; rintro _ ⟨mq, rfl⟩ hF; simp only [List.forall_mem_cons] at hF; obtain ⟨fd, fc, -⟩ := hF)
 have ncd : ¬ (γ 6 = γ 7) := hinj _ _ (by decide)
 replace fu : objAt (more w2 mq) (w.heap.size) = some (.cells (ints .i64 16 (numN (u))) 129) := zqk _ fu
 replace fx : objAt (more w2 mq) (w.heap.size + 1) = some (.cells (ints .i64 16 (numN (x))) 129) := zqk _ fx
 replace fz : objAt (more w2 mq) (w.heap.size + 1 + 1) = some (.cells (ints .i64 16 (numN (z))) 129) := zqk _ fz
 replace fp : objAt (more w2 mq) (w.heap.size + 1 + 1 + 1) = some (.cells (ints .i64 16 (numN (x'))) 129) := zqk _ fp
 replace fq : objAt (more w2 mq) (w.heap.size + 1 + 1 + 1 + 1) = some (.cells (ints .i64 16 (numN (z'))) 129) := zqk _ fq
 replace fr0 : objAt (more w2 mq) (w.heap.size + 1 + 1 + 1 + 1 + 1) = some (.cells (ints .i64 16 zqd) 129) := zqk _ fr0
 replace fr1 : objAt (more w2 mq) (w.heap.size + 1 + 1 + 1 + 1 + 1 + 1) = some (.cells (ints .i64 16 zqd) 129) := zqk _ fr1
 replace fr2 : objAt (more w2 mq) (w.heap.size + 1 + 1 + 1 + 1 + 1 + 1 + 1) = some (.cells (ints .i64 16 zqd) 129) := zqk _ fr2
 replace fr3 : objAt (more w2 mq) (w.heap.size + 1 + 1 + 1 + 1 + 1 + 1 + 1 + 1) = some (.cells (ints .i64 16 zqd) 129) := zqk _ fr3
 replace fa : objAt (more w2 mq) (ga) = some (.cells (ints .i64 16 (numN (aN x z))) 129) := zqk _ fa
 replace fb : objAt (more w2 mq) (gb) = some (.cells (ints .i64 16 (numN (sN x z))) 129) := zqk _ fb
 replace hG : Below w.heap.size w (more w2 mq) := Grew.more hG _
 replace fc : objAt (more w2 mq) (γ 6) = some (.cells (ints .i64 16 (numN (aN x' z'))) 129) := fc
 replace fd : objAt (more w2 mq) (γ 7) = some (.cells (ints .i64 16 (numN (sN x' z'))) 129) := fd
 clear lfu lfx lfz lfp lfq lfr0 lfr1 lfr2 lfr3 lfa lfb
 clear hinj hbase
 generalize γ 6 = gc at *
 generalize γ 7 = gd at *
 generalize more w2 mq = w3 at *
 clear γ
 have lfu := zqa fu
 have lfx := zqa fx
 have lfz := zqa fz
 have lfp := zqa fp
 have lfq := zqa fq
 have lfr0 := zqa fr0
 have lfr1 := zqa fr1
 have lfr2 := zqa fr2
 have lfr3 := zqa fr3
 have lfa := zqa fa
 have lfb := zqa fb
 have lfc := zqa fc
 have lfd := zqa fd
 go_wp2_with fail
 (refine zqdq (by kernel_rfl) (by kernel_rfl) ?_; (repeat (first | refine zqn rfl ?_ | (refine zql rfl ?_; apply Exists.intro))); refine zqbp ?_; intro γ hinj hbase; (repeat (first | (refine zqab rfl ?_; ((first | go_big_quiet_skip | (go_big_quiet_want; go_big_quiet_op; go_big_quiet_on)); refine wpQuiet_nil ?_)) | ((first | refine zqv rfl (fun _ => rfl) ?_ | ((try simp only [Nat.zero_add, Nat.reduceAdd]); apply zqaw zqi; (focus rfl); (focus (first | exact zqq _ | exact zqr _ _ | exact zqo _ | rfl)); (focus (exact zqm))) | ((try simp only [Nat.zero_add, Nat.reduceAdd]); apply zqac _ _ zqi; (focus rfl); (focus (intro W; (first | exact zqam _ | exact zqag _ | exact zqan _ | exact zqaf _ | exact zq3 _ | exact zq2 _))); (focus (first | exact zq1 _ _ _ | exact zqad _ _ | rfl)); (focus (exact zqm))) | ((try simp only [Nat.zero_add, Nat.reduceAdd]); apply zqah zqi; (focus rfl); (focus (intro W; simp only [List.map_toArray, List.map_cons, List.map_nil]; first | fail)); (focus (exact zqm))) | (apply zqao; (focus rfl); (focus rfl); (focus rfl); (focus (intro W hC hF; go_big_quiet_want; go_big_quiet_op; (first | go_big_quiet_on | (apply Exists.intro; refine ⟨fun _ => ?_, ?_⟩; (focus (first | (with_reducible exact Calls.of_more (c5 _)) | (with_reducible exact Calls.of_more (c6 _)))); go_big_quiet_on)); exact wpQuiet_nil rfl)); (focus (first | exact fun _ => ⟨rfl, rfl⟩ | exact fun h => absurd h (by decide))))); ((first | go_big_quiet_skip | (go_big_quiet_want; go_big_quiet_op; go_big_quiet_on)); refine wpQuiet_nil ?_)) | refine zqu rfl (fun _ => rfl) ?_ | ((try simp only [Nat.zero_add, Nat.reduceAdd]); apply zqae (zq4 (hbase _)); (focus rfl); (focus rfl); (focus rfl); (focus (first | exact zqq _ | exact zqr _ _ | exact zqo _ | rfl)); rotate_left 3; (focus (exact zqbi)); rotate_right 3; (focus kernel_rfl); (focus (first | exact zqf _ _ _ | rfl)); (focus (first | exact zq6 _ _ _ | exact zqaj _ _ _ _ | kernel_rfl)); (focus (decide +kernel)); (focus (exact zqm))))))
 (refine zqbs ?_; rintro _ ⟨mq, rfl⟩ hF; simp only [List.forall_mem_cons] at hF; obtain ⟨fcb, fda, -⟩ := hF)
 have ncbda : ¬ (γ 7 = γ 6) := hinj _ _ (by decide)
 replace fu : objAt (more w3 mq) (w.heap.size) = some (.cells (ints .i64 16 (numN (u))) 129) := zqk _ fu
 replace fx : objAt (more w3 mq) (w.heap.size + 1) = some (.cells (ints .i64 16 (numN (x))) 129) := zqk _ fx
 replace fz : objAt (more w3 mq) (w.heap.size + 1 + 1) = some (.cells (ints .i64 16 (numN (z))) 129) := zqk _ fz
 replace fp : objAt (more w3 mq) (w.heap.size + 1 + 1 + 1) = some (.cells (ints .i64 16 (numN (x'))) 129) := zqk _ fp
 replace fq : objAt (more w3 mq) (w.heap.size + 1 + 1 + 1 + 1) = some (.cells (ints .i64 16 (numN (z'))) 129) := zqk _ fq
 replace fr0 : objAt (more w3 mq) (w.heap.size + 1 + 1 + 1 + 1 + 1) = some (.cells (ints .i64 16 zqd) 129) := zqk _ fr0
 replace fr1 : objAt (more w3 mq) (w.heap.size + 1 + 1 + 1 + 1 + 1 + 1) = some (.cells (ints .i64 16 zqd) 129) := zqk _ fr1
 replace fr2 : objAt (more w3 mq) (w.heap.size + 1 + 1 + 1 + 1 + 1 + 1 + 1) = some (.cells (ints .i64 16 zqd) 129) := zqk _ fr2
 replace fr3 : objAt (more w3 mq) (w.heap.size + 1 + 1 + 1 + 1 + 1 + 1 + 1 + 1) = some (.cells (ints .i64 16 zqd) 129) := zqk _ fr3
 replace fa : objAt (more w3 mq) (ga) = some (.cells (ints .i64 16 (numN (aN x z))) 129) := zqk _ fa
 replace fb : objAt (more w3 mq) (gb) = some (.cells (ints .i64 16 (numN (sN x z))) 129) := zqk _ fb
 replace fc : objAt (more w3 mq) (gc) = some (.cells (ints .i64 16 (numN (aN x' z'))) 129) := zqk _ fc
 replace fd : objAt (more w3 mq) (gd) = some (.cells (ints .i64 16 (numN (sN x' z'))) 129) := zqk _ fd
 replace hG : Below w.heap.size w (more w3 mq) := Grew.more hG _
 replace fda : objAt (more w3 mq) (γ 6) = some (.cells (ints .i64 16 (numN (daN x z x' z'))) 129) := fda
 replace fcb : objAt (more w3 mq) (γ 7) = some (.cells (ints .i64 16 (numN (cbN x z x' z'))) 129) := fcb
 clear lfu lfx lfz lfp lfq lfr0 lfr1 lfr2 lfr3 lfa lfb lfc lfd
 clear hinj hbase
 generalize γ 6 = gda at *
 generalize γ 7 = gcb at *
 generalize more w3 mq = w4 at *
 clear γ
 have lfu := zqa fu
 have lfx := zqa fx
 have lfz := zqa fz
 have lfp := zqa fp
 have lfq := zqa fq
 have lfr0 := zqa fr0
 have lfr1 := zqa fr1
 have lfr2 := zqa fr2
 have lfr3 := zqa fr3
 have lfa := zqa fa
 have lfb := zqa fb
 have lfc := zqa fc
 have lfd := zqa fd
 have lfda := zqa fda
 have lfcb := zqa fcb
 clear fc lfc
 clear fd lfd
 clear fx lfx
 clear fz lfz
 clear fp lfp
 clear fq lfq
 go_wp2_with fail
 (refine zqdq (by kernel_rfl) (by kernel_rfl) ?_; (repeat (first | refine zqn rfl ?_ | (refine zql rfl ?_; apply Exists.intro))); refine zqbp ?_; intro γ hinj hbase; (repeat (first | (refine zqab rfl ?_; ((first | go_big_quiet_skip | (go_big_quiet_want; go_big_quiet_op; go_big_quiet_on)); refine wpQuiet_nil ?_)) | ((first | refine zqv rfl (fun _ => rfl) ?_ | ((try simp only [Nat.zero_add, Nat.reduceAdd]); apply zqaw zqi; (focus rfl); (focus (first | exact zqq _ | exact zqr _ _ | exact zqo _ | rfl)); (focus (exact zqm))) | ((try simp only [Nat.zero_add, Nat.reduceAdd]); apply zqac _ _ zqi; (focus rfl); (focus (intro W; (first | exact zqam _ | exact zqag _ | exact zqan _ | exact zqaf _ | exact zq3 _ | exact zq2 _))); (focus (first | exact zq1 _ _ _ | exact zqad _ _ | rfl)); (focus (exact zqm))) | ((try simp only [Nat.zero_add, Nat.reduceAdd]); apply zqah zqi; (focus rfl); (focus (intro W; simp only [List.map_toArray, List.map_cons, List.map_nil]; first | fail)); (focus (exact zqm))) | (apply zqao; (focus rfl); (focus rfl); (focus rfl); (focus (intro W hC hF; go_big_quiet_want; go_big_quiet_op; (first | go_big_quiet_on | (apply Exists.intro; refine ⟨fun _ => ?_, ?_⟩; (focus (first | (with_reducible exact Calls.of_more (c7 _)) | (with_reducible exact Calls.of_more (c8 _)))); go_big_quiet_on)); exact wpQuiet_nil rfl)); (focus (first | exact fun _ => ⟨rfl, rfl⟩ | exact fun h => absurd h (by decide))))); ((first | go_big_quiet_skip | (go_big_quiet_want; go_big_quiet_op; go_big_quiet_on)); refine wpQuiet_nil ?_)) | refine zqu rfl (fun _ => rfl) ?_ | ((try simp only [Nat.zero_add, Nat.reduceAdd]); apply zqae (zq4 (hbase _)); (focus rfl); (focus rfl); (focus rfl); (focus (first | exact zqq _ | exact zqr _ _ | exact zqo _ | rfl)); rotate_left 3; (focus (exact zqbi)); rotate_right 3; (focus kernel_rfl); (focus (first | exact zqf _ _ _ | rfl)); (focus (first | exact zq6 _ _ _ | exact zqaj _ _ _ _ | kernel_rfl)); (focus (decide +kernel)); (focus (exact zqm))))))
 (refine zqbs ?_; rintro _ ⟨mq, rfl⟩ hF; simp only [List.forall_mem_cons] at hF; obtain ⟨fbb, faa, -⟩ := hF)
 have naabb : ¬ (γ 6 = γ 7) := hinj _ _ (by decide)
 replace fu : objAt (more w4 mq) (w.heap.size) = some (.cells (ints .i64 16 (numN (u))) 129) := zqk _ fu
 replace fr0 : objAt (more w4 mq) (w.heap.size + 1 + 1 + 1 + 1 + 1) = some (.cells (ints .i64 16 zqd) 129) := zqk _ fr0
 replace fr1 : objAt (more w4 mq) (w.heap.size + 1 + 1 + 1 + 1 + 1 + 1) = some (.cells (ints .i64 16 zqd) 129) := zqk _ fr1
 replace fr2 : objAt (more w4 mq) (w.heap.size + 1 + 1 + 1 + 1 + 1 + 1 + 1) = some (.cells (ints .i64 16 zqd) 129) := zqk _ fr2
 replace fr3 : objAt (more w4 mq) (w.heap.size + 1 + 1 + 1 + 1 + 1 + 1 + 1 + 1) = some (.cells (ints .i64 16 zqd) 129) := zqk _ fr3
 replace fa : objAt (more w4 mq) (ga) = some (.cells (ints .i64 16 (numN (aN x z))) 129) := zqk _ fa
 replace fb : objAt (more w4 mq) (gb) = some (.cells (ints .i64 16 (numN (sN x z))) 129) := zqk _ fb
 replace fda : objAt (more w4 mq) (gda) = some (.cells (ints .i64 16 (numN (daN x z x' z'))) 129) := zqk _ fda
 replace fcb : objAt (more w4 mq) (gcb) = some (.cells (ints .i64 16 (numN (cbN x z x' z'))) 129) := zqk _ fcb
 replace hG : Below w.heap.size w (more w4 mq) := Grew.more hG _
 replace faa : objAt (more w4 mq) (γ 6) = some (.cells (ints .i64 16 (numN (mN (aN x z) (aN x z)))) 129) := faa
 replace fbb : objAt (more w4 mq) (γ 7) = some (.cells (ints .i64 16 (numN (mN (sN x z) (sN x z)))) 129) := fbb
 clear lfu lfr0 lfr1 lfr2 lfr3 lfa lfb lfda lfcb
 clear hinj hbase
 generalize γ 6 = gaa at *
 generalize γ 7 = gbb at *
 generalize more w4 mq = w5 at *
 clear γ
 have lfu := zqa fu
 have lfr0 := zqa fr0
 have lfr1 := zqa fr1
 have lfr2 := zqa fr2
 have lfr3 := zqa fr3
 have lfa := zqa fa
 have lfb := zqa fb
 have lfda := zqa fda
 have lfcb := zqa fcb
 have lfaa := zqa faa
 have lfbb := zqa fbb
 clear fa lfa
 clear fb lfb
 go_wp2_with fail
 (refine (c9 _).mono ?_; rintro e w6 ⟨rfl, hb⟩; replace fu : objAt w6 (w.heap.size) = some (.cells (ints .i64 16 (numN (u))) 129) := zqb hb (by exact zqc); have lfu := zqa fu; replace fr0 : objAt w6 (w.heap.size + 1 + 1 + 1 + 1 + 1) = some (.cells (ints .i64 16 zqd) 129) := zqb hb (by exact zqc); have lfr0 := zqa fr0; replace fr1 : objAt w6 (w.heap.size + 1 + 1 + 1 + 1 + 1 + 1) = some (.cells (ints .i64 16 zqd) 129) := zqb hb (by exact zqc); have lfr1 := zqa fr1; replace fr2 : objAt w6 (w.heap.size + 1 + 1 + 1 + 1 + 1 + 1 + 1) = some (.cells (ints .i64 16 zqd) 129) := zqb hb (by exact zqc); have lfr2 := zqa fr2; replace fr3 : objAt w6 (w.heap.size + 1 + 1 + 1 + 1 + 1 + 1 + 1 + 1) = some (.cells (ints .i64 16 zqd) 129) := zqb hb (by exact zqc); have lfr3 := zqa fr3; replace fda : objAt w6 (gda) = some (.cells (ints .i64 16 (numN (daN x z x' z'))) 129) := zqb hb (by exact zqc); have lfda := zqa fda; replace fcb : objAt w6 (gcb) = some (.cells (ints .i64 16 (numN (cbN x z x' z'))) 129) := zqb hb (by exact zqc); have lfcb := zqa fcb; replace faa : objAt w6 (gaa) = some (.cells (ints .i64 16 (numN (mN (aN x z) (aN x z)))) 129) := zqb hb (by exact zqc); have lfaa := zqa faa; replace fbb : objAt w6 (gbb) = some (.cells (ints .i64 16 (numN (mN (sN x z) (sN x z)))) 129) := zqb hb (by exact zqc); have lfbb := zqa fbb; replace hG : Below w.heap.size w w6 := Grew.trans (by exact zqe) hb; clear hb)
 go_wp2_with fail
 have fe : objAt (w6.alloc (.cells (ints .i64 16 (numN (twEN x z))) 129)) w6.heap.size = some (.cells (ints .i64 16 (numN (twEN x z))) 129) := zqh _ _ _ rfl
 replace fu : objAt (w6.alloc (.cells (ints .i64 16 (numN (twEN x z))) 129)) (w.heap.size) = some (.cells (ints .i64 16 (numN (u))) 129) := zqp _ fu
 replace fr0 : objAt (w6.alloc (.cells (ints .i64 16 (numN (twEN x z))) 129)) (w.heap.size + 1 + 1 + 1 + 1 + 1) = some (.cells (ints .i64 16 zqd) 129) := zqp _ fr0
 replace fr1 : objAt (w6.alloc (.cells (ints .i64 16 (numN (twEN x z))) 129)) (w.heap.size + 1 + 1 + 1 + 1 + 1 + 1) = some (.cells (ints .i64 16 zqd) 129) := zqp _ fr1
 replace fr2 : objAt (w6.alloc (.cells (ints .i64 16 (numN (twEN x z))) 129)) (w.heap.size + 1 + 1 + 1 + 1 + 1 + 1 + 1) = some (.cells (ints .i64 16 zqd) 129) := zqp _ fr2
 replace fr3 : objAt (w6.alloc (.cells (ints .i64 16 (numN (twEN x z))) 129)) (w.heap.size + 1 + 1 + 1 + 1 + 1 + 1 + 1 + 1) = some (.cells (ints .i64 16 zqd) 129) := zqp _ fr3
 replace fda : objAt (w6.alloc (.cells (ints .i64 16 (numN (twEN x z))) 129)) (gda) = some (.cells (ints .i64 16 (numN (daN x z x' z'))) 129) := zqp _ fda
 replace fcb : objAt (w6.alloc (.cells (ints .i64 16 (numN (twEN x z))) 129)) (gcb) = some (.cells (ints .i64 16 (numN (cbN x z x' z'))) 129) := zqp _ fcb
 replace faa : objAt (w6.alloc (.cells (ints .i64 16 (numN (twEN x z))) 129)) (gaa) = some (.cells (ints .i64 16 (numN (mN (aN x z) (aN x z)))) 129) := zqp _ faa
 replace fbb : objAt (w6.alloc (.cells (ints .i64 16 (numN (twEN x z))) 129)) (gbb) = some (.cells (ints .i64 16 (numN (mN (sN x z) (sN x z)))) 129) := zqp _ fbb
 replace hG : Below w.heap.size w (w6.alloc (.cells (ints .i64 16 (numN (twEN x z))) 129)) := Grew.alloc hG _
 clear lfu lfr0 lfr1 lfr2 lfr3 lfda lfcb lfaa lfbb
 generalize w6.alloc (.cells (ints .i64 16 (numN (twEN x z))) 129) = w7 at *
 generalize w6.heap.size = ge at *
 have lfu := zqa fu
 have lfr0 := zqa fr0
 have lfr1 := zqa fr1
 have lfr2 := zqa fr2
 have lfr3 := zqa fr3
 have lfda := zqa fda
 have lfcb := zqa fcb
 have lfaa := zqa faa
 have lfbb := zqa fbb
 have lfe := zqa fe
 go_wp2_with fail
 (refine zqdq (by kernel_rfl) (by kernel_rfl) ?_; (repeat (first | refine zqn rfl ?_ | (refine zql rfl ?_; apply Exists.intro))); refine zqbp ?_; intro γ hinj hbase; (repeat (first | (refine zqab rfl ?_; ((first | go_big_quiet_skip | (go_big_quiet_want; go_big_quiet_op; go_big_quiet_on)); refine wpQuiet_nil ?_)) | ((first | refine zqv rfl (fun _ => rfl) ?_ | ((try simp only [Nat.zero_add, Nat.reduceAdd]); apply zqaw zqi; (focus rfl); (focus (first | exact zqq _ | exact zqr _ _ | exact zqo _ | rfl)); (focus (exact zqm))) | ((try simp only [Nat.zero_add, Nat.reduceAdd]); apply zqac _ _ zqi; (focus rfl); (focus (intro W; (first | exact zqam _ | exact zqag _ | exact zqan _ | exact zqaf _ | exact zq3 _ | exact zq2 _))); (focus (first | exact zq1 _ _ _ | exact zqad _ _ | rfl)); (focus (exact zqm))) | ((try simp only [Nat.zero_add, Nat.reduceAdd]); apply zqah zqi; (focus rfl); (focus (intro W; simp only [List.map_toArray, List.map_cons, List.map_nil]; first | fail)); (focus (exact zqm))) | (apply zqao; (focus rfl); (focus rfl); (focus rfl); (focus (intro W hC hF; go_big_quiet_want; go_big_quiet_op; (first | go_big_quiet_on | (apply Exists.intro; refine ⟨fun _ => ?_, ?_⟩; (focus (first | (with_reducible exact Calls.of_more (c10 _)) | (with_reducible exact Calls.of_more (c11 _)))); go_big_quiet_on)); exact wpQuiet_nil rfl)); (focus (first | exact fun _ => ⟨rfl, rfl⟩ | exact fun h => absurd h (by decide))))); ((first | go_big_quiet_skip | (go_big_quiet_want; go_big_quiet_op; go_big_quiet_on)); refine wpQuiet_nil ?_)) | refine zqu rfl (fun _ => rfl) ?_ | ((try simp only [Nat.zero_add, Nat.reduceAdd]); apply zqae (zq4 (hbase _)); (focus rfl); (focus rfl); (focus rfl); (focus (first | exact zqq _ | exact zqr _ _ | exact zqo _ | rfl)); rotate_left 3; (focus (exact zqbi)); rotate_right 3; (focus kernel_rfl); (focus (first | exact zqf _ _ _ | rfl)); (focus (first | exact zq6 _ _ _ | exact zqaj _ _ _ _ | kernel_rfl)); (focus (decide +kernel)); (focus (exact zqm))))))
 (refine zqbs ?_; rintro _ ⟨mq, rfl⟩ hF; simp only [List.forall_mem_cons] at hF; obtain ⟨fdif, fsum, -⟩ := hF)
 have ndifsum : ¬ (γ 7 = γ 6) := hinj _ _ (by decide)
 replace fu : objAt (more w7 mq) (w.heap.size) = some (.cells (ints .i64 16 (numN (u))) 129) := zqk _ fu
 replace fr0 : objAt (more w7 mq) (w.heap.size + 1 + 1 + 1 + 1 + 1) = some (.cells (ints .i64 16 zqd) 129) := zqk _ fr0
 replace fr1 : objAt (more w7 mq) (w.heap.size + 1 + 1 + 1 + 1 + 1 + 1) = some (.cells (ints .i64 16 zqd) 129) := zqk _ fr1
 replace fr2 : objAt (more w7 mq) (w.heap.size + 1 + 1 + 1 + 1 + 1 + 1 + 1) = some (.cells (ints .i64 16 zqd) 129) := zqk _ fr2
 replace fr3 : objAt (more w7 mq) (w.heap.size + 1 + 1 + 1 + 1 + 1 + 1 + 1 + 1) = some (.cells (ints .i64 16 zqd) 129) := zqk _ fr3
 replace fda : objAt (more w7 mq) (gda) = some (.cells (ints .i64 16 (numN (daN x z x' z'))) 129) := zqk _ fda
 replace fcb : objAt (more w7 mq) (gcb) = some (.cells (ints .i64 16 (numN (cbN x z x' z'))) 129) := zqk _ fcb
 replace faa : objAt (more w7 mq) (gaa) = some (.cells (ints .i64 16 (numN (mN (aN x z) (aN x z)))) 129) := zqk _ faa
 replace fbb : objAt (more w7 mq) (gbb) = some (.cells (ints .i64 16 (numN (mN (sN x z) (sN x z)))) 129) := zqk _ fbb
 replace fe : objAt (more w7 mq) (ge) = some (.cells (ints .i64 16 (numN (twEN x z))) 129) := zqk _ fe
 replace hG : Below w.heap.size w (more w7 mq) := Grew.more hG _
 replace fsum : objAt (more w7 mq) (γ 6) = some (.cells (ints .i64 16 (numN (aN (daN x z x' z') (cbN x z x' z')))) 129) := fsum
 replace fdif : objAt (more w7 mq) (γ 7) = some (.cells (ints .i64 16 (numN (sN (daN x z x' z') (cbN x z x' z')))) 129) := fdif
 clear lfu lfr0 lfr1 lfr2 lfr3 lfda lfcb lfaa lfbb lfe
 clear hinj hbase
 generalize γ 6 = gsum at *
 generalize γ 7 = gdif at *
 generalize more w7 mq = w8 at *
 clear γ
 have lfu := zqa fu
 have lfr0 := zqa fr0
 have lfr1 := zqa fr1
 have lfr2 := zqa fr2
 have lfr3 := zqa fr3
 have lfda := zqa fda
 have lfcb := zqa fcb
 have lfaa := zqa faa
 have lfbb := zqa fbb
 have lfe := zqa fe
 have lfsum := zqa fsum
 have lfdif := zqa fdif
 clear fda lfda
 clear fcb lfcb
 have n2 : ¬ (w.heap.size + 1 + 1 = w.heap.size) := by omega
 have n3 : ¬ (w.heap.size + 1 + 1 + 1 = w.heap.size) := by omega
 clear c1 c2 c3 c4 c5 c6 c7 c8 c9 c10 c11
 go_wp2_with fail
 ((first | (with_reducible refine zqig 18 (by kernel_rfl) (by kernel_rfl) (by kernel_rfl) (by kernel_rfl) (by kernel_rfl) ?_) | refine zqhb 18 (by kernel_rfl) (by kernel_rfl) (by kernel_rfl) (by kernel_rfl) (by kernel_rfl) ?_); simp only [List.take_succ_cons, List.take_zero]; (repeat (first | go_big_quiet_skip | (go_big_quiet_want; go_big_quiet_op; first | go_big_quiet_on | (apply Exists.intro; refine ⟨fun _ => ?_, ?_⟩; (focus (first | (with_reducible exact Calls.of_more (d1 _)) | (with_reducible exact Calls.of_more (d2 _)) | (with_reducible exact Calls.of_more (d3 _)) | (with_reducible exact Calls.of_more (d4 _)) | (with_reducible exact Calls.of_more (d5 _)) | (with_reducible exact Calls.of_more (d6 _)) | (with_reducible exact Calls.of_more (d7 _)) | (with_reducible exact Calls.of_more (d8 _)))); go_big_quiet_on)))); refine wpQuiet_nil ?_; rintro _ ⟨mq, rfl⟩)
 (refine zqaa (i := 18) (fuel := 3) (by kernel_rfl) rfl ?_; intro K hK; go_simp; refine hK _ _ ?_; clear hK K)
 (refine zqaa (i := 19) (fuel := 2) (by kernel_rfl) rfl ?_; intro K hK; go_simp; refine hK _ _ ?_; clear hK K)
 (refine zqaa (i := 20) (fuel := 1) (by kernel_rfl) rfl ?_; intro K hK; go_simp; refine hK _ _ ?_; clear hK K)
 (refine zqaa (i := 21) (fuel := 0) (by kernel_rfl) rfl ?_; intro K hK; go_simp; refine hK _ _ ?_; clear hK K)
 (refine wpAny_done (by kernel_rfl) ?_ _)
 go_wp2
 refine ret_row4 129 rfl _ _ _ _ _ _ _ _ rfl rfl rfl rfl (zqk _ (zqg _ _ (zqg _ _ (zqg _ _ (zqt _ (fr0)) (by omega)) (by omega)) (by omega))) (zqk _ (zqg _ _ (zqg _ _ (zqt _ (zqg _ _ (fr1) (by omega))) (by omega)) (by omega))) (zqk _ (zqg _ _ (zqt _ (zqg _ _ (zqg _ _ (fr2) (by omega)) (by omega))) (by omega))) (zqk _ (zqt _ (zqg _ _ (zqg _ _ (zqg _ _ (fr3) (by omega)) (by omega)) (by omega)))) Tryz.underlying129 rfl (n := 16) (by kernel_rfl) (zqf _ _ _) (zqf _ _ _) (zqf _ _ _) (zqf _ _ _) rfl ⟨rfl, Grew.more (Grew.setRow (Grew.setRow (Grew.setRow (Grew.setRow hG _ _ (by omega)) _ _ (by omega)) _ _ (by omega)) _ _ (by omega)) _⟩
end Go.Proofs.YtconieddcjpbjaaGreatDoor
namespace Go.Proofs.YtconieddcjpbjaaGreatDoor
open Go.RowKit
set_option linter.unusedVariables false
set_option linter.unusedSimpArgs false
open Edw (red tv)
structure Nu where
 a : Int
 b : Int
 c : Int
 e : Int
def swN (bit : Int) (s : Nu) : Nu := if bit = 0 then s else ⟨s.c, s.e, s.a, s.b⟩
theorem zqpy (s : Nu) : swN 0 s = s := if_pos rfl
theorem zqmp (s : Nu) : swN 1 s = ⟨s.c, s.e, s.a, s.b⟩ := if_neg (by decide)
def stN (u : Int) (s : Nu) : Nu := ⟨twXN s.a s.b, twZN s.a s.b, boXN s.a s.b s.c s.e, boZN u s.a s.b s.c s.e⟩
def ruN (u : Int) (k : Nat → Int) : Nat → Nu
 | 0 => ⟨1, 0, u, 1⟩
 | c + 1 => swN (bitN k (255 - c)) (stN u (swN (bitN k (255 - c)) (ruN u k c)))
structure BDP (s : Nu) : Prop where
 a : BD s.a
 b : BD s.b
 c : BD s.c
 e : BD s.e
theorem BDP.sw {s : Nu} (h : BDP s) (b : Int) : BDP (swN b s) := by
 unfold swN
 split
 ·exact h
 ·exact ⟨h.c, h.e, h.a, h.b⟩
theorem BDP.st (s : Nu) (u : Int) : BDP (stN u s) := ⟨mN_bd _ _, mN_bd _ _, mN_bd _ _, mN_bd _ _⟩
theorem bd_ru (u : Int) (k : Nat → Int) (hu : BD u) : ∀ c, BDP (ruN u k c)
 | 0 => ⟨zqkq 1 (by decide) (by decide), zqkq 0 (by decide) (by decide), hu, zqkq 1 (by decide) (by decide)⟩
 | c + 1 => (BDP.st _ u).sw _
theorem stN_calls (u : Int) (s : Nu) (w : World) (hu : BD u) (h : BDP s) : Calls Tryz.prog 113 #[.agg (ints .i64 16 (numN (u))), .agg (ints .i64 16 (numN (s.a))), .agg (ints .i64 16 (numN (s.b))), .agg (ints .i64 16 (numN (s.c))), .agg (ints .i64 16 (numN (s.e)))] w fun e w' => e = .returned (.tuple #[.agg (ints .i64 16 (numN ((stN u s).a))), .agg (ints .i64 16 (numN ((stN u s).b))), .agg (ints .i64 16 (numN ((stN u s).c))), .agg (ints .i64 16 (numN ((stN u s).e)))]) ∧ Below w.heap.size w w' := stepN_any u s.a s.b s.c s.e w hu h.a h.b h.c h.e
theorem zqro (x y : Int) : red (aN x y) = red x + red y := by unfold aN; rw [Edw.red_mod, Edw.red_add]
theorem zqt5 (x y : Int) : red (sN x y) = red x - red y := by unfold sN; rw [Edw.red_mod, Edw.red_sub]
theorem zqne (x y : Int) : red (mN x y) = red x * red y := by unfold mN; rw [Edw.red_mod, Edw.red_mul]
theorem red_iN (x : Int) : red (iN x) = Edw.finv (red x) := by unfold iN Edw.finv; rw [Edw.red_mod, Edw.red_pow]
theorem red_twEN (x z : Int) : red (twEN x z) = Edw.dblE (red x) (red z) := by simp only [twEN, Edw.dblE, zqne, zqro, zqt5]
theorem zqul (x z : Int) : red (twXN x z) = Edw.dblX (red x) (red z) := by simp only [twXN, Edw.dblX, zqne, zqro, zqt5]
theorem zqut (x z : Int) : red (twZN x z) = Edw.dblZ (red x) (red z) := by simp only [twZN, Edw.dblZ, zqne, zqro, red_twEN, red_num]
theorem zqua (x z x' z' : Int) : red (boXN x z x' z') = Edw.difX (red x) (red z) (red x') (red z') := by simp only [boXN, daN, cbN, Edw.difX, zqne, zqro, zqt5]
theorem zquo (u x z x' z' : Int) : red (boZN u x z x' z') = Edw.difZ (red u) (red x) (red z) (red x') (red z') := by simp only [boZN, daN, cbN, Edw.difZ, zqne, zqro, zqt5]
def stRN (s : Nu) : Edw.St Edw.Gp := ⟨red s.a, red s.b, red s.c, red s.e⟩
theorem runN_is (u : Int) (k : Nat → Int) (hk : Bytes 32 k) : ∀ c, c ≤ 256 → stRN (ruN u k c) = Edw.runN (red u) (knum k 32) c
 | 0, _ => by simp only [ruN, stRN, Edw.runN, Edw.red_one, Edw.red_zero]
 | c + 1, hc => by
  have ih := runN_is u k hk c (by omega)
  have hb := zqko k hk (255 - c) (by omega)
  have h01 := zqhr k (255 - c)
  show stRN (swN (bitN k (255 - c)) (stN u (swN (bitN k (255 - c)) (ruN u k c)))) = Edw.stp (red u) (Edw.bitN (knum k 32) (255 - c)) (Edw.runN (red u) (knum k 32) c)
  rw [← ih]
  unfold Edw.bitN
  rw [hb]
  generalize ruN u k c = s
  generalize bitN k (255 - c) = B at *
  rcases h01 with rfl | rfl
  ·rw [zqpy, zqpy]; simp only [stN, stRN, zqul, zqut, zqua, zquo]; rfl
  ·rw [zqmp, zqmp]; simp only [stN, stRN, zqul, zqut, zqua, zquo]; rfl
theorem timesN_is (u : Int) (k : Nat → Int) (hk : Bytes 32 k) : mN (ruN u k 256).a (iN (ruN u k 256).b) = tv (knum k 32) u := by
 refine Edw.tv_of (mN_bd _ _) ?_
 rw [zqne, red_iN]
 have h := runN_is u k hk 256 (Nat.le_refl _)
 unfold Edw.lad
 show (stRN (ruN u k 256)).a * Edw.finv (stRN (ruN u k 256)).b = _
 rw [h]
structure TimesNInv (u : Int) (k : Nat → Int) (ga gb gc ge : Nat) (w : World) (c : Nat) (wr : World) : Prop where
 g : Below w.heap.size w wr
 fk : objAt wr (w.heap.size) = some (.cells (ints .u8 32 (k)) 23)
 fx : objAt wr (w.heap.size + 1) = some (.cells (ints .i64 16 (numN (u))) 129)
 fr : objAt wr (w.heap.size + 1 + 1) = some (.cells (ints .i64 16 zqd) 129)
 fa : objAt wr ga = some (.cells (ints .i64 16 (numN ((ruN u k c).a))) 129)
 fb : objAt wr gb = some (.cells (ints .i64 16 (numN ((ruN u k c).b))) 129)
 fc : objAt wr gc = some (.cells (ints .i64 16 (numN ((ruN u k c).c))) 129)
 fe : objAt wr ge = some (.cells (ints .i64 16 (numN ((ruN u k c).e))) 129)
set_option maxHeartbeats 2000000 in
theorem zqpv (k : Nat → Int) (u : Int) (w : World) (hk : Bytes 32 k) (hu : BD u) :
  Calls Tryz.prog 97 #[.agg (ints .u8 32 (k)), .agg (ints .i64 16 (numN (u)))] w fun e w' => e = .returned (.agg (ints .i64 16 (numN (tv (knum k 32) u)))) ∧ Below w.heap.size w w' := by
 have hG := Grew.refl w
 have fk : True := trivial
 have fx : True := trivial
 have fr : True := trivial
 go_enter Tryz.func97, Tryz.ntmps97
 go_wp2_with fail
 replace fk : objAt (((w.alloc (.cells (ints .u8 32 (k)) 23)).alloc (.cells (ints .i64 16 (numN (u))) 129)).alloc (.cells (ints .i64 16 zqd) 129)) (w.heap.size) = some (.cells (ints .u8 32 (k)) 23) := by exact zqc
 replace fx : objAt (((w.alloc (.cells (ints .u8 32 (k)) 23)).alloc (.cells (ints .i64 16 (numN (u))) 129)).alloc (.cells (ints .i64 16 zqd) 129)) (w.heap.size + 1) = some (.cells (ints .i64 16 (numN (u))) 129) := by exact zqc
 replace fr : objAt (((w.alloc (.cells (ints .u8 32 (k)) 23)).alloc (.cells (ints .i64 16 (numN (u))) 129)).alloc (.cells (ints .i64 16 zqd) 129)) (w.heap.size + 1 + 1) = some (.cells (ints .i64 16 zqd) 129) := by exact zqc
 replace hG : Below w.heap.size w (((w.alloc (.cells (ints .u8 32 (k)) 23)).alloc (.cells (ints .i64 16 (numN (u))) 129)).alloc (.cells (ints .i64 16 zqd) 129)) := by exact zqe
 generalize ((w.alloc (.cells (ints .u8 32 (k)) 23)).alloc (.cells (ints .i64 16 (numN (u))) 129)).alloc (.cells (ints .i64 16 zqd) 129) = w1 at *
 have lfk := zqa fk
 have lfx := zqa fx
 have lfr := zqa fr
 go_wp2_with fail
 (refine zqdq (by kernel_rfl) (by kernel_rfl) ?_; (repeat (first | refine zqn rfl ?_ | (refine zql rfl ?_; apply Exists.intro))); refine zqbp ?_; intro γ hinj hbase; (repeat (first | (refine zqab rfl ?_; ((first | go_big_quiet_skip | (go_big_quiet_want; go_big_quiet_op; go_big_quiet_on)); refine wpQuiet_nil ?_)) | ((first | refine zqv rfl (fun _ => rfl) ?_ | ((try simp only [Nat.zero_add, Nat.reduceAdd]); apply zqaw zqi; (focus rfl); (focus (first | exact zqq _ | exact zqr _ _ | exact zqo _ | rfl)); (focus (exact zqm))) | ((try simp only [Nat.zero_add, Nat.reduceAdd]); apply zqac _ _ zqi; (focus rfl); (focus (intro W; (first | exact zqam _ | exact zqag _ | exact zqan _ | exact zqaf _ | exact zq3 _ | exact zq2 _))); (focus (first | exact zq1 _ _ _ | exact zqad _ _ | rfl)); (focus (exact zqm))) | ((try simp only [Nat.zero_add, Nat.reduceAdd]); apply zqah zqi; (focus rfl); (focus (intro W; simp only [List.map_toArray, List.map_cons, List.map_nil]; first | fail)); (focus (exact zqm))) | (apply zqao; (focus rfl); (focus rfl); (focus rfl); (focus (intro W hC hF; go_big_quiet_want; go_big_quiet_op; (first | go_big_quiet_on | (apply Exists.intro; refine ⟨fun _ => ?_, ?_⟩; (focus (first | (with_reducible exact Calls.of_more (zqgs 1 _ (by decide) (by decide))) | (with_reducible exact Calls.of_more (zqgs 0 _ (by decide) (by decide))))); go_big_quiet_on)); exact wpQuiet_nil rfl)); (focus (first | exact fun _ => ⟨rfl, rfl⟩ | exact fun h => absurd h (by decide))))); ((first | go_big_quiet_skip | (go_big_quiet_want; go_big_quiet_op; go_big_quiet_on)); refine wpQuiet_nil ?_)) | refine zqu rfl (fun _ => rfl) ?_ | ((try simp only [Nat.zero_add, Nat.reduceAdd]); apply zqae (zq4 (hbase _)); (focus rfl); (focus rfl); (focus rfl); (focus (first | exact zqq _ | exact zqr _ _ | exact zqo _ | rfl)); rotate_left 3; (focus (exact zqbi)); rotate_right 3; (focus kernel_rfl); (focus (first | exact zqf _ _ _ | rfl)); (focus (first | exact zq6 _ _ _ | exact zqaj _ _ _ _ | kernel_rfl)); (focus (decide +kernel)); (focus (exact zqm))))))
 (refine zqbs ?_; rintro _ ⟨mq, rfl⟩ hF; simp only [List.forall_mem_cons] at hF; obtain ⟨fe, fc, fb, fa, -⟩ := hF)
 have nak : ¬ (γ 4 = w.heap.size) := by have := hbase 4; omega
 have nka : ¬ (w.heap.size = γ 4) := fun e => nak e.symm
 have nax : ¬ (γ 4 = w.heap.size + 1) := by have := hbase 4; omega
 have nxa : ¬ (w.heap.size + 1 = γ 4) := fun e => nax e.symm
 have nar : ¬ (γ 4 = w.heap.size + 1 + 1) := by have := hbase 4; omega
 have nra : ¬ (w.heap.size + 1 + 1 = γ 4) := fun e => nar e.symm
 have nbk : ¬ (γ 5 = w.heap.size) := by have := hbase 5; omega
 have nkb : ¬ (w.heap.size = γ 5) := fun e => nbk e.symm
 have nbx : ¬ (γ 5 = w.heap.size + 1) := by have := hbase 5; omega
 have nxb : ¬ (w.heap.size + 1 = γ 5) := fun e => nbx e.symm
 have nbr : ¬ (γ 5 = w.heap.size + 1 + 1) := by have := hbase 5; omega
 have nrb : ¬ (w.heap.size + 1 + 1 = γ 5) := fun e => nbr e.symm
 have nck : ¬ (γ 6 = w.heap.size) := by have := hbase 6; omega
 have nkc : ¬ (w.heap.size = γ 6) := fun e => nck e.symm
 have ncx : ¬ (γ 6 = w.heap.size + 1) := by have := hbase 6; omega
 have nxc : ¬ (w.heap.size + 1 = γ 6) := fun e => ncx e.symm
 have ncr : ¬ (γ 6 = w.heap.size + 1 + 1) := by have := hbase 6; omega
 have nrc : ¬ (w.heap.size + 1 + 1 = γ 6) := fun e => ncr e.symm
 have nek : ¬ (γ 7 = w.heap.size) := by have := hbase 7; omega
 have nke : ¬ (w.heap.size = γ 7) := fun e => nek e.symm
 have nex : ¬ (γ 7 = w.heap.size + 1) := by have := hbase 7; omega
 have nxe : ¬ (w.heap.size + 1 = γ 7) := fun e => nex e.symm
 have ner : ¬ (γ 7 = w.heap.size + 1 + 1) := by have := hbase 7; omega
 have nre : ¬ (w.heap.size + 1 + 1 = γ 7) := fun e => ner e.symm
 have hw0 := hG.size
 have l0a : w.heap.size ≤ γ 4 := by have := hbase 4; omega
 have l0b : w.heap.size ≤ γ 5 := by have := hbase 5; omega
 have l0c : w.heap.size ≤ γ 6 := by have := hbase 6; omega
 have l0e : w.heap.size ≤ γ 7 := by have := hbase 7; omega
 clear hw0
 have nab : ¬ (γ 4 = γ 5) := hinj _ _ (by decide)
 have nac : ¬ (γ 4 = γ 6) := hinj _ _ (by decide)
 have nae : ¬ (γ 4 = γ 7) := hinj _ _ (by decide)
 have nba : ¬ (γ 5 = γ 4) := hinj _ _ (by decide)
 have nbc : ¬ (γ 5 = γ 6) := hinj _ _ (by decide)
 have nbe : ¬ (γ 5 = γ 7) := hinj _ _ (by decide)
 have nca : ¬ (γ 6 = γ 4) := hinj _ _ (by decide)
 have ncb : ¬ (γ 6 = γ 5) := hinj _ _ (by decide)
 have nce : ¬ (γ 6 = γ 7) := hinj _ _ (by decide)
 have nea : ¬ (γ 7 = γ 4) := hinj _ _ (by decide)
 have neb : ¬ (γ 7 = γ 5) := hinj _ _ (by decide)
 have nec : ¬ (γ 7 = γ 6) := hinj _ _ (by decide)
 replace fk : objAt (more w1 mq) (w.heap.size) = some (.cells (ints .u8 32 (k)) 23) := zqk _ fk
 replace fx : objAt (more w1 mq) (w.heap.size + 1) = some (.cells (ints .i64 16 (numN (u))) 129) := zqk _ fx
 replace fr : objAt (more w1 mq) (w.heap.size + 1 + 1) = some (.cells (ints .i64 16 zqd) 129) := zqk _ fr
 replace hG : Below w.heap.size w (more w1 mq) := Grew.more hG _
 replace fa : objAt (more w1 mq) (γ 4) = some (.cells (ints .i64 16 (numN (1))) 129) := fa
 replace fb : objAt (more w1 mq) (γ 5) = some (.cells (ints .i64 16 (numN (0))) 129) := fb
 replace fc : objAt (more w1 mq) (γ 6) = some (.cells (ints .i64 16 (numN (u))) 129) := fc
 replace fe : objAt (more w1 mq) (γ 7) = some (.cells (ints .i64 16 (numN (1))) 129) := fe
 clear lfk lfx lfr
 clear hinj hbase
 generalize γ 4 = ga at *
 generalize γ 5 = gb at *
 generalize γ 6 = gc at *
 generalize γ 7 = ge at *
 generalize more w1 mq = w2 at *
 clear γ
 have lfk := zqa fk
 have lfx := zqa fx
 have lfr := zqa fr
 have lfa := zqa fa
 have lfb := zqa fb
 have lfc := zqa fc
 have lfe := zqa fe
 go_wp2_with fail
 go_loopw [9] (fun i wr => ∃ c : Nat, c ≤ 256 ∧ ((c < 256 ∧ i = .int .i64 ((255 - c : Nat) : Int)) ∨ (c = 256 ∧ i = .int .i64 (-1))) ∧ TimesNInv u k ga gb gc ge w c wr) (fun i _ => (intOf i + 1).toNat)
 case atStart => exact ⟨0, by omega, .inl ⟨by omega, rfl⟩, ⟨hG, fk, fx, fr, fa, fb, fc, fe⟩⟩
 case round =>
  clear fk lfk fx lfx fr lfr fa lfa fb lfb fc lfc fe lfe hG
  obtain ⟨c, hc, hi, hG, fk, fx, fr, fa, fb, fc, fe⟩ := hrel
  have lfk := zqa fk
  have lfx := zqa fx
  have lfr := zqa fr
  have lfa := zqa fa
  have lfb := zqa fb
  have lfc := zqa fc
  have lfe := zqa fe
  rcases hi with ⟨hlt, rfl⟩ | ⟨rfl, rfl⟩
  ·have hL := bd_ru u k hu c
   have Z : Hid (ruN u k (c + 1) = swN (bitN k (255 - c)) (stN u (swN (bitN k (255 - c)) (ruN u k c)))) := rfl
   generalize hb : 255 - c = b at *
   have hb255 : b ≤ 255 := by omega
   have q1 := fun w => bit_any k b w hk (by omega)
   have h01 := zqhr k b
   generalize bitN k b = B at *
   have hL1 := hL.sw B
   have p2 := fun w => stN_calls u (swN B (ruN u k c)) w hu hL1
   have hend : ∀ b : Nat, 255 - c = b → ((c + 1 < 256 ∧ Value.int .i64 ((b : Int) - 1) = .int .i64 ((255 - (c + 1) : Nat) : Int)) ∨ (c + 1 = 256 ∧ Value.int .i64 ((b : Int) - 1) = .int .i64 (-1))) := fun b hb => by
    by_cases h : b = 0
    ·exact .inr ⟨by omega, by rw [h]; rfl⟩
    ·exact .inl ⟨by omega, by congr 1; omega⟩
   have HE : Hid _ := hend b hb
   clear hend
   rcases h01 with rfl | rfl
   ·rw [zqpy] at p2
    rw [zqpy, zqpy] at Z
    generalize stN u (ruN u k c) = t2 at *
    clear hL hL1
    go_wp2_with fail
    (refine (q1 _).mono ?_; rintro e w21 ⟨rfl, hb⟩; replace fk : objAt w21 (w.heap.size) = some (.cells (ints .u8 32 (k)) 23) := zqb hb (by exact zqc); have lfk := zqa fk; replace fx : objAt w21 (w.heap.size + 1) = some (.cells (ints .i64 16 (numN (u))) 129) := zqb hb (by exact zqc); have lfx := zqa fx; replace fr : objAt w21 (w.heap.size + 1 + 1) = some (.cells (ints .i64 16 zqd) 129) := zqb hb (by exact zqc); have lfr := zqa fr; replace fa : objAt w21 (ga) = some (.cells (ints .i64 16 (numN ((ruN u k c).a))) 129) := zqb hb (by exact zqc); have lfa := zqa fa; replace fb : objAt w21 (gb) = some (.cells (ints .i64 16 (numN ((ruN u k c).b))) 129) := zqb hb (by exact zqc); have lfb := zqa fb; replace fc : objAt w21 (gc) = some (.cells (ints .i64 16 (numN ((ruN u k c).c))) 129) := zqb hb (by exact zqc); have lfc := zqa fc; replace fe : objAt w21 (ge) = some (.cells (ints .i64 16 (numN ((ruN u k c).e))) 129) := zqb hb (by exact zqc); have lfe := zqa fe; replace hG : Below w.heap.size w w21 := Grew.trans (by exact zqe) hb; clear hb)
    go_wp2_with fail
    (refine (p2 _).mono ?_; rintro e w22 ⟨rfl, hb⟩; replace fk : objAt w22 (w.heap.size) = some (.cells (ints .u8 32 (k)) 23) := zqb hb (by exact zqc); have lfk := zqa fk; replace fx : objAt w22 (w.heap.size + 1) = some (.cells (ints .i64 16 (numN (u))) 129) := zqb hb (by exact zqc); have lfx := zqa fx; replace fr : objAt w22 (w.heap.size + 1 + 1) = some (.cells (ints .i64 16 zqd) 129) := zqb hb (by exact zqc); have lfr := zqa fr; replace fa : objAt w22 (ga) = some (.cells (ints .i64 16 (numN ((ruN u k c).a))) 129) := zqb hb (by exact zqc); have lfa := zqa fa; replace fb : objAt w22 (gb) = some (.cells (ints .i64 16 (numN ((ruN u k c).b))) 129) := zqb hb (by exact zqc); have lfb := zqa fb; replace fc : objAt w22 (gc) = some (.cells (ints .i64 16 (numN ((ruN u k c).c))) 129) := zqb hb (by exact zqc); have lfc := zqa fc; replace fe : objAt w22 (ge) = some (.cells (ints .i64 16 (numN ((ruN u k c).e))) 129) := zqb hb (by exact zqc); have lfe := zqa fe; replace hG : Below w.heap.size w w22 := Grew.trans (by exact zqe) hb; clear hb)
    go_wp2_with fail
    have ek : objAt ((((w22.setRow (ga) ((ints .i64 16 (numN (t2.a))))).setRow (gb) ((ints .i64 16 (numN (t2.b))))).setRow (gc) ((ints .i64 16 (numN (t2.c))))).setRow (ge) ((ints .i64 16 (numN (t2.e))))) (w.heap.size) = some (.cells (ints .u8 32 (k)) 23) := zqg _ _ (zqg _ _ (zqg _ _ (zqg _ _ (fk) (by first | assumption | omega | simp)) (by first | assumption | omega | simp)) (by first | assumption | omega | simp)) (by first | assumption | omega | simp)
    have ex : objAt ((((w22.setRow (ga) ((ints .i64 16 (numN (t2.a))))).setRow (gb) ((ints .i64 16 (numN (t2.b))))).setRow (gc) ((ints .i64 16 (numN (t2.c))))).setRow (ge) ((ints .i64 16 (numN (t2.e))))) (w.heap.size + 1) = some (.cells (ints .i64 16 (numN (u))) 129) := zqg _ _ (zqg _ _ (zqg _ _ (zqg _ _ (fx) (by first | assumption | omega | simp)) (by first | assumption | omega | simp)) (by first | assumption | omega | simp)) (by first | assumption | omega | simp)
    have er : objAt ((((w22.setRow (ga) ((ints .i64 16 (numN (t2.a))))).setRow (gb) ((ints .i64 16 (numN (t2.b))))).setRow (gc) ((ints .i64 16 (numN (t2.c))))).setRow (ge) ((ints .i64 16 (numN (t2.e))))) (w.heap.size + 1 + 1) = some (.cells (ints .i64 16 zqd) 129) := zqg _ _ (zqg _ _ (zqg _ _ (zqg _ _ (fr) (by first | assumption | omega | simp)) (by first | assumption | omega | simp)) (by first | assumption | omega | simp)) (by first | assumption | omega | simp)
    have ea : objAt ((((w22.setRow (ga) ((ints .i64 16 (numN (t2.a))))).setRow (gb) ((ints .i64 16 (numN (t2.b))))).setRow (gc) ((ints .i64 16 (numN (t2.c))))).setRow (ge) ((ints .i64 16 (numN (t2.e))))) (ga) = some (.cells (ints .i64 16 (numN (t2.a))) 129) := zqg _ _ (zqg _ _ (zqg _ _ (zqt _ (fa)) (by first | assumption | omega | simp)) (by first | assumption | omega | simp)) (by first | assumption | omega | simp)
    have eb : objAt ((((w22.setRow (ga) ((ints .i64 16 (numN (t2.a))))).setRow (gb) ((ints .i64 16 (numN (t2.b))))).setRow (gc) ((ints .i64 16 (numN (t2.c))))).setRow (ge) ((ints .i64 16 (numN (t2.e))))) (gb) = some (.cells (ints .i64 16 (numN (t2.b))) 129) := zqg _ _ (zqg _ _ (zqt _ (zqg _ _ (fb) (by first | assumption | omega | simp))) (by first | assumption | omega | simp)) (by first | assumption | omega | simp)
    have ec : objAt ((((w22.setRow (ga) ((ints .i64 16 (numN (t2.a))))).setRow (gb) ((ints .i64 16 (numN (t2.b))))).setRow (gc) ((ints .i64 16 (numN (t2.c))))).setRow (ge) ((ints .i64 16 (numN (t2.e))))) (gc) = some (.cells (ints .i64 16 (numN (t2.c))) 129) := zqg _ _ (zqt _ (zqg _ _ (zqg _ _ (fc) (by first | assumption | omega | simp)) (by first | assumption | omega | simp))) (by first | assumption | omega | simp)
    have ee : objAt ((((w22.setRow (ga) ((ints .i64 16 (numN (t2.a))))).setRow (gb) ((ints .i64 16 (numN (t2.b))))).setRow (gc) ((ints .i64 16 (numN (t2.c))))).setRow (ge) ((ints .i64 16 (numN (t2.e))))) (ge) = some (.cells (ints .i64 16 (numN (t2.e))) 129) := zqt _ (zqg _ _ (zqg _ _ (zqg _ _ (fe) (by first | assumption | omega | simp)) (by first | assumption | omega | simp)) (by first | assumption | omega | simp))
    clear fk lfk fx lfx fr lfr fa lfa fb lfb fc lfc fe lfe
    replace hG : Below w.heap.size w ((((w22.setRow (ga) ((ints .i64 16 (numN (t2.a))))).setRow (gb) ((ints .i64 16 (numN (t2.b))))).setRow (gc) ((ints .i64 16 (numN (t2.c))))).setRow (ge) ((ints .i64 16 (numN (t2.e))))) := by exact zqe
    generalize (((w22.setRow (ga) ((ints .i64 16 (numN (t2.a))))).setRow (gb) ((ints .i64 16 (numN (t2.b))))).setRow (gc) ((ints .i64 16 (numN (t2.c))))).setRow (ge) ((ints .i64 16 (numN (t2.e)))) = w23 at *
    have fk := ek
    have fx := ex
    have fr := er
    have fa := ea
    have fb := eb
    have fc := ec
    have fe := ee
    clear ek ex er ea eb ec ee
    have lfk := zqa fk
    have lfx := zqa fx
    have lfr := zqa fr
    have lfa := zqa fa
    have lfb := zqa fb
    have lfc := zqa fc
    have lfe := zqa fe
    go_roundw
    case rel => exact ⟨c + 1, by omega, HE.out, ⟨hG, fk, fx, fr, by rw [Z.out]; exact fa, by rw [Z.out]; exact fb, by rw [Z.out]; exact fc, by rw [Z.out]; exact fe⟩⟩
    case measure => simp [intOf] <;> omega
   ·rw [zqmp] at p2
    rw [zqmp, zqmp] at Z
    generalize stN u ⟨(ruN u k c).c, (ruN u k c).e, (ruN u k c).a, (ruN u k c).b⟩ = t2 at *
    clear hL hL1
    go_wp2_with fail
    (refine (q1 _).mono ?_; rintro e w21 ⟨rfl, hb⟩; replace fk : objAt w21 (w.heap.size) = some (.cells (ints .u8 32 (k)) 23) := zqb hb (by exact zqc); have lfk := zqa fk; replace fx : objAt w21 (w.heap.size + 1) = some (.cells (ints .i64 16 (numN (u))) 129) := zqb hb (by exact zqc); have lfx := zqa fx; replace fr : objAt w21 (w.heap.size + 1 + 1) = some (.cells (ints .i64 16 zqd) 129) := zqb hb (by exact zqc); have lfr := zqa fr; replace fa : objAt w21 (ga) = some (.cells (ints .i64 16 (numN ((ruN u k c).a))) 129) := zqb hb (by exact zqc); have lfa := zqa fa; replace fb : objAt w21 (gb) = some (.cells (ints .i64 16 (numN ((ruN u k c).b))) 129) := zqb hb (by exact zqc); have lfb := zqa fb; replace fc : objAt w21 (gc) = some (.cells (ints .i64 16 (numN ((ruN u k c).c))) 129) := zqb hb (by exact zqc); have lfc := zqa fc; replace fe : objAt w21 (ge) = some (.cells (ints .i64 16 (numN ((ruN u k c).e))) 129) := zqb hb (by exact zqc); have lfe := zqa fe; replace hG : Below w.heap.size w w21 := Grew.trans (by exact zqe) hb; clear hb)
    go_wp2_with fail
    (refine (p2 _).mono ?_; rintro e w22 ⟨rfl, hb⟩; replace fk : objAt w22 (w.heap.size) = some (.cells (ints .u8 32 (k)) 23) := zqb hb (by exact zqc); have lfk := zqa fk; replace fx : objAt w22 (w.heap.size + 1) = some (.cells (ints .i64 16 (numN (u))) 129) := zqb hb (by exact zqc); have lfx := zqa fx; replace fr : objAt w22 (w.heap.size + 1 + 1) = some (.cells (ints .i64 16 zqd) 129) := zqb hb (by exact zqc); have lfr := zqa fr; replace fa : objAt w22 (ga) = some (.cells (ints .i64 16 (numN ((ruN u k c).a))) 129) := zqb hb (by exact zqc); have lfa := zqa fa; replace fb : objAt w22 (gb) = some (.cells (ints .i64 16 (numN ((ruN u k c).b))) 129) := zqb hb (by exact zqc); have lfb := zqa fb; replace fc : objAt w22 (gc) = some (.cells (ints .i64 16 (numN ((ruN u k c).c))) 129) := zqb hb (by exact zqc); have lfc := zqa fc; replace fe : objAt w22 (ge) = some (.cells (ints .i64 16 (numN ((ruN u k c).e))) 129) := zqb hb (by exact zqc); have lfe := zqa fe; replace hG : Below w.heap.size w w22 := Grew.trans (by exact zqe) hb; clear hb)
    go_wp2_with fail
    have ek : objAt ((((w22.setRow (gc) ((ints .i64 16 (numN (t2.a))))).setRow (ge) ((ints .i64 16 (numN (t2.b))))).setRow (ga) ((ints .i64 16 (numN (t2.c))))).setRow (gb) ((ints .i64 16 (numN (t2.e))))) (w.heap.size) = some (.cells (ints .u8 32 (k)) 23) := zqg _ _ (zqg _ _ (zqg _ _ (zqg _ _ (fk) (by first | assumption | omega | simp)) (by first | assumption | omega | simp)) (by first | assumption | omega | simp)) (by first | assumption | omega | simp)
    have ex : objAt ((((w22.setRow (gc) ((ints .i64 16 (numN (t2.a))))).setRow (ge) ((ints .i64 16 (numN (t2.b))))).setRow (ga) ((ints .i64 16 (numN (t2.c))))).setRow (gb) ((ints .i64 16 (numN (t2.e))))) (w.heap.size + 1) = some (.cells (ints .i64 16 (numN (u))) 129) := zqg _ _ (zqg _ _ (zqg _ _ (zqg _ _ (fx) (by first | assumption | omega | simp)) (by first | assumption | omega | simp)) (by first | assumption | omega | simp)) (by first | assumption | omega | simp)
    have er : objAt ((((w22.setRow (gc) ((ints .i64 16 (numN (t2.a))))).setRow (ge) ((ints .i64 16 (numN (t2.b))))).setRow (ga) ((ints .i64 16 (numN (t2.c))))).setRow (gb) ((ints .i64 16 (numN (t2.e))))) (w.heap.size + 1 + 1) = some (.cells (ints .i64 16 zqd) 129) := zqg _ _ (zqg _ _ (zqg _ _ (zqg _ _ (fr) (by first | assumption | omega | simp)) (by first | assumption | omega | simp)) (by first | assumption | omega | simp)) (by first | assumption | omega | simp)
    have ea : objAt ((((w22.setRow (gc) ((ints .i64 16 (numN (t2.a))))).setRow (ge) ((ints .i64 16 (numN (t2.b))))).setRow (ga) ((ints .i64 16 (numN (t2.c))))).setRow (gb) ((ints .i64 16 (numN (t2.e))))) (ga) = some (.cells (ints .i64 16 (numN (t2.c))) 129) := zqg _ _ (zqt _ (zqg _ _ (zqg _ _ (fa) (by first | assumption | omega | simp)) (by first | assumption | omega | simp))) (by first | assumption | omega | simp)
    have eb : objAt ((((w22.setRow (gc) ((ints .i64 16 (numN (t2.a))))).setRow (ge) ((ints .i64 16 (numN (t2.b))))).setRow (ga) ((ints .i64 16 (numN (t2.c))))).setRow (gb) ((ints .i64 16 (numN (t2.e))))) (gb) = some (.cells (ints .i64 16 (numN (t2.e))) 129) := zqt _ (zqg _ _ (zqg _ _ (zqg _ _ (fb) (by first | assumption | omega | simp)) (by first | assumption | omega | simp)) (by first | assumption | omega | simp))
    have ec : objAt ((((w22.setRow (gc) ((ints .i64 16 (numN (t2.a))))).setRow (ge) ((ints .i64 16 (numN (t2.b))))).setRow (ga) ((ints .i64 16 (numN (t2.c))))).setRow (gb) ((ints .i64 16 (numN (t2.e))))) (gc) = some (.cells (ints .i64 16 (numN (t2.a))) 129) := zqg _ _ (zqg _ _ (zqg _ _ (zqt _ (fc)) (by first | assumption | omega | simp)) (by first | assumption | omega | simp)) (by first | assumption | omega | simp)
    have ee : objAt ((((w22.setRow (gc) ((ints .i64 16 (numN (t2.a))))).setRow (ge) ((ints .i64 16 (numN (t2.b))))).setRow (ga) ((ints .i64 16 (numN (t2.c))))).setRow (gb) ((ints .i64 16 (numN (t2.e))))) (ge) = some (.cells (ints .i64 16 (numN (t2.b))) 129) := zqg _ _ (zqg _ _ (zqt _ (zqg _ _ (fe) (by first | assumption | omega | simp))) (by first | assumption | omega | simp)) (by first | assumption | omega | simp)
    clear fk lfk fx lfx fr lfr fa lfa fb lfb fc lfc fe lfe
    replace hG : Below w.heap.size w ((((w22.setRow (gc) ((ints .i64 16 (numN (t2.a))))).setRow (ge) ((ints .i64 16 (numN (t2.b))))).setRow (ga) ((ints .i64 16 (numN (t2.c))))).setRow (gb) ((ints .i64 16 (numN (t2.e))))) := by exact zqe
    generalize (((w22.setRow (gc) ((ints .i64 16 (numN (t2.a))))).setRow (ge) ((ints .i64 16 (numN (t2.b))))).setRow (ga) ((ints .i64 16 (numN (t2.c))))).setRow (gb) ((ints .i64 16 (numN (t2.e)))) = w23 at *
    have fk := ek
    have fx := ex
    have fr := er
    have fa := ea
    have fb := eb
    have fc := ec
    have fe := ee
    clear ek ex er ea eb ec ee
    have lfk := zqa fk
    have lfx := zqa fx
    have lfr := zqa fr
    have lfa := zqa fa
    have lfb := zqa fb
    have lfc := zqa fc
    have lfe := zqa fe
    go_roundw
    case rel => exact ⟨c + 1, by omega, HE.out, ⟨hG, fk, fx, fr, by rw [Z.out]; exact fa, by rw [Z.out]; exact fb, by rw [Z.out]; exact fc, by rw [Z.out]; exact fe⟩⟩
    case measure => simp [intOf] <;> omega
  ·have hL := bd_ru u k hu 256
   have p1 := fun w => iN_any (ruN u k 256).b w hL.b
   have p2 := fun w => zqgi (ruN u k 256).a (iN (ruN u k 256).b) w hL.a (iN_bd _)
   have E := timesN_is u k hk
   generalize mN (ruN u k 256).a (iN (ruN u k 256).b) = V at *
   go_wp2_with fail
   ((first | (with_reducible refine zqz 4 (by kernel_rfl) (by kernel_rfl) (by kernel_rfl) (by kernel_rfl) (by kernel_rfl) ?_) | refine zqy 4 (by kernel_rfl) (by kernel_rfl) (by kernel_rfl) (by kernel_rfl) (by kernel_rfl) ?_); simp only [List.take_succ_cons, List.take_zero]; (repeat (first | go_big_quiet_skip | (go_big_quiet_want; go_big_quiet_op; first | go_big_quiet_on | (apply Exists.intro; refine ⟨fun _ => ?_, ?_⟩; (focus (first | (with_reducible exact Calls.of_more (p1 _)) | (with_reducible exact Calls.of_more (p2 _)))); go_big_quiet_on)))); refine wpQuiet_nil ?_; rintro _ ⟨mq, rfl⟩)
   (refine zqaa (i := 4) (fuel := 0) (by kernel_rfl) rfl ?_; intro K hK; go_simp; refine hK _ _ ?_; clear hK K)
   (refine wpAny_done (by kernel_rfl) ?_ _)
   go_wp2
   refine zqai rfl _ 129 _ (0, 0) _ rfl (zqk _ (zqt _ fr)) Tryz.underlying129 rfl (by rw [zqf]; kernel_rfl) rfl ⟨rfl, Grew.more (Grew.setRow hG _ _ (by omega)) _⟩
end Go.Proofs.YtconieddcjpbjaaGreatDoor
namespace Go.Proofs.YtconieddcjpbjaaGreatDoor
open Go.RowKit
set_option linter.unusedVariables false
set_option linter.unusedSimpArgs false
open Edw (red tv)
theorem zqqx (k : Nat → Int) (hk : Bytes 32 k) : ints .u8 32 (upd (upd k 0 (k 0 - k 0 % 8)) 31 ((((upd k 0 (k 0 - k 0 % 8)) 31).tmod 64 + 64) % 256)) = ints .u8 32 (zqcl k) := zqay fun i hi => by
 have h31 := hk 31 (by decide)
 have e : (k 31).tmod 64 = k 31 % 64 := Int.tmod_eq_emod_of_nonneg h31.1
 unfold zqcl
 by_cases h0 : i = 0
 ·subst h0; simp [upd]; omega
 ·by_cases h1 : i = 31
  ·subst h1; simp [upd, e]; omega
  ·simp [upd, h0, h1]
theorem rof_any (p : Nat → Int) (w : World) (hp : Bytes 32 p) : Calls Tryz.prog 98 #[.agg (ints .u8 32 (p))] w fun e w' => e = .returned (.agg (ints .i64 16 (numN (nv (ofF p))))) ∧ Below w.heap.size w w' := by
 have h := refOf_any p w hp
 rw [← of_val p hp] at h
 exact h
theorem bytes_key (v : Int) (hv : BD v) : ints .u8 32 (zqfp (numN v)) = ints .u8 32 (keyV v) := zqay fun i hi => (zqh5 v hv.1 (by have := hv.2; omega) i hi).symm
theorem rkey_any (v : Int) (w : World) (hv : BD v) : Calls Tryz.prog 96 #[.agg (ints .i64 16 (numN (v)))] w fun e w' => e = .returned (.agg (ints .u8 32 (keyV v))) ∧ Below w.heap.size w w' := by
 have h := zqvw (numN v) w (zqbn v)
 rwa [bytes_key v hv] at h
set_option maxHeartbeats 1000000 in
theorem zqni (k : Nat → Int) (w : World) (hk : Bytes 32 k) :
  Calls Tryz.prog 82 #[.agg (ints .u8 32 (k))] w fun e w' => e = .returned (.agg (ints .u8 32 (zqcl k))) ∧ Below w.heap.size w w' := by
 have hG := Grew.refl w
 go_enter Tryz.func82, Tryz.ntmps82
 have hk0 := hk 0 (by decide)
 have hk31 := hk 31 (by decide)
 have hm : 0 ≤ k 0 - k 0 % 8 ∧ k 0 - k 0 % 8 ≤ 255 := by omega
 have hm2 : 0 ≤ k 31 % 64 + 64 ∧ k 31 % 64 + 64 ≤ 255 := by omega
 go_wp2_with fail
 rw [zqqx k hk]
 refine zqai rfl _ 23 _ (0, 0) _ rfl (by simp [go_sem]) Tryz.underlying23 rfl (by rw [zqf]; kernel_rfl) rfl ⟨rfl, by exact zqe⟩
set_option maxHeartbeats 1000000 in
theorem rraw_walk (k p V : Nat → Int) (x y : Int) (w : World)
  (c1 : ∀ w : World, Calls Tryz.prog 98 #[.agg (ints .u8 32 (p))] w fun e w' => e = .returned (.agg (ints .i64 16 (numN (x)))) ∧ Below w.heap.size w w')
  (c2 : ∀ w : World, Calls Tryz.prog 97 #[.agg (ints .u8 32 (k)), .agg (ints .i64 16 (numN (x)))] w fun e w' => e = .returned (.agg (ints .i64 16 (numN (y)))) ∧ Below w.heap.size w w')
  (c3 : ∀ w : World, Calls Tryz.prog 96 #[.agg (ints .i64 16 (numN (y)))] w fun e w' => e = .returned (.agg (ints .u8 32 (V))) ∧ Below w.heap.size w w') :
  Calls Tryz.prog 81 #[.agg (ints .u8 32 (k)), .agg (ints .u8 32 (p))] w fun e w' => e = .returned (.agg (ints .u8 32 (V))) ∧ Below w.heap.size w w' := by
 have hG := Grew.refl w
 have fk : True := trivial
 have fp : True := trivial
 have fr : True := trivial
 go_enter Tryz.func81, Tryz.ntmps81
 go_wp2_with fail
 replace fk : objAt (((w.alloc (.cells (ints .u8 32 (k)) 23)).alloc (.cells (ints .u8 32 (p)) 23)).alloc (.cells (ints .u8 32 (zqd)) 23)) (w.heap.size) = some (.cells (ints .u8 32 (k)) 23) := by exact zqc
 replace fp : objAt (((w.alloc (.cells (ints .u8 32 (k)) 23)).alloc (.cells (ints .u8 32 (p)) 23)).alloc (.cells (ints .u8 32 (zqd)) 23)) (w.heap.size + 1) = some (.cells (ints .u8 32 (p)) 23) := by exact zqc
 replace fr : objAt (((w.alloc (.cells (ints .u8 32 (k)) 23)).alloc (.cells (ints .u8 32 (p)) 23)).alloc (.cells (ints .u8 32 (zqd)) 23)) (w.heap.size + 1 + 1) = some (.cells (ints .u8 32 (zqd)) 23) := by exact zqc
 replace hG : Below w.heap.size w (((w.alloc (.cells (ints .u8 32 (k)) 23)).alloc (.cells (ints .u8 32 (p)) 23)).alloc (.cells (ints .u8 32 (zqd)) 23)) := by exact zqe
 generalize ((w.alloc (.cells (ints .u8 32 (k)) 23)).alloc (.cells (ints .u8 32 (p)) 23)).alloc (.cells (ints .u8 32 (zqd)) 23) = w1 at *
 have lfk := zqa fk
 have lfp := zqa fp
 have lfr := zqa fr
 ((first | (with_reducible refine zqz 5 (by kernel_rfl) (by kernel_rfl) (by kernel_rfl) (by kernel_rfl) (by kernel_rfl) ?_) | refine zqy 5 (by kernel_rfl) (by kernel_rfl) (by kernel_rfl) (by kernel_rfl) (by kernel_rfl) ?_); simp only [List.take_succ_cons, List.take_zero]; (repeat (first | go_big_quiet_skip | (go_big_quiet_want; go_big_quiet_op; first | go_big_quiet_on | (apply Exists.intro; refine ⟨fun _ => ?_, ?_⟩; (focus (first | (with_reducible exact Calls.of_more (c1 _)) | (with_reducible exact Calls.of_more (c2 _)) | (with_reducible exact Calls.of_more (c3 _)))); go_big_quiet_on)))); refine wpQuiet_nil ?_; rintro _ ⟨mq, rfl⟩)
 (refine zqaa (i := 5) (fuel := 0) (by kernel_rfl) rfl ?_; intro K hK; go_simp; refine hK _ _ ?_; clear hK K)
 (refine wpAny_done (by kernel_rfl) ?_ _)
 go_wp2
 refine zqai rfl _ 23 _ (0, 0) _ rfl (zqk _ (zqt _ fr)) Tryz.underlying23 rfl (by rw [zqf]; kernel_rfl) rfl ⟨rfl, Grew.more (Grew.setRow hG _ _ (by omega)) _⟩
theorem zquw (k p : Nat → Int) (w : World) (hk : Bytes 32 k) (hp : Bytes 32 p) : Calls Tryz.prog 81 #[.agg (ints .u8 32 (k)), .agg (ints .u8 32 (p))] w fun e w' => e = .returned (.agg (ints .u8 32 (keyV (tv (knum k 32) (nv (ofF p)))))) ∧ Below w.heap.size w w' :=
 rraw_walk k p _ _ _ w (fun w => rof_any p w hp) (fun w => zqpv k (nv (ofF p)) w hk (nv_BD _)) (fun w => rkey_any _ w (Edw.tv_bd _ _))
set_option maxHeartbeats 1000000 in
theorem zqx7 (k J V : Nat → Int) (w : World)
  (c1 : ∀ w : World, Calls Tryz.prog 82 #[.agg (ints .u8 32 (k))] w fun e w' => e = .returned (.agg (ints .u8 32 (J))) ∧ Below w.heap.size w w')
  (c2 : ∀ w : World, Calls Tryz.prog 81 #[.agg (ints .u8 32 (J)), .agg (ints .u8 32 (upd zqd 0 9))] w fun e w' => e = .returned (.agg (ints .u8 32 (V))) ∧ Below w.heap.size w w') :
  Calls Tryz.prog 50 #[.agg (ints .u8 32 (k))] w fun e w' => e = .returned (.agg (ints .u8 32 (V))) ∧ Below w.heap.size w w' := by
 have hG := Grew.refl w
 have fk : True := trivial
 have fr : True := trivial
 go_enter Tryz.func50, Tryz.ntmps50
 go_wp2_with fail
 replace fk : objAt ((w.alloc (.cells (ints .u8 32 (k)) 23)).alloc (.cells (ints .u8 32 (zqd)) 23)) (w.heap.size) = some (.cells (ints .u8 32 (k)) 23) := by exact zqc
 replace fr : objAt ((w.alloc (.cells (ints .u8 32 (k)) 23)).alloc (.cells (ints .u8 32 (zqd)) 23)) (w.heap.size + 1) = some (.cells (ints .u8 32 (zqd)) 23) := by exact zqc
 replace hG : Below w.heap.size w ((w.alloc (.cells (ints .u8 32 (k)) 23)).alloc (.cells (ints .u8 32 (zqd)) 23)) := by exact zqe
 generalize (w.alloc (.cells (ints .u8 32 (k)) 23)).alloc (.cells (ints .u8 32 (zqd)) 23) = w1 at *
 have lfk := zqa fk
 have lfr := zqa fr
 go_wp2_with fail
 (refine (c1 _).mono ?_; rintro e w2 ⟨rfl, hb⟩; replace fk : objAt w2 (w.heap.size) = some (.cells (ints .u8 32 (k)) 23) := zqb hb (by exact zqc); have lfk := zqa fk; replace fr : objAt w2 (w.heap.size + 1) = some (.cells (ints .u8 32 (zqd)) 23) := zqb hb (by exact zqc); have lfr := zqa fr; replace hG : Below w.heap.size w w2 := Grew.trans (by exact zqe) hb; clear hb)
 go_wp2_with fail
 (refine (c2 _).mono ?_; rintro e w3 ⟨rfl, hb⟩; replace fk : objAt w3 (w.heap.size) = some (.cells (ints .u8 32 (k)) 23) := zqb hb (by exact zqc); have lfk := zqa fk; replace fr : objAt w3 (w.heap.size + 1) = some (.cells (ints .u8 32 (zqd)) 23) := zqb hb (by exact zqc); have lfr := zqa fr; replace hG : Below w.heap.size w w3 := Grew.trans (by exact zqe) hb; clear hb)
 go_wp2
 refine zqai rfl _ 23 _ (0, 0) _ rfl (zqt _ fr) Tryz.underlying23 rfl (by rw [zqf]; kernel_rfl) rfl ⟨rfl, by exact zqe⟩
theorem rbase_any (k : Nat → Int) (w : World) (hk : Bytes 32 k) : Calls Tryz.prog 50 #[.agg (ints .u8 32 (k))] w fun e w' => e = .returned (.agg (ints .u8 32 (keyV (pubV k)))) ∧ Below w.heap.size w w' := by
 have h := fun w => zquw (zqcl k) (upd zqd 0 9) w (zqdv k hk) zqj4
 rw [zqsc] at h
 exact zqx7 k _ _ w (fun w => zqni k w hk) h
set_option maxHeartbeats 1000000 in
theorem zqp2 (k p J V : Nat → Int) (Z : Bool) (w : World)
  (c1 : ∀ w : World, Calls Tryz.prog 82 #[.agg (ints .u8 32 (k))] w fun e w' => e = .returned (.agg (ints .u8 32 (J))) ∧ Below w.heap.size w w')
  (c2 : ∀ w : World, Calls Tryz.prog 81 #[.agg (ints .u8 32 (J)), .agg (ints .u8 32 (p))] w fun e w' => e = .returned (.agg (ints .u8 32 (V))) ∧ Below w.heap.size w w')
  (eV : same 32 V zqd = Z) :
  Calls Tryz.prog 91 #[.agg (ints .u8 32 (k)), .agg (ints .u8 32 (p))] w fun e w' => e = .returned (.tuple #[.agg (ints .u8 32 (V)), .bool (!Z)]) ∧ Below w.heap.size w w' := by
 have hG := Grew.refl w
 have fk : True := trivial
 have fp : True := trivial
 have fr : True := trivial
 go_enter Tryz.func91, Tryz.ntmps91
 go_wp2_with fail
 replace fk : objAt (((w.alloc (.cells (ints .u8 32 (k)) 23)).alloc (.cells (ints .u8 32 (p)) 23)).alloc (.cells (ints .u8 32 (zqd)) 23)) (w.heap.size) = some (.cells (ints .u8 32 (k)) 23) := by exact zqc
 replace fp : objAt (((w.alloc (.cells (ints .u8 32 (k)) 23)).alloc (.cells (ints .u8 32 (p)) 23)).alloc (.cells (ints .u8 32 (zqd)) 23)) (w.heap.size + 1) = some (.cells (ints .u8 32 (p)) 23) := by exact zqc
 replace fr : objAt (((w.alloc (.cells (ints .u8 32 (k)) 23)).alloc (.cells (ints .u8 32 (p)) 23)).alloc (.cells (ints .u8 32 (zqd)) 23)) (w.heap.size + 1 + 1) = some (.cells (ints .u8 32 (zqd)) 23) := by exact zqc
 replace hG : Below w.heap.size w (((w.alloc (.cells (ints .u8 32 (k)) 23)).alloc (.cells (ints .u8 32 (p)) 23)).alloc (.cells (ints .u8 32 (zqd)) 23)) := by exact zqe
 generalize ((w.alloc (.cells (ints .u8 32 (k)) 23)).alloc (.cells (ints .u8 32 (p)) 23)).alloc (.cells (ints .u8 32 (zqd)) 23) = w1 at *
 have lfk := zqa fk
 have lfp := zqa fp
 have lfr := zqa fr
 go_wp2_with fail
 (refine zqdq (by kernel_rfl) (by kernel_rfl) ?_; (repeat (first | refine zqn rfl ?_ | (refine zql rfl ?_; apply Exists.intro))); refine zqbp ?_; intro γ hinj hbase; (repeat (first | (refine zqab rfl ?_; ((first | go_big_quiet_skip | (go_big_quiet_want; go_big_quiet_op; go_big_quiet_on)); refine wpQuiet_nil ?_)) | ((first | refine zqv rfl (fun _ => rfl) ?_ | ((try simp only [Nat.zero_add, Nat.reduceAdd]); apply zqaw zqi; (focus rfl); (focus (first | exact zqq _ | exact zqr _ _ | exact zqo _ | rfl)); (focus (exact zqm))) | ((try simp only [Nat.zero_add, Nat.reduceAdd]); apply zqac _ _ zqi; (focus rfl); (focus (intro W; (first | exact zqam _ | exact zqag _ | exact zqan _ | exact zqaf _ | exact zq3 _ | exact zq2 _))); (focus (first | exact zq1 _ _ _ | exact zqad _ _ | rfl)); (focus (exact zqm))) | ((try simp only [Nat.zero_add, Nat.reduceAdd]); apply zqah zqi; (focus rfl); (focus (intro W; simp only [List.map_toArray, List.map_cons, List.map_nil]; first | fail)); (focus (exact zqm))) | (apply zqao; (focus rfl); (focus rfl); (focus rfl); (focus (intro W hC hF; go_big_quiet_want; go_big_quiet_op; (first | go_big_quiet_on | (apply Exists.intro; refine ⟨fun _ => ?_, ?_⟩; (focus (first | (with_reducible exact Calls.of_more (c1 _)) | (with_reducible exact Calls.of_more (c2 _)))); go_big_quiet_on)); exact wpQuiet_nil rfl)); (focus (first | exact fun _ => ⟨rfl, rfl⟩ | exact fun h => absurd h (by decide))))); ((first | go_big_quiet_skip | (go_big_quiet_want; go_big_quiet_op; go_big_quiet_on)); refine wpQuiet_nil ?_)) | refine zqu rfl (fun _ => rfl) ?_ | ((try simp only [Nat.zero_add, Nat.reduceAdd]); apply zqae (zq4 (hbase _)); (focus rfl); (focus rfl); (focus rfl); (focus (first | exact zqq _ | exact zqr _ _ | exact zqo _ | rfl)); rotate_left 3; (focus (exact zqbi)); rotate_right 3; (focus kernel_rfl); (focus (first | exact zqf _ _ _ | rfl)); (focus (first | exact zq6 _ _ _ | exact zqaj _ _ _ _ | kernel_rfl)); (focus (decide +kernel)); (focus (exact zqm))))))
 (refine zqbs ?_; rintro _ ⟨mq, rfl⟩ hF; simp only [List.forall_mem_cons] at hF; obtain ⟨fs, -⟩ := hF)
 have nsr : ¬ (γ 4 = w.heap.size + 1 + 1) := by have := hbase 4; omega
 have nrs : ¬ (w.heap.size + 1 + 1 = γ 4) := fun e => nsr e.symm
 have hw0 := hG.size
 have l0s : w.heap.size ≤ γ 4 := by have := hbase 4; omega
 clear hw0
 replace fk : objAt (more w1 mq) (w.heap.size) = some (.cells (ints .u8 32 (k)) 23) := zqk _ fk
 replace fp : objAt (more w1 mq) (w.heap.size + 1) = some (.cells (ints .u8 32 (p)) 23) := zqk _ fp
 replace fr : objAt (more w1 mq) (w.heap.size + 1 + 1) = some (.cells (ints .u8 32 (zqd)) 23) := zqk _ fr
 replace hG : Below w.heap.size w (more w1 mq) := Grew.more hG _
 replace fs : objAt (more w1 mq) (γ 4) = some (.cells (ints .u8 32 (V)) 23) := fs
 clear lfk lfp lfr
 clear hinj hbase
 generalize γ 4 = gs at *
 generalize more w1 mq = w2 at *
 clear γ
 have lfk := zqa fk
 have lfp := zqa fp
 have lfr := zqa fr
 have lfs := zqa fs
 go_wp2_with fail
 go_region
 all_goals
  go_wp2
  refine zqa6 rfl _ 23 _ (0, 0) _ _ rfl rfl (by simp [go_sem, fr]) Tryz.underlying23 rfl (by rw [zqf]; kernel_rfl) rfl ⟨rfl, by exact zqe⟩
theorem zqsu (k p : Nat → Int) (w : World) {Z : Bool} (hk : Bytes 32 k) (hp : Bytes 32 p) (hZ : decide (shV k p = 0) = Z) : Calls Tryz.prog 91 #[.agg (ints .u8 32 (k)), .agg (ints .u8 32 (p))] w fun e w' => e = .returned (.tuple #[.agg (ints .u8 32 (keyV (shV k p))), .bool (!Z)]) ∧ Below w.heap.size w w' :=
 zqp2 k p _ _ Z w (fun w => zqni k w hk) (fun w => zquw (zqcl k) p w (zqdv k hk) hp) ((zqps _ (Edw.tv_bd _ _)).trans hZ)
end Go.Proofs.YtconieddcjpbjaaGreatDoor
