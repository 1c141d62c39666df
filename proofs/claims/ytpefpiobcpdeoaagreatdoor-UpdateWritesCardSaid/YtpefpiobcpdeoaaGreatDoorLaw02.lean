/- Law02 -/
import Derived.Test.YtpefpiobcpdeoaaGreatDoorLimb
import Derived.Test.YtpefpiobcpdeoaaGreatDoorCt
set_option linter.unusedVariables false
set_option linter.unusedSimpArgs false
namespace Go.Proofs.YtpefpiobcpdeoaaGreatDoor
open Go.RowKit
theorem zq1m (w : World) :
  Calls Tryz.prog 278 #[] w (Rt w (.bool true)) := by
 have hG := Grew.refl w
 go_enter Tryz.func278, Tryz.ntmps278
 go_wp2_with fail
 (refine (zq07 _).mono ?_; rintro e w1 ⟨rfl, hb⟩; replace hG : Below w.heap.size w w1 := Grew.trans (by exact zqf) hb; clear hb)
 go_wp2;go_ret;exact ⟨rfl, by exact zqf⟩
def zqeq : Nat -> Int := fun i => if i = 0 then 237 else if i < 31 then 255 else 127
def zq0n : Nat -> Int := fun i => if i = 0 then 236 else if i < 31 then 255 else 127
theorem zqrx : Bytes 32 zqeq := fun i hi => by unfold zqeq; split; omega; split <;> omega
theorem zqw4 : ints .u8 32 (upd (zqd7 zqeq 31) 31 127) = ints .u8 32 zqeq := by
 refine zqa6 fun i hi => ?_
 unfold upd zqd7
 by_cases h : i = 31
 ·subst h; rfl
 ·rw [if_neg h, if_pos (by omega)]
theorem zqvr : ints .u8 32 (upd (upd (zqd7 zqeq 31) 31 127) 0 236) = ints .u8 32 zq0n := by
 refine zqa6 fun i hi => ?_
 unfold upd zqd7 zqeq zq0n
 by_cases h : i = 31
 ·subst h; rfl
 ·by_cases h0 : i = 0
  ·subst h0; rfl
  ·rw [if_neg h0, if_neg h, if_pos (by omega), if_neg h0, if_neg h0]
theorem zqhg (k : Nat -> Int) : zqac 18014398509481984 (ofF k) := fun i _ => by have := zq3j k i; omega
theorem zqe4 (n : Int) (h0 : 0 <= n) (h1 : n <= 4294967295) : zqac 18014398509481984 (upd zqe 0 n) := fun i _ => by
 unfold upd zqe; split <;> omega
theorem zqel : zqac 18014398509481984 zqe := fun i _ => by unfold zqe; omega
theorem zqmu (f : Nat -> Int) (hf : zqac 288230376151711744 f) : zqac 18014398509481984 (zqaz f) := fun i hi => by
 obtain ⟨a0, b0⟩ := hf 0 (by decide);obtain ⟨a1, b1⟩ := hf 1 (by decide);obtain ⟨a2, b2⟩ := hf 2 (by decide);obtain ⟨a3, b3⟩ := hf 3 (by decide);obtain ⟨a4, b4⟩ := hf 4 (by decide)
 rcases (by omega : i = 0 \/ i = 1 \/ i = 2 \/ i = 3 \/ i = 4) with rfl | rfl | rfl | rfl | rfl
 ·rw [zqm8]; omega
 ·rw [zql2]; omega
 ·rw [zql6]; omega
 ·rw [zql5]; omega
 ·rw [zqms]; omega
theorem zqch (a b : Nat -> Int) (ha : zqac 18014398509481984 a) (hb : zqac 18014398509481984 b) : zqac 18014398509481984 (zqaz (minus a b)) :=
 zqmu _ fun i hi => by have := ha i hi; have := hb i hi; have := zqsd i; unfold minus; omega
theorem zqct (a b : Nat -> Int) (ha : zqac 18014398509481984 a) (hb : zqac 18014398509481984 b) : zqac 18014398509481984 (zqaz (plus a b)) :=
 zqmu _ fun i hi => by have := ha i hi; have := hb i hi; unfold plus; omega
theorem zqqd : zqac 18014398509481984 (upd zqe 0 1) := zqe4 1 (by decide) (by decide)
set_option maxHeartbeats 400000 in
theorem zqxg (w : World) :
  Calls Tryz.prog 277 #[] w (Rt w (.bool true)) := by
 have s1 : same 32 (keyD (digF (zqaz (ofF zqeq)))) zqe = true := by kernel_rfl
 have s2 : same 32 (keyD (digF (zqaz (zqaz (minus zqe (upd zqe 0 1)))))) zq0n = true := by kernel_rfl
 go_enter Tryz.func277, Tryz.ntmps277
 go_wp2
 go_loopw [2] (fun i wr => ∃ k : Nat, ∃ m : More, 1 <= k /\ k <= 31 /\ i = .int .i64 k /\ wr = more (w.alloc (.cells (ints .u8 32 (zqd7 zqeq k)) 44)) m) (fun i _ => 31 - (intOf i).toNat)
 case atStart =>
  have e : upd zqe 0 237 = zqd7 zqeq 1 := by
   funext i; unfold upd zqe zqd7 zqeq
   by_cases h : i = 0
   ·subst h; rfl
   ·rw [if_neg h, if_neg (by omega)]
  exact ⟨1, _, by omega, by omega, rfl, by rw [e]; exact (zqe2 _).symm⟩
 case round =>
  obtain ⟨k, m, hk0, hk, rfl, rfl⟩ := hrel
  by_cases hlt : k < 31
  ·have h32 : k < 32 := by omega
   have e : zqeq k = 255 := by unfold zqeq; rw [if_neg (by omega), if_pos hlt]
   have E : Hid (zqeq k = 255) := e;clear e;go_wp2
   go_roundw
   case rel => exact ⟨k + 1, _, by omega, by omega, by go_num, by rw [<- zqe5, E.out]⟩
   case measure => simp [intOf]; omega
  ·obtain rfl : k = 31 := by omega
   have p1 := zqw4;have p2 := zqvr;clear hlt;go_wp2
   ((first | (with_reducible refine zq8 zqb zqb ?_) | refine zq1 zqb zqb ?_); (repeat (first | go_big_quiet_skip | (go_big_quiet_want; go_big_quiet_op; first | go_big_quiet_on | (apply Exists.intro; refine ⟨fun _ => ?_, ?_⟩; (focus (first | (with_reducible exact Calls.of_more (zq1m _)) | (with_reducible exact Calls.of_more (zqtt zqeq _ zqrx)) | (with_reducible exact Calls.of_more (zqsx (ofF zqeq) _ (zqhg _))) | (with_reducible exact Calls.of_more (zqc1 1 _ (by decide) (by decide))) | (with_reducible exact Calls.of_more (zqka zqe _ _ zqel zqqd)) | (with_reducible exact Calls.of_more (zqsx _ _ (zqch _ _ zqel zqqd))))); go_big_quiet_on)))); refine wpQuiet_nil ?_; rintro _ ⟨mq, rfl⟩)
   go_wp2;go_ret;exact ⟨rfl, by exact zqf⟩
theorem zq3l : valE modl = 57896044618658097711785492504343953926634992332820282019728792003956564819949 := by kernel_rfl
theorem zqx3 (a b : Nat -> Int) : valE (minus a b) = valE a + 16 * valE modl - valE b := by unfold valE minus; omega
theorem zq5g (a b : Nat -> Int) : valE (plus a b) = valE a + valE b := by unfold valE plus; omega
theorem zqu5 : valE zqe = 0 := rfl
theorem zrjy (r : Int) (h0 : 0 <= r) (h1 : r < 19) : same 32 (keyD (digF (zqaz (ofF (upd zqeq 0 (237 + r)))))) (upd zqe 0 r) = true := by
 rcases (by omega : r = 0 \/ r = 1 \/ r = 2 \/ r = 3 \/ r = 4 \/ r = 5 \/ r = 6 \/ r = 7 \/ r = 8 \/ r = 9 \/ r = 10 \/ r = 11 \/ r = 12 \/ r = 13 \/ r = 14 \/ r = 15 \/ r = 16 \/ r = 17 \/ r = 18) with
  rfl | rfl | rfl | rfl | rfl | rfl | rfl | rfl | rfl | rfl | rfl | rfl | rfl | rfl | rfl | rfl | rfl | rfl | rfl <;> kernel_rfl
theorem zqbm {P : Prop} (h : P := by (repeat' (first | assumption | exact zqel | exact zqio | exact zqhg _ | refine zqct _ _ ?_ ?_ | refine zqch _ _ ?_ ?_ | refine zqcb _ _ ?_ ?_ | refine zqif _ _ ?_ ⟨by decide, by decide⟩ | refine zqs6 ?_ ?_ ?_ | refine zqg3 _ ?_ | refine zqme _ _ ?_ | refine zqxb ?_ ?_ ?_))) : P := h
end Go.Proofs.YtpefpiobcpdeoaaGreatDoor
