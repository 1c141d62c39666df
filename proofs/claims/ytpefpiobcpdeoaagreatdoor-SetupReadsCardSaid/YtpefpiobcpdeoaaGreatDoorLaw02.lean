/- Law02 -/
import Derived.Test.YtpefpiobcpdeoaaGreatDoorLimb
import Derived.Test.YtpefpiobcpdeoaaGreatDoorCt
set_option linter.unusedVariables false
set_option linter.unusedSimpArgs false
namespace Go.Proofs.YtpefpiobcpdeoaaGreatDoor
open Go.RowKit
theorem zqx6 (w : World) :
  Calls Tryz.prog 278 #[] w (Rt w (.bool true)) := by
 have hG := Grew.refl w
 go_enter Tryz.func278, Tryz.ntmps278
 go_wp2_with fail
 (refine (zq0l _).mono ?_; rintro e w1 ⟨rfl, hb⟩; replace hG : Below w.heap.size w w1 := Grew.trans (by exact zqf) hb; clear hb)
 go_wp2;go_ret;exact ⟨rfl, by exact zqf⟩
def zqem : Nat -> Int := fun i => if i = 0 then 237 else if i < 31 then 255 else 127
def zq1a : Nat -> Int := fun i => if i = 0 then 236 else if i < 31 then 255 else 127
theorem zqsk : Bytes 32 zqem := fun i hi => by unfold zqem; split; omega; split <;> omega
theorem zqwh : ints .u8 32 (upd (zqd2 zqem 31) 31 127) = ints .u8 32 zqem := by
 refine zqaz fun i hi => ?_
 unfold upd zqd2
 by_cases h : i = 31
 ·subst h; rfl
 ·rw [if_neg h, if_pos (by omega)]
theorem zqu4 : ints .u8 32 (upd (upd (zqd2 zqem 31) 31 127) 0 236) = ints .u8 32 zq1a := by
 refine zqaz fun i hi => ?_
 unfold upd zqd2 zqem zq1a
 by_cases h : i = 31
 ·subst h; rfl
 ·by_cases h0 : i = 0
  ·subst h0; rfl
  ·rw [if_neg h0, if_neg h, if_pos (by omega), if_neg h0, if_neg h0]
theorem zqhc (k : Nat -> Int) : zqaa 18014398509481984 (ofF k) := fun i _ => by have := zq2b k i; omega
theorem zqe1 (n : Int) (h0 : 0 <= n) (h1 : n <= 4294967295) : zqaa 18014398509481984 (upd zqc 0 n) := fun i _ => by
 unfold upd zqc; split <;> omega
theorem zqek : zqaa 18014398509481984 zqc := fun i _ => by unfold zqc; omega
theorem zqlq (f : Nat -> Int) (hf : zqaa 288230376151711744 f) : zqaa 18014398509481984 (zqa0 f) := fun i hi => by
 obtain ⟨a0, b0⟩ := hf 0 (by decide);obtain ⟨a1, b1⟩ := hf 1 (by decide);obtain ⟨a2, b2⟩ := hf 2 (by decide);obtain ⟨a3, b3⟩ := hf 3 (by decide);obtain ⟨a4, b4⟩ := hf 4 (by decide)
 rcases (by omega : i = 0 \/ i = 1 \/ i = 2 \/ i = 3 \/ i = 4) with rfl | rfl | rfl | rfl | rfl
 ·rw [zqlb]; omega
 ·rw [zqmg]; omega
 ·rw [zqla]; omega
 ·rw [zql7]; omega
 ·rw [zqlu]; omega
theorem zqcg (a b : Nat -> Int) (ha : zqaa 18014398509481984 a) (hb : zqaa 18014398509481984 b) : zqaa 18014398509481984 (zqa0 (minus a b)) :=
 zqlq _ fun i hi => by have := ha i hi; have := hb i hi; have := zqs4 i; unfold minus; omega
theorem zqcv (a b : Nat -> Int) (ha : zqaa 18014398509481984 a) (hb : zqaa 18014398509481984 b) : zqaa 18014398509481984 (zqa0 (plus a b)) :=
 zqlq _ fun i hi => by have := ha i hi; have := hb i hi; unfold plus; omega
theorem zqqz : zqaa 18014398509481984 (upd zqc 0 1) := zqe1 1 (by decide) (by decide)
set_option maxHeartbeats 400000 in
theorem zqwz (w : World) :
  Calls Tryz.prog 277 #[] w (Rt w (.bool true)) := by
 have s1 : same 32 (keyD (digF (zqa0 (ofF zqem)))) zqc = true := by kernel_rfl
 have s2 : same 32 (keyD (digF (zqa0 (zqa0 (minus zqc (upd zqc 0 1)))))) zq1a = true := by kernel_rfl
 go_enter Tryz.func277, Tryz.ntmps277
 go_wp2
 go_loopw [2] (fun i wr => ∃ k : Nat, ∃ m : More, 1 <= k /\ k <= 31 /\ i = .int .i64 k /\ wr = more (w.alloc (.cells (ints .u8 32 (zqd2 zqem k)) 44)) m) (fun i _ => 31 - (intOf i).toNat)
 case atStart =>
  have e : upd zqc 0 237 = zqd2 zqem 1 := by
   funext i; unfold upd zqc zqd2 zqem
   by_cases h : i = 0
   ·subst h; rfl
   ·rw [if_neg h, if_neg (by omega)]
  exact ⟨1, _, by omega, by omega, rfl, by rw [e]; exact (zqe8 _).symm⟩
 case round =>
  obtain ⟨k, m, hk0, hk, rfl, rfl⟩ := hrel
  by_cases hlt : k < 31
  ·have h32 : k < 32 := by omega
   have e : zqem k = 255 := by unfold zqem; rw [if_neg (by omega), if_pos hlt]
   have E : Hid (zqem k = 255) := e;clear e;go_wp2
   go_roundw
   case rel => exact ⟨k + 1, _, by omega, by omega, by go_num, by rw [<- zqfb, E.out]⟩
   case measure => simp [intOf]; omega
  ·obtain rfl : k = 31 := by omega
   have p1 := zqwh;have p2 := zqu4;clear hlt;go_wp2
   ((first | (with_reducible refine zq7 zqb zqb ?_) | refine zq2 zqb zqb ?_); (repeat (first | go_big_quiet_skip | (go_big_quiet_want; go_big_quiet_op; first | go_big_quiet_on | (apply Exists.intro; refine ⟨fun _ => ?_, ?_⟩; (focus (first | (with_reducible exact Calls.of_more (zqx6 _)) | (with_reducible exact Calls.of_more (zqt0 zqem _ zqsk)) | (with_reducible exact Calls.of_more (zqr4 (ofF zqem) _ (zqhc _))) | (with_reducible exact Calls.of_more (zqc0 1 _ (by decide) (by decide))) | (with_reducible exact Calls.of_more (zqjg zqc _ _ zqek zqqz)) | (with_reducible exact Calls.of_more (zqr4 _ _ (zqcg _ _ zqek zqqz))))); go_big_quiet_on)))); refine wpQuiet_nil ?_; rintro _ ⟨mq, rfl⟩)
   go_wp2;go_ret;exact ⟨rfl, by exact zqf⟩
theorem zq4g : valE modl = 57896044618658097711785492504343953926634992332820282019728792003956564819949 := by kernel_rfl
theorem zqyx (a b : Nat -> Int) : valE (minus a b) = valE a + 16 * valE modl - valE b := by unfold valE minus; omega
theorem zq3x (a b : Nat -> Int) : valE (plus a b) = valE a + valE b := by unfold valE plus; omega
theorem zqvh : valE zqc = 0 := rfl
theorem zrjm (r : Int) (h0 : 0 <= r) (h1 : r < 19) : same 32 (keyD (digF (zqa0 (ofF (upd zqem 0 (237 + r)))))) (upd zqc 0 r) = true := by
 rcases (by omega : r = 0 \/ r = 1 \/ r = 2 \/ r = 3 \/ r = 4 \/ r = 5 \/ r = 6 \/ r = 7 \/ r = 8 \/ r = 9 \/ r = 10 \/ r = 11 \/ r = 12 \/ r = 13 \/ r = 14 \/ r = 15 \/ r = 16 \/ r = 17 \/ r = 18) with
  rfl | rfl | rfl | rfl | rfl | rfl | rfl | rfl | rfl | rfl | rfl | rfl | rfl | rfl | rfl | rfl | rfl | rfl | rfl <;> kernel_rfl
theorem zqbh {P : Prop} (h : P := by (repeat' (first | assumption | exact zqek | exact zqit | exact zqhc _ | refine zqcv _ _ ?_ ?_ | refine zqcg _ _ ?_ ?_ | refine zqb4 _ _ ?_ ?_ | refine zqhw _ _ ?_ ⟨by decide, by decide⟩ | refine zqsl ?_ ?_ ?_ | refine zqg1 _ ?_ | refine zqmo _ _ ?_ | refine zqwx ?_ ?_ ?_))) : P := h
end Go.Proofs.YtpefpiobcpdeoaaGreatDoor
