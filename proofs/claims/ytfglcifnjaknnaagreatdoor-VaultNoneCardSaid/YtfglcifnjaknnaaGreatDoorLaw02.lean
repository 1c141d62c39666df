/- Law02 -/
import Derived.Test.YtfglcifnjaknnaaGreatDoorLimb
import Derived.Test.YtfglcifnjaknnaaGreatDoorCt
set_option linter.unusedVariables false
set_option linter.unusedSimpArgs false
namespace Go.Proofs.YtfglcifnjaknnaaGreatDoor
open Go.RowKit
theorem zqy9 (w : World) :
  Calls Tryz.prog 264 #[] w (Rt w (.bool true)) := by
 have hG := Grew.refl w
 go_enter Tryz.func264, Tryz.ntmps264
 go_wp2_with fail
 (refine (zq0o _).mono ?_; rintro e w1 ⟨rfl, hb⟩; replace hG : Below w.heap.size w w1 := Grew.trans (by exact zqf) hb; clear hb)
 go_wp2;go_ret;exact ⟨rfl, by exact zqf⟩
def zqec : Nat -> Int := fun i => if i = 0 then 237 else if i < 31 then 255 else 127
def zq08 : Nat -> Int := fun i => if i = 0 then 236 else if i < 31 then 255 else 127
theorem zqsb : Bytes 32 zqec := fun i hi => by unfold zqec; split; omega; split <;> omega
theorem zqyd : ints .u8 32 (upd (zqds zqec 31) 31 127) = ints .u8 32 zqec := by
 refine zqba fun i hi => ?_
 unfold upd zqds
 by_cases h : i = 31
 ·subst h; rfl
 ·rw [if_neg h, if_pos (by omega)]
theorem zqxz : ints .u8 32 (upd (upd (zqds zqec 31) 31 127) 0 236) = ints .u8 32 zq08 := by
 refine zqba fun i hi => ?_
 unfold upd zqds zqec zq08
 by_cases h : i = 31
 ·subst h; rfl
 ·by_cases h0 : i = 0
  ·subst h0; rfl
  ·rw [if_neg h0, if_neg h, if_pos (by omega), if_neg h0, if_neg h0]
theorem zqg9 (k : Nat -> Int) : zq8 18014398509481984 (ofF k) := fun i _ => by have := zq3k k i; omega
theorem zqew (n : Int) (h0 : 0 <= n) (h1 : n <= 4294967295) : zq8 18014398509481984 (upd zqd 0 n) := fun i _ => by
 unfold upd zqd; split <;> omega
theorem zqd8 : zq8 18014398509481984 zqd := fun i _ => by unfold zqd; omega
theorem zqlz (f : Nat -> Int) (hf : zq8 288230376151711744 f) : zq8 18014398509481984 (zqaq f) := fun i hi => by
 obtain ⟨a0, b0⟩ := hf 0 (by decide);obtain ⟨a1, b1⟩ := hf 1 (by decide);obtain ⟨a2, b2⟩ := hf 2 (by decide);obtain ⟨a3, b3⟩ := hf 3 (by decide);obtain ⟨a4, b4⟩ := hf 4 (by decide)
 rcases (by omega : i = 0 \/ i = 1 \/ i = 2 \/ i = 3 \/ i = 4) with rfl | rfl | rfl | rfl | rfl
 ·rw [zql4]; omega
 ·rw [zql3]; omega
 ·rw [zqmc]; omega
 ·rw [zqla]; omega
 ·rw [zqln]; omega
theorem zqb4 (a b : Nat -> Int) (ha : zq8 18014398509481984 a) (hb : zq8 18014398509481984 b) : zq8 18014398509481984 (zqaq (minus a b)) :=
 zqlz _ fun i hi => by have := ha i hi; have := hb i hi; have := zqti i; unfold minus; omega
theorem zqcl (a b : Nat -> Int) (ha : zq8 18014398509481984 a) (hb : zq8 18014398509481984 b) : zq8 18014398509481984 (zqaq (plus a b)) :=
 zqlz _ fun i hi => by have := ha i hi; have := hb i hi; unfold plus; omega
theorem zqp4 : zq8 18014398509481984 (upd zqd 0 1) := zqew 1 (by decide) (by decide)
set_option maxHeartbeats 400000 in
theorem zqyj (w : World) :
  Calls Tryz.prog 263 #[] w (Rt w (.bool true)) := by
 have s1 : same 32 (keyD (digF (zqaq (ofF zqec)))) zqd = true := by kernel_rfl
 have s2 : same 32 (keyD (digF (zqaq (zqaq (minus zqd (upd zqd 0 1)))))) zq08 = true := by kernel_rfl
 go_enter Tryz.func263, Tryz.ntmps263
 go_wp2
 go_loopw [2] (fun i wr => ∃ k : Nat, ∃ m : More, 1 <= k /\ k <= 31 /\ i = .int .i64 k /\ wr = more (w.alloc (.cells (ints .u8 32 (zqds zqec k)) 29)) m) (fun i _ => 31 - (intOf i).toNat)
 case atStart =>
  have e : upd zqd 0 237 = zqds zqec 1 := by
   funext i; unfold upd zqd zqds zqec
   by_cases h : i = 0
   ·subst h; rfl
   ·rw [if_neg h, if_neg (by omega)]
  exact ⟨1, _, by omega, by omega, rfl, by rw [e]; exact (zqet _).symm⟩
 case round =>
  obtain ⟨k, m, hk0, hk, rfl, rfl⟩ := hrel
  by_cases hlt : k < 31
  ·have h32 : k < 32 := by omega
   have e : zqec k = 255 := by unfold zqec; rw [if_neg (by omega), if_pos hlt]
   have E : Hid (zqec k = 255) := e;clear e;go_wp2
   go_roundw
   case rel => exact ⟨k + 1, _, by omega, by omega, by go_num, by rw [<- zqex, E.out]⟩
   case measure => simp [intOf]; omega
  ·obtain rfl : k = 31 := by omega
   have p1 := zqyd;have p2 := zqxz;clear hlt;go_wp2
   ((first | (with_reducible refine zqab zqb zqb ?_) | refine zq2 zqb zqb ?_); (repeat (first | go_big_quiet_skip | (go_big_quiet_want; go_big_quiet_op; first | go_big_quiet_on | (apply Exists.intro; refine ⟨fun _ => ?_, ?_⟩; (focus (first | (with_reducible exact Calls.of_more (zqy9 _)) | (with_reducible exact Calls.of_more (zqvg zqec _ zqsb)) | (with_reducible exact Calls.of_more (zqtr (ofF zqec) _ (zqg9 _))) | (with_reducible exact Calls.of_more (zqcq 1 _ (by decide) (by decide))) | (with_reducible exact Calls.of_more (zqi8 zqd _ _ zqd8 zqp4)) | (with_reducible exact Calls.of_more (zqtr _ _ (zqb4 _ _ zqd8 zqp4))))); go_big_quiet_on)))); refine wpQuiet_nil ?_; rintro _ ⟨mq, rfl⟩)
   go_wp2;go_ret;exact ⟨rfl, by exact zqf⟩
theorem zq6o : valE modl = 57896044618658097711785492504343953926634992332820282019728792003956564819949 := by kernel_rfl
theorem zqzt (a b : Nat -> Int) : valE (minus a b) = valE a + 16 * valE modl - valE b := by unfold valE minus; omega
theorem zq3l (a b : Nat -> Int) : valE (plus a b) = valE a + valE b := by unfold valE plus; omega
theorem zqw6 : valE zqd = 0 := rfl
theorem zrnd (r : Int) (h0 : 0 <= r) (h1 : r < 19) : same 32 (keyD (digF (zqaq (ofF (upd zqec 0 (237 + r)))))) (upd zqd 0 r) = true := by
 rcases (by omega : r = 0 \/ r = 1 \/ r = 2 \/ r = 3 \/ r = 4 \/ r = 5 \/ r = 6 \/ r = 7 \/ r = 8 \/ r = 9 \/ r = 10 \/ r = 11 \/ r = 12 \/ r = 13 \/ r = 14 \/ r = 15 \/ r = 16 \/ r = 17 \/ r = 18) with
  rfl | rfl | rfl | rfl | rfl | rfl | rfl | rfl | rfl | rfl | rfl | rfl | rfl | rfl | rfl | rfl | rfl | rfl | rfl <;> kernel_rfl
theorem zqa8 {P : Prop} (h : P := by (repeat' (first | assumption | exact zqd8 | exact zqio | exact zqg9 _ | refine zqcl _ _ ?_ ?_ | refine zqb4 _ _ ?_ ?_ | refine zqbr _ _ ?_ ?_ | refine zqhz _ _ ?_ ⟨by decide, by decide⟩ | refine zqsn ?_ ?_ ?_ | refine zqgo _ ?_ | refine zqlh _ _ ?_ | refine zqw2 ?_ ?_ ?_))) : P := h
end Go.Proofs.YtfglcifnjaknnaaGreatDoor
