/- Law02 -/
import Derived.Test.YtconieddcjpbjaaGreatDoorLimb
import Derived.Test.YtconieddcjpbjaaGreatDoorLaw01
set_option linter.unusedVariables false
set_option linter.unusedSimpArgs false
namespace Go.Proofs.YtconieddcjpbjaaGreatDoor
open Go.RowKit
theorem zq2l (w : World) :
  Calls Tryz.prog 208 #[] w (Rt w (.bool true)) := by
 have hG := Grew.refl w
 go_enter Tryz.func208, Tryz.ntmps208
 go_wp2_with fail
 (refine (zq22 _).mono ?_; rintro e w1 ⟨rfl, hb⟩; replace hG : Below w.heap.size w w1 := Grew.trans (by exact zqf) hb; clear hb)
 go_wp2;go_ret;exact ⟨rfl, by exact zqf⟩
def zqe1 : Nat -> Int := fun i => if i = 0 then 237 else if i < 31 then 255 else 127
def zq5h : Nat -> Int := fun i => if i = 0 then 236 else if i < 31 then 255 else 127
theorem zqv3 : Bytes 32 zqe1 := fun i hi => by unfold zqe1; split; omega; split <;> omega
theorem zqzg : ints .u8 32 (upd (zqcj zqe1 31) 31 127) = ints .u8 32 zqe1 := by
 refine zqa4 fun i hi => ?_
 unfold upd zqcj
 by_cases h : i = 31
 ·subst h; rfl
 ·rw [if_neg h, if_pos (by omega)]
theorem zqyc : ints .u8 32 (upd (upd (zqcj zqe1 31) 31 127) 0 236) = ints .u8 32 zq5h := by
 refine zqa4 fun i hi => ?_
 unfold upd zqcj zqe1 zq5h
 by_cases h : i = 31
 ·subst h; rfl
 ·by_cases h0 : i = 0
  ·subst h0; rfl
  ·rw [if_neg h0, if_neg h, if_pos (by omega), if_neg h0, if_neg h0]
theorem zqie (k : Nat -> Int) : zqae 18014398509481984 (ofF k) := fun i _ => by have := zq8m k i; omega
theorem zqfm (n : Int) (h0 : 0 <= n) (h1 : n <= 4294967295) : zqae 18014398509481984 (upd zqg 0 n) := fun i _ => by
 unfold upd zqg; split <;> omega
theorem zqez : zqae 18014398509481984 zqg := fun i _ => by unfold zqg; omega
theorem zqnd (f : Nat -> Int) (hf : zqae 288230376151711744 f) : zqae 18014398509481984 (zqba f) := fun i hi => by
 obtain ⟨a0, b0⟩ := hf 0 (by decide);obtain ⟨a1, b1⟩ := hf 1 (by decide);obtain ⟨a2, b2⟩ := hf 2 (by decide);obtain ⟨a3, b3⟩ := hf 3 (by decide);obtain ⟨a4, b4⟩ := hf 4 (by decide)
 rcases (by omega : i = 0 \/ i = 1 \/ i = 2 \/ i = 3 \/ i = 4) with rfl | rfl | rfl | rfl | rfl
 ·rw [zqni]; omega
 ·rw [zqm9]; omega
 ·rw [zqnv]; omega
 ·rw [zqoc]; omega
 ·rw [zqnt]; omega
theorem zqcv (a b : Nat -> Int) (ha : zqae 18014398509481984 a) (hb : zqae 18014398509481984 b) : zqae 18014398509481984 (zqba (minus a b)) :=
 zqnd _ fun i hi => by have := ha i hi; have := hb i hi; have := zqvd i; unfold minus; omega
theorem zqda (a b : Nat -> Int) (ha : zqae 18014398509481984 a) (hb : zqae 18014398509481984 b) : zqae 18014398509481984 (zqba (plus a b)) :=
 zqnd _ fun i hi => by have := ha i hi; have := hb i hi; unfold plus; omega
theorem zqsy : zqae 18014398509481984 (upd zqg 0 1) := zqfm 1 (by decide) (by decide)
set_option maxHeartbeats 400000 in
theorem zqyg (w : World) :
  Calls Tryz.prog 207 #[] w (Rt w (.bool true)) := by
 have s1 : same 32 (keyD (digF (zqba (ofF zqe1)))) zqg = true := by kernel_rfl
 have s2 : same 32 (keyD (digF (zqba (zqba (minus zqg (upd zqg 0 1)))))) zq5h = true := by kernel_rfl
 go_enter Tryz.func207, Tryz.ntmps207
 go_wp2
 go_loopw [2] (fun i wr => ∃ k : Nat, ∃ m : More, 1 <= k /\ k <= 31 /\ i = .int .i64 k /\ wr = more (w.alloc (.cells (ints .u8 32 (zqcj zqe1 k)) 24)) m) (fun i _ => 31 - (intOf i).toNat)
 case atStart =>
  have e : upd zqg 0 237 = zqcj zqe1 1 := by
   funext i; unfold upd zqg zqcj zqe1
   by_cases h : i = 0
   ·subst h; rfl
   ·rw [if_neg h, if_neg (by omega)]
  exact ⟨1, _, by omega, by omega, rfl, by rw [e]; exact (zqch _).symm⟩
 case round =>
  obtain ⟨k, m, hk0, hk, rfl, rfl⟩ := hrel
  by_cases hlt : k < 31
  ·have h32 : k < 32 := by omega
   have e : zqe1 k = 255 := by unfold zqe1; rw [if_neg (by omega), if_pos hlt]
   have E : Hid (zqe1 k = 255) := e;clear e;go_wp2
   go_roundw
   case rel => exact ⟨k + 1, _, by omega, by omega, by go_num, by rw [<- zqcl, E.out]⟩
   case measure => simp [intOf]; omega
  ·obtain rfl : k = 31 := by omega
   have p1 := zqzg;have p2 := zqyc;clear hlt;go_wp2
   ((first | (with_reducible refine zq5 zqc zqc ?_) | refine zqt zqc zqc ?_); (repeat (first | go_big_quiet_skip | (go_big_quiet_want; go_big_quiet_op; first | go_big_quiet_on | (apply Exists.intro; refine ⟨fun _ => ?_, ?_⟩; (focus (first | (with_reducible exact Calls.of_more (zq2l _)) | (with_reducible exact Calls.of_more (zqw8 zqe1 _ zqv3)) | (with_reducible exact Calls.of_more (zqvx (ofF zqe1) _ (zqie _))) | (with_reducible exact Calls.of_more (zqdj 1 _ (by decide) (by decide))) | (with_reducible exact Calls.of_more (zqli zqg _ _ zqez zqsy)) | (with_reducible exact Calls.of_more (zqvx _ _ (zqcv _ _ zqez zqsy))))); go_big_quiet_on)))); refine wpQuiet_nil ?_; rintro _ ⟨mq, rfl⟩)
   go_wp2;go_ret;exact ⟨rfl, by exact zqf⟩
def zqo8 : Nat -> Int := fun _ => 255
theorem zq60 : valE modl = 57896044618658097711785492504343953926634992332820282019728792003956564819949 := by kernel_rfl
theorem zq32 (a b : Nat -> Int) : valE (minus a b) = valE a + 16 * valE modl - valE b := by unfold valE minus; omega
theorem zq8d (a b : Nat -> Int) : valE (plus a b) = valE a + valE b := by unfold valE plus; omega
theorem zq08 : valE zqg = 0 := rfl
theorem zrlz (r : Int) (h0 : 0 <= r) (h1 : r < 19) : same 32 (keyD (digF (zqba (ofF (upd zqe1 0 (237 + r)))))) (upd zqg 0 r) = true := by
 rcases (by omega : r = 0 \/ r = 1 \/ r = 2 \/ r = 3 \/ r = 4 \/ r = 5 \/ r = 6 \/ r = 7 \/ r = 8 \/ r = 9 \/ r = 10 \/ r = 11 \/ r = 12 \/ r = 13 \/ r = 14 \/ r = 15 \/ r = 16 \/ r = 17 \/ r = 18) with
  rfl | rfl | rfl | rfl | rfl | rfl | rfl | rfl | rfl | rfl | rfl | rfl | rfl | rfl | rfl | rfl | rfl | rfl | rfl <;> kernel_rfl
theorem zqbx {P : Prop} (h : P := by (repeat' (first | assumption | exact zqez | exact zqjg | exact zqie _ | refine zqda _ _ ?_ ?_ | refine zqcv _ _ ?_ ?_ | refine zqcd _ _ ?_ ?_ | refine zqix _ _ ?_ ⟨by decide, by decide⟩ | refine zqvv ?_ ?_ ?_ | refine zqhy _ ?_ | refine zqm6 _ _ ?_ | refine zqx5 ?_ ?_ ?_))) : P := h
end Go.Proofs.YtconieddcjpbjaaGreatDoor
