/- Law02 -/
import Derived.Test.YtnjghcnhcbobhaaGreatDoorLimb
import Derived.Test.YtnjghcnhcbobhaaGreatDoorCt
set_option linter.unusedVariables false
set_option linter.unusedSimpArgs false
namespace Go.Proofs.YtnjghcnhcbobhaaGreatDoor
open Go.RowKit
theorem zq0g (w : World) :
  Calls Tryz.prog 258 #[] w (Rt w (.bool true)) := by
 have hG := Grew.refl w
 go_enter Tryz.func258, Tryz.ntmps258
 go_wp2_with fail
 (refine (zq3j _).mono ?_; rintro e w1 ⟨rfl, hb⟩; replace hG : Below w.heap.size w w1 := Grew.trans (by exact zqe) hb; clear hb)
 go_wp2;go_ret;exact ⟨rfl, by exact zqe⟩
def zqen : Nat -> Int := fun i => if i = 0 then 237 else if i < 31 then 255 else 127
def zq2z : Nat -> Int := fun i => if i = 0 then 236 else if i < 31 then 255 else 127
theorem zqs4 : Bytes 32 zqen := fun i hi => by unfold zqen; split; omega; split <;> omega
theorem zqyx : ints .u8 32 (upd (zqd0 zqen 31) 31 127) = ints .u8 32 zqen := by
 refine zqbd fun i hi => ?_
 unfold upd zqd0
 by_cases h : i = 31
 ·subst h; rfl
 ·rw [if_neg h, if_pos (by omega)]
theorem zqx4 : ints .u8 32 (upd (upd (zqd0 zqen 31) 31 127) 0 236) = ints .u8 32 zq2z := by
 refine zqbd fun i hi => ?_
 unfold upd zqd0 zqen zq2z
 by_cases h : i = 31
 ·subst h; rfl
 ·by_cases h0 : i = 0
  ·subst h0; rfl
  ·rw [if_neg h0, if_neg h, if_pos (by omega), if_neg h0, if_neg h0]
theorem zqhc (k : Nat -> Int) : zqad 18014398509481984 (ofF k) := fun i _ => by have := zq48 k i; omega
theorem zqe5 (n : Int) (h0 : 0 <= n) (h1 : n <= 4294967295) : zqad 18014398509481984 (upd zqg 0 n) := fun i _ => by
 unfold upd zqg; split <;> omega
theorem zqee : zqad 18014398509481984 zqg := fun i _ => by unfold zqg; omega
theorem zqlq (f : Nat -> Int) (hf : zqad 288230376151711744 f) : zqad 18014398509481984 (zqaw f) := fun i hi => by
 obtain ⟨a0, b0⟩ := hf 0 (by decide);obtain ⟨a1, b1⟩ := hf 1 (by decide);obtain ⟨a2, b2⟩ := hf 2 (by decide);obtain ⟨a3, b3⟩ := hf 3 (by decide);obtain ⟨a4, b4⟩ := hf 4 (by decide)
 rcases (by omega : i = 0 \/ i = 1 \/ i = 2 \/ i = 3 \/ i = 4) with rfl | rfl | rfl | rfl | rfl
 ·rw [zqmw]; omega
 ·rw [zqm3]; omega
 ·rw [zqlt]; omega
 ·rw [zqmf]; omega
 ·rw [zqle]; omega
theorem zqcj (a b : Nat -> Int) (ha : zqad 18014398509481984 a) (hb : zqad 18014398509481984 b) : zqad 18014398509481984 (zqaw (minus a b)) :=
 zqlq _ fun i hi => by have := ha i hi; have := hb i hi; have := zqsc i; unfold minus; omega
theorem zqcu (a b : Nat -> Int) (ha : zqad 18014398509481984 a) (hb : zqad 18014398509481984 b) : zqad 18014398509481984 (zqaw (plus a b)) :=
 zqlq _ fun i hi => by have := ha i hi; have := hb i hi; unfold plus; omega
theorem zqrj : zqad 18014398509481984 (upd zqg 0 1) := zqe5 1 (by decide) (by decide)
set_option maxHeartbeats 400000 in
theorem zqya (w : World) :
  Calls Tryz.prog 257 #[] w (Rt w (.bool true)) := by
 have s1 : same 32 (keyD (digF (zqaw (ofF zqen)))) zqg = true := by kernel_rfl
 have s2 : same 32 (keyD (digF (zqaw (zqaw (minus zqg (upd zqg 0 1)))))) zq2z = true := by kernel_rfl
 go_enter Tryz.func257, Tryz.ntmps257
 go_wp2
 go_loopw [2] (fun i wr => ∃ k : Nat, ∃ m : More, 1 <= k /\ k <= 31 /\ i = .int .i64 k /\ wr = more (w.alloc (.cells (ints .u8 32 (zqd0 zqen k)) 44)) m) (fun i _ => 31 - (intOf i).toNat)
 case atStart =>
  have e : upd zqg 0 237 = zqd0 zqen 1 := by
   funext i; unfold upd zqg zqd0 zqen
   by_cases h : i = 0
   ·subst h; rfl
   ·rw [if_neg h, if_neg (by omega)]
  exact ⟨1, _, by omega, by omega, rfl, by rw [e]; exact (zqe1 _).symm⟩
 case round =>
  obtain ⟨k, m, hk0, hk, rfl, rfl⟩ := hrel
  by_cases hlt : k < 31
  ·have h32 : k < 32 := by omega
   have e : zqen k = 255 := by unfold zqen; rw [if_neg (by omega), if_pos hlt]
   have E : Hid (zqen k = 255) := e;clear e;go_wp2
   go_roundw
   case rel => exact ⟨k + 1, _, by omega, by omega, by go_num, by rw [<- zqfa, E.out]⟩
   case measure => simp [intOf]; omega
  ·obtain rfl : k = 31 := by omega
   have p1 := zqyx;have p2 := zqx4;clear hlt;go_wp2
   ((first | (with_reducible refine zq5 zqc zqc ?_) | refine zqz zqc zqc ?_); (repeat (first | go_big_quiet_skip | (go_big_quiet_want; go_big_quiet_op; first | go_big_quiet_on | (apply Exists.intro; refine ⟨fun _ => ?_, ?_⟩; (focus (first | (with_reducible exact Calls.of_more (zq0g _)) | (with_reducible exact Calls.of_more (zqvp zqen _ zqs4)) | (with_reducible exact Calls.of_more (zqsw (ofF zqen) _ (zqhc _))) | (with_reducible exact Calls.of_more (zqcy 1 _ (by decide) (by decide))) | (with_reducible exact Calls.of_more (zqjo zqg _ _ zqee zqrj)) | (with_reducible exact Calls.of_more (zqsw _ _ (zqcj _ _ zqee zqrj))))); go_big_quiet_on)))); refine wpQuiet_nil ?_; rintro _ ⟨mq, rfl⟩)
   go_wp2;go_ret;exact ⟨rfl, by exact zqe⟩
theorem zq6k : valE modl = 57896044618658097711785492504343953926634992332820282019728792003956564819949 := by kernel_rfl
theorem zq0h (a b : Nat -> Int) : valE (minus a b) = valE a + 16 * valE modl - valE b := by unfold valE minus; omega
theorem zq7n (a b : Nat -> Int) : valE (plus a b) = valE a + valE b := by unfold valE plus; omega
theorem zqwq : valE zqg = 0 := rfl
theorem zroq (r : Int) (h0 : 0 <= r) (h1 : r < 19) : same 32 (keyD (digF (zqaw (ofF (upd zqen 0 (237 + r)))))) (upd zqg 0 r) = true := by
 rcases (by omega : r = 0 \/ r = 1 \/ r = 2 \/ r = 3 \/ r = 4 \/ r = 5 \/ r = 6 \/ r = 7 \/ r = 8 \/ r = 9 \/ r = 10 \/ r = 11 \/ r = 12 \/ r = 13 \/ r = 14 \/ r = 15 \/ r = 16 \/ r = 17 \/ r = 18) with
  rfl | rfl | rfl | rfl | rfl | rfl | rfl | rfl | rfl | rfl | rfl | rfl | rfl | rfl | rfl | rfl | rfl | rfl | rfl <;> kernel_rfl
theorem zqbi {P : Prop} (h : P := by (repeat' (first | assumption | exact zqee | exact zqiv | exact zqhc _ | refine zqcu _ _ ?_ ?_ | refine zqcj _ _ ?_ ?_ | refine zqb1 _ _ ?_ ?_ | refine zqh5 _ _ ?_ ⟨by decide, by decide⟩ | refine zqse ?_ ?_ ?_ | refine zqgy _ ?_ | refine zql2 _ _ ?_ | refine zqxt ?_ ?_ ?_))) : P := h
end Go.Proofs.YtnjghcnhcbobhaaGreatDoor
