/- Law02 -/
import Derived.Test.YtconieddcjpbjaaGreatDoorLimb
import Derived.Test.YtconieddcjpbjaaGreatDoorLaw01
namespace Go.Proofs.YtconieddcjpbjaaGreatDoor
open Go.RowKit
set_option linter.unusedVariables false
set_option linter.unusedSimpArgs false
theorem Awake_any (w : World) :
  Calls Tryz.prog 208 #[] w fun e w' => e = .returned (.bool true) ∧ Below w.heap.size w w' := by
 have hG := Grew.refl w
 go_enter Tryz.func208, Tryz.ntmps208
 go_wp2_with fail
 (refine (awake_any _).mono ?_; rintro e w1 ⟨rfl, hb⟩; replace hG : Below w.heap.size w w1 := Grew.trans (by exact zqe) hb; clear hb)
 go_wp2
 go_ret
 exact ⟨rfl, by exact zqe⟩
def zqea : Nat → Int := fun i => if i = 0 then 237 else if i < 31 then 255 else 127
def primeL : Nat → Int := fun i => if i = 0 then 236 else if i < 31 then 255 else 127
theorem zqs0 : Bytes 32 zqea := fun i hi => by unfold zqea; split; omega; split <;> omega
theorem zqwk : ints .u8 32 (upd (part' zqea 31) 31 127) = ints .u8 32 zqea := by
 refine zqay fun i hi => ?_
 unfold upd part'
 by_cases h : i = 31
 ·subst h; rfl
 ·rw [if_neg h, if_pos (by omega)]
theorem zqxu : ints .u8 32 (upd (upd (part' zqea 31) 31 127) 0 236) = ints .u8 32 primeL := by
 refine zqay fun i hi => ?_
 unfold upd part' zqea primeL
 by_cases h : i = 31
 ·subst h; rfl
 ·by_cases h0 : i = 0
  ·subst h0; rfl
  ·rw [if_neg h0, if_neg h, if_pos (by omega), if_neg h0, if_neg h0]
theorem zqg3 (k : Nat → Int) : Under 18014398509481984 (ofF k) := fun i _ => by have := of_under k i; omega
theorem zqeo (n : Int) (h0 : 0 ≤ n) (h1 : n ≤ 4294967295) : Under 18014398509481984 (upd zqd 0 n) := fun i _ => by
 unfold upd zqd; split <;> omega
theorem zqd6 : Under 18014398509481984 zqd := fun i _ => by unfold zqd; omega
theorem zqk4 (f : Nat → Int) (hf : Under 288230376151711744 f) : Under 18014398509481984 (zqa1 f) := fun i hi => by
 obtain ⟨a0, b0⟩ := hf 0 (by decide)
 obtain ⟨a1, b1⟩ := hf 1 (by decide)
 obtain ⟨a2, b2⟩ := hf 2 (by decide)
 obtain ⟨a3, b3⟩ := hf 3 (by decide)
 obtain ⟨a4, b4⟩ := hf 4 (by decide)
 rcases (by omega : i = 0 ∨ i = 1 ∨ i = 2 ∨ i = 3 ∨ i = 4) with rfl | rfl | rfl | rfl | rfl
 ·rw [zqlj]; omega
 ·rw [zql8]; omega
 ·rw [zql7]; omega
 ·rw [zqms]; omega
 ·rw [zqlw]; omega
theorem zqcb (a b : Nat → Int) (ha : Under 18014398509481984 a) (hb : Under 18014398509481984 b) : Under 18014398509481984 (zqa1 (minus a b)) :=
 zqk4 _ fun i hi => by have := ha i hi; have := hb i hi; have := zqsw i; unfold minus; omega
theorem zqcr (a b : Nat → Int) (ha : Under 18014398509481984 a) (hb : Under 18014398509481984 b) : Under 18014398509481984 (zqa1 (plus a b)) :=
 zqk4 _ fun i hi => by have := ha i hi; have := hb i hi; unfold plus; omega
theorem zqrr : Under 18014398509481984 (upd zqd 0 1) := zqeo 1 (by decide) (by decide)
set_option maxHeartbeats 400000 in
theorem zqx3 (w : World) :
  Calls Tryz.prog 207 #[] w fun e w' => e = .returned (.bool true) ∧ Below w.heap.size w w' := by
 have s1 : same 32 (keyD (digF (zqa1 (ofF zqea)))) zqd = true := by kernel_rfl
 have s2 : same 32 (keyD (digF (zqa1 (zqa1 (minus zqd (upd zqd 0 1)))))) primeL = true := by kernel_rfl
 go_enter Tryz.func207, Tryz.ntmps207
 go_wp2
 go_loopw [2] (fun i wr => ∃ k : Nat, ∃ m : More, 1 ≤ k ∧ k ≤ 31 ∧ i = .int .i64 k ∧ wr = more (w.alloc (.cells (ints .u8 32 (part' zqea k)) 24)) m) (fun i _ => 31 - (intOf i).toNat)
 case atStart =>
  have e : upd zqd 0 237 = part' zqea 1 := by
   funext i; unfold upd zqd part' zqea
   by_cases h : i = 0
   ·subst h; rfl
   ·rw [if_neg h, if_neg (by omega)]
  exact ⟨1, _, by omega, by omega, rfl, by rw [e]; exact (zqb2 _).symm⟩
 case round =>
  obtain ⟨k, m, hk0, hk, rfl, rfl⟩ := hrel
  by_cases hlt : k < 31
  ·have h32 : k < 32 := by omega
   have e : zqea k = 255 := by unfold zqea; rw [if_neg (by omega), if_pos hlt]
   have E : Hid (zqea k = 255) := e
   clear e
   go_wp2
   go_roundw
   case rel => exact ⟨k + 1, _, by omega, by omega, by go_num, by rw [← zqb1, E.out]⟩
   case measure => simp [intOf]; omega
  ·obtain rfl : k = 31 := by omega
   have p1 := zqwk
   have p2 := zqxu
   clear hlt
   go_wp2
   ((first | (with_reducible refine zqw (by kernel_rfl) (by kernel_rfl) ?_) | refine zqs (by kernel_rfl) (by kernel_rfl) ?_); (repeat (first | go_big_quiet_skip | (go_big_quiet_want; go_big_quiet_op; first | go_big_quiet_on | (apply Exists.intro; refine ⟨fun _ => ?_, ?_⟩; (focus (first | (with_reducible exact Calls.of_more (Awake_any _)) | (with_reducible exact Calls.of_more (zqtu zqea _ zqs0)) | (with_reducible exact Calls.of_more (zqtm (ofF zqea) _ (zqg3 _))) | (with_reducible exact Calls.of_more (zqcz 1 _ (by decide) (by decide))) | (with_reducible exact Calls.of_more (zqi5 zqd _ _ zqd6 zqrr)) | (with_reducible exact Calls.of_more (zqtm _ _ (zqcb _ _ zqd6 zqrr))))); go_big_quiet_on)))); refine wpQuiet_nil ?_; rintro _ ⟨mq, rfl⟩)
   go_wp2
   go_ret
   exact ⟨rfl, by exact zqe⟩
def zqn7 : Nat → Int := fun _ => 255
theorem val_modl : valE modl = 57896044618658097711785492504343953926634992332820282019728792003956564819949 := by kernel_rfl
theorem val_minus (a b : Nat → Int) : valE (minus a b) = valE a + 16 * valE modl - valE b := by unfold valE minus; omega
theorem val_plus (a b : Nat → Int) : valE (plus a b) = valE a + valE b := by unfold valE plus; omega
theorem zqxj : valE zqd = 0 := rfl
theorem above (r : Int) (h0 : 0 ≤ r) (h1 : r < 19) : same 32 (keyD (digF (zqa1 (ofF (upd zqea 0 (237 + r)))))) (upd zqd 0 r) = true := by
 rcases (by omega : r = 0 ∨ r = 1 ∨ r = 2 ∨ r = 3 ∨ r = 4 ∨ r = 5 ∨ r = 6 ∨ r = 7 ∨ r = 8 ∨ r = 9 ∨ r = 10 ∨ r = 11 ∨ r = 12 ∨ r = 13 ∨ r = 14 ∨ r = 15 ∨ r = 16 ∨ r = 17 ∨ r = 18) with
  rfl | rfl | rfl | rfl | rfl | rfl | rfl | rfl | rfl | rfl | rfl | rfl | rfl | rfl | rfl | rfl | rfl | rfl | rfl <;> kernel_rfl
theorem zqbl {P : Prop} (h : P := by (repeat' (first | assumption | exact zqd6 | exact zqid | exact zqg3 _ | refine zqcr _ _ ?_ ?_ | refine zqcb _ _ ?_ ?_ | refine zqb3 _ _ ?_ ?_ | refine zqhu _ _ ?_ ⟨by decide, by decide⟩ | refine zqsp ?_ ?_ ?_ | refine zqgl _ ?_ | refine zqk1 _ _ ?_ | refine zqwo ?_ ?_ ?_))) : P := h
end Go.Proofs.YtconieddcjpbjaaGreatDoor
