/- Law02 -/
import Derived.Test.YtfglcifnjaknnaaGreatDoorLimb
import Derived.Test.YtfglcifnjaknnaaGreatDoorCt
set_option linter.unusedVariables false
set_option linter.unusedSimpArgs false
namespace Go.Proofs.YtfglcifnjaknnaaGreatDoor
open Go.RowKit
theorem zq0l (w : World) :
  Calls Tryz.prog 264 #[] w (Rt w (.bool true)) := by
 have hG := Grew.refl w
 go_enter Tryz.func264, Tryz.ntmps264
 go_wp2_with fail
 (refine (zqz5 _).mono ?_; rintro e w1 ⟨rfl, hb⟩; replace hG : Below w.heap.size w w1 := Grew.trans (by exact zqf) hb; clear hb)
 go_wp2;go_ret;exact ⟨rfl, by exact zqf⟩
def zqec : Nat -> Int := fun i => if i = 0 then 237 else if i < 31 then 255 else 127
def zq0r : Nat -> Int := fun i => if i = 0 then 236 else if i < 31 then 255 else 127
theorem zqs5 : Bytes 32 zqec := fun i hi => by unfold zqec; split; omega; split <;> omega
theorem zqym : ints .u8 32 (upd (zqds zqec 31) 31 127) = ints .u8 32 zqec := by
 refine zqba fun i hi => ?_
 unfold upd zqds
 by_cases h : i = 31
 ·subst h; rfl
 ·rw [if_neg h, if_pos (by omega)]
theorem zqxw : ints .u8 32 (upd (upd (zqds zqec 31) 31 127) 0 236) = ints .u8 32 zq0r := by
 refine zqba fun i hi => ?_
 unfold upd zqds zqec zq0r
 by_cases h : i = 31
 ·subst h; rfl
 ·by_cases h0 : i = 0
  ·subst h0; rfl
  ·rw [if_neg h0, if_neg h, if_pos (by omega), if_neg h0, if_neg h0]
theorem zqhi (k : Nat -> Int) : zq8 18014398509481984 (ofF k) := fun i _ => by have := zq3m k i; omega
theorem zqez (n : Int) (h0 : 0 <= n) (h1 : n <= 4294967295) : zq8 18014398509481984 (upd zqd 0 n) := fun i _ => by
 unfold upd zqd; split <;> omega
theorem zqd8 : zq8 18014398509481984 zqd := fun i _ => by unfold zqd; omega
theorem zqk3 (f : Nat -> Int) (hf : zq8 288230376151711744 f) : zq8 18014398509481984 (zqaq f) := fun i hi => by
 obtain ⟨a0, b0⟩ := hf 0 (by decide);obtain ⟨a1, b1⟩ := hf 1 (by decide);obtain ⟨a2, b2⟩ := hf 2 (by decide);obtain ⟨a3, b3⟩ := hf 3 (by decide);obtain ⟨a4, b4⟩ := hf 4 (by decide)
 rcases (by omega : i = 0 \/ i = 1 \/ i = 2 \/ i = 3 \/ i = 4) with rfl | rfl | rfl | rfl | rfl
 ·rw [zqlc]; omega
 ·rw [zqlt]; omega
 ·rw [zqk7]; omega
 ·rw [zqmc]; omega
 ·rw [zql2]; omega
theorem zqb5 (a b : Nat -> Int) (ha : zq8 18014398509481984 a) (hb : zq8 18014398509481984 b) : zq8 18014398509481984 (zqaq (minus a b)) :=
 zqk3 _ fun i hi => by have := ha i hi; have := hb i hi; have := zqsc i; unfold minus; omega
theorem zqcl (a b : Nat -> Int) (ha : zq8 18014398509481984 a) (hb : zq8 18014398509481984 b) : zq8 18014398509481984 (zqaq (plus a b)) :=
 zqk3 _ fun i hi => by have := ha i hi; have := hb i hi; unfold plus; omega
theorem zqqu : zq8 18014398509481984 (upd zqd 0 1) := zqez 1 (by decide) (by decide)
set_option maxHeartbeats 400000 in
theorem zqxy (w : World) :
  Calls Tryz.prog 263 #[] w (Rt w (.bool true)) := by
 have s1 : same 32 (keyD (digF (zqaq (ofF zqec)))) zqd = true := by kernel_rfl
 have s2 : same 32 (keyD (digF (zqaq (zqaq (minus zqd (upd zqd 0 1)))))) zq0r = true := by kernel_rfl
 go_enter Tryz.func263, Tryz.ntmps263
 go_wp2
 go_loopw [2] (fun i wr => ∃ k : Nat, ∃ m : More, 1 <= k /\ k <= 31 /\ i = .int .i64 k /\ wr = more (w.alloc (.cells (ints .u8 32 (zqds zqec k)) 29)) m) (fun i _ => 31 - (intOf i).toNat)
 case atStart =>
  have e : upd zqd 0 237 = zqds zqec 1 := by
   funext i; unfold upd zqd zqds zqec
   by_cases h : i = 0
   ·subst h; rfl
   ·rw [if_neg h, if_neg (by omega)]
  exact ⟨1, _, by omega, by omega, rfl, by rw [e]; exact (zqeu _).symm⟩
 case round =>
  obtain ⟨k, m, hk0, hk, rfl, rfl⟩ := hrel
  by_cases hlt : k < 31
  ·have h32 : k < 32 := by omega
   have e : zqec k = 255 := by unfold zqec; rw [if_neg (by omega), if_pos hlt]
   have E : Hid (zqec k = 255) := e;clear e;go_wp2
   go_roundw
   case rel => exact ⟨k + 1, _, by omega, by omega, by go_num, by rw [<- zqeq, E.out]⟩
   case measure => simp [intOf]; omega
  ·obtain rfl : k = 31 := by omega
   have p1 := zqym;have p2 := zqxw;clear hlt;go_wp2
   ((first | (with_reducible refine zqab zqb zqb ?_) | refine zq2 zqb zqb ?_); (repeat (first | go_big_quiet_skip | (go_big_quiet_want; go_big_quiet_op; first | go_big_quiet_on | (apply Exists.intro; refine ⟨fun _ => ?_, ?_⟩; (focus (first | (with_reducible exact Calls.of_more (zq0l _)) | (with_reducible exact Calls.of_more (zqt7 zqec _ zqs5)) | (with_reducible exact Calls.of_more (zqrz (ofF zqec) _ (zqhi _))) | (with_reducible exact Calls.of_more (zqcr 1 _ (by decide) (by decide))) | (with_reducible exact Calls.of_more (zqjx zqd _ _ zqd8 zqqu)) | (with_reducible exact Calls.of_more (zqrz _ _ (zqb5 _ _ zqd8 zqqu))))); go_big_quiet_on)))); refine wpQuiet_nil ?_; rintro _ ⟨mq, rfl⟩)
   go_wp2;go_ret;exact ⟨rfl, by exact zqf⟩
theorem zq64 : valE modl = 57896044618658097711785492504343953926634992332820282019728792003956564819949 := by kernel_rfl
theorem zq0y (a b : Nat -> Int) : valE (minus a b) = valE a + 16 * valE modl - valE b := by unfold valE minus; omega
theorem zq5e (a b : Nat -> Int) : valE (plus a b) = valE a + valE b := by unfold valE plus; omega
theorem zqw8 : valE zqd = 0 := rfl
theorem zrnn (r : Int) (h0 : 0 <= r) (h1 : r < 19) : same 32 (keyD (digF (zqaq (ofF (upd zqec 0 (237 + r)))))) (upd zqd 0 r) = true := by
 rcases (by omega : r = 0 \/ r = 1 \/ r = 2 \/ r = 3 \/ r = 4 \/ r = 5 \/ r = 6 \/ r = 7 \/ r = 8 \/ r = 9 \/ r = 10 \/ r = 11 \/ r = 12 \/ r = 13 \/ r = 14 \/ r = 15 \/ r = 16 \/ r = 17 \/ r = 18) with
  rfl | rfl | rfl | rfl | rfl | rfl | rfl | rfl | rfl | rfl | rfl | rfl | rfl | rfl | rfl | rfl | rfl | rfl | rfl <;> kernel_rfl
theorem zqa8 {P : Prop} (h : P := by (repeat' (first | assumption | exact zqd8 | exact zqim | exact zqhi _ | refine zqcl _ _ ?_ ?_ | refine zqb5 _ _ ?_ ?_ | refine zqbq _ _ ?_ ?_ | refine zqhq _ _ ?_ ⟨by decide, by decide⟩ | refine zqr1 ?_ ?_ ?_ | refine zqgr _ ?_ | refine zqmf _ _ ?_ | refine zqv4 ?_ ?_ ?_))) : P := h
end Go.Proofs.YtfglcifnjaknnaaGreatDoor
