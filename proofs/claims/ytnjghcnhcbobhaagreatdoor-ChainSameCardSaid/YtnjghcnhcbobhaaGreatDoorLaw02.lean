/- Law02 -/
import Derived.Test.YtnjghcnhcbobhaaGreatDoorLimb
import Derived.Test.YtnjghcnhcbobhaaGreatDoorCt
set_option linter.unusedVariables false
set_option linter.unusedSimpArgs false
namespace Go.Proofs.YtnjghcnhcbobhaaGreatDoor
open Go.RowKit
theorem zq3v (w : World) :
  Calls Tryz.prog 258 #[] w (Rt w (.bool true)) := by
 have hG := Grew.refl w
 go_enter Tryz.func258, Tryz.ntmps258
 go_wp2_with fail
 (refine (zq3w _).mono ?_; rintro e w1 ⟨rfl, hb⟩; replace hG : Below w.heap.size w w1 := Grew.trans (by exact zqf) hb; clear hb)
 go_wp2;go_ret;exact ⟨rfl, by exact zqf⟩
def zqer : Nat -> Int := fun i => if i = 0 then 237 else if i < 31 then 255 else 127
def zq08 : Nat -> Int := fun i => if i = 0 then 236 else if i < 31 then 255 else 127
theorem zqt5 : Bytes 32 zqer := fun i hi => by unfold zqer; split; omega; split <;> omega
theorem zqy3 : ints .u8 32 (upd (zqc7 zqer 31) 31 127) = ints .u8 32 zqer := by
 refine zqbr fun i hi => ?_
 unfold upd zqc7
 by_cases h : i = 31
 ·subst h; rfl
 ·rw [if_neg h, if_pos (by omega)]
theorem zqxt : ints .u8 32 (upd (upd (zqc7 zqer 31) 31 127) 0 236) = ints .u8 32 zq08 := by
 refine zqbr fun i hi => ?_
 unfold upd zqc7 zqer zq08
 by_cases h : i = 31
 ·subst h; rfl
 ·by_cases h0 : i = 0
  ·subst h0; rfl
  ·rw [if_neg h0, if_neg h, if_pos (by omega), if_neg h0, if_neg h0]
theorem zqhk (k : Nat -> Int) : zqag 18014398509481984 (ofF k) := fun i _ => by have := zq86 k i; omega
theorem zqe7 (n : Int) (h0 : 0 <= n) (h1 : n <= 4294967295) : zqag 18014398509481984 (upd zqe 0 n) := fun i _ => by
 unfold upd zqe; split <;> omega
theorem zqeo : zqag 18014398509481984 zqe := fun i _ => by unfold zqe; omega
theorem zqng (f : Nat -> Int) (hf : zqag 288230376151711744 f) : zqag 18014398509481984 (zqa3 f) := fun i hi => by
 obtain ⟨a0, b0⟩ := hf 0 (by decide);obtain ⟨a1, b1⟩ := hf 1 (by decide);obtain ⟨a2, b2⟩ := hf 2 (by decide);obtain ⟨a3, b3⟩ := hf 3 (by decide);obtain ⟨a4, b4⟩ := hf 4 (by decide)
 rcases (by omega : i = 0 \/ i = 1 \/ i = 2 \/ i = 3 \/ i = 4) with rfl | rfl | rfl | rfl | rfl
 ·rw [zqlq]; omega
 ·rw [zqne]; omega
 ·rw [zqnw]; omega
 ·rw [zqni]; omega
 ·rw [zqnq]; omega
theorem zqcc (a b : Nat -> Int) (ha : zqag 18014398509481984 a) (hb : zqag 18014398509481984 b) : zqag 18014398509481984 (zqa3 (minus a b)) :=
 zqng _ fun i hi => by have := ha i hi; have := hb i hi; have := zquc i; unfold minus; omega
theorem zqcw (a b : Nat -> Int) (ha : zqag 18014398509481984 a) (hb : zqag 18014398509481984 b) : zqag 18014398509481984 (zqa3 (plus a b)) :=
 zqng _ fun i hi => by have := ha i hi; have := hb i hi; unfold plus; omega
theorem zqqr : zqag 18014398509481984 (upd zqe 0 1) := zqe7 1 (by decide) (by decide)
set_option maxHeartbeats 400000 in
theorem zqyh (w : World) :
  Calls Tryz.prog 257 #[] w (Rt w (.bool true)) := by
 have s1 : same 32 (keyD (digF (zqa3 (ofF zqer)))) zqe = true := by kernel_rfl
 have s2 : same 32 (keyD (digF (zqa3 (zqa3 (minus zqe (upd zqe 0 1)))))) zq08 = true := by kernel_rfl
 go_enter Tryz.func257, Tryz.ntmps257
 go_wp2
 go_loopw [2] (fun i wr => ∃ k : Nat, ∃ m : More, 1 <= k /\ k <= 31 /\ i = .int .i64 k /\ wr = more (w.alloc (.cells (ints .u8 32 (zqc7 zqer k)) 44)) m) (fun i _ => 31 - (intOf i).toNat)
 case atStart =>
  have e : upd zqe 0 237 = zqc7 zqer 1 := by
   funext i; unfold upd zqe zqc7 zqer
   by_cases h : i = 0
   ·subst h; rfl
   ·rw [if_neg h, if_neg (by omega)]
  exact ⟨1, _, by omega, by omega, rfl, by rw [e]; exact (zqfg _).symm⟩
 case round =>
  obtain ⟨k, m, hk0, hk, rfl, rfl⟩ := hrel
  by_cases hlt : k < 31
  ·have h32 : k < 32 := by omega
   have e : zqer k = 255 := by unfold zqer; rw [if_neg (by omega), if_pos hlt]
   have E : Hid (zqer k = 255) := e;clear e;go_wp2
   go_roundw
   case rel => exact ⟨k + 1, _, by omega, by omega, by go_num, by rw [<- zqd6, E.out]⟩
   case measure => simp [intOf]; omega
  ·obtain rfl : k = 31 := by omega
   have p1 := zqy3;have p2 := zqxt;clear hlt;go_wp2
   ((first | (with_reducible refine zq8 zqb zqb ?_) | refine zqz zqb zqb ?_); (repeat (first | go_big_quiet_skip | (go_big_quiet_want; go_big_quiet_op; first | go_big_quiet_on | (apply Exists.intro; refine ⟨fun _ => ?_, ?_⟩; (focus (first | (with_reducible exact Calls.of_more (zq3v _)) | (with_reducible exact Calls.of_more (zqvv zqer _ zqt5)) | (with_reducible exact Calls.of_more (zqus (ofF zqer) _ (zqhk _))) | (with_reducible exact Calls.of_more (zqc4 1 _ (by decide) (by decide))) | (with_reducible exact Calls.of_more (zqkd zqe _ _ zqeo zqqr)) | (with_reducible exact Calls.of_more (zqus _ _ (zqcc _ _ zqeo zqqr))))); go_big_quiet_on)))); refine wpQuiet_nil ?_; rintro _ ⟨mq, rfl⟩)
   go_wp2;go_ret;exact ⟨rfl, by exact zqf⟩
theorem zq8f : valE modl = 57896044618658097711785492504343953926634992332820282019728792003956564819949 := by kernel_rfl
theorem zq07 (a b : Nat -> Int) : valE (minus a b) = valE a + 16 * valE modl - valE b := by unfold valE minus; omega
theorem zq5t (a b : Nat -> Int) : valE (plus a b) = valE a + valE b := by unfold valE plus; omega
theorem zqzl : valE zqe = 0 := rfl
theorem zrrb (r : Int) (h0 : 0 <= r) (h1 : r < 19) : same 32 (keyD (digF (zqa3 (ofF (upd zqer 0 (237 + r)))))) (upd zqe 0 r) = true := by
 rcases (by omega : r = 0 \/ r = 1 \/ r = 2 \/ r = 3 \/ r = 4 \/ r = 5 \/ r = 6 \/ r = 7 \/ r = 8 \/ r = 9 \/ r = 10 \/ r = 11 \/ r = 12 \/ r = 13 \/ r = 14 \/ r = 15 \/ r = 16 \/ r = 17 \/ r = 18) with
  rfl | rfl | rfl | rfl | rfl | rfl | rfl | rfl | rfl | rfl | rfl | rfl | rfl | rfl | rfl | rfl | rfl | rfl | rfl <;> kernel_rfl
theorem zqbo {P : Prop} (h : P := by (repeat' (first | assumption | exact zqeo | exact zqix | exact zqhk _ | refine zqcw _ _ ?_ ?_ | refine zqcc _ _ ?_ ?_ | refine zqb2 _ _ ?_ ?_ | refine zqig _ _ ?_ ⟨by decide, by decide⟩ | refine zqu1 ?_ ?_ ?_ | refine zqg2 _ ?_ | refine zqmh _ _ ?_ | refine zqyy ?_ ?_ ?_))) : P := h
end Go.Proofs.YtnjghcnhcbobhaaGreatDoor
