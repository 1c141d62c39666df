/- Law02 -/
import Derived.Test.YtnjghcnhcbobhaaGreatDoorLimb
import Derived.Test.YtnjghcnhcbobhaaGreatDoorCt
set_option linter.unusedVariables false
set_option linter.unusedSimpArgs false
namespace Go.Proofs.YtnjghcnhcbobhaaGreatDoor
open Go.RowKit
theorem zq0a (w : World) :
  Calls Tryz.prog 258 #[] w (Rt w (.bool true)) := by
 have hG := Grew.refl w
 go_enter Tryz.func258, Tryz.ntmps258
 go_wp2_with fail
 (refine (zq24 _).mono ?_; rintro e w1 ⟨rfl, hb⟩; replace hG : Below w.heap.size w w1 := Grew.trans (by exact zqf) hb; clear hb)
 go_wp2;go_ret;exact ⟨rfl, by exact zqf⟩
def zqei : Nat -> Int := fun i => if i = 0 then 237 else if i < 31 then 255 else 127
def zqzm : Nat -> Int := fun i => if i = 0 then 236 else if i < 31 then 255 else 127
theorem zqsc : Bytes 32 zqei := fun i hi => by unfold zqei; split; omega; split <;> omega
theorem zqxb : ints .u8 32 (upd (zqdv zqei 31) 31 127) = ints .u8 32 zqei := by
 refine zqa5 fun i hi => ?_
 unfold upd zqdv
 by_cases h : i = 31
 ·subst h; rfl
 ·rw [if_neg h, if_pos (by omega)]
theorem zqx7 : ints .u8 32 (upd (upd (zqdv zqei 31) 31 127) 0 236) = ints .u8 32 zqzm := by
 refine zqa5 fun i hi => ?_
 unfold upd zqdv zqei zqzm
 by_cases h : i = 31
 ·subst h; rfl
 ·by_cases h0 : i = 0
  ·subst h0; rfl
  ·rw [if_neg h0, if_neg h, if_pos (by omega), if_neg h0, if_neg h0]
theorem zqhk (k : Nat -> Int) : zq7 18014398509481984 (ofF k) := fun i _ => by have := zq4c k i; omega
theorem zqev (n : Int) (h0 : 0 <= n) (h1 : n <= 4294967295) : zq7 18014398509481984 (upd zqe 0 n) := fun i _ => by
 unfold upd zqe; split <;> omega
theorem zqec : zq7 18014398509481984 zqe := fun i _ => by unfold zqe; omega
theorem zql6 (f : Nat -> Int) (hf : zq7 288230376151711744 f) : zq7 18014398509481984 (zqaw f) := fun i hi => by
 obtain ⟨a0, b0⟩ := hf 0 (by decide);obtain ⟨a1, b1⟩ := hf 1 (by decide);obtain ⟨a2, b2⟩ := hf 2 (by decide);obtain ⟨a3, b3⟩ := hf 3 (by decide);obtain ⟨a4, b4⟩ := hf 4 (by decide)
 rcases (by omega : i = 0 \/ i = 1 \/ i = 2 \/ i = 3 \/ i = 4) with rfl | rfl | rfl | rfl | rfl
 ·rw [zqmn]; omega
 ·rw [zqmi]; omega
 ·rw [zqlm]; omega
 ·rw [zqmu]; omega
 ·rw [zqlv]; omega
theorem zqce (a b : Nat -> Int) (ha : zq7 18014398509481984 a) (hb : zq7 18014398509481984 b) : zq7 18014398509481984 (zqaw (minus a b)) :=
 zql6 _ fun i hi => by have := ha i hi; have := hb i hi; have := zqsw i; unfold minus; omega
theorem zqct (a b : Nat -> Int) (ha : zq7 18014398509481984 a) (hb : zq7 18014398509481984 b) : zq7 18014398509481984 (zqaw (plus a b)) :=
 zql6 _ fun i hi => by have := ha i hi; have := hb i hi; unfold plus; omega
theorem zqps : zq7 18014398509481984 (upd zqe 0 1) := zqev 1 (by decide) (by decide)
set_option maxHeartbeats 400000 in
theorem zqxi (w : World) :
  Calls Tryz.prog 257 #[] w (Rt w (.bool true)) := by
 have s1 : same 32 (keyD (digF (zqaw (ofF zqei)))) zqe = true := by kernel_rfl
 have s2 : same 32 (keyD (digF (zqaw (zqaw (minus zqe (upd zqe 0 1)))))) zqzm = true := by kernel_rfl
 go_enter Tryz.func257, Tryz.ntmps257
 go_wp2
 go_loopw [2] (fun i wr => ∃ k : Nat, ∃ m : More, 1 <= k /\ k <= 31 /\ i = .int .i64 k /\ wr = more (w.alloc (.cells (ints .u8 32 (zqdv zqei k)) 44)) m) (fun i _ => 31 - (intOf i).toNat)
 case atStart =>
  have e : upd zqe 0 237 = zqdv zqei 1 := by
   funext i; unfold upd zqe zqdv zqei
   by_cases h : i = 0
   ·subst h; rfl
   ·rw [if_neg h, if_neg (by omega)]
  exact ⟨1, _, by omega, by omega, rfl, by rw [e]; exact (zqe3 _).symm⟩
 case round =>
  obtain ⟨k, m, hk0, hk, rfl, rfl⟩ := hrel
  by_cases hlt : k < 31
  ·have h32 : k < 32 := by omega
   have e : zqei k = 255 := by unfold zqei; rw [if_neg (by omega), if_pos hlt]
   have E : Hid (zqei k = 255) := e;clear e;go_wp2
   go_roundw
   case rel => exact ⟨k + 1, _, by omega, by omega, by go_num, by rw [<- zqez, E.out]⟩
   case measure => simp [intOf]; omega
  ·obtain rfl : k = 31 := by omega
   have p1 := zqxb;have p2 := zqx7;clear hlt;go_wp2
   ((first | (with_reducible refine zq9 zqb zqb ?_) | refine zq2 zqb zqb ?_); (repeat (first | go_big_quiet_skip | (go_big_quiet_want; go_big_quiet_op; first | go_big_quiet_on | (apply Exists.intro; refine ⟨fun _ => ?_, ?_⟩; (focus (first | (with_reducible exact Calls.of_more (zq0a _)) | (with_reducible exact Calls.of_more (zqup zqei _ zqsc)) | (with_reducible exact Calls.of_more (zqsk (ofF zqei) _ (zqhk _))) | (with_reducible exact Calls.of_more (zqcz 1 _ (by decide) (by decide))) | (with_reducible exact Calls.of_more (zqjq zqe _ _ zqec zqps)) | (with_reducible exact Calls.of_more (zqsk _ _ (zqce _ _ zqec zqps))))); go_big_quiet_on)))); refine wpQuiet_nil ?_; rintro _ ⟨mq, rfl⟩)
   go_wp2;go_ret;exact ⟨rfl, by exact zqf⟩
theorem zq5s : valE modl = 57896044618658097711785492504343953926634992332820282019728792003956564819949 := by kernel_rfl
theorem zq2j (a b : Nat -> Int) : valE (minus a b) = valE a + 16 * valE modl - valE b := by unfold valE minus; omega
theorem zq5r (a b : Nat -> Int) : valE (plus a b) = valE a + valE b := by unfold valE plus; omega
theorem zqyr : valE zqe = 0 := rfl
theorem zrnp (r : Int) (h0 : 0 <= r) (h1 : r < 19) : same 32 (keyD (digF (zqaw (ofF (upd zqei 0 (237 + r)))))) (upd zqe 0 r) = true := by
 rcases (by omega : r = 0 \/ r = 1 \/ r = 2 \/ r = 3 \/ r = 4 \/ r = 5 \/ r = 6 \/ r = 7 \/ r = 8 \/ r = 9 \/ r = 10 \/ r = 11 \/ r = 12 \/ r = 13 \/ r = 14 \/ r = 15 \/ r = 16 \/ r = 17 \/ r = 18) with
  rfl | rfl | rfl | rfl | rfl | rfl | rfl | rfl | rfl | rfl | rfl | rfl | rfl | rfl | rfl | rfl | rfl | rfl | rfl <;> kernel_rfl
theorem zqba {P : Prop} (h : P := by (repeat' (first | assumption | exact zqec | exact zqis | exact zqhk _ | refine zqct _ _ ?_ ?_ | refine zqce _ _ ?_ ?_ | refine zqb3 _ _ ?_ ?_ | refine zqhs _ _ ?_ ⟨by decide, by decide⟩ | refine zqsb ?_ ?_ ?_ | refine zqgu _ ?_ | refine zqlg _ _ ?_ | refine zqxe ?_ ?_ ?_))) : P := h
end Go.Proofs.YtnjghcnhcbobhaaGreatDoor
