/- Law02 -/
import Derived.Test.YtdoolhbmekahdaaGreatDoorLimb
import Derived.Test.YtdoolhbmekahdaaGreatDoorCt
namespace Go.Proofs.YtdoolhbmekahdaaGreatDoor
open Go.RowKit
set_option linter.unusedVariables false
set_option linter.unusedSimpArgs false
theorem Awake_any (w : World) :
  Calls Tryz.prog 436 #[] w fun e w' => e = .returned (.bool true) ∧ Below w.heap.size w w' := by
 have hG := Grew.refl w
 go_enter Tryz.func436, Tryz.ntmps436
 go_wp2_with fail
 (refine (awake_any _).mono ?_; rintro e w1 ⟨rfl, hb⟩; replace hG : Below w.heap.size w w1 := Grew.trans (by exact grew_auto) hb; clear hb)
 go_wp2
 go_ret
 exact ⟨rfl, by exact grew_auto⟩
def primeK : Nat → Int := fun i => if i = 0 then 237 else if i < 31 then 255 else 127
def primeL : Nat → Int := fun i => if i = 0 then 236 else if i < 31 then 255 else 127
theorem prime_bytes : Bytes 32 primeK := fun i hi => by unfold primeK; split; omega; split <;> omega
theorem part_prime : ints .u8 32 (upd (part' primeK 31) 31 127) = ints .u8 32 primeK := by
 refine ints_congr fun i hi => ?_
 unfold upd part'
 by_cases h : i = 31
 ·subst h; rfl
 ·rw [if_neg h, if_pos (by omega)]
theorem prime_less : ints .u8 32 (upd (upd (part' primeK 31) 31 127) 0 236) = ints .u8 32 primeL := by
 refine ints_congr fun i hi => ?_
 unfold upd part' primeK primeL
 by_cases h : i = 31
 ·subst h; rfl
 ·by_cases h0 : i = 0
  ·subst h0; rfl
  ·rw [if_neg h0, if_neg h, if_pos (by omega), if_neg h0, if_neg h0]
theorem loose_of (k : Nat → Int) : Under 18014398509481984 (ofF k) := fun i _ => by have := of_under k i; omega
theorem loose_small (n : Int) (h0 : 0 ≤ n) (h1 : n ≤ 4294967295) : Under 18014398509481984 (upd nought 0 n) := fun i _ => by
 unfold upd nought; split <;> omega
theorem loose_nought : Under 18014398509481984 nought := fun i _ => by unfold nought; omega
theorem loose_carry (f : Nat → Int) (hf : Under 288230376151711744 f) : Under 18014398509481984 (carryF f) := fun i hi => by
 obtain ⟨a0, b0⟩ := hf 0 (by decide)
 obtain ⟨a1, b1⟩ := hf 1 (by decide)
 obtain ⟨a2, b2⟩ := hf 2 (by decide)
 obtain ⟨a3, b3⟩ := hf 3 (by decide)
 obtain ⟨a4, b4⟩ := hf 4 (by decide)
 rcases (by omega : i = 0 ∨ i = 1 ∨ i = 2 ∨ i = 3 ∨ i = 4) with rfl | rfl | rfl | rfl | rfl
 ·rw [carry_0]; omega
 ·rw [carry_1]; omega
 ·rw [carry_2]; omega
 ·rw [carry_3]; omega
 ·rw [carry_4]; omega
theorem loose_minus (a b : Nat → Int) (ha : Under 18014398509481984 a) (hb : Under 18014398509481984 b) : Under 18014398509481984 (carryF (minus a b)) :=
 loose_carry _ fun i hi => by have := ha i hi; have := hb i hi; have := modl_bd i; unfold minus; omega
theorem loose_plus (a b : Nat → Int) (ha : Under 18014398509481984 a) (hb : Under 18014398509481984 b) : Under 18014398509481984 (carryF (plus a b)) :=
 loose_carry _ fun i hi => by have := ha i hi; have := hb i hi; unfold plus; omega
theorem small_one : Under 18014398509481984 (upd nought 0 1) := loose_small 1 (by decide) (by decide)
set_option maxHeartbeats 400000 in
theorem awake2_any (w : World) :
  Calls Tryz.prog 435 #[] w fun e w' => e = .returned (.bool true) ∧ Below w.heap.size w w' := by
 have s1 : same 32 (keyD (digF (carryF (ofF primeK)))) nought = true := by kernel_rfl
 have s2 : same 32 (keyD (digF (carryF (carryF (minus nought (upd nought 0 1)))))) primeL = true := by kernel_rfl
 go_enter Tryz.func435, Tryz.ntmps435
 go_wp2
 go_loopw [2] (fun i wr => ∃ k : Nat, ∃ m : More, 1 ≤ k ∧ k ≤ 31 ∧ i = .int .i64 k ∧ wr = more (w.alloc (.cells (ints .u8 32 (part' primeK k)) 27)) m) (fun i _ => 31 - (intOf i).toNat)
 case atStart =>
  have e : upd nought 0 237 = part' primeK 1 := by
   funext i; unfold upd nought part' primeK
   by_cases h : i = 0
   ·subst h; rfl
   ·rw [if_neg h, if_neg (by omega)]
  exact ⟨1, _, by omega, by omega, rfl, by rw [e]; exact (more_self _).symm⟩
 case round =>
  obtain ⟨k, m, hk0, hk, rfl, rfl⟩ := hrel
  by_cases hlt : k < 31
  ·have h32 : k < 32 := by omega
   have e : primeK k = 255 := by unfold primeK; rw [if_neg (by omega), if_pos hlt]
   have E : Hid (primeK k = 255) := e
   clear e
   go_wp2
   go_roundw
   case rel => exact ⟨k + 1, _, by omega, by omega, by go_num, by rw [← part_succ, E.out]⟩
   case measure => simp [intOf]; omega
  ·obtain rfl : k = 31 := by omega
   have p1 := part_prime
   have p2 := prime_less
   clear hlt
   go_wp2
   ((first | (with_reducible refine wp_region_on (by kernel_rfl) (by kernel_rfl) ?_) | refine wp_region_more (by kernel_rfl) (by kernel_rfl) ?_); (repeat (first | go_big_quiet_skip | (go_big_quiet_want; go_big_quiet_op; first | go_big_quiet_on | (apply Exists.intro; refine ⟨fun _ => ?_, ?_⟩; (focus (first | (with_reducible exact Calls.of_more (Awake_any _)) | (with_reducible exact Calls.of_more (of_any primeK _ prime_bytes)) | (with_reducible exact Calls.of_more (key_any (ofF primeK) _ (loose_of _))) | (with_reducible exact Calls.of_more (small_any 1 _ (by decide) (by decide))) | (with_reducible exact Calls.of_more (sub_any nought _ _ loose_nought small_one)) | (with_reducible exact Calls.of_more (key_any _ _ (loose_minus _ _ loose_nought small_one))))); go_big_quiet_on)))); refine wpQuiet_nil ?_; rintro _ ⟨mq, rfl⟩)
   go_wp2
   go_ret
   exact ⟨rfl, by exact grew_auto⟩
theorem val_modl : valE modl = 57896044618658097711785492504343953926634992332820282019728792003956564819949 := by kernel_rfl
theorem val_minus (a b : Nat → Int) : valE (minus a b) = valE a + 16 * valE modl - valE b := by unfold valE minus; omega
theorem val_plus (a b : Nat → Int) : valE (plus a b) = valE a + valE b := by unfold valE plus; omega
theorem val_nought : valE nought = 0 := rfl
theorem loose_auto {P : Prop} (h : P := by (repeat' (first | assumption | exact loose_nought | exact loose_one | exact loose_of _ | refine loose_plus _ _ ?_ ?_ | refine loose_minus _ _ ?_ ?_ | refine loose_mul _ _ ?_ ?_ | refine loose_times _ _ ?_ ⟨by decide, by decide⟩ | refine loose_prod3 ?_ ?_ ?_ | refine loose_inv _ ?_ | refine loose_pow _ _ ?_ | refine loose_sum3 ?_ ?_ ?_))) : P := h
end Go.Proofs.YtdoolhbmekahdaaGreatDoor
