/- Field -/
import Derived.Test.YtonmancgalencaaGreatDoorMul
namespace Go.Proofs.YtonmancgalencaaGreatDoor
open Go.RowKit
set_option linter.unusedVariables false
set_option linter.unusedSimpArgs false
theorem md_mulL (a b : Int) : (a % 57896044618658097711785492504343953926634992332820282019728792003956564819949 * b) % 57896044618658097711785492504343953926634992332820282019728792003956564819949 = (a * b) % 57896044618658097711785492504343953926634992332820282019728792003956564819949 := by rw [Int.mul_emod (a % 57896044618658097711785492504343953926634992332820282019728792003956564819949) b, Int.emod_emod, ← Int.mul_emod]
theorem md_mulR (a b : Int) : (a * (b % 57896044618658097711785492504343953926634992332820282019728792003956564819949)) % 57896044618658097711785492504343953926634992332820282019728792003956564819949 = (a * b) % 57896044618658097711785492504343953926634992332820282019728792003956564819949 := by rw [Int.mul_emod a (b % 57896044618658097711785492504343953926634992332820282019728792003956564819949), Int.emod_emod, ← Int.mul_emod]
theorem nv_ofV (x : Int) (h0 : 0 ≤ x) (h1 : x < 57896044618658097711785492504343953926634992332820282019728792003956564819949) : nv (ofF (keyV x)) = x := by
 show valE (ofF (keyN x)) % 57896044618658097711785492504343953926634992332820282019728792003956564819949 = x
 rw [of_key x h0 h1]; omega
theorem keyV_bytes (x : Int) : Bytes 32 (keyV x) := keyD_bytes _
theorem ofV_any (x : Int) (w : World) :
  Calls Tryz.prog 112 #[.agg (ints .u8 32 (keyV x))] w fun e w' => e = .returned (.agg (ints .u64 5 (ofF (keyV x)))) ∧ Below w.heap.size w w' := of_any _ w (keyV_bytes x)
theorem nv_small (n : Int) (h0 : 0 ≤ n) (h1 : n ≤ 4294967295) : nv (upd nought 0 n) = n := val_small n h0 h1
theorem nv_one : nv (upd nought 0 1) = 1 := nv_small 1 (by decide) (by decide)
theorem loose_three' {a b c : Nat → Int} (ha : Under 18014398509481984 a) (hb : Under 18014398509481984 b) (hc : Under 18014398509481984 c) : ∀ j, j < 3 → Under 18014398509481984 (three a b c j) := fun j hj => by
 rcases (by omega : j = 0 ∨ j = 1 ∨ j = 2) with rfl | rfl | rfl
 ·exact ha
 ·exact hb
 ·exact hc
theorem loose_prod3 {a b c : Nat → Int} (ha : Under 18014398509481984 a) (hb : Under 18014398509481984 b) (hc : Under 18014398509481984 c) : Under 18014398509481984 (prodF (three a b c) 3) := loose_tight (tight_prod _ 3 (loose_three' ha hb hc))
theorem loose_sum3 {a b c : Nat → Int} (ha : Under 18014398509481984 a) (hb : Under 18014398509481984 b) (hc : Under 18014398509481984 c) : Under 18014398509481984 (sumF (three a b c) 3) := loose_sum _ 3 (loose_three' ha hb hc)
theorem loose_times (a : Nat → Int) (n : Int) (ha : Under 18014398509481984 a) (hn : 0 ≤ n ∧ n ≤ 4294967295) : Under 18014398509481984 (timesF a n) := loose_tight (tight_times a n ha hn)
theorem loose_one : Under 18014398509481984 (upd nought 0 1) := loose_tight tight_one
theorem Awake2_any (w : World) :
  Calls Tryz.prog 192 #[] w fun e w' => e = .returned (.bool true) ∧ Below w.heap.size w w' := by
 have hG := Grew.refl w
 go_enter Tryz.func192, Tryz.ntmps192
 go_wp2_with fail
 (refine (awake2_any _).mono ?_; rintro e w1 ⟨rfl, hb⟩; replace hG : Below w.heap.size w w1 := Grew.trans (by exact grew_auto) hb; clear hb)
 go_wp2
 go_ret
 exact ⟨rfl, by exact grew_auto⟩
theorem half_bytes : Bytes 32 (upd nought 31 64) := fun i _ => by unfold upd nought; split <;> omega
theorem loose_two : Under 18014398509481984 (upd nought 0 2) := loose_small 2 (by decide) (by decide)
set_option maxHeartbeats 400000 in
theorem awake3_any (w : World) :
  Calls Tryz.prog 191 #[] w fun e w' => e = .returned (.bool true) ∧ Below w.heap.size w w' := by
 have s1 : same 32 (keyV (nv (mulF (upd nought 0 2) (ofF (upd nought 31 64))))) (upd nought 0 19) = true := by kernel_rfl
 have hG := Grew.refl w
 go_enter Tryz.func191, Tryz.ntmps191
 go_wp2_with fail
 (refine (Awake2_any _).mono ?_; rintro e w1 ⟨rfl, hb⟩; replace hG : Below w.heap.size w w1 := Grew.trans (by exact grew_auto) hb; clear hb)
 go_wp2_with fail
 (refine (small_any 2 _ (by decide) (by decide)).mono ?_; rintro e w2 ⟨rfl, hb⟩; replace hG : Below w.heap.size w w2 := Grew.trans (by exact grew_auto) hb; clear hb)
 go_wp2_with fail
 (refine (of_any _ _ half_bytes).mono ?_; rintro e w3 ⟨rfl, hb⟩; replace hG : Below w.heap.size w w3 := Grew.trans (by exact grew_auto) hb; clear hb)
 go_wp2_with fail
 (refine (mul_any _ _ _ loose_two (loose_of _)).mono ?_; rintro e w4 ⟨rfl, hb⟩; replace hG : Below w.heap.size w w4 := Grew.trans (by exact grew_auto) hb; clear hb)
 go_wp2_with fail
 (refine (keyV_any _ _ (loose_mul _ _ loose_two (loose_of _))).mono ?_; rintro e w5 ⟨rfl, hb⟩; replace hG : Below w.heap.size w w5 := Grew.trans (by exact grew_auto) hb; clear hb)
 go_wp2
 go_ret
 exact ⟨rfl, by exact grew_auto⟩
theorem Awake3_any (w : World) :
  Calls Tryz.prog 190 #[] w fun e w' => e = .returned (.bool true) ∧ Below w.heap.size w w' := by
 have hG := Grew.refl w
 go_enter Tryz.func190, Tryz.ntmps190
 go_wp2_with fail
 (refine (awake3_any _).mono ?_; rintro e w1 ⟨rfl, hb⟩; replace hG : Below w.heap.size w w1 := Grew.trans (by exact grew_auto) hb; clear hb)
 go_wp2
 go_ret
 exact ⟨rfl, by exact grew_auto⟩
end Go.Proofs.YtonmancgalencaaGreatDoor
