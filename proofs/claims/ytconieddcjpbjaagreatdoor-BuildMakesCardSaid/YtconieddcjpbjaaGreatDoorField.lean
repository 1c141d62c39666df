/- Field -/
import Derived.Test.YtconieddcjpbjaaGreatDoorMul
namespace Go.Proofs.YtconieddcjpbjaaGreatDoor
open Go.RowKit
set_option linter.unusedVariables false
set_option linter.unusedSimpArgs false
theorem zqhn (a b : Int) : (a % 57896044618658097711785492504343953926634992332820282019728792003956564819949 * b) % 57896044618658097711785492504343953926634992332820282019728792003956564819949 = (a * b) % 57896044618658097711785492504343953926634992332820282019728792003956564819949 := by rw [Int.mul_emod (a % 57896044618658097711785492504343953926634992332820282019728792003956564819949) b, Int.emod_emod, ← Int.mul_emod]
theorem zql9 (a b : Int) : (a * (b % 57896044618658097711785492504343953926634992332820282019728792003956564819949)) % 57896044618658097711785492504343953926634992332820282019728792003956564819949 = (a * b) % 57896044618658097711785492504343953926634992332820282019728792003956564819949 := by rw [Int.mul_emod a (b % 57896044618658097711785492504343953926634992332820282019728792003956564819949), Int.emod_emod, ← Int.mul_emod]
theorem nv_ofV (x : Int) (h0 : 0 ≤ x) (h1 : x < 57896044618658097711785492504343953926634992332820282019728792003956564819949) : nv (ofF (keyV x)) = x := by
 show valE (ofF (keyN x)) % 57896044618658097711785492504343953926634992332820282019728792003956564819949 = x
 rw [of_key x h0 h1]; omega
theorem zqdc (x : Int) : Bytes 32 (keyV x) := zqn0 _
theorem ofV_any (x : Int) (w : World) :
  Calls Tryz.prog 94 #[.agg (ints .u8 32 (keyV x))] w fun e w' => e = .returned (.agg (ints .u64 5 (ofF (keyV x)))) ∧ Below w.heap.size w w' := zqtu _ w (zqdc x)
theorem zqoa (n : Int) (h0 : 0 ≤ n) (h1 : n ≤ 4294967295) : nv (upd zqd 0 n) = n := val_small n h0 h1
theorem nv_one : nv (upd zqd 0 1) = 1 := zqoa 1 (by decide) (by decide)
theorem zqkd {a b c : Nat → Int} (ha : Under 18014398509481984 a) (hb : Under 18014398509481984 b) (hc : Under 18014398509481984 c) : ∀ j, j < 3 → Under 18014398509481984 (three a b c j) := fun j hj => by
 rcases (by omega : j = 0 ∨ j = 1 ∨ j = 2) with rfl | rfl | rfl
 ·exact ha
 ·exact hb
 ·exact hc
theorem zqsp {a b c : Nat → Int} (ha : Under 18014398509481984 a) (hb : Under 18014398509481984 b) (hc : Under 18014398509481984 c) : Under 18014398509481984 (prodF (three a b c) 3) := zqcf (zqnm _ 3 (zqkd ha hb hc))
theorem zqwo {a b c : Nat → Int} (ha : Under 18014398509481984 a) (hb : Under 18014398509481984 b) (hc : Under 18014398509481984 c) : Under 18014398509481984 (sumF (three a b c) 3) := zqpt _ 3 (zqkd ha hb hc)
theorem zqhu (a : Nat → Int) (n : Int) (ha : Under 18014398509481984 a) (hn : 0 ≤ n ∧ n ≤ 4294967295) : Under 18014398509481984 (zqfa a n) := zqcf (zqs6 a n ha hn)
theorem zqid : Under 18014398509481984 (upd zqd 0 1) := zqcf zqmr
theorem zqw7 (w : World) :
  Calls Tryz.prog 206 #[] w fun e w' => e = .returned (.bool true) ∧ Below w.heap.size w w' := by
 have hG := Grew.refl w
 go_enter Tryz.func206, Tryz.ntmps206
 go_wp2_with fail
 (refine (zqx3 _).mono ?_; rintro e w1 ⟨rfl, hb⟩; replace hG : Below w.heap.size w w1 := Grew.trans (by exact zqe) hb; clear hb)
 go_wp2
 go_ret
 exact ⟨rfl, by exact zqe⟩
theorem zqvl : Bytes 32 (upd zqd 31 64) := fun i _ => by unfold upd zqd; split <;> omega
theorem zqdg : Under 18014398509481984 (upd zqd 0 2) := zqeo 2 (by decide) (by decide)
set_option maxHeartbeats 400000 in
theorem zqwn (w : World) :
  Calls Tryz.prog 205 #[] w fun e w' => e = .returned (.bool true) ∧ Below w.heap.size w w' := by
 have s1 : same 32 (keyV (nv (mulF (upd zqd 0 2) (ofF (upd zqd 31 64))))) (upd zqd 0 19) = true := by kernel_rfl
 have hG := Grew.refl w
 go_enter Tryz.func205, Tryz.ntmps205
 go_wp2_with fail
 (refine (zqw7 _).mono ?_; rintro e w1 ⟨rfl, hb⟩; replace hG : Below w.heap.size w w1 := Grew.trans (by exact zqe) hb; clear hb)
 go_wp2_with fail
 (refine (zqcz 2 _ (by decide) (by decide)).mono ?_; rintro e w2 ⟨rfl, hb⟩; replace hG : Below w.heap.size w w2 := Grew.trans (by exact zqe) hb; clear hb)
 go_wp2_with fail
 (refine (zqtu _ _ zqvl).mono ?_; rintro e w3 ⟨rfl, hb⟩; replace hG : Below w.heap.size w w3 := Grew.trans (by exact zqe) hb; clear hb)
 go_wp2_with fail
 (refine (mul_any _ _ _ zqdg (zqg3 _)).mono ?_; rintro e w4 ⟨rfl, hb⟩; replace hG : Below w.heap.size w w4 := Grew.trans (by exact zqe) hb; clear hb)
 go_wp2_with fail
 (refine (zqfx _ _ (zqb3 _ _ zqdg (zqg3 _))).mono ?_; rintro e w5 ⟨rfl, hb⟩; replace hG : Below w.heap.size w w5 := Grew.trans (by exact zqe) hb; clear hb)
 go_wp2
 go_ret
 exact ⟨rfl, by exact zqe⟩
theorem zqv1 (w : World) :
  Calls Tryz.prog 204 #[] w fun e w' => e = .returned (.bool true) ∧ Below w.heap.size w w' := by
 have hG := Grew.refl w
 go_enter Tryz.func204, Tryz.ntmps204
 go_wp2_with fail
 (refine (zqwn _).mono ?_; rintro e w1 ⟨rfl, hb⟩; replace hG : Below w.heap.size w w1 := Grew.trans (by exact zqe) hb; clear hb)
 go_wp2
 go_ret
 exact ⟨rfl, by exact zqe⟩
end Go.Proofs.YtconieddcjpbjaaGreatDoor
