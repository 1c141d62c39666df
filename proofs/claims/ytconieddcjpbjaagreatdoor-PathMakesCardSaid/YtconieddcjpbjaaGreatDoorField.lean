/- Field -/
import Derived.Test.YtconieddcjpbjaaGreatDoorMul
set_option linter.unusedVariables false
set_option linter.unusedSimpArgs false
namespace Go.Proofs.YtconieddcjpbjaaGreatDoor
open Go.RowKit
theorem zqi1 (a b : Int) : (a % 57896044618658097711785492504343953926634992332820282019728792003956564819949 * b) % 57896044618658097711785492504343953926634992332820282019728792003956564819949 = (a * b) % 57896044618658097711785492504343953926634992332820282019728792003956564819949 := by rw [Int.mul_emod (a % 57896044618658097711785492504343953926634992332820282019728792003956564819949) b, Int.emod_emod, <- Int.mul_emod]
theorem zqna (a b : Int) : (a * (b % 57896044618658097711785492504343953926634992332820282019728792003956564819949)) % 57896044618658097711785492504343953926634992332820282019728792003956564819949 = (a * b) % 57896044618658097711785492504343953926634992332820282019728792003956564819949 := by rw [Int.mul_emod a (b % 57896044618658097711785492504343953926634992332820282019728792003956564819949), Int.emod_emod, <- Int.mul_emod]
theorem zrau (x : Int) (h0 : 0 <= x) (h1 : x < 57896044618658097711785492504343953926634992332820282019728792003956564819949) : nv (ofF (keyV x)) = x := by
 show valE (ofF (keyN x)) % 57896044618658097711785492504343953926634992332820282019728792003956564819949 = x
 rw [zrh4 x h0 h1]; omega
theorem zqdw (x : Int) : Bytes 32 (keyV x) := zqo1 _
theorem zq3x (x : Int) (w : World) :
  Calls Tryz.prog 94 #[.agg (ints .u8 32 (keyV x))] w (Rt w (.agg (ints .u64 5 (ofF (keyV x))))) := zqw8 _ w (zqdw x)
theorem zqq9 (n : Int) (h0 : 0 <= n) (h1 : n <= 4294967295) : nv (upd zqg 0 n) = n := zq2j n h0 h1
theorem zq36 : nv (upd zqg 0 1) = 1 := zqq9 1 (by decide) (by decide)
theorem zqlu {a b c : Nat -> Int} (ha : zqae 18014398509481984 a) (hb : zqae 18014398509481984 b) (hc : zqae 18014398509481984 c) : ∀ j, j < 3 -> zqae 18014398509481984 (three a b c j) := fun j hj => by
 rcases (by omega : j = 0 \/ j = 1 \/ j = 2) with rfl | rfl | rfl
 ·exact ha
 ·exact hb
 ·exact hc
theorem zqvv {a b c : Nat -> Int} (ha : zqae 18014398509481984 a) (hb : zqae 18014398509481984 b) (hc : zqae 18014398509481984 c) : zqae 18014398509481984 (zrdb (three a b c) 3) := zqcx (zqpm _ 3 (zqlu ha hb hc))
theorem zqx5 {a b c : Nat -> Int} (ha : zqae 18014398509481984 a) (hb : zqae 18014398509481984 b) (hc : zqae 18014398509481984 c) : zqae 18014398509481984 (sumF (three a b c) 3) := zqsa _ 3 (zqlu ha hb hc)
theorem zqix (a : Nat -> Int) (n : Int) (ha : zqae 18014398509481984 a) (hn : 0 <= n /\ n <= 4294967295) : zqae 18014398509481984 (zqgh a n) := zqcx (zquh a n ha hn)
theorem zqjg : zqae 18014398509481984 (upd zqg 0 1) := zqcx zqoo
theorem zqym (w : World) :
  Calls Tryz.prog 206 #[] w (Rt w (.bool true)) := by
 have hG := Grew.refl w
 go_enter Tryz.func206, Tryz.ntmps206
 go_wp2_with fail
 (refine (zqyg _).mono ?_; rintro e w1 ⟨rfl, hb⟩; replace hG : Below w.heap.size w w1 := Grew.trans (by exact zqf) hb; clear hb)
 go_wp2;go_ret;exact ⟨rfl, by exact zqf⟩
theorem zqzx : Bytes 32 (upd zqg 31 64) := fun i _ => by unfold upd zqg; split <;> omega
theorem zqd3 : zqae 18014398509481984 (upd zqg 0 2) := zqfm 2 (by decide) (by decide)
set_option maxHeartbeats 400000 in
theorem zqz7 (w : World) :
  Calls Tryz.prog 205 #[] w (Rt w (.bool true)) := by
 have s1 : same 32 (keyV (nv (mulF (upd zqg 0 2) (ofF (upd zqg 31 64))))) (upd zqg 0 19) = true := by kernel_rfl
 have hG := Grew.refl w
 go_enter Tryz.func205, Tryz.ntmps205
 go_wp2_with fail
 (refine (zqym _).mono ?_; rintro e w1 ⟨rfl, hb⟩; replace hG : Below w.heap.size w w1 := Grew.trans (by exact zqf) hb; clear hb)
 go_wp2_with fail
 (refine (zqdj 2 _ (by decide) (by decide)).mono ?_; rintro e w2 ⟨rfl, hb⟩; replace hG : Below w.heap.size w w2 := Grew.trans (by exact zqf) hb; clear hb)
 go_wp2_with fail
 (refine (zqw8 _ _ zqzx).mono ?_; rintro e w3 ⟨rfl, hb⟩; replace hG : Below w.heap.size w w3 := Grew.trans (by exact zqf) hb; clear hb)
 go_wp2_with fail
 (refine (mul_any _ _ _ zqd3 (zqie _)).mono ?_; rintro e w4 ⟨rfl, hb⟩; replace hG : Below w.heap.size w w4 := Grew.trans (by exact zqf) hb; clear hb)
 go_wp2_with fail
 (refine (zqg3 _ _ (zqcd _ _ zqd3 (zqie _))).mono ?_; rintro e w5 ⟨rfl, hb⟩; replace hG : Below w.heap.size w w5 := Grew.trans (by exact zqf) hb; clear hb)
 go_wp2;go_ret;exact ⟨rfl, by exact zqf⟩
theorem zq1f (w : World) :
  Calls Tryz.prog 204 #[] w (Rt w (.bool true)) := by
 have hG := Grew.refl w
 go_enter Tryz.func204, Tryz.ntmps204
 go_wp2_with fail
 (refine (zqz7 _).mono ?_; rintro e w1 ⟨rfl, hb⟩; replace hG : Below w.heap.size w w1 := Grew.trans (by exact zqf) hb; clear hb)
 go_wp2;go_ret;exact ⟨rfl, by exact zqf⟩
end Go.Proofs.YtconieddcjpbjaaGreatDoor
