/- The awake function of layer 6; DhAgrees, DhThree. -/
import Derived.Test.YtfapmpnkemogkaaDh
namespace Go.Proofs.Ytfapmpnkemogkaa
open Go.RowKit
set_option linter.unusedVariables false
set_option linter.unusedSimpArgs false
open Edw (red tv)

/-! the numbers -/
def cK (k : Nat → Int) : Nat := knum (clampF k) 32
theorem cK_lt (k : Nat → Int) (hk : Bytes 32 k) : cK k < 2 ^ 256 := knum_lt256 _ (clamp_bytes k hk)
theorem knum_mod8 (f : Nat → Int) : ∀ j, knum f (j + 1) % 8 = (f 0).toNat % 8
  | 0 => by simp [knum]
  | j + 1 => by
    have e : 256 ^ (j + 1) * (f (j + 1)).toNat = 8 * (32 * 256 ^ j * (f (j + 1)).toNat) := by rw [Nat.pow_succ]; grind
    rw [knum, e, Nat.add_mul_mod_self_left]
    exact knum_mod8 f j
theorem cK_is (k : Nat → Int) (hk : Bytes 32 k) : ∃ m, cK k = 8 * m ∧ 0 < m ∧ m < Edw.ordl := by
  have h0 := hk 0 (by decide)
  have h1 := hk 31 (by decide)
  have m8 := knum_mod8 (clampF k) 31
  have hb := knum_lt (clampF k) (clamp_bytes k hk) 31 (by omega)
  have c0 : clampF k 0 = k 0 / 8 * 8 := rfl
  have c1 : clampF k 31 = k 31 % 64 + 64 := rfl
  have hs : knum (clampF k) 32 = knum (clampF k) 31 + 256 ^ 31 * (clampF k 31).toNat := rfl
  rw [c0] at m8
  rw [c1] at hs
  have hm : (k 0 / 8 * 8).toNat % 8 = 0 := by omega
  rw [hm] at m8
  unfold cK
  generalize knum (clampF k) 31 = A at *
  generalize knum (clampF k) 32 = B at *
  have t0 : 64 ≤ (k 31 % 64 + 64).toNat := by omega
  have t1 : (k 31 % 64 + 64).toNat ≤ 127 := by omega
  generalize (k 31 % 64 + 64).toNat = t at *
  refine ⟨B / 8, by omega, ?_, ?_⟩
  · have : 256 ^ 31 * 64 ≤ 256 ^ 31 * t := Nat.mul_le_mul_left _ t0
    have h2 : (256 : Nat) ^ 31 = 452312848583266388373324160190187140051835877600158453279131187530910662656 := by decide
    omega
  · have : 256 ^ 31 * t ≤ 256 ^ 31 * 127 := Nat.mul_le_mul_left _ t1
    have h2 : (256 : Nat) ^ 31 = 452312848583266388373324160190187140051835877600158453279131187530910662656 := by decide
    unfold Edw.ordl
    omega
theorem cK_ndvd (k : Nat → Int) (hk : Bytes 32 k) : ¬ Edw.ordl ∣ cK k := by
  obtain ⟨m, e, h0, h1⟩ := cK_is k hk
  rw [e]
  exact Edw.clamped_ndvd m h0 h1
theorem shV_key (k : Nat → Int) (v : Int) (h0 : 0 ≤ v) (h1 : v < 57896044618658097711785492504343953926634992332820282019728792003956564819949) : shV k (keyV v) = tv (cK k) v := by unfold shV cK; rw [nv_ofV v h0 h1]
/-- the public key's number -/
def pubV (k : Nat → Int) : Int := tv (cK k) 9
theorem pub_bd (k : Nat → Int) : 0 ≤ pubV k ∧ pubV k < 57896044618658097711785492504343953926634992332820282019728792003956564819949 := Edw.tv_bd _ _
def twoV (j k : Nat → Int) : Int := tv (cK j) (pubV k)
theorem two_bd (j k : Nat → Int) : 0 ≤ twoV j k ∧ twoV j k < 57896044618658097711785492504343953926634992332820282019728792003956564819949 := Edw.tv_bd _ _
theorem two_is (j k : Nat → Int) : shV j (keyV (pubV k)) = twoV j k := shV_key j _ (pub_bd k).1 (pub_bd k).2
theorem two_swap (j k : Nat → Int) (hj : Bytes 32 j) (hk : Bytes 32 k) : twoV j k = twoV k j := Edw.tv_swap 9 _ _ (cK_lt j hj) (cK_lt k hk)
theorem two_ne (j k : Nat → Int) (hj : Bytes 32 j) (hk : Bytes 32 k) : decide (twoV j k = 0) = false := decide_eq_false (Edw.tv_nine2 _ _ (cK_lt k hk) (cK_lt j hj) (cK_ndvd k hk) (cK_ndvd j hj))
def thrV (c j k : Nat → Int) : Int := tv (cK c) (twoV j k)
theorem thr_is (c j k : Nat → Int) : shV c (keyV (twoV j k)) = thrV c j k := shV_key c _ (two_bd j k).1 (two_bd j k).2
theorem thr_swap (a b c : Nat → Int) (ha : Bytes 32 a) (hb : Bytes 32 b) (hc : Bytes 32 c) : thrV c a b = thrV a b c := by
  show tv (cK c) (tv (cK a) (tv (cK b) 9)) = tv (cK a) (tv (cK b) (tv (cK c) 9))
  rw [Edw.tv_swap _ _ _ (cK_lt c hc) (cK_lt a ha), Edw.tv_swap 9 _ _ (cK_lt c hc) (cK_lt b hb)]
theorem clamp_twice (k : Nat → Int) : clampF (clampF k) = clampF k := by
  funext i
  unfold clampF
  by_cases h0 : i = 0
  · subst h0; simp
  · by_cases h1 : i = 31
    · subst h1; simp
    · simp [h0, h1]
theorem shV_other (j p : Nat → Int) (hp : Bytes 32 p) : shV (clampF j) (upd p 31 (bits .xor .u8 (p 31) 128)) = shV j p := by
  obtain ⟨x1, x2, x3⟩ := xor_top (p 31) (hp 31 (by decide)).1 (hp 31 (by decide)).2
  unfold shV nv
  rw [clamp_twice, top_bit p _ x1 hp]
theorem shared_two (j k : Nat → Int) (w : World) (hj : Bytes 32 j) (hk : Bytes 32 k) : Calls Try.prog 73 #[.agg (ints .u8 32 (j)), .agg (ints .u8 32 (keyV (pubV k)))] w fun e w' => e = .returned (.tuple #[.agg (ints .u8 32 (keyV (twoV j k))), .bool true]) ∧ Below w.heap.size w w' := by
  have := shared_any j (keyV (pubV k)) w (T := false) hj (keyV_bytes _) (by rw [two_is]; exact two_ne j k hj hk)
  rw [two_is] at this
  exact this
theorem base_pub (k : Nat → Int) (w : World) (hk : Bytes 32 k) : Calls Try.prog 79 #[.agg (ints .u8 32 (k))] w fun e w' => e = .returned (.agg (ints .u8 32 (keyV (pubV k)))) ∧ Below w.heap.size w w' := base_any k w hk
theorem shared_thr (c j k : Nat → Int) (w : World) {T : Bool} (hc : Bytes 32 c) (hT : decide (thrV c j k = 0) = T) : Calls Try.prog 73 #[.agg (ints .u8 32 (c)), .agg (ints .u8 32 (keyV (twoV j k)))] w fun e w' => e = .returned (.tuple #[.agg (ints .u8 32 (keyV (thrV c j k))), .bool (!T)]) ∧ Below w.heap.size w w' := by
  have := shared_any c (keyV (twoV j k)) w (T := T) hc (keyV_bytes _) (by rw [thr_is]; exact hT)
  rw [thr_is] at this
  exact this
set_option maxRecDepth 100000 in
set_option maxHeartbeats 1000000 in
theorem awake6_any (w : World) :
    Calls Try.prog 72 #[] w fun e w' => e = .returned (.bool true) ∧ Below w.heap.size w w' := by
  have hG := Grew.refl w
  go_enter Try.func72, Try.ntmps72
  have c1 := fun w => raw_any (upd nought 0 1) (upd nought 0 9) w ok5_bytes nine_bytes
  rw [ok5_num, nine_nv, Edw.tv_one 9 (by decide)] at c1
  have c2 := fun w => clamp_any nought w zk5_bytes
  have s1 : same 32 (keyV 9) (upd nought 0 9) = true := by kernel_rfl
  have s2 : same 32 (clampF nought) (upd nought 31 64) = true := by kernel_rfl
  go_wp2_with fail
  (refine (Awake5_any _).mono ?_; rintro e w1 ⟨rfl, hb⟩; replace hG : Below w.heap.size w w1 := Grew.trans (by (repeat (first | assumption | exact Grew.refl _ | refine Grew.more ?_ _ | refine Grew.alloc ?_ _ | refine Grew.drewN ?_ _ | refine Grew.setRow ?_ _ _ (by omega) | refine Grew.setRow ?_ _ _ (by simp; omega) | refine Grew.setRow ?_ _ _ (by simp)))) hb; clear hb)
  go_wp2_with fail
  (refine (c1 _).mono ?_; rintro e w2 ⟨rfl, hb⟩; replace hG : Below w.heap.size w w2 := Grew.trans (by (repeat (first | assumption | exact Grew.refl _ | refine Grew.more ?_ _ | refine Grew.alloc ?_ _ | refine Grew.drewN ?_ _ | refine Grew.setRow ?_ _ _ (by omega) | refine Grew.setRow ?_ _ _ (by simp; omega) | refine Grew.setRow ?_ _ _ (by simp)))) hb; clear hb)
  go_wp2_with fail
  (refine (c2 _).mono ?_; rintro e w3 ⟨rfl, hb⟩; replace hG : Below w.heap.size w w3 := Grew.trans (by (repeat (first | assumption | exact Grew.refl _ | refine Grew.more ?_ _ | refine Grew.alloc ?_ _ | refine Grew.drewN ?_ _ | refine Grew.setRow ?_ _ _ (by omega) | refine Grew.setRow ?_ _ _ (by simp; omega) | refine Grew.setRow ?_ _ _ (by simp)))) hb; clear hb)
  go_wp2
  go_ret
  exact ⟨rfl, by (repeat (first | assumption | exact Grew.refl _ | refine Grew.more ?_ _ | refine Grew.alloc ?_ _ | refine Grew.drewN ?_ _ | refine Grew.setRow ?_ _ _ (by omega) | refine Grew.setRow ?_ _ _ (by simp; omega) | refine Grew.setRow ?_ _ _ (by simp)))⟩
end Go.Proofs.Ytfapmpnkemogkaa
