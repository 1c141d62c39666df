/- Words of 32 bits: turned, joined; what the small functions of package sha answer. -/
import Derived.Test.YtdihaffopfbnnaaDoorLimb
import Derived.Test.YtdihaffopfbnnaaDoorCt
namespace Go.Proofs.YtdihaffopfbnnaaDoor
open Go.RowKit
set_option linter.unusedVariables false
set_option linter.unusedSimpArgs false

/-- a word -/
def W32 (x : Int) : Prop := 0 ≤ x ∧ x < 4294967296
theorem wraps_u32 (n : Int) (h₀ : 0 ≤ n) (h₁ : n < 2 ^ 32) : IntKind.u32.wrap n = n := by rw [IntKind.wrap_u32]; omega
theorem W32.nat {x : Int} (h : W32 x) : ∃ a : Nat, x = a ∧ a < 2 ^ 32 := ⟨x.toNat, by have := h.1; omega, by have := h.1; have := h.2; omega⟩
theorem w32_of (a : Nat) (h : a < 2 ^ 32) : W32 (a : Int) := ⟨by omega, by omega⟩
theorem u32_and (a b : Nat) (ha : a < 2 ^ 32) (hb : b < 2 ^ 32) : bits .and .u32 (a : Int) (b : Int) = ((a &&& b : Nat) : Int) := (bits_nat .u32 32 (by decide) wraps_u32 a b ha hb).1
theorem u32_or (a b : Nat) (ha : a < 2 ^ 32) (hb : b < 2 ^ 32) : bits .or .u32 (a : Int) (b : Int) = ((a ||| b : Nat) : Int) := (bits_nat .u32 32 (by decide) wraps_u32 a b ha hb).2
theorem u32_xor (a b : Nat) (ha : a < 2 ^ 32) (hb : b < 2 ^ 32) : bits .xor .u32 (a : Int) (b : Int) = ((a ^^^ b : Nat) : Int) := by
  have h1 : (BitVec.ofInt 32 (a : Int)).toNat = a := by rw [BitVec.ofInt_natCast, BitVec.toNat_ofNat]; exact Nat.mod_eq_of_lt ha
  have h2 : (BitVec.ofInt 32 (b : Int)).toNat = b := by rw [BitVec.ofInt_natCast, BitVec.toNat_ofNat]; exact Nat.mod_eq_of_lt hb
  have hx : a ^^^ b < 2 ^ 32 := Nat.xor_lt_two_pow ha hb
  show IntKind.u32.wrap ((BitVec.ofInt 32 (a : Int) ^^^ BitVec.ofInt 32 (b : Int)).toNat : Int) = _
  rw [BitVec.toNat_xor, h1, h2]
  exact wraps_u32 _ (by omega) (by exact_mod_cast hx)
theorem w32_xor {x y : Int} (hx : W32 x) (hy : W32 y) : W32 (bits .xor .u32 x y) := by
  obtain ⟨a, rfl, ha⟩ := hx.nat
  obtain ⟨b, rfl, hb⟩ := hy.nat
  rw [u32_xor a b ha hb]
  exact w32_of _ (Nat.xor_lt_two_pow ha hb)
theorem w32_and {x y : Int} (hx : W32 x) (hy : W32 y) : W32 (bits .and .u32 x y) := by
  obtain ⟨a, rfl, ha⟩ := hx.nat
  obtain ⟨b, rfl, hb⟩ := hy.nat
  rw [u32_and a b ha hb]
  exact w32_of _ (Nat.and_lt_two_pow _ hb)
theorem w32_or {x y : Int} (hx : W32 x) (hy : W32 y) : W32 (bits .or .u32 x y) := by
  obtain ⟨a, rfl, ha⟩ := hx.nat
  obtain ⟨b, rfl, hb⟩ := hy.nat
  rw [u32_or a b ha hb]
  exact w32_of _ (Nat.or_lt_two_pow ha hb)
theorem w32_mod (x : Int) : W32 (x % 4294967296) := ⟨by omega, by omega⟩
theorem w32_div {x : Int} (h : W32 x) (k : Int) (hk : 0 < k) : W32 (x / k) := ⟨Int.ediv_nonneg h.1 (by omega), by
  have h1 := Int.ediv_le_self k h.1
  have := h.2; omega⟩
/-- turned right by n -/
def rot (n : Int) (x : Int) : Int := x / 2 ^ n.toNat + x % 2 ^ n.toNat * 2 ^ (32 - n).toNat
theorem rot_nat (n : Nat) (hn : n ≤ 32) (a : Nat) (ha : a < 2 ^ 32) : rot (n : Int) (a : Int) = ((a / 2 ^ n + a % 2 ^ n * 2 ^ (32 - n) : Nat) : Int) ∧ a / 2 ^ n + a % 2 ^ n * 2 ^ (32 - n) < 2 ^ 32 := by
  have e1 : ((n : Int)).toNat = n := by omega
  have e2 : (32 - (n : Int)).toNat = 32 - n := by omega
  constructor
  · unfold rot; rw [e1, e2]; push_cast; rfl
  · have hp : 2 ^ 32 = 2 ^ n * 2 ^ (32 - n) := by rw [← Nat.pow_add]; congr 1; omega
    have h1 : a / 2 ^ n < 2 ^ (32 - n) := by
      rw [Nat.div_lt_iff_lt_mul (Nat.two_pow_pos n), Nat.mul_comm, ← hp]; exact ha
    have h2 : a % 2 ^ n + 1 ≤ 2 ^ n := Nat.mod_lt _ (Nat.two_pow_pos n)
    have h3 := Nat.mul_le_mul_right (2 ^ (32 - n)) h2
    rw [← hp, Nat.add_mul, Nat.one_mul] at h3
    omega
theorem w32_rot {x : Int} (h : W32 x) (n : Int) (h0 : 0 ≤ n) (h1 : n ≤ 32) : W32 (rot n x) := by
  obtain ⟨a, rfl, ha⟩ := h.nat
  obtain ⟨k, rfl⟩ := Int.eq_ofNat_of_zero_le h0
  obtain ⟨e, hl⟩ := rot_nat k (by omega) a ha
  rw [e]; exact w32_of _ hl
/-- left, and right, together: turned -/
theorem rot_or (n : Int) (x : Int) (h : W32 x) (h0 : 1 ≤ n) (h1 : n ≤ 31) : bits .or .u32 (x * 2 ^ (32 - n).toNat % 4294967296) (x / 2 ^ n.toNat) = rot n x := by
  obtain ⟨a, rfl, ha⟩ := h.nat
  obtain ⟨k, rfl⟩ := Int.eq_ofNat_of_zero_le (show 0 ≤ n by omega)
  have e1 : ((k : Int)).toNat = k := by omega
  have e2 : (32 - (k : Int)).toNat = 32 - k := by omega
  rw [(rot_nat k (by omega) a ha).1, e1, e2]
  have hp : 2 ^ 32 = 2 ^ k * 2 ^ (32 - k) := by rw [← Nat.pow_add]; congr 1; omega
  have hm : a * 2 ^ (32 - k) % 2 ^ 32 = a % 2 ^ k * 2 ^ (32 - k) := by rw [hp, Nat.mul_mod_mul_right]
  have hd : a / 2 ^ k < 2 ^ (32 - k) := by
    rw [Nat.div_lt_iff_lt_mul (Nat.two_pow_pos k), Nat.mul_comm, ← hp]; exact ha
  have hlt : a * 2 ^ (32 - k) % 2 ^ 32 < 2 ^ 32 := Nat.mod_lt _ (by decide)
  have hd2 : a / 2 ^ k < 2 ^ 32 := Nat.lt_of_le_of_lt (Nat.div_le_self _ _) ha
  have c1 : ((a : Int) * 2 ^ (32 - k) % 4294967296) = ((a * 2 ^ (32 - k) % 2 ^ 32 : Nat) : Int) := by rw [Int.natCast_emod, Int.natCast_mul, Int.natCast_pow]; rfl
  have c2 : ((a : Int) / 2 ^ k) = ((a / 2 ^ k : Nat) : Int) := by push_cast; rfl
  rw [c1, c2, u32_or _ _ hlt hd2, hm]
  congr 1
  rw [Nat.mul_comm, ← Nat.two_pow_add_eq_or_of_lt hd (a % 2 ^ k)]
  omega
theorem and31_neg (n : Int) (h0 : 1 ≤ n) (h1 : n ≤ 31) : bits .and .u64 (IntKind.u64.wrap (-n)) 31 = 32 - n := by
  rw [IntKind.wrap_u64]
  rw [show (31 : Int) = 2 ^ 5 - 1 from rfl, bits_mask .u64 64 (by decide) wraps_u64 5 (by decide) _ (by omega) (by omega)]
  omega
set_option maxHeartbeats 400000 in
theorem rotateLeft_any (x n : Int) (w : World) (hx : W32 x) (h0 : 1 ≤ n) (h1 : n ≤ 31) :
    Calls Tryd.prog 75 #[.int .u32 x, .int .i64 (-n)] w fun e w' => e = .returned (.int .u32 (rot n x)) ∧ Below w.heap.size w w' := by
  have hs := and31_neg n h0 h1
  have H : Hid (bits .or .u32 (x * 2 ^ (32 - n).toNat % 4294967296) (x / 2 ^ n.toNat) = rot n x) := rot_or n x hx h0 h1
  obtain ⟨x0, x1⟩ := hx
  have s1 : n ≤ 32 := by omega
  have s2 : 0 ≤ n := by omega
  have s3 : n % 18446744073709551616 = n := by omega
  have s4 : (32 - n) % 18446744073709551616 = 32 - n := by omega
  have s5 : 32 - n ≤ 32 := by omega
  have s6 : 0 ≤ 32 - n := by omega
  go_enter Tryd.func75, Tryd.ntmps75
  go_wp2
  go_ret
  rw [show (32 - (32 - n)) = n by omega, H.out]
  exact ⟨rfl, by (repeat (first | assumption | exact Grew.refl _ | refine Grew.more ?_ _ | refine Grew.alloc ?_ _ | refine Grew.drewN ?_ _ | refine Grew.setRow ?_ _ _ (by omega) | refine Grew.setRow ?_ _ _ (by simp; omega) | refine Grew.setRow ?_ _ _ (by simp)))⟩
set_option maxHeartbeats 400000 in
theorem rotr_any (x n : Int) (w : World) (hx : W32 x) (h0 : 1 ≤ n) (h1 : n ≤ 31) :
    Calls Tryd.prog 66 #[.int .u32 x, .int .i64 n] w fun e w' => e = .returned (.int .u32 (rot n x)) ∧ Below w.heap.size w w' := by
  have hG := Grew.refl w
  have s1 : IntKind.i64.wrap (-n) = -n := by rw [IntKind.wrap_i64]; omega
  have s2 : -9223372036854775808 ≤ -n := by omega
  have s3 : -n ≤ 9223372036854775807 := by omega
  go_enter Tryd.func66, Tryd.ntmps66
  go_wp2_with fail
  (refine (rotateLeft_any x n _ hx h0 h1).mono ?_; rintro e w1 ⟨rfl, hb⟩; replace hG : Below w.heap.size w w1 := Grew.trans (by (repeat (first | assumption | exact Grew.refl _ | refine Grew.more ?_ _ | refine Grew.alloc ?_ _ | refine Grew.drewN ?_ _ | refine Grew.setRow ?_ _ _ (by omega) | refine Grew.setRow ?_ _ _ (by simp; omega) | refine Grew.setRow ?_ _ _ (by simp)))) hb; clear hb)
  go_wp2
  go_ret
  exact ⟨rfl, by (repeat (first | assumption | exact Grew.refl _ | refine Grew.more ?_ _ | refine Grew.alloc ?_ _ | refine Grew.drewN ?_ _ | refine Grew.setRow ?_ _ _ (by omega) | refine Grew.setRow ?_ _ _ (by simp; omega) | refine Grew.setRow ?_ _ _ (by simp)))⟩
/-- the four joined turns -/
def sm0 (x : Int) : Int := bits .xor .u32 (bits .xor .u32 (rot 7 x) (rot 18 x)) (x / 8)
def sm1 (x : Int) : Int := bits .xor .u32 (bits .xor .u32 (rot 17 x) (rot 19 x)) (x / 1024)
def gr0 (x : Int) : Int := bits .xor .u32 (bits .xor .u32 (rot 2 x) (rot 13 x)) (rot 22 x)
def gr1 (x : Int) : Int := bits .xor .u32 (bits .xor .u32 (rot 6 x) (rot 11 x)) (rot 25 x)
theorem w32_sm0 {x : Int} (h : W32 x) : W32 (sm0 x) := w32_xor (w32_xor (w32_rot h _ (by decide) (by decide)) (w32_rot h _ (by decide) (by decide))) (w32_div h _ (by decide))
theorem w32_sm1 {x : Int} (h : W32 x) : W32 (sm1 x) := w32_xor (w32_xor (w32_rot h _ (by decide) (by decide)) (w32_rot h _ (by decide) (by decide))) (w32_div h _ (by decide))
theorem w32_gr0 {x : Int} (h : W32 x) : W32 (gr0 x) := w32_xor (w32_xor (w32_rot h _ (by decide) (by decide)) (w32_rot h _ (by decide) (by decide))) (w32_rot h _ (by decide) (by decide))
theorem w32_gr1 {x : Int} (h : W32 x) : W32 (gr1 x) := w32_xor (w32_xor (w32_rot h _ (by decide) (by decide)) (w32_rot h _ (by decide) (by decide))) (w32_rot h _ (by decide) (by decide))
set_option maxHeartbeats 400000 in
theorem sm0_any (x : Int) (w : World) (hx : W32 x) :
    Calls Tryd.prog 65 #[.int .u32 x] w fun e w' => e = .returned (.int .u32 (sm0 x)) ∧ Below w.heap.size w w' := by
  have hG := Grew.refl w
  go_enter Tryd.func65, Tryd.ntmps65
  go_wp2_with fail
  (refine (rotr_any x 7 _ hx (by decide) (by decide)).mono ?_; rintro e w1 ⟨rfl, hb⟩; replace hG : Below w.heap.size w w1 := Grew.trans (by (repeat (first | assumption | exact Grew.refl _ | refine Grew.more ?_ _ | refine Grew.alloc ?_ _ | refine Grew.drewN ?_ _ | refine Grew.setRow ?_ _ _ (by omega) | refine Grew.setRow ?_ _ _ (by simp; omega) | refine Grew.setRow ?_ _ _ (by simp)))) hb; clear hb)
  go_wp2_with fail
  (refine (rotr_any x 18 _ hx (by decide) (by decide)).mono ?_; rintro e w2 ⟨rfl, hb⟩; replace hG : Below w.heap.size w w2 := Grew.trans (by (repeat (first | assumption | exact Grew.refl _ | refine Grew.more ?_ _ | refine Grew.alloc ?_ _ | refine Grew.drewN ?_ _ | refine Grew.setRow ?_ _ _ (by omega) | refine Grew.setRow ?_ _ _ (by simp; omega) | refine Grew.setRow ?_ _ _ (by simp)))) hb; clear hb)
  go_wp2
  go_ret
  exact ⟨rfl, by (repeat (first | assumption | exact Grew.refl _ | refine Grew.more ?_ _ | refine Grew.alloc ?_ _ | refine Grew.drewN ?_ _ | refine Grew.setRow ?_ _ _ (by omega) | refine Grew.setRow ?_ _ _ (by simp; omega) | refine Grew.setRow ?_ _ _ (by simp)))⟩
set_option maxHeartbeats 400000 in
theorem sm1_any (x : Int) (w : World) (hx : W32 x) :
    Calls Tryd.prog 64 #[.int .u32 x] w fun e w' => e = .returned (.int .u32 (sm1 x)) ∧ Below w.heap.size w w' := by
  have hG := Grew.refl w
  go_enter Tryd.func64, Tryd.ntmps64
  go_wp2_with fail
  (refine (rotr_any x 17 _ hx (by decide) (by decide)).mono ?_; rintro e w1 ⟨rfl, hb⟩; replace hG : Below w.heap.size w w1 := Grew.trans (by (repeat (first | assumption | exact Grew.refl _ | refine Grew.more ?_ _ | refine Grew.alloc ?_ _ | refine Grew.drewN ?_ _ | refine Grew.setRow ?_ _ _ (by omega) | refine Grew.setRow ?_ _ _ (by simp; omega) | refine Grew.setRow ?_ _ _ (by simp)))) hb; clear hb)
  go_wp2_with fail
  (refine (rotr_any x 19 _ hx (by decide) (by decide)).mono ?_; rintro e w2 ⟨rfl, hb⟩; replace hG : Below w.heap.size w w2 := Grew.trans (by (repeat (first | assumption | exact Grew.refl _ | refine Grew.more ?_ _ | refine Grew.alloc ?_ _ | refine Grew.drewN ?_ _ | refine Grew.setRow ?_ _ _ (by omega) | refine Grew.setRow ?_ _ _ (by simp; omega) | refine Grew.setRow ?_ _ _ (by simp)))) hb; clear hb)
  go_wp2
  go_ret
  exact ⟨rfl, by (repeat (first | assumption | exact Grew.refl _ | refine Grew.more ?_ _ | refine Grew.alloc ?_ _ | refine Grew.drewN ?_ _ | refine Grew.setRow ?_ _ _ (by omega) | refine Grew.setRow ?_ _ _ (by simp; omega) | refine Grew.setRow ?_ _ _ (by simp)))⟩
set_option maxHeartbeats 400000 in
theorem gr0_any (x : Int) (w : World) (hx : W32 x) :
    Calls Tryd.prog 56 #[.int .u32 x] w fun e w' => e = .returned (.int .u32 (gr0 x)) ∧ Below w.heap.size w w' := by
  have hG := Grew.refl w
  go_enter Tryd.func56, Tryd.ntmps56
  go_wp2_with fail
  (refine (rotr_any x 2 _ hx (by decide) (by decide)).mono ?_; rintro e w1 ⟨rfl, hb⟩; replace hG : Below w.heap.size w w1 := Grew.trans (by (repeat (first | assumption | exact Grew.refl _ | refine Grew.more ?_ _ | refine Grew.alloc ?_ _ | refine Grew.drewN ?_ _ | refine Grew.setRow ?_ _ _ (by omega) | refine Grew.setRow ?_ _ _ (by simp; omega) | refine Grew.setRow ?_ _ _ (by simp)))) hb; clear hb)
  go_wp2_with fail
  (refine (rotr_any x 13 _ hx (by decide) (by decide)).mono ?_; rintro e w2 ⟨rfl, hb⟩; replace hG : Below w.heap.size w w2 := Grew.trans (by (repeat (first | assumption | exact Grew.refl _ | refine Grew.more ?_ _ | refine Grew.alloc ?_ _ | refine Grew.drewN ?_ _ | refine Grew.setRow ?_ _ _ (by omega) | refine Grew.setRow ?_ _ _ (by simp; omega) | refine Grew.setRow ?_ _ _ (by simp)))) hb; clear hb)
  go_wp2_with fail
  (refine (rotr_any x 22 _ hx (by decide) (by decide)).mono ?_; rintro e w3 ⟨rfl, hb⟩; replace hG : Below w.heap.size w w3 := Grew.trans (by (repeat (first | assumption | exact Grew.refl _ | refine Grew.more ?_ _ | refine Grew.alloc ?_ _ | refine Grew.drewN ?_ _ | refine Grew.setRow ?_ _ _ (by omega) | refine Grew.setRow ?_ _ _ (by simp; omega) | refine Grew.setRow ?_ _ _ (by simp)))) hb; clear hb)
  go_wp2
  go_ret
  exact ⟨rfl, by (repeat (first | assumption | exact Grew.refl _ | refine Grew.more ?_ _ | refine Grew.alloc ?_ _ | refine Grew.drewN ?_ _ | refine Grew.setRow ?_ _ _ (by omega) | refine Grew.setRow ?_ _ _ (by simp; omega) | refine Grew.setRow ?_ _ _ (by simp)))⟩
set_option maxHeartbeats 400000 in
theorem gr1_any (x : Int) (w : World) (hx : W32 x) :
    Calls Tryd.prog 55 #[.int .u32 x] w fun e w' => e = .returned (.int .u32 (gr1 x)) ∧ Below w.heap.size w w' := by
  have hG := Grew.refl w
  go_enter Tryd.func55, Tryd.ntmps55
  go_wp2_with fail
  (refine (rotr_any x 6 _ hx (by decide) (by decide)).mono ?_; rintro e w1 ⟨rfl, hb⟩; replace hG : Below w.heap.size w w1 := Grew.trans (by (repeat (first | assumption | exact Grew.refl _ | refine Grew.more ?_ _ | refine Grew.alloc ?_ _ | refine Grew.drewN ?_ _ | refine Grew.setRow ?_ _ _ (by omega) | refine Grew.setRow ?_ _ _ (by simp; omega) | refine Grew.setRow ?_ _ _ (by simp)))) hb; clear hb)
  go_wp2_with fail
  (refine (rotr_any x 11 _ hx (by decide) (by decide)).mono ?_; rintro e w2 ⟨rfl, hb⟩; replace hG : Below w.heap.size w w2 := Grew.trans (by (repeat (first | assumption | exact Grew.refl _ | refine Grew.more ?_ _ | refine Grew.alloc ?_ _ | refine Grew.drewN ?_ _ | refine Grew.setRow ?_ _ _ (by omega) | refine Grew.setRow ?_ _ _ (by simp; omega) | refine Grew.setRow ?_ _ _ (by simp)))) hb; clear hb)
  go_wp2_with fail
  (refine (rotr_any x 25 _ hx (by decide) (by decide)).mono ?_; rintro e w3 ⟨rfl, hb⟩; replace hG : Below w.heap.size w w3 := Grew.trans (by (repeat (first | assumption | exact Grew.refl _ | refine Grew.more ?_ _ | refine Grew.alloc ?_ _ | refine Grew.drewN ?_ _ | refine Grew.setRow ?_ _ _ (by omega) | refine Grew.setRow ?_ _ _ (by simp; omega) | refine Grew.setRow ?_ _ _ (by simp)))) hb; clear hb)
  go_wp2
  go_ret
  exact ⟨rfl, by (repeat (first | assumption | exact Grew.refl _ | refine Grew.more ?_ _ | refine Grew.alloc ?_ _ | refine Grew.drewN ?_ _ | refine Grew.setRow ?_ _ _ (by omega) | refine Grew.setRow ?_ _ _ (by simp; omega) | refine Grew.setRow ?_ _ _ (by simp)))⟩
attribute [irreducible] rot sm0 sm1 gr0 gr1
end Go.Proofs.YtdihaffopfbnnaaDoor
