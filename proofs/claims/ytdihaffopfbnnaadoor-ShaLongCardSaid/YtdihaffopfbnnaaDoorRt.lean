/- The reference of layer 7: words turned and moved; the table of words. -/
import Derived.Test.YtdihaffopfbnnaaDoorSs
namespace Go.Proofs.YtdihaffopfbnnaaDoor
open Go.RowKit
set_option linter.unusedVariables false
set_option linter.unusedSimpArgs false

theorem val_w32 {x y : Int} (h : x = y) : Value.int .u32 x = .int .u32 y := by rw [h]
theorem rot_zero {x : Int} (h : W32 x) : rot ((0 : Nat) : Int) x = x := by
  obtain ⟨a, rfl, ha⟩ := h.nat
  rw [(rot_nat 0 (by decide) a ha).1]
  congr 1
  rw [Nat.pow_zero, Nat.div_one, Nat.mod_one, Nat.zero_mul, Nat.add_zero]
theorem rot_succ {x : Int} (h : W32 x) (k : Nat) (hk : k < 32) : rot (k : Int) x / 2 + rot (k : Int) x % 2 * 2147483648 = rot ((k + 1 : Nat) : Int) x := by
  obtain ⟨a, rfl, ha⟩ := h.nat
  rw [(rot_nat k (by omega) a ha).1, (rot_nat (k + 1) (by omega) a ha).1]
  have e1 : 2 ^ (32 - k) = 2 * 2 ^ (31 - k) := by rw [show 32 - k = 31 - k + 1 by omega, Nat.pow_succ, Nat.mul_comm]
  have e2 : 32 - (k + 1) = 31 - k := by omega
  have e3 : 2 ^ k * 2 ^ (31 - k) = 2147483648 := by rw [← Nat.pow_add, show k + (31 - k) = 31 by omega]
  have e4 : a / 2 ^ (k + 1) = a / 2 ^ k / 2 := by rw [Nat.pow_succ, Nat.div_div_eq_div_mul]
  have e5 : a % 2 ^ (k + 1) = a % 2 ^ k + 2 ^ k * (a / 2 ^ k % 2) := by rw [Nat.pow_succ, Nat.mod_mul]
  rw [e1, e2, e4, e5, Nat.add_mul]
  have e6 : a % 2 ^ k * (2 * 2 ^ (31 - k)) = 2 * (a % 2 ^ k * 2 ^ (31 - k)) := by rw [Nat.mul_left_comm]
  have e7 : 2 ^ k * (a / 2 ^ k % 2) * 2 ^ (31 - k) = 2147483648 * (a / 2 ^ k % 2) := by rw [Nat.mul_right_comm, e3]
  rw [e6, e7]
  generalize a / 2 ^ k = A
  generalize a % 2 ^ k * 2 ^ (31 - k) = B
  omega
set_option maxHeartbeats 1000000 in
theorem turn_any (x n : Int) (w : World) (hx : W32 x) (h0 : 0 ≤ n) (h1 : n ≤ 32) :
    Calls Tryd.prog 43 #[.int .u32 x, .int .i64 n] w fun e w' => e = .returned (.int .u32 (rot n x)) ∧ Below w.heap.size w w' := by
  obtain ⟨N, rfl⟩ := Int.eq_ofNat_of_zero_le h0
  have hN : N ≤ 32 := by omega
  have R0 : Hid (rot ((0 : Nat) : Int) x = x) := rot_zero hx
  have RS : Hid (∀ k : Nat, k < 32 → rot (k : Int) x / 2 + rot (k : Int) x % 2 * 2147483648 = rot ((k + 1 : Nat) : Int) x) := fun k hk => rot_succ hx k hk
  have hb : ∀ k : Nat, k ≤ 32 → W32 (rot (k : Int) x) := fun k hk => w32_rot hx k (by omega) (by omega)
  generalize hr : (fun k : Nat => rot (k : Int) x) = r at *
  have er : ∀ k : Nat, rot (k : Int) x = r k := fun k => by rw [← hr]
  simp only [er] at R0 RS hb ⊢
  clear er hr
  go_enter Tryd.func43, Tryd.ntmps43
  go_wp2_with fail
  go_loopw [0, 5] (fun v i wr => ∃ k : Nat, k ≤ N ∧ i = .int .i64 k ∧ v = .int .u32 (r k) ∧ wr = w) (fun _ i _ => N - (intOf i).toNat)
  case atStart => exact ⟨0, by omega, rfl, by rw [R0.out], rfl⟩
  case round =>
    obtain ⟨k, hk, rfl, rfl, rfl⟩ := hrel
    by_cases hlt : k < N
    · have hbk := hb k (by omega)
      have S := RS.out k (by omega)
      have S' : Hid (r k / 2 + r k % 2 * 2147483648 = r (k + 1)) := S
      unfold W32 at hbk
      clear S
      go_wp2
      go_roundw
      case rel => exact ⟨k + 1, by omega, by go_num, by rw [← S'.out], trivial⟩
      case measure => simp [intOf]; omega
    · obtain rfl : k = N := by omega
      go_wp2
      go_ret
      exact ⟨rfl, Grew.refl _⟩
set_option maxHeartbeats 1000000 in
theorem move_any (x n : Int) (w : World) (hx : W32 x) (h0 : 0 ≤ n) (h1 : n ≤ 64) :
    Calls Tryd.prog 28 #[.int .u32 x, .int .i64 n] w fun e w' => e = .returned (.int .u32 (x / 2 ^ n.toNat)) ∧ Below w.heap.size w w' := by
  obtain ⟨N, rfl⟩ := Int.eq_ofNat_of_zero_le h0
  have hN : N ≤ 64 := by omega
  have R0 : Hid (x / 2 ^ 0 = x) := by show x / 1 = x; rw [Int.ediv_one]
  have RS : Hid (∀ k : Nat, x / 2 ^ k / 2 = x / 2 ^ (k + 1)) := fun k => by rw [Int.pow_succ, Int.ediv_ediv_of_nonneg (Int.pow_nonneg (by decide))]
  have hb : ∀ k : Nat, W32 (x / 2 ^ k) := fun k => w32_div hx _ (Int.pow_pos (by decide))
  rw [show ((N : Int)).toNat = N by omega]
  generalize hr : (fun k : Nat => x / 2 ^ k) = r at *
  have er : ∀ k : Nat, x / 2 ^ k = r k := fun k => by rw [← hr]
  simp only [er] at R0 RS hb ⊢
  clear er hr
  go_enter Tryd.func28, Tryd.ntmps28
  go_wp2_with fail
  go_loopw [0, 5] (fun v i wr => ∃ k : Nat, k ≤ N ∧ i = .int .i64 k ∧ v = .int .u32 (r k) ∧ wr = w) (fun _ i _ => N - (intOf i).toNat)
  case atStart => exact ⟨0, by omega, rfl, by rw [R0.out], rfl⟩
  case round =>
    obtain ⟨k, hk, rfl, rfl, rfl⟩ := hrel
    by_cases hlt : k < N
    · have hbk := hb k
      have S' : Hid (r k / 2 = r (k + 1)) := RS.out k
      unfold W32 at hbk
      go_wp2
      go_roundw
      case rel => exact ⟨k + 1, by omega, by go_num, by rw [← S'.out], trivial⟩
      case measure => simp [intOf]; omega
    · obtain rfl : k = N := by omega
      go_wp2
      go_ret
      exact ⟨rfl, Grew.refl _⟩
end Go.Proofs.YtdihaffopfbnnaaDoor
