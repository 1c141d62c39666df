/- LimbAdds. -/
import Derived.Test.YtfapmpnkemogkaaSub02
import Derived.Test.YtfapmpnkemogkaaSum
import Derived.Test.YtfapmpnkemogkaaReads
namespace Go.Proofs.Ytfapmpnkemogkaa
open Go.RowKit
set_option linter.unusedVariables false
set_option linter.unusedSimpArgs false

/-- the sum of the numbers of elements, by the reference -/
def sumN (F : Nat → Nat → Int) : Nat → Int
  | 0 => 0
  | j + 1 => (sumN F j + valE (F j) % 57896044618658097711785492504343953926634992332820282019728792003956564819949) % 57896044618658097711785492504343953926634992332820282019728792003956564819949
theorem sumN_bd (F : Nat → Nat → Int) : ∀ n, 0 ≤ sumN F n ∧ sumN F n < 57896044618658097711785492504343953926634992332820282019728792003956564819949
  | 0 => by simp [sumN]
  | n + 1 => by unfold sumN; omega
theorem sumF_val (F : Nat → Nat → Int) : ∀ n, valE (sumF F n) % 57896044618658097711785492504343953926634992332820282019728792003956564819949 = sumN F n
  | 0 => by rw [show sumF F 0 = nought from rfl, val_nought]; rfl
  | n + 1 => by
    rw [show sumF F (n + 1) = carryF (plus (sumF F n) (F n)) from rfl, val_carry, val_plus, sumN, ← sumF_val F n]
    omega
theorem limbsV_any (e : Nat → Int) (w : World) (he : ∀ i, i < 5 → 0 ≤ e i ∧ e i ≤ 18446744073709551615) :
    Calls Try.prog 43 #[.agg (ints .u64 5 e)] w fun e' w' => e' = .returned (.agg (ints .i64 16 (numN (valE e % 57896044618658097711785492504343953926634992332820282019728792003956564819949)))) ∧ Below w.heap.size w w' := by
  have := limbs_any e w he
  rw [hv_val] at this
  exact this
theorem addN_any (x y : Int) (w : World) (hx : 0 ≤ x ∧ x < 57896044618658097711785492504343953926634992332820282019728792003956564819949) (hy : 0 ≤ y ∧ y < 57896044618658097711785492504343953926634992332820282019728792003956564819949) :
    Calls Try.prog 44 #[.agg (ints .i64 16 (numN x)), .agg (ints .i64 16 (numN y))] w fun e w' => e = .returned (.agg (ints .i64 16 (numN ((x + y) % 57896044618658097711785492504343953926634992332820282019728792003956564819949)))) ∧ Below w.heap.size w w' := by
  have := refAdd_any (numN x) (numN y) w (numN_digits x) (numN_digits y)
  rw [num_val hx.1 hx.2, num_val hy.1 hy.2] at this
  exact this
theorem tight_carry (f : Nat → Int) (hf : Under 288230376151711744 f) : Under 4503599627370496 (carryF f) := fun i hi => by
  obtain ⟨a0, b0⟩ := hf 0 (by decide)
  obtain ⟨a1, b1⟩ := hf 1 (by decide)
  obtain ⟨a2, b2⟩ := hf 2 (by decide)
  obtain ⟨a3, b3⟩ := hf 3 (by decide)
  obtain ⟨a4, b4⟩ := hf 4 (by decide)
  rcases (by omega : i = 0 ∨ i = 1 ∨ i = 2 ∨ i = 3 ∨ i = 4) with rfl | rfl | rfl | rfl | rfl
  · rw [carry_0]; omega
  · rw [carry_1]; omega
  · rw [carry_2]; omega
  · rw [carry_3]; omega
  · rw [carry_4]; omega
theorem under_plus (a b : Nat → Int) (ha : Under 18014398509481984 a) (hb : Under 18014398509481984 b) : Under 288230376151711744 (plus a b) := fun i hi => by
  have := ha i hi; have := hb i hi; unfold plus; omega
theorem under_minus (a b : Nat → Int) (ha : Under 18014398509481984 a) (hb : Under 18014398509481984 b) : Under 288230376151711744 (minus a b) := fun i hi => by
  have := ha i hi; have := hb i hi; have := modl_bd i; unfold minus; omega
theorem tight_sum (F : Nat → Nat → Int) (n : Nat) (h : ∀ j, j < n → Under 18014398509481984 (F j)) : Under 4503599627370496 (sumF F n) := by
  cases n with
  | zero => exact fun i _ => by show 0 ≤ nought i ∧ nought i ≤ _; unfold nought; omega
  | succ n => exact tight_carry _ (under_plus _ _ (loose_sum F n fun j hj => h j (by omega)) (h n (by omega)))
end Go.Proofs.Ytfapmpnkemogkaa
