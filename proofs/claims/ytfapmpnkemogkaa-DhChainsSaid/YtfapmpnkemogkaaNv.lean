/- The number that an element stands for, and its key by that number. -/
import Derived.Test.YtfapmpnkemogkaaAdds
namespace Go.Proofs.Ytfapmpnkemogkaa
open Go.RowKit
set_option linter.unusedVariables false
set_option linter.unusedSimpArgs false

/-- the number of an element -/
def nv (f : Nat → Int) : Int := valE f % 57896044618658097711785492504343953926634992332820282019728792003956564819949
theorem nv_bd (f : Nat → Int) : 0 ≤ nv f ∧ nv f < 57896044618658097711785492504343953926634992332820282019728792003956564819949 := by unfold nv; omega
theorem nv_carry (f : Nat → Int) : nv (carryF f) = nv f := val_carry f
theorem nv_plus (a b : Nat → Int) : nv (carryF (plus a b)) = (nv a + nv b) % 57896044618658097711785492504343953926634992332820282019728792003956564819949 := by
  rw [nv_carry]; unfold nv; rw [val_plus]; omega
theorem nv_minus (a b : Nat → Int) : nv (carryF (minus a b)) = (nv a - nv b) % 57896044618658097711785492504343953926634992332820282019728792003956564819949 := by
  rw [nv_carry]; unfold nv; rw [val_minus, val_modl]; omega
theorem nv_nought : nv nought = 0 := by unfold nv; rw [val_nought]; rfl
theorem nv_of (k : Nat → Int) (hk : Bytes 32 k) : nv (ofF k) = valE (ofF k) % 57896044618658097711785492504343953926634992332820282019728792003956564819949 := rfl
/-- the key of a number: one key, one number -/
def keyV (x : Int) : Nat → Int := keyN x
theorem keyV_any (f : Nat → Int) (w : World) (hf : Under 18014398509481984 f) :
    Calls Try.prog 41 #[.agg (ints .u64 5 f)] w fun e w' => e = .returned (.agg (ints .u8 32 (keyV (nv f)))) ∧ Below w.heap.size w w' := by
  have := key_any f w hf
  rw [key_val f hf] at this
  exact this
theorem keyV_same {x y : Int} (h : x = y) : same 32 (keyV x) (keyV y) = true := by rw [h]; exact same_refl _ _
theorem keyV_zero : keyV 0 = nought ∨ same 32 (keyV 0) nought = true := .inr (by kernel_rfl)
theorem keyV_nought {x : Int} (h : x = 0) : same 32 (keyV x) nought = true := by rw [h]; kernel_rfl
theorem loose_tight {f : Nat → Int} (h : Under 4503599627370496 f) : Under 18014398509481984 f := fun i hi => by have := h i hi; omega
end Go.Proofs.Ytfapmpnkemogkaa
