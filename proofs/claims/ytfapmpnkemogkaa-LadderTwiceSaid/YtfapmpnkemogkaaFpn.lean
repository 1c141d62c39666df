/- The ladder over the numbers modulo 2^255 - 19. -/
import Derived.Test.YtfapmpnkemogkaaFp
namespace Go.Proofs.Ytfapmpnkemogkaa
namespace Edw
open Lean.Grind
set_option linter.unusedVariables false
attribute [local instance] Semiring.natCast Ring.intCast
theorem fp_of {F : Type} [CommRing F] [IsCharP F 57896044618658097711785492504343953926634992332820282019728792003956564819949] (h : ∀ x : F, ∃ n : Int, x = (n : F)) : Fp F where
  ext x y := by
    have := IsCharP.intCast_ext_iff (α := F) 57896044618658097711785492504343953926634992332820282019728792003956564819949 (x := x) (y := y)
    exact this
  sur x := by
    obtain ⟨n, rfl⟩ := h x
    have e : ((57896044618658097711785492504343953926634992332820282019728792003956564819949 : Nat) : Int) = 57896044618658097711785492504343953926634992332820282019728792003956564819949 := rfl
    have h2 := (IsCharP.intCast_emod (α := F) 57896044618658097711785492504343953926634992332820282019728792003956564819949 n).symm
    exact ⟨n % 57896044618658097711785492504343953926634992332820282019728792003956564819949, by omega, by omega, h2⟩
/-- multiples of multiples hang on no order; 0 times is 0, once is itself -/
theorem Fp.swap {F : Type} [CommRing F] (K : Fp F) (u : F) (j k : Nat) (hj : j < 2 ^ 256) (hk : k < 2 ^ 256) : lad finv (lad finv u k) j = lad finv (lad finv u j) k := lad_swap K.fld K.inv_zero K.way u j k hj hk
theorem Fp.one {F : Type} [CommRing F] (K : Fp F) (u : F) : lad finv u 1 = u := lad_one K.fld K.inv_zero K.way u
theorem Fp.mul {F : Type} [CommRing F] (K : Fp F) (u : F) (j k : Nat) (hj : j < 2 ^ 256) (hk : k < 2 ^ 256) (hjk : j * k < 2 ^ 256) : lad finv (lad finv u k) j = lad finv u (j * k) := lad_mul K.fld K.inv_zero K.way u j k hj hk hjk
end Edw
end Go.Proofs.Ytfapmpnkemogkaa
