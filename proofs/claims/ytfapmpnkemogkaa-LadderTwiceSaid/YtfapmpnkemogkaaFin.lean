/- The numbers modulo 2^255 - 19, as a field for the ladder. -/
import Derived.Test.YtfapmpnkemogkaaFpn
namespace Go.Proofs.Ytfapmpnkemogkaa
namespace Edw
open Lean.Grind
set_option linter.unusedVariables false
instance neP : NeZero (57896044618658097711785492504343953926634992332820282019728792003956564819949 : Nat) := ⟨by decide⟩
def Gp : Type := Fin 57896044618658097711785492504343953926634992332820282019728792003956564819949
instance gpRing : CommRing Gp := inferInstanceAs (CommRing (Fin 57896044618658097711785492504343953926634992332820282019728792003956564819949))
instance gpChar : IsCharP Gp 57896044618658097711785492504343953926634992332820282019728792003956564819949 := inferInstanceAs (IsCharP (Fin 57896044618658097711785492504343953926634992332820282019728792003956564819949) 57896044618658097711785492504343953926634992332820282019728792003956564819949)
attribute [local instance] Semiring.natCast Ring.intCast
theorem fin_nat (n : Nat) [NeZero n] (x : Fin n) : ((x.val : Nat) : Fin n) = x := by
  apply Fin.ext
  show x.val % n = x.val
  exact Nat.mod_eq_of_lt x.isLt
theorem gp_all (x : Gp) : ∃ n : Int, x = (n : Gp) := ⟨((x.val : Nat) : Int), by
  rw [Ring.intCast_natCast]
  exact (fin_nat _ x).symm⟩
theorem gp : Fp Gp := fp_of gp_all
/-- a number, modulo p -/
def red (x : Int) : Gp := (x : Gp)
theorem red_eq (x y : Int) : red x = red y ↔ x % 57896044618658097711785492504343953926634992332820282019728792003956564819949 = y % 57896044618658097711785492504343953926634992332820282019728792003956564819949 := gp.ext x y
theorem red_add (x y : Int) : red (x + y) = red x + red y := Ring.intCast_add x y
theorem red_sub (x y : Int) : red (x - y) = red x - red y := Ring.intCast_sub x y
theorem red_mul (x y : Int) : red (x * y) = red x * red y := Ring.intCast_mul x y
theorem red_pow (x : Int) (n : Nat) : red (x ^ n) = red x ^ n := Ring.intCast_pow x n
theorem red_mod (x : Int) : red (x % 57896044618658097711785492504343953926634992332820282019728792003956564819949) = red x := (red_eq _ _).2 (by omega)
end Edw
end Go.Proofs.Ytfapmpnkemogkaa
