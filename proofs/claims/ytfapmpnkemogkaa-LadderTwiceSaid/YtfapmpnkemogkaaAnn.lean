/- What multiples of a point come to the neutral one. -/
import Derived.Test.YtfapmpnkemogkaaLad
import Derived.Test.YtfapmpnkemogkaaOrd
namespace Go.Proofs.Ytfapmpnkemogkaa
namespace Edw
open Lean.Grind
set_option linter.unusedVariables false
variable {F : Type} [CommRing F] {inv : F → F}
theorem Crv.mul_O {d : F} (K : Crv F inv d) : ∀ n, mul inv d n (O : F × F) = O
  | 0 => rfl
  | n + 1 => by
    show add inv d (mul inv d n O) O = O
    rw [K.mul_O n, K.add_O (O_on d)]
theorem Crv.O_add {d : F} (K : Crv F inv d) {P : F × F} (hP : On d P) : add inv d O P = P := by rw [Crv.add_comm, K.add_O hP]
/-- two multiples that come to nothing: so does their greatest common divisor's -/
theorem Crv.ann_gcd {d : F} (K : Crv F inv d) {P : F × F} (hP : On d P) (m n : Nat) : mul inv d m P = O → mul inv d n P = O → mul inv d (Nat.gcd m n) P = O := by
  induction m, n using Nat.gcd.induction with
  | H0 n => intro _ h; rw [Nat.gcd_zero_left]; exact h
  | H1 m n hm ih =>
    intro h1 h2
    rw [Nat.gcd_rec]
    refine ih ?_ h1
    have e : mul inv d n P = add inv d (mul inv d (n / m * m) P) (mul inv d (n % m) P) := by
      rw [← K.mul_plus hP, Nat.div_add_mod']
    rw [K.mul_mul hP, h1, K.mul_O, K.O_add (K.mul_on hP _)] at e
    rw [← e]; exact h2
/-- of a point of prime order: what isn't divided by it, doesn't come to nothing -/
theorem Crv.ann_prime {d : F} (K : Crv F inv d) {P : F × F} (hP : On d P) (l n : Nat) (hl : IsPrime l) (h1 : mul inv d l P = O) (h2 : mul inv d n P = O) (h0 : P ≠ O) : l ∣ n := by
  have h := K.ann_gcd hP l n h1 h2
  rcases hl.2 _ (Nat.gcd_dvd_left l n) with g | g
  · rw [g, K.mul_one hP] at h
    exact absurd h h0
  · rw [← g]; exact Nat.gcd_dvd_right l n
/-- twice a point of order 2 is nothing -/
theorem Crv.pole_two {d : F} (K : Crv F inv d) {Q : F × F} (hQ : On d Q) (h : Q.2 * Q.2 = 1) : mul inv d 2 Q = O := by
  have hx := K.pole hQ h
  have e : mul inv d 2 Q = add inv d Q Q := by
    show add inv d (mul inv d 1 Q) Q = _
    rw [K.mul_one hQ]
  have hn : neg Q = Q := by unfold neg; refine Prod.ext ?_ rfl; show -Q.1 = Q.1; rw [hx]; grind
  rw [e]
  have := K.add_neg hQ
  rwa [hn] at this
/-- of a point of odd prime order, what it doesn't divide has an x that isn't 0 -/
theorem Way.nonzero {s d u : F} {P : F × F} (W : Way F inv s d u P) (l n : Nat) (hl : IsPrime l) (h2 : ¬ l ∣ 2) (h1 : mul inv d l P = O) (hn : ¬ l ∣ n) : aff inv s (mul inv d n P) ≠ 0 := fun h => by
  have hp := aff_zero W.K.toFld (sq_ne W.m) h
  have h3 := W.K.pole_two (W.K.mul_on W.on n) hp
  rw [← W.K.mul_mul W.on] at h3
  have h0 : P ≠ O := fun e => by
    have c := W.cor
    rw [e] at c
    simp only [O] at c
    exact W.K.two (by grind)
  rcases prime_mul hl (W.K.ann_prime W.on l (2 * n) hl h1 h3 h0) with h | h
  · exact h2 h
  · exact hn h
end Edw
end Go.Proofs.Ytfapmpnkemogkaa
