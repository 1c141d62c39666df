/- The field of the curve: of characteristic 2^255 - 19; its squares; each number but 0 is the x of a point of one of the two models. -/
import Derived.Test.YtfapmpnkemogkaaPrime
import Derived.Test.YtfapmpnkemogkaaLad
namespace Go.Proofs.Ytfapmpnkemogkaa
namespace Edw
open Lean.Grind
set_option linter.unusedVariables false
def hf : Nat := 28948022309329048855892746252171976963317496166410141009864396001978282409974
def qf : Nat := 14474011154664524427946373126085988481658748083205070504932198000989141204987
def rf : Nat := 7237005577332262213973186563042994240829374041602535252466099000494570602494
theorem hf_two : hf + hf = undo + 1 := by rw [undo_is]; rfl
theorem qf_two : qf + qf = hf := rfl
theorem rf_two : rf + rf = 1 + qf := rfl
theorem nres : 121665 ^ hf % 57896044618658097711785492504343953926634992332820282019728792003956564819949 = 57896044618658097711785492504343953926634992332820282019728792003956564819949 - 1 := by
  rw [← pmf_is 57896044618658097711785492504343953926634992332820282019728792003956564819949 256 121665 hf (by decide)]
  decide +kernel
attribute [irreducible] hf qf rf
attribute [local instance] Semiring.natCast Ring.intCast
/-- what is known of the field -/
structure Fp (F : Type) [CommRing F] : Prop where
  ext : ∀ x y : Int, ((x : F) = (y : F)) ↔ x % 57896044618658097711785492504343953926634992332820282019728792003956564819949 = y % 57896044618658097711785492504343953926634992332820282019728792003956564819949
  sur : ∀ x : F, ∃ n : Int, 0 ≤ n ∧ n < 57896044618658097711785492504343953926634992332820282019728792003956564819949 ∧ x = (n : F)
variable {F : Type} [CommRing F]
def finv (x : F) : F := x ^ undo
theorem pow_two' (x : F) (n : Nat) : x ^ n * x ^ n = x ^ (n + n) := (Semiring.pow_add x n n).symm
theorem mul_pow' (x y : F) : ∀ n : Nat, (x * y) ^ n = x ^ n * y ^ n
  | 0 => by rw [Semiring.pow_zero, Semiring.pow_zero, Semiring.pow_zero]; grind
  | n + 1 => by rw [Semiring.pow_succ, Semiring.pow_succ, Semiring.pow_succ, mul_pow' x y n]; grind
theorem Fp.ne (K : Fp F) (x y : Int) (h : x % 57896044618658097711785492504343953926634992332820282019728792003956564819949 ≠ y % 57896044618658097711785492504343953926634992332820282019728792003956564819949) : (x : F) ≠ (y : F) := fun e => h ((K.ext x y).1 e)
theorem Fp.mul_inv (K : Fp F) (x : F) (hx : x ≠ 0) : x * finv x = 1 := by
  obtain ⟨n, h0, h1, rfl⟩ := K.sur x
  have hn : n ≠ 0 := fun e => hx (by rw [e]; exact Ring.intCast_zero)
  have hf := fermat_int n (by omega) h1
  have := (K.ext (n * n ^ undo) 1).2 (by rw [hf]; rfl)
  rw [Ring.intCast_mul, Ring.intCast_pow, Ring.intCast_one] at this
  exact this
theorem Fp.fld (K : Fp F) : Fld F finv where
  one := by
    have := K.ne 1 0 (by decide)
    rwa [Ring.intCast_one, Ring.intCast_zero] at this
  two := by
    have := K.ne 2 0 (by decide)
    rwa [Ring.intCast_zero, show ((2 : Int) : F) = 2 from Ring.intCast_ofNat 2] at this
  mul_inv := K.mul_inv
theorem Fp.inv_zero (K : Fp F) : finv (0 : F) = 0 := by
  unfold finv
  obtain ⟨m, hm⟩ : ∃ m, undo = m + 1 := ⟨undo - 1, by have := undo_is; omega⟩
  rw [hm, Semiring.pow_succ]
  grind
/-- to the half: 1 or -1 -/
theorem Fp.half (K : Fp F) (w : F) (hw : w ≠ 0) : w ^ hf * w ^ hf = 1 := by
  rw [pow_two', hf_two, Semiring.pow_succ]
  have := K.mul_inv w hw
  unfold finv at this
  grind
theorem Fp.half_cases (K : Fp F) (w : F) (hw : w ≠ 0) : w ^ hf = 1 ∨ w ^ hf = -1 := by
  have h := K.half w hw
  rcases K.fld.zero (show (w ^ hf - 1) * (w ^ hf + 1) = 0 by grind) with h | h
  · exact .inl (by grind)
  · exact .inr (by grind)
theorem Fp.half_sq (K : Fp F) (t : F) (ht : t ≠ 0) : (t * t) ^ hf = 1 := by
  rw [mul_pow']
  exact K.half t ht
theorem nres_int : (121665 : Int) ^ hf % 57896044618658097711785492504343953926634992332820282019728792003956564819949 = (-1) % 57896044618658097711785492504343953926634992332820282019728792003956564819949 := by
  have h : ((121665 ^ hf % 57896044618658097711785492504343953926634992332820282019728792003956564819949 : Nat) : Int) = ((57896044618658097711785492504343953926634992332820282019728792003956564819949 - 1 : Nat) : Int) := by rw [nres]
  rw [Int.natCast_emod, Int.natCast_pow] at h
  exact h
theorem Fp.nres (K : Fp F) : (121665 : F) ^ hf = -1 := by
  have := (K.ext ((121665 : Int) ^ hf) (-1)).2 nres_int
  rwa [Ring.intCast_pow, Ring.intCast_neg_one, show ((121665 : Int) : F) = 121665 from Ring.intCast_ofNat 121665] at this
theorem Fp.c5 (K : Fp F) : (121665 : F) ≠ 0 := by
  have := K.ne 121665 0 (by decide)
  rwa [Ring.intCast_zero, show ((121665 : Int) : F) = 121665 from Ring.intCast_ofNat 121665] at this
theorem Fp.c6 (K : Fp F) : (121666 : F) ≠ 0 := by
  have := K.ne 121666 0 (by decide)
  rwa [Ring.intCast_zero, show ((121666 : Int) : F) = 121666 from Ring.intCast_ofNat 121666] at this
theorem Fp.res (K : Fp F) : ∃ r : F, r * r = 121666 := by
  refine ⟨((53349024335595116287218880480235248380932224208407348260407321313250266849793 : Int) : F), ?_⟩
  rw [← Ring.intCast_mul, (K.ext _ 121666).2 (by decide +kernel)]
  exact Ring.intCast_ofNat 121666
theorem Fp.im (K : Fp F) : ∃ i : F, i * i = -1 := by
  refine ⟨((19681161376707505956807079304988542015446066515923890162744021073123829784752 : Int) : F), ?_⟩
  rw [← Ring.intCast_mul, (K.ext _ (-1)).2 (by decide +kernel)]
  exact Ring.intCast_neg_one
theorem Fp.root (K : Fp F) (w : F) (h : w ^ hf = 1) : ∃ t : F, t * t = w := by
  have g2 : w ^ qf * w ^ qf = 1 := by rw [pow_two', qf_two, h]
  have r2 : w ^ rf * w ^ rf = w * w ^ qf := by rw [pow_two', rf_two, Semiring.pow_add, Semiring.pow_one]
  generalize w ^ qf = g at *
  generalize w ^ rf = r at *
  rcases K.fld.zero (show (g - 1) * (g + 1) = 0 by grind) with h1 | h1
  · exact ⟨r, by grind⟩
  · obtain ⟨i, hi⟩ := K.im
    exact ⟨i * r, by grind⟩
theorem Fp.signs (K : Fp F) : (1 : F) ≠ -1 := fun h => K.fld.two (by grind)
/-- no square -/
theorem Fp.nosq (K : Fp F) (t c : F) (hc : c ^ hf = -1) (h0 : c ≠ 0) : t * t ≠ c := fun h => by
  have ht : t ≠ 0 := fun e => h0 (by rw [← h, e]; exact zz)
  have := K.half_sq t ht
  rw [h, hc] at this
  exact K.signs this.symm
theorem Fp.both_hf (K : Fp F) : (121665 * 121666 : F) ^ hf = -1 := by
  obtain ⟨r, hr⟩ := K.res
  have hr0 : r ≠ 0 := fun e => K.c6 (by rw [← hr, e]; exact zz)
  have := K.half_sq r hr0
  rw [mul_pow', K.nres, ← hr, this]
  grind
theorem Fp.crv1 (K : Fp F) {d : F} (hd : 121666 * d = 121665) : Crv F finv d := { K.fld with nonsq := fun t h => K.nosq (121666 * t) (121665 * 121666) K.both_hf (K.fld.ne K.c5 K.c6) (by rw [← hd, ← h]; grind) }
theorem Fp.crv2 (K : Fp F) {d : F} (hd : 121665 * d = 121666) : Crv F finv d := { K.fld with nonsq := fun t h => K.nosq (121665 * t) (121665 * 121666) K.both_hf (K.fld.ne K.c5 K.c6) (by rw [← hd, ← h]; grind) }
theorem Fp.quad (K : Fp F) (u : F) : u * u + 486662 * u + 1 ≠ 0 := fun h => by
  have h4 : (4 : F) ≠ 0 := by have := K.fld.ne K.fld.two K.fld.two; exact fun e => this (by grind)
  refine K.nosq (2 * u + 486662) (4 * 4 * (121665 * 121666)) ?_ (K.fld.ne (K.fld.ne h4 h4) (K.fld.ne K.c5 K.c6)) (by grind)
  rw [mul_pow', K.both_hf, K.half_sq 4 h4]
  grind
theorem model1 (u v r X Y d : F) (hX : X * v = 2 * r * u) (hY : Y * (u + 1) = u - 1) (hv : v * v = u * (u * u + 486662 * u + 1)) (hr : r * r = 121666) (hd : 121666 * d = 121665) :
    (X * X + Y * Y) * (v * v * ((u + 1) * (u + 1))) = (1 + d * X * X * Y * Y) * (v * v * ((u + 1) * (u + 1))) := by
  have e1 : X * X * (v * v) = 4 * 121666 * (u * u) := by rw [← hr]; grind
  have e2 : Y * Y * ((u + 1) * (u + 1)) = (u - 1) * (u - 1) := by grind
  have l : (X * X + Y * Y) * (v * v * ((u + 1) * (u + 1))) = X * X * (v * v) * ((u + 1) * (u + 1)) + Y * Y * ((u + 1) * (u + 1)) * (v * v) := by clear hX hY hv hr hd e1 e2; grind
  have r' : (1 + d * X * X * Y * Y) * (v * v * ((u + 1) * (u + 1))) = v * v * ((u + 1) * (u + 1)) + d * (X * X * (v * v)) * (Y * Y * ((u + 1) * (u + 1))) := by clear hX hY hv hr hd e1 e2; grind
  rw [l, r', e1, e2, hv]
  clear l r' e1 e2 hX hY hv hr
  grind
theorem model2 (u v X Y d : F) (hX : X * v = 2 * 121665 * u) (hY : Y * (u - 1) = u + 1) (hv : v * v = 121665 * (u * (u * u + 486662 * u + 1))) (hd : 121665 * d = 121666) :
    (X * X + Y * Y) * (v * v * ((u - 1) * (u - 1))) = (1 + d * X * X * Y * Y) * (v * v * ((u - 1) * (u - 1))) := by
  have e1 : X * X * (v * v) = 4 * 121665 * 121665 * (u * u) := by grind
  have e2 : Y * Y * ((u - 1) * (u - 1)) = (u + 1) * (u + 1) := by grind
  have l : (X * X + Y * Y) * (v * v * ((u - 1) * (u - 1))) = X * X * (v * v) * ((u - 1) * (u - 1)) + Y * Y * ((u - 1) * (u - 1)) * (v * v) := by clear hX hY hv hd e1 e2; grind
  have r' : (1 + d * X * X * Y * Y) * (v * v * ((u - 1) * (u - 1))) = v * v * ((u - 1) * (u - 1)) + d * (X * X * (v * v)) * (Y * Y * ((u - 1) * (u - 1))) := by clear hX hY hv hd e1 e2; grind
  rw [l, r', e1, e2, hv]
  clear l r' e1 e2 hX hY hv
  grind
/-- each number but 0 is a point's x, on one of the two models -/
theorem Fp.way (K : Fp F) (u : F) (hu : u ≠ 0) : ∃ s d P, Way F finv s d u P := by
  have hw : u * (u * u + 486662 * u + 1) ≠ 0 := K.fld.ne hu (K.quad u)
  have h2 := K.fld.two
  obtain ⟨r, hr⟩ := K.res
  have hr0 : r ≠ 0 := fun e => K.c6 (by rw [← hr, e]; exact zz)
  rcases K.half_cases _ hw with h | h
  · obtain ⟨v, hv⟩ := K.root _ h
    have hv0 : v ≠ 0 := fun e => hw (by rw [← hv, e]; exact zz)
    have h1 : u + 1 ≠ 0 := fun e => by
      have hu1 : u = -1 := by grind
      rw [show u * (u * u + 486662 * u + 1) = 2 * 2 * 121665 by rw [hu1]; grind, mul_pow', K.nres, K.half_sq 2 h2] at h
      exact K.signs (by rw [← h]; grind)
    have hd := K.mul_inv _ K.c6
    have hd' : 121666 * (121665 * finv (121666 : F)) = 121665 := by grind
    have iv := K.mul_inv _ hv0
    have i1 := K.mul_inv _ h1
    refine ⟨1, 121665 * finv 121666, (2 * r * u * finv v, (u - 1) * finv (u + 1)), K.crv1 hd', .inl ⟨rfl, hd'⟩, ?_, ?_, hu, K.c5, K.c6, K.inv_zero⟩
    · refine K.fld.cancel (K.fld.ne (K.fld.ne hv0 hv0) (K.fld.ne h1 h1)) (model1 u v r _ _ _ ?_ ?_ hv hr hd')
      · show 2 * r * u * finv v * v = 2 * r * u
        generalize finv v = x at *
        clear hd hd' i1
        grind
      · show (u - 1) * finv (u + 1) * (u + 1) = u - 1
        generalize finv (u + 1) = x at *
        clear hd hd' iv
        grind
    · show u * (1 - (u - 1) * finv (u + 1)) * 1 = 1 + (u - 1) * finv (u + 1)
      generalize finv (u + 1) = x at *
      clear hd hd' iv
      grind
  · obtain ⟨v, hv⟩ := K.root (121665 * (u * (u * u + 486662 * u + 1))) (by rw [mul_pow', K.nres, h]; grind)
    have hv0 : v ≠ 0 := fun e => K.fld.ne K.c5 hw (by rw [← hv, e]; exact zz)
    have h1 : u - 1 ≠ 0 := fun e => by
      have hu1 : u = 1 := by grind
      rw [show u * (u * u + 486662 * u + 1) = 2 * r * (2 * r) by rw [hu1]; grind, K.half_sq _ (K.fld.ne h2 hr0)] at h
      exact K.signs h
    have hd := K.mul_inv _ K.c5
    have hd' : 121665 * (121666 * finv (121665 : F)) = 121666 := by grind
    have iv := K.mul_inv _ hv0
    have i1 := K.mul_inv _ h1
    refine ⟨-1, 121666 * finv 121665, (2 * 121665 * u * finv v, (u + 1) * finv (u - 1)), K.crv2 hd', .inr ⟨rfl, hd'⟩, ?_, ?_, hu, K.c5, K.c6, K.inv_zero⟩
    · refine K.fld.cancel (K.fld.ne (K.fld.ne hv0 hv0) (K.fld.ne h1 h1)) (model2 u v _ _ _ ?_ ?_ hv hd')
      · show 2 * 121665 * u * finv v * v = 2 * 121665 * u
        generalize finv v = x at *
        clear hd hd' i1
        grind
      · show (u + 1) * finv (u - 1) * (u - 1) = u + 1
        generalize finv (u - 1) = x at *
        clear hd hd' iv
        grind
    · show u * (1 - (u + 1) * finv (u - 1)) * -1 = 1 + (u + 1) * finv (u - 1)
      generalize finv (u - 1) = x at *
      clear hd hd' iv
      grind
end Edw
end Go.Proofs.Ytfapmpnkemogkaa
