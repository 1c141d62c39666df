/- A point's x, so many times, as a number; what the order of 9 says of it. -/
import Derived.Test.YtfapmpnkemogkaaFin
import Derived.Test.YtfapmpnkemogkaaAnn
namespace Go.Proofs.Ytfapmpnkemogkaa
namespace Edw
open Lean.Grind
set_option linter.unusedVariables false
/-- the way of what comes -/
theorem Way.next {F : Type} [CommRing F] {inv : F → F} {s d u : F} {P : F × F} (W : Way F inv s d u P) (k : Nat) (hk : k < 2 ^ 256) (h : Edw.lad inv u k ≠ 0) : Way F inv s d (Edw.lad inv u k) (mul inv d k P) := by
  rw [W.lad k hk] at h ⊢
  have hQ := W.K.mul_on W.on k
  generalize mul inv d k P = Q at *
  have ht : (1 - Q.2) * s ≠ 0 := fun e => h (by unfold Edw.aff; rw [e, W.z]; grind)
  have i := W.K.mul_inv _ ht
  exact ⟨W.K, W.m, hQ, by unfold Edw.aff; generalize inv ((1 - Q.2) * s) = it at *; grind, h, W.c5, W.c6, W.z⟩
attribute [local instance] Semiring.natCast Ring.intCast
/-- the number of an element of the field -/
def gval (x : Gp) : Int := ((show Fin 57896044618658097711785492504343953926634992332820282019728792003956564819949 from x).val : Int)
theorem gval_bd (x : Gp) : 0 ≤ gval x ∧ gval x < 57896044618658097711785492504343953926634992332820282019728792003956564819949 := by
  unfold gval
  have := (show Fin 57896044618658097711785492504343953926634992332820282019728792003956564819949 from x).isLt
  omega
theorem red_gval (x : Gp) : red (gval x) = x := by
  unfold red gval
  rw [Ring.intCast_natCast]
  exact fin_nat _ x
theorem red_inj {x y : Int} (hx : 0 ≤ x ∧ x < 57896044618658097711785492504343953926634992332820282019728792003956564819949) (hy : 0 ≤ y ∧ y < 57896044618658097711785492504343953926634992332820282019728792003956564819949) (h : red x = red y) : x = y := by
  have := (red_eq x y).1 h
  omega
theorem red_zero : red 0 = 0 := Ring.intCast_zero
theorem red_one : red 1 = 1 := Ring.intCast_one
theorem red_neg (x : Int) : red (-x) = - red x := Ring.intCast_neg x
/-- a point's x, so many times, as a number -/
def tv (K : Nat) (v : Int) : Int := gval (lad finv (red v) K)
theorem tv_bd (K : Nat) (v : Int) : 0 ≤ tv K v ∧ tv K v < 57896044618658097711785492504343953926634992332820282019728792003956564819949 := gval_bd _
theorem tv_red (K : Nat) (v : Int) : red (tv K v) = lad finv (red v) K := red_gval _
theorem tv_of {K : Nat} {v x : Int} (hx : 0 ≤ x ∧ x < 57896044618658097711785492504343953926634992332820282019728792003956564819949) (h : red x = lad finv (red v) K) : x = tv K v := red_inj hx (tv_bd _ _) (h.trans (tv_red _ _).symm)
theorem tv_swap (v : Int) (j k : Nat) (hj : j < 2 ^ 256) (hk : k < 2 ^ 256) : tv j (tv k v) = tv k (tv j v) := red_inj (tv_bd _ _) (tv_bd _ _) (by
  rw [tv_red, tv_red, tv_red, tv_red]
  exact gp.swap (red v) j k hj hk)
theorem tv_one (v : Int) (hv : 0 ≤ v ∧ v < 57896044618658097711785492504343953926634992332820282019728792003956564819949) : tv 1 v = v := red_inj (tv_bd _ _) hv (by
  rw [tv_red]
  exact gp.one (red v))
theorem tv_mul (v : Int) (j k : Nat) (hj : j < 2 ^ 256) (hk : k < 2 ^ 256) (hjk : j * k < 2 ^ 256) : tv j (tv k v) = tv (j * k) v := red_inj (tv_bd _ _) (tv_bd _ _) (by
  rw [tv_red, tv_red, tv_red]
  exact gp.mul (red v) j k hj hk hjk)
theorem tv_nought (v : Int) : tv 0 v = 0 := red_inj (tv_bd _ _) ⟨by decide, by decide⟩ (by
  rw [tv_red, red_zero]
  by_cases h : red v = 0
  · rw [h]; exact lad_zero gp.fld gp.inv_zero 0
  · obtain ⟨s, d, P, W⟩ := gp.way _ h
    rw [W.lad 0 (by decide)]
    exact zero_aff gp.fld gp.inv_zero (by simp only [mul, O]; grind))
theorem tv_null (K : Nat) : tv K 0 = 0 := red_inj (tv_bd _ _) ⟨by decide, by decide⟩ (by
  rw [tv_red, red_zero]; exact lad_zero gp.fld gp.inv_zero K)
/-- 1 and -1 are of order 4 -/
theorem Way.four {s d u : Gp} {P : Gp × Gp} (W : Way Gp finv s d u P) (hu : u = 1 ∨ u = -1) (n : Nat) : aff finv s (mul finv d (2 * n) P) = 0 := by
  have hy : P.2 = 0 := by
    have c := W.cor
    have t := W.K.two
    have z : 2 * P.2 = 0 := by
      rcases hu with rfl | rfl <;> rcases W.m with ⟨rfl, _⟩ | ⟨rfl, _⟩
      · grind
      · exact absurd (show (2 : Gp) = 0 by grind) t
      · exact absurd (show (2 : Gp) = 0 by grind) t
      · grind
    rcases W.K.zero z with h | h
    · exact absurd h t
    · exact h
  have e : mul finv d 2 P = add finv d P P := by
    show add finv d (mul finv d 1 P) P = _
    rw [W.K.mul_one W.on]
  have on2 := W.K.mul_on W.on 2
  have h2 : (mul finv d 2 P).2 * (mul finv d 2 P).2 = 1 := by
    have a := W.K.add_y W.on W.on
    have o := W.on
    rw [e]
    generalize (add finv d P P).2 = Y at *
    unfold On at o
    simp only [xx] at a
    obtain ⟨x, y⟩ := P
    simp only at *
    subst hy
    grind
  rw [Nat.mul_comm, W.K.mul_mul W.on]
  exact zero_aff gp.fld gp.inv_zero (W.K.pole_mul on2 h2 n)
theorem tv_four (n : Nat) (hn : 2 * n < 2 ^ 256) : tv (2 * n) 1 = 0 ∧ tv (2 * n) 57896044618658097711785492504343953926634992332820282019728792003956564819948 = 0 := by
  have key : ∀ u : Gp, (u = 1 ∨ u = -1) → lad finv u (2 * n) = 0 := fun u hu => by
    by_cases h : u = 0
    · rw [h]; exact lad_zero gp.fld gp.inv_zero _
    · obtain ⟨s, d, P, W⟩ := gp.way _ h
      rw [W.lad _ hn]
      exact W.four hu n
  refine ⟨red_inj (tv_bd _ _) ⟨by decide, by decide⟩ ?_, red_inj (tv_bd _ _) ⟨by decide, by decide⟩ ?_⟩
  · rw [tv_red, red_zero]; exact key _ (.inl red_one)
  · rw [tv_red, red_zero]
    refine key _ (.inr ?_)
    rw [show red 57896044618658097711785492504343953926634992332820282019728792003956564819948 = red (-1) from (red_eq _ _).2 (by decide), red_neg, red_one]
/-! the order of 9, by reckoning -/
def pK : Nat := 57896044618658097711785492504343953926634992332820282019728792003956564819949
def mK (x y : Nat) : Nat := x * y % 57896044618658097711785492504343953926634992332820282019728792003956564819949
def aK (x y : Nat) : Nat := (x + y) % 57896044618658097711785492504343953926634992332820282019728792003956564819949
def sK (x y : Nat) : Nat := (x + (57896044618658097711785492504343953926634992332820282019728792003956564819949 - y % 57896044618658097711785492504343953926634992332820282019728792003956564819949)) % 57896044618658097711785492504343953926634992332820282019728792003956564819949
def gK (n : Nat) : Gp := red (n : Int)
theorem gK_m (x y : Nat) : gK (mK x y) = gK x * gK y := by
  unfold gK mK
  rw [← red_mul, red_eq]
  omega
theorem gK_a (x y : Nat) : gK (aK x y) = gK x + gK y := by
  unfold gK aK
  rw [← red_add, red_eq]
  omega
theorem gK_s (x y : Nat) : gK (sK x y) = gK x - gK y := by
  unfold gK sK
  rw [← red_sub, red_eq]
  omega
def dblXK (x z : Nat) : Nat := mK (mK (aK x z) (aK x z)) (mK (sK x z) (sK x z))
def dblEK (x z : Nat) : Nat := sK (mK (aK x z) (aK x z)) (mK (sK x z) (sK x z))
def dblZK (x z : Nat) : Nat := mK (dblEK x z) (aK (mK (aK x z) (aK x z)) (mK 121665 (dblEK x z)))
def difXK (x z x' z' : Nat) : Nat := mK (aK (mK (sK x' z') (aK x z)) (mK (aK x' z') (sK x z))) (aK (mK (sK x' z') (aK x z)) (mK (aK x' z') (sK x z)))
def difZK (u x z x' z' : Nat) : Nat := mK u (mK (sK (mK (sK x' z') (aK x z)) (mK (aK x' z') (sK x z))) (sK (mK (sK x' z') (aK x z)) (mK (aK x' z') (sK x z))))
theorem gK_dblX (x z : Nat) : gK (dblXK x z) = dblX (gK x) (gK z) := by simp only [dblXK, dblX, gK_m, gK_a, gK_s]
theorem gK_dblE (x z : Nat) : gK (dblEK x z) = dblE (gK x) (gK z) := by simp only [dblEK, dblE, gK_m, gK_a, gK_s]
theorem gK_num : gK 121665 = 121665 := Ring.intCast_ofNat 121665
theorem gK_dblZ (x z : Nat) : gK (dblZK x z) = dblZ (gK x) (gK z) := by simp only [dblZK, dblZ, gK_m, gK_a, gK_dblE, gK_num]
theorem gK_difX (x z x' z' : Nat) : gK (difXK x z x' z') = difX (gK x) (gK z) (gK x') (gK z') := by simp only [difXK, difX, gK_m, gK_a, gK_s]
theorem gK_difZ (u x z x' z' : Nat) : gK (difZK u x z x' z') = difZ (gK u) (gK x) (gK z) (gK x') (gK z') := by simp only [difZK, difZ, gK_m, gK_a, gK_s]
/-- what z2 is in the end -/
def runK (u K : Nat) : Nat → Nat → Nat → Nat → Nat → Nat
  | 0, _, b, _, _ => b
  | f + 1, a, b, c, e => bif K / 2 ^ f % 2 == 1 then runK u K f (difXK c e a b) (difZK u c e a b) (dblXK c e) (dblZK c e) else runK u K f (dblXK a b) (dblZK a b) (difXK a b c e) (difZK u a b c e)
theorem runK_is (u K : Nat) : ∀ f a b c e, f ≤ 256 → runN (gK u) K (256 - f) = ⟨gK a, gK b, gK c, gK e⟩ → gK (runK u K f a b c e) = (runN (gK u) K 256).b
  | 0, a, b, c, e, _, h => by
    rw [show 256 - 0 = 256 from rfl] at h
    rw [h]; rfl
  | f + 1, a, b, c, e, hf, h => by
    have hs : runN (gK u) K (256 - f) = stp (gK u) (bitN K f) ⟨gK a, gK b, gK c, gK e⟩ := by
      rw [show 256 - f = (256 - (f + 1)) + 1 by omega, ← h]
      show stp (gK u) (bitN K (255 - (256 - (f + 1)))) _ = _
      rw [show 255 - (256 - (f + 1)) = f by omega]
    unfold runK
    unfold bitN at hs
    cases hb : (K / 2 ^ f % 2 == 1) with
    | false =>
      rw [hb] at hs
      rw [cond_false]
      refine runK_is u K f _ _ _ _ (by omega) ?_
      rw [hs]
      simp only [stp, cond_false, gK_dblX, gK_dblZ, gK_difX, gK_difZ]
    | true =>
      rw [hb] at hs
      rw [cond_true]
      refine runK_is u K f _ _ _ _ (by omega) ?_
      rw [hs]
      simp only [stp, cond_true, gK_dblX, gK_dblZ, gK_difX, gK_difZ]
def ordl : Nat := 7237005577332262213973186563042994240857116359379907606001950938285454250989
theorem nine_num : runK 9 ordl 256 1 0 9 1 = 0 := by decide +kernel
theorem gK_one : gK 1 = 1 := Ring.intCast_one
theorem gK_zero : gK 0 = 0 := Ring.intCast_zero
theorem nine_end : (runN (gK 9) ordl 256).b = 0 := by
  rw [← runK_is 9 ordl 256 1 0 9 1 (Nat.le_refl _) (by rw [gK_one, gK_zero]; rfl), nine_num, gK_zero]
theorem ordl_lt : ordl < 2 ^ 256 := by decide
theorem ordl_prime : IsPrime ordl := prime_7237005577332262213973186563042994240857116359379907606001950938285454250989
theorem ordl_two : ¬ ordl ∣ 2 := by decide
theorem nine_way : ∃ s d P, Way Gp finv s d (gK 9) P ∧ mul finv d ordl P = O := by
  have h9 : gK 9 ≠ 0 := by
    rw [← gK_zero]
    intro h
    exact absurd ((red_eq _ _).1 h) (by decide)
  obtain ⟨s, d, P, W⟩ := gp.way _ h9
  refine ⟨s, d, P, W, ?_⟩
  have h := (W.run ordl ordl_lt 256 (Nat.le_refl _)).1
  rw [show ordl / 2 ^ (256 - 256) = ordl by simp, nine_end] at h
  have on := W.K.mul_on W.on ordl
  have hs := sq_ne W.m
  generalize mul finv d ordl P = Q at *
  obtain ⟨h1, h2⟩ := h
  generalize (runN (gK 9) ordl 256).a = X at *
  have hX : X ≠ 0 := fun e => h2 ⟨e, rfl⟩
  have ht : (1 - Q.2) * s = 0 := by
    rcases W.K.zero (show X * ((1 - Q.2) * s) = 0 by grind) with h | h
    · exact absurd h hX
    · exact h
  have e1 := W.K.one_of hs ht
  have hy : Q.2 = 1 := by grind
  have hx := W.K.pole on (by rw [hy]; grind)
  exact Prod.ext hx hy
theorem lad_nine1 (a : Nat) (ha : a < 2 ^ 256) (na : ¬ ordl ∣ a) : lad finv (gK 9) a ≠ 0 := by
  obtain ⟨s, d, P, W, h⟩ := nine_way
  rw [W.lad a ha]
  exact W.nonzero ordl a ordl_prime ordl_two h na
theorem lad_nine2 (a b : Nat) (ha : a < 2 ^ 256) (hb : b < 2 ^ 256) (na : ¬ ordl ∣ a) (nb : ¬ ordl ∣ b) : lad finv (lad finv (gK 9) a) b ≠ 0 := by
  obtain ⟨s, d, P, W, h⟩ := nine_way
  rw [W.twice b a hb ha]
  refine W.nonzero ordl (b * a) ordl_prime ordl_two h fun hd => ?_
  rcases prime_mul ordl_prime hd with h | h
  · exact nb h
  · exact na h
theorem lad_nine3 (a b c : Nat) (ha : a < 2 ^ 256) (hb : b < 2 ^ 256) (hc : c < 2 ^ 256) (na : ¬ ordl ∣ a) (nb : ¬ ordl ∣ b) (nc : ¬ ordl ∣ c) : lad finv (lad finv (lad finv (gK 9) a) b) c ≠ 0 := by
  obtain ⟨s, d, P, W, h⟩ := nine_way
  have h1 : lad finv (gK 9) a ≠ 0 := lad_nine1 a ha na
  have W1 := W.next a ha h1
  rw [W1.twice c b hc hb, ← W.K.mul_mul W.on]
  refine W.nonzero ordl (c * b * a) ordl_prime ordl_two h fun hd => ?_
  rcases prime_mul ordl_prime hd with h | h
  · rcases prime_mul ordl_prime h with h | h
    · exact nc h
    · exact nb h
  · exact na h
theorem tv_ne {K : Nat} {v : Int} (h : lad finv (red v) K ≠ 0) : tv K v ≠ 0 := fun e => h (by rw [← tv_red, e, red_zero])
theorem tv_nine1 (a : Nat) (ha : a < 2 ^ 256) (na : ¬ ordl ∣ a) : tv a 9 ≠ 0 := tv_ne (lad_nine1 a ha na)
theorem tv_nine2 (a b : Nat) (ha : a < 2 ^ 256) (hb : b < 2 ^ 256) (na : ¬ ordl ∣ a) (nb : ¬ ordl ∣ b) : tv b (tv a 9) ≠ 0 := tv_ne (by rw [tv_red]; exact lad_nine2 a b ha hb na nb)
theorem tv_nine3 (a b c : Nat) (ha : a < 2 ^ 256) (hb : b < 2 ^ 256) (hc : c < 2 ^ 256) (na : ¬ ordl ∣ a) (nb : ¬ ordl ∣ b) (nc : ¬ ordl ∣ c) : tv c (tv b (tv a 9)) ≠ 0 := tv_ne (by rw [tv_red, tv_red]; exact lad_nine3 a b c ha hb hc na nb nc)
/-- eight times what is less than the order isn't divided by it -/
theorem clamped_ndvd (m : Nat) (h0 : 0 < m) (h1 : m < ordl) : ¬ ordl ∣ 8 * m := fun h => by
  rcases prime_mul ordl_prime h with h | h
  · exact absurd h (by decide)
  · exact absurd (Nat.le_of_dvd h0 h) (by omega)
end Edw
end Go.Proofs.Ytfapmpnkemogkaa
