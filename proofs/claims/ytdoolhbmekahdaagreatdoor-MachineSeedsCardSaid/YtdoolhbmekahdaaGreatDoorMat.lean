/- Mat -/
import Derived.Test.YtdoolhbmekahdaaGreatDoorPrime
namespace Go.Proofs.YtdoolhbmekahdaaGreatDoor
section
namespace Edw
set_option linter.unusedVariables false
abbrev crOf {c : Type → Type} (_ : c Dyadic) (F : Type) : Type := c F
abbrev CR (F : Type) : Type := crOf Dyadic.instCommRing F
structure Fld (F : Type) [CR F] (inv : F → F) : Prop where
 one : (1 : F) ≠ 0
 two : (2 : F) ≠ 0
 mul_inv : ∀ x : F, x ≠ 0 → x * inv x = 1
variable {F : Type} [CR F] {inv : F → F}
theorem Fld.zero (K : Fld F inv) {a b : F} (h : a * b = 0) : a = 0 ∨ b = 0 := by
 by_cases ha : a = 0
 ·exact .inl ha
 ·right
  have := K.mul_inv a ha
  grind
theorem Fld.ne (K : Fld F inv) {a b : F} (ha : a ≠ 0) (hb : b ≠ 0) : a * b ≠ 0 := fun h => by
 rcases K.zero h with h | h <;> contradiction
theorem Fld.cancel (K : Fld F inv) {a b c : F} (hc : c ≠ 0) (h : a * c = b * c) : a = b := by
 have := K.mul_inv c hc
 grind
def On (d : F) (P : F × F) : Prop := P.1 * P.1 + P.2 * P.2 = 1 + d * P.1 * P.1 * P.2 * P.2
def xx (d : F) (P Q : F × F) : F := d * P.1 * Q.1 * P.2 * Q.2
def add (inv : F → F) (d : F) (P Q : F × F) : F × F := ((P.1 * Q.2 + P.2 * Q.1) * inv (1 + xx d P Q), (P.2 * Q.2 - P.1 * Q.1) * inv (1 - xx d P Q))
structure Crv (F : Type) [CR F] (inv : F → F) (d : F) : Prop extends Fld F inv where
 nonsq : ∀ t : F, t * t ≠ d
theorem Crv.complete {d : F} (K : Crv F inv d) {P Q : F × F} (hP : On d P) (hQ : On d Q) : xx d P Q * xx d P Q ≠ 1 := by
 obtain ⟨x1, y1⟩ := P
 obtain ⟨x2, y2⟩ := Q
 simp only [On, xx] at hP hQ ⊢
 intro h
 have nz : ∀ a b : F, d * x1 * x2 * y1 * y2 = a * b → a ≠ 0 := fun a b e ha => K.one (by rw [← h, e, ha]; grind)
 have hx1 : x1 ≠ 0 := nz x1 (d * x2 * y1 * y2) (by grind)
 have hy1 : y1 ≠ 0 := nz y1 (d * x1 * x2 * y2) (by grind)
 have hx2 : x2 ≠ 0 := nz x2 (d * x1 * y1 * y2) (by grind)
 have sq : ∀ s t : F, t ≠ 0 → s * s = d * (t * t) → False := fun s t ht e => by
  have hi := K.mul_inv t ht
  exact K.nonsq (s * inv t) (by grind)
 by_cases hp : x2 + y2 = 0
 ·by_cases hm : x2 - y2 = 0
  ·rcases K.zero (show 2 * x2 = 0 by grind) with h2 | h2
   ·exact K.two h2
   ·exact hx2 h2
  ·exact sq (x1 - d * x1 * x2 * y1 * y2 * y1) (x1 * y1 * (x2 - y2)) (K.ne (K.ne hx1 hy1) hm) (by grind)
 ·exact sq (x1 + d * x1 * x2 * y1 * y2 * y1) (x1 * y1 * (x2 + y2)) (K.ne (K.ne hx1 hy1) hp) (by grind)
theorem Crv.plus {d : F} (K : Crv F inv d) {P Q : F × F} (hP : On d P) (hQ : On d Q) : 1 + xx d P Q ≠ 0 := fun h => K.complete hP hQ (by grind)
theorem Crv.minus {d : F} (K : Crv F inv d) {P Q : F × F} (hP : On d P) (hQ : On d Q) : 1 - xx d P Q ≠ 0 := fun h => K.complete hP hQ (by grind)
theorem Crv.add_x {d : F} (K : Crv F inv d) {P Q : F × F} (hP : On d P) (hQ : On d Q) : (add inv d P Q).1 * (1 + xx d P Q) = P.1 * Q.2 + P.2 * Q.1 := by
 have := K.mul_inv _ (K.plus hP hQ)
 simp only [add]
 grind
theorem Crv.add_y {d : F} (K : Crv F inv d) {P Q : F × F} (hP : On d P) (hQ : On d Q) : (add inv d P Q).2 * (1 - xx d P Q) = P.2 * Q.2 - P.1 * Q.1 := by
 have := K.mul_inv _ (K.minus hP hQ)
 simp only [add]
 grind
theorem clos (x1 y1 x2 y2 d X Y e : F) (he : e = d * x1 * x2 * y1 * y2) (c1 : x1*x1+y1*y1 = 1 + d*x1*x1*y1*y1) (c2 : x2*x2+y2*y2 = 1 + d*x2*x2*y2*y2) :
  (x1*y2+y1*x2)*(x1*y2+y1*x2)*((1-e)*(1-e)) + (y1*y2-x1*x2)*(y1*y2-x1*x2)*((1+e)*(1+e)) = (1+e)*(1+e)*((1-e)*(1-e)) + d*((x1*y2+y1*x2)*(x1*y2+y1*x2))*((y1*y2-x1*x2)*(y1*y2-x1*x2)) := by
 subst he
 grind
theorem Crv.add_on {d : F} (K : Crv F inv d) {P Q : F × F} (hP : On d P) (hQ : On d Q) : On d (add inv d P Q) := by
 have hx := K.add_x hP hQ
 have hy := K.add_y hP hQ
 have np := K.plus hP hQ
 have nm := K.minus hP hQ
 obtain ⟨x1, y1⟩ := P
 obtain ⟨x2, y2⟩ := Q
 generalize add inv d (x1, y1) (x2, y2) = S at *
 obtain ⟨X, Y⟩ := S
 have hc := clos x1 y1 x2 y2 d X Y _ rfl hP hQ
 simp only [On, xx] at *
 generalize d * x1 * x2 * y1 * y2 = e at *
 refine K.cancel (K.ne (K.ne np np) (K.ne nm nm)) ?_
 rw [← hx, ← hy] at hc
 clear hx hy hP hQ np nm
 grind
theorem Crv.add_comm (d : F) (P Q : F × F) : add inv d P Q = add inv d Q P := by
 have e : xx d P Q = xx d Q P := by simp only [xx]; grind
 simp only [add, e]
 congr 1
 ·congr 1; grind
 ·congr 1; grind
theorem assocX (x1 y1 x2 y2 x3 y3 d : F) (c1 : x1*x1+y1*y1 = 1 + d*x1*x1*y1*y1) (c2 : x2*x2+y2*y2 = 1 + d*x2*x2*y2*y2) (c3 : x3*x3+y3*y3 = 1 + d*x3*x3*y3*y3) :
  ((x1*y2+y1*x2)*y3*(1-d*x1*x2*y1*y2) + (y1*y2-x1*x2)*x3*(1+d*x1*x2*y1*y2)) * ((1+d*x2*x3*y2*y3)*(1-d*x2*x3*y2*y3) + d*(x2*y3+y2*x3)*(y2*y3-x2*x3)*x1*y1)
  = (x1*(y2*y3-x2*x3)*(1+d*x2*x3*y2*y3) + y1*(x2*y3+y2*x3)*(1-d*x2*x3*y2*y3)) * ((1+d*x1*x2*y1*y2)*(1-d*x1*x2*y1*y2) + d*(x1*y2+y1*x2)*(y1*y2-x1*x2)*x3*y3) := by grind
theorem assocY (x1 y1 x2 y2 x3 y3 d : F) (c1 : x1*x1+y1*y1 = 1 + d*x1*x1*y1*y1) (c2 : x2*x2+y2*y2 = 1 + d*x2*x2*y2*y2) (c3 : x3*x3+y3*y3 = 1 + d*x3*x3*y3*y3) :
  ((y1*y2-x1*x2)*y3*(1+d*x1*x2*y1*y2) - (x1*y2+y1*x2)*x3*(1-d*x1*x2*y1*y2)) * ((1+d*x2*x3*y2*y3)*(1-d*x2*x3*y2*y3) - d*(x2*y3+y2*x3)*(y2*y3-x2*x3)*x1*y1)
  = (y1*(y2*y3-x2*x3)*(1+d*x2*x3*y2*y3) - x1*(x2*y3+y2*x3)*(1-d*x2*x3*y2*y3)) * ((1+d*x1*x2*y1*y2)*(1-d*x1*x2*y1*y2) - d*(x1*y2+y1*x2)*(y1*y2-x1*x2)*x3*y3) := by grind
theorem glue {X L M X' L' M' : F} (h : X * L = M) (h' : X' * L' = M') (e : M * L' = M' * L) : X * (L * L') = X' * (L * L') := by grind
theorem Crv.add3_x {d : F} (K : Crv F inv d) {P Q R : F × F} (hP : On d P) (hQ : On d Q) (hR : On d R) :
  (add inv d (add inv d P Q) R).1 * ((1 + xx d P Q) * (1 - xx d P Q) + d * (P.1 * Q.2 + P.2 * Q.1) * (P.2 * Q.2 - P.1 * Q.1) * R.1 * R.2)
   = (P.1 * Q.2 + P.2 * Q.1) * R.2 * (1 - xx d P Q) + (P.2 * Q.2 - P.1 * Q.1) * R.1 * (1 + xx d P Q) := by
 have hx := K.add_x hP hQ
 have hy := K.add_y hP hQ
 have h3 := K.add_x (K.add_on hP hQ) hR
 rw [← hx, ← hy]
 generalize 1 + xx d P Q = p at *
 generalize 1 - xx d P Q = m at *
 generalize add inv d P Q = A at *
 generalize add inv d A R = S at *
 simp only [xx] at h3
 clear hx hy
 grind
theorem Crv.add3_y {d : F} (K : Crv F inv d) {P Q R : F × F} (hP : On d P) (hQ : On d Q) (hR : On d R) :
  (add inv d (add inv d P Q) R).2 * ((1 + xx d P Q) * (1 - xx d P Q) - d * (P.1 * Q.2 + P.2 * Q.1) * (P.2 * Q.2 - P.1 * Q.1) * R.1 * R.2)
   = (P.2 * Q.2 - P.1 * Q.1) * R.2 * (1 + xx d P Q) - (P.1 * Q.2 + P.2 * Q.1) * R.1 * (1 - xx d P Q) := by
 have hx := K.add_x hP hQ
 have hy := K.add_y hP hQ
 have h3 := K.add_y (K.add_on hP hQ) hR
 rw [← hx, ← hy]
 generalize 1 + xx d P Q = p at *
 generalize 1 - xx d P Q = m at *
 generalize add inv d P Q = A at *
 generalize add inv d A R = S at *
 simp only [xx] at h3
 clear hx hy
 grind
theorem Crv.den_x {d : F} (K : Crv F inv d) {P Q R : F × F} (hP : On d P) (hQ : On d Q) (hR : On d R) : (1 + xx d P Q) * (1 - xx d P Q) + d * (P.1 * Q.2 + P.2 * Q.1) * (P.2 * Q.2 - P.1 * Q.1) * R.1 * R.2 ≠ 0 := by
 have hx := K.add_x hP hQ
 have hy := K.add_y hP hQ
 have h3 := K.ne (K.ne (K.plus hP hQ) (K.minus hP hQ)) (K.plus (K.add_on hP hQ) hR)
 rw [← hx, ← hy]
 generalize 1 + xx d P Q = p at *
 generalize 1 - xx d P Q = m at *
 generalize add inv d P Q = A at *
 simp only [xx] at h3
 clear hx hy
 intro h
 exact h3 (by rw [← h]; grind)
theorem Crv.den_y {d : F} (K : Crv F inv d) {P Q R : F × F} (hP : On d P) (hQ : On d Q) (hR : On d R) : (1 + xx d P Q) * (1 - xx d P Q) - d * (P.1 * Q.2 + P.2 * Q.1) * (P.2 * Q.2 - P.1 * Q.1) * R.1 * R.2 ≠ 0 := by
 have hx := K.add_x hP hQ
 have hy := K.add_y hP hQ
 have h3 := K.ne (K.ne (K.plus hP hQ) (K.minus hP hQ)) (K.minus (K.add_on hP hQ) hR)
 rw [← hx, ← hy]
 generalize 1 + xx d P Q = p at *
 generalize 1 - xx d P Q = m at *
 generalize add inv d P Q = A at *
 simp only [xx] at h3
 clear hx hy
 intro h
 exact h3 (by rw [← h]; grind)
theorem Crv.assoc {d : F} (K : Crv F inv d) {P Q R : F × F} (hP : On d P) (hQ : On d Q) (hR : On d R) : add inv d (add inv d P Q) R = add inv d P (add inv d Q R) := by
 rw [Crv.add_comm d P (add inv d Q R), Crv.add_comm d Q R]
 refine Prod.ext ?_ ?_
 ·refine K.cancel (K.ne (K.den_x hP hQ hR) (K.den_x hR hQ hP)) (glue (K.add3_x hP hQ hR) (K.add3_x hR hQ hP) ?_)
  have h := assocX P.1 P.2 Q.1 Q.2 R.1 R.2 d hP hQ hR
  simp only [xx]
  clear hP hQ hR
  grind
 ·refine K.cancel (K.ne (K.den_y hP hQ hR) (K.den_y hR hQ hP)) (glue (K.add3_y hP hQ hR) (K.add3_y hR hQ hP) ?_)
  have h := assocY P.1 P.2 Q.1 Q.2 R.1 R.2 d hP hQ hR
  simp only [xx]
  clear hP hQ hR
  grind
def O : F × F := (0, 1)
theorem O_on (d : F) : On d (O : F × F) := by simp only [On, O]; grind
theorem Crv.add_O {d : F} (K : Crv F inv d) {P : F × F} (hP : On d P) : add inv d P O = P := by
 refine Prod.ext ?_ ?_
 ·refine K.cancel (K.plus hP (O_on d)) ?_
  rw [K.add_x hP (O_on d)]
  simp only [O, xx]
  grind
 ·refine K.cancel (K.minus hP (O_on d)) ?_
  rw [K.add_y hP (O_on d)]
  simp only [O, xx]
  grind
def neg (P : F × F) : F × F := (-P.1, P.2)
theorem neg_on {d : F} {P : F × F} (hP : On d P) : On d (neg P) := by simp only [On, neg] at *; grind
theorem Crv.add_neg {d : F} (K : Crv F inv d) {P : F × F} (hP : On d P) : add inv d P (neg P) = O := by
 refine Prod.ext ?_ ?_
 ·refine K.cancel (K.plus hP (neg_on hP)) ?_
  rw [K.add_x hP (neg_on hP)]
  simp only [O, neg]
  grind
 ·refine K.cancel (K.minus hP (neg_on hP)) ?_
  rw [K.add_y hP (neg_on hP)]
  simp only [O, neg, xx, On] at *
  grind
def mul (inv : F → F) (d : F) : Nat → F × F → F × F
 | 0, _ => O
 | n + 1, P => add inv d (mul inv d n P) P
theorem Crv.mul_on {d : F} (K : Crv F inv d) {P : F × F} (hP : On d P) : ∀ n, On d (mul inv d n P)
 | 0 => O_on d
 | n + 1 => K.add_on (K.mul_on hP n) hP
theorem Crv.mul_plus {d : F} (K : Crv F inv d) {P : F × F} (hP : On d P) (m : Nat) : ∀ n, mul inv d (m + n) P = add inv d (mul inv d m P) (mul inv d n P)
 | 0 => (K.add_O (K.mul_on hP m)).symm
 | n + 1 => by
  show add inv d (mul inv d (m + n) P) P = add inv d (mul inv d m P) (add inv d (mul inv d n P) P)
  rw [K.mul_plus hP m n, K.assoc (K.mul_on hP m) (K.mul_on hP n) hP]
theorem Crv.mul_one {d : F} (K : Crv F inv d) {P : F × F} (hP : On d P) : mul inv d 1 P = P := by
 show add inv d O P = P
 rw [Crv.add_comm, K.add_O hP]
end Edw
end
end Go.Proofs.YtdoolhbmekahdaaGreatDoor
/- Montgomery's ladder over a field: what it comes to is the x of a multiple; so multiples of multiples hang on no order. (For P5.2.) -/
namespace Go.Proofs.YtdoolhbmekahdaaGreatDoor
section
namespace Edw
set_option linter.unusedVariables false
variable {F : Type} [CR F] {inv : F → F}
def Model (s d : F) : Prop := (s = 1 ∧ 121666 * d = 121665) ∨ (s = -1 ∧ 121665 * d = 121666)
def Rep (s X Z : F) (Q : F × F) : Prop := X * (1 - Q.2) * s = Z * (1 + Q.2) ∧ ¬ (X = 0 ∧ Z = 0)
def dblX (X Z : F) : F := (X + Z) * (X + Z) * ((X - Z) * (X - Z))
def dblE (X Z : F) : F := (X + Z) * (X + Z) - (X - Z) * (X - Z)
def dblZ (X Z : F) : F := dblE X Z * ((X + Z) * (X + Z) + 121665 * dblE X Z)
def difX (X Z X' Z' : F) : F := ((X' - Z') * (X + Z) + (X' + Z') * (X - Z)) * ((X' - Z') * (X + Z) + (X' + Z') * (X - Z))
def difZ (u X Z X' Z' : F) : F := u * (((X' - Z') * (X + Z) - (X' + Z') * (X - Z)) * ((X' - Z') * (X + Z) - (X' + Z') * (X - Z)))
theorem rep_ab {s d X Z : F} {Q : F × F} (hs : Model s d) (h : Rep s X Z Q) : (s = 1 ∧ 121666 * d = 121665 ∧ X - Z = (X + Z) * Q.2) ∨ (s = -1 ∧ 121665 * d = 121666 ∧ X + Z = (X - Z) * Q.2) := by
 rcases hs with ⟨rfl, hd⟩ | ⟨rfl, hd⟩
 ·have := h.1
  exact .inl ⟨rfl, hd, by grind⟩
 ·have := h.1
  exact .inr ⟨rfl, hd, by grind⟩
theorem Fld.both (K : Fld F inv) {X Z : F} (h1 : X + Z = 0) (h2 : X - Z = 0) : X = 0 ∧ Z = 0 := by
 constructor
 ·rcases K.zero (show 2 * X = 0 by grind) with h | h
  ·exact absurd h K.two
  ·exact h
 ·rcases K.zero (show 2 * Z = 0 by grind) with h | h
  ·exact absurd h K.two
  ·exact h
theorem half_one (x y d : F) (c : x * x + y * y = 1 + d * x * x * y * y) (hd : 121666 * d = 121665) : (121666 - 121665 * (y * y)) * (1 - x * x) = y * y := by grind
theorem half_two (x y d : F) (c : x * x + y * y = 1 + d * x * x * y * y) (hd : 121665 * d = 121666) : (121665 - 121666 * (y * y)) * (1 - x * x) = - (y * y) := by grind
theorem Crv.dbl {s d : F} (K : Crv F inv d) (hs : Model s d) (c5 : (121665 : F) ≠ 0) (c6 : (121666 : F) ≠ 0) {X Z : F} {R : F × F} (hR : On d R) (h : Rep s X Z R) : Rep s (dblX X Z) (dblZ X Z) (add inv d R R) := by
 have hy := K.add_y hR hR
 have nm := K.minus hR hR
 have hab := rep_ab hs h
 have hn := h.2
 have hnz : ¬ (X + Z = 0 ∧ X - Z = 0) := fun h' => hn (K.both h'.1 h'.2)
 constructor
 ·refine K.cancel nm ?_
  obtain ⟨x, y⟩ := R
  generalize (add inv d (x, y) (x, y)).2 = Y at *
  simp only [xx, On, dblX, dblZ, dblE] at *
  clear h hn hnz nm
  generalize X + Z = A at *
  generalize X - Z = B at *
  have e1 : (1 - Y) * (1 - d * x * x * y * y) = 2 - 2 * (y * y) := by grind
  have e2 : (1 + Y) * (1 - d * x * x * y * y) = 2 - 2 * (x * x) := by grind
  rcases hab with ⟨rfl, hd, hb⟩ | ⟨rfl, hd, hb⟩
  ·have hh := half_one x y d hR hd
   subst hb
   generalize 1 - d * x * x * y * y = m at *
   clear hy hs hR hd
   have l : A * A * (A * y * (A * y)) * (1 - Y) * 1 * m = A * A * (A * y * (A * y)) * (2 - 2 * (y * y)) := by rw [← e1]; grind
   have r : (A * A - A * y * (A * y)) * (A * A + 121665 * (A * A - A * y * (A * y))) * (1 + Y) * m = (A * A - A * y * (A * y)) * (A * A + 121665 * (A * A - A * y * (A * y))) * (2 - 2 * (x * x)) := by rw [← e2]; grind
   rw [l, r]
   clear e1 e2 l r
   grind
  ·have hh := half_two x y d hR hd
   subst hb
   generalize 1 - d * x * x * y * y = m at *
   clear hy hs hR hd
   have l : B * y * (B * y) * (B * B) * (1 - Y) * (-1) * m = - (B * y * (B * y) * (B * B)) * (2 - 2 * (y * y)) := by rw [← e1]; grind
   have r : (B * y * (B * y) - B * B) * (B * y * (B * y) + 121665 * (B * y * (B * y) - B * B)) * (1 + Y) * m = (B * y * (B * y) - B * B) * (B * y * (B * y) + 121665 * (B * y * (B * y) - B * B)) * (2 - 2 * (x * x)) := by rw [← e2]; grind
   rw [l, r]
   clear e1 e2 l r
   grind
 ·rintro ⟨hx, hz⟩
  simp only [dblX, dblZ, dblE] at hx hz
  generalize X + Z = A at *
  generalize X - Z = B at *
  have key : A = 0 ∨ B = 0 := by
   rcases K.zero hx with h1 | h1
   ·rcases K.zero h1 with h2 | h2 <;> exact .inl h2
   ·rcases K.zero h1 with h2 | h2 <;> exact .inr h2
  rcases key with rfl | rfl
  ·have hB : B ≠ 0 := fun e => hnz ⟨rfl, e⟩
   exact K.ne c5 (K.ne (K.ne hB hB) (K.ne hB hB)) (by rw [← hz]; grind)
  ·have hA : A ≠ 0 := fun e => hnz ⟨e, rfl⟩
   exact K.ne c6 (K.ne (K.ne hA hA) (K.ne hA hA)) (by rw [← hz]; grind)
theorem Crv.back {d : F} (K : Crv F inv d) {P R : F × F} (hP : On d P) (hR : On d R) : add inv d (add inv d R P) (neg R) = P := by
 rw [Crv.add_comm d R P, K.assoc hP hR (neg_on hR), K.add_neg hR, K.add_O hP]
theorem difid (x y x' y' d e : F) (he : e = d * x * x' * y * y') (c : x * x + y * y = 1 + d * x * x * y * y) (c' : x' * x' + y' * y' = 1 + d * x' * x' * y' * y') :
  (y + y') * (y + y') * ((1 - e - (y * y' - x * x')) * (1 + e - (y * y' + x * x'))) = (y' - y) * (y' - y) * ((1 - e + (y * y' - x * x')) * (1 + e + (y * y' + x * x'))) := by
 subst he
 grind
theorem one_less {Y m t : F} (h : Y * m = t) : (1 - Y) * m = m - t := by grind
theorem one_more {Y m t : F} (h : Y * m = t) : (1 + Y) * m = m + t := by grind
theorem turn_neg {q e x y x' y' : F} (h : q * (1 - -e) = y' * y - x' * -x) : q * (1 + e) = y * y' + x * x' := by grind
theorem zz : (0 : F) * 0 = 0 := by grind
theorem zz' {a : F} : 0 * a = 0 := by grind
theorem sq_ne {s d : F} (hs : Model s d) : s * s = 1 := by rcases hs with ⟨rfl, _⟩ | ⟨rfl, _⟩ <;> grind
theorem Crv.dif {s d : F} (K : Crv F inv d) (hs : Model s d) {u X Z X' Z' : F} {P R S : F × F} (hP : On d P) (hR : On d R) (hS : S = add inv d R P) (h : Rep s X Z R) (h' : Rep s X' Z' S) (hu : u * (1 - P.2) * s = 1 + P.2) (hu0 : u ≠ 0) :
  Rep s (difX X Z X' Z') (difZ u X Z X' Z') (add inv d R S) := by
 have hSo : On d S := hS ▸ K.add_on hR hP
 have hy := K.add_y hR hSo
 have hb := K.back hP hR
 rw [← hS] at hb
 have hp := K.add_y hSo (neg_on hR)
 rw [hb] at hp
 have nm := K.minus hR hSo
 have np := K.plus hR hSo
 have hab := rep_ab hs h
 have hab' := rep_ab hs h'
 have hn : ¬ (X + Z = 0 ∧ X - Z = 0) := fun e => h.2 (K.both e.1 e.2)
 have hn' : ¬ (X' + Z' = 0 ∧ X' - Z' = 0) := fun e => h'.2 (K.both e.1 e.2)
 have hs1 := sq_ne hs
 have h1P : 1 - P.2 ≠ 0 := fun e => K.two (by
  rw [e] at hu
  have : P.2 = 1 := by grind
  rw [this] at hu
  grind)
 have h1P' : 1 + P.2 ≠ 0 := fun e => by
  rw [e] at hu
  rcases K.zero hu with h0 | h0
  ·exact K.ne hu0 h1P h0
  ·exact K.one (by rw [← hs1, h0]; exact zz)
 have hid := difid R.1 R.2 S.1 S.2 d (xx d R S) (by simp only [xx]) hR hSo
 have he : xx d S (neg R) = - xx d R S := by simp only [xx, neg]; grind
 rw [he] at hp
 simp only [neg] at hp
 unfold Rep
 have hxx : xx d R S = d * R.1 * S.1 * R.2 * S.2 := by simp only [xx]
 have hcR : R.1 * R.1 + R.2 * R.2 = 1 + d * R.1 * R.1 * R.2 * R.2 := hR
 have hcS : S.1 * S.1 + S.2 * S.2 = 1 + d * S.1 * S.1 * S.2 * S.2 := hSo
 generalize xx d R S = e at *
 generalize (add inv d R S).2 = Y at *
 generalize P.2 = q at *
 generalize R.1 = x at *
 generalize R.2 = y at *
 generalize S.1 = x' at *
 generalize S.2 = y' at *
 clear he hb hS hSo hR hP h h'
 have hp' := turn_neg hp
 have a1 := one_less hy
 have a2 := one_less hp'
 have b1 := one_more hy
 have b2 := one_more hp'
 rw [← a1, ← a2, ← b1, ← b2] at hid
 have hmid : ∃ k, difX X Z X' Z' = k * ((y + y') * (y + y')) ∧ difZ u X Z X' Z' = u * (k * ((y' - y) * (y' - y))) := by
  simp only [difX, difZ]
  generalize X + Z = A at *
  generalize X - Z = B at *
  generalize X' + Z' = C at *
  generalize X' - Z' = D at *
  clear hid a1 a2 b1 b2 hu hy hp hp' hcR hcS hxx hs
  rcases hab with ⟨_, _, hb⟩ | ⟨s1, _, hb⟩
  ·rcases hab' with ⟨_, _, hd⟩ | ⟨s2, _, hd⟩
   ·exact ⟨A * A * (C * C), by subst hb hd; grind, by subst hb hd; grind⟩
   ·have : (1 : F) = -1 := by grind
    exact absurd (show (2 : F) = 0 by grind) K.two
  ·rcases hab' with ⟨s2, _, hd⟩ | ⟨_, _, hd⟩
   ·have : (1 : F) = -1 := by grind
    exact absurd (show (2 : F) = 0 by grind) K.two
   ·exact ⟨B * B * (D * D), by subst hb hd; grind, by subst hb hd; grind⟩
 constructor
 ·obtain ⟨k, h1, h2⟩ := hmid
  rw [h1, h2]
  refine K.cancel (K.ne (K.ne nm np) h1P) ?_
  clear hab hab' hn hn' h1 h2 a1 a2 b1 b2 hy hp hp' hxx hcR hcS
  generalize (y + y') * (y + y') = f at *
  generalize (y' - y) * (y' - y) = g at *
  generalize hm : 1 - e = m at *
  generalize hpp : 1 + e = pp at *
  generalize 1 - Y = Y1 at *
  generalize 1 + Y = Y2 at *
  generalize 1 - q = q1 at *
  generalize 1 + q = q2 at *
  clear hm hpp np nm hs
  have hu' : u * q1 = q2 * s := by rw [← hu]; grind
  have l : k * f * Y1 * s * (m * pp * q1) = k * s * (f * (Y1 * m * (q1 * pp))) := by grind
  have r : u * (k * g) * Y2 * (m * pp * q1) = k * s * (g * (Y2 * m * (q2 * pp))) := by grind
  rw [l, r, hid]
 ·rintro ⟨hx, hz⟩
  simp only [difX, difZ] at hx hz
  have hx' : (X' - Z') * (X + Z) + (X' + Z') * (X - Z) = 0 := by rcases K.zero hx with h | h <;> exact h
  have hz' : (X' - Z') * (X + Z) - (X' + Z') * (X - Z) = 0 := by
   rcases K.zero hz with h | h
   ·exact absurd h hu0
   ·rcases K.zero h with h | h <;> exact h
  have both := K.both hx' hz'
  clear hmid hx hz hid a1 a2 b1 b2
  generalize X + Z = A at *
  generalize X - Z = B at *
  generalize X' + Z' = C at *
  generalize X' - Z' = D at *
  have hyy : y = 0 ∧ y' = 0 := by
   rcases hab with ⟨s1, _, hb⟩ | ⟨s1, _, hb⟩
   ·have hA : A ≠ 0 := fun e => hn ⟨e, by rw [hb, e]; grind⟩
    rcases hab' with ⟨s2, _, hd⟩ | ⟨s2, _, hd⟩
    ·have hC : C ≠ 0 := fun e => hn' ⟨e, by rw [hd, e]; grind⟩
     constructor
     ·rcases K.zero both.2 with h0 | h0
      ·exact absurd h0 hC
      ·rw [hb] at h0
       rcases K.zero h0 with h0 | h0
       ·exact absurd h0 hA
       ·exact h0
     ·rcases K.zero both.1 with h0 | h0
      ·rw [hd] at h0
       rcases K.zero h0 with h0 | h0
       ·exact absurd h0 hC
       ·exact h0
      ·exact absurd h0 hA
    ·exact absurd (show (2 : F) = 0 by grind) K.two
   ·have hB : B ≠ 0 := fun e => hn ⟨by rw [hb, e]; grind, e⟩
    rcases hab' with ⟨s2, _, hd⟩ | ⟨s2, _, hd⟩
    ·exact absurd (show (2 : F) = 0 by grind) K.two
    ·have hD : D ≠ 0 := fun e => hn' ⟨by rw [hd, e]; grind, e⟩
     constructor
     ·rcases K.zero both.1 with h0 | h0
      ·exact absurd h0 hD
      ·rw [hb] at h0
       rcases K.zero h0 with h0 | h0
       ·exact absurd h0 hB
       ·exact h0
     ·rcases K.zero both.2 with h0 | h0
      ·rw [hd] at h0
       rcases K.zero h0 with h0 | h0
       ·exact absurd h0 hD
       ·exact h0
      ·exact absurd h0 hB
  obtain ⟨rfl, rfl⟩ := hyy
  have hq : (1 - q) * (1 + q) = 0 := by
   clear hab hab' hn hn' both hu hs
   have e0 : e = 0 := by rw [hxx]; grind
   subst e0
   grind
  exact K.ne h1P h1P' hq
structure St (F : Type) where
 a : F
 b : F
 c : F
 e : F
def stp (u : F) (bit : Bool) (t : St F) : St F :=
 bif bit then ⟨difX t.c t.e t.a t.b, difZ u t.c t.e t.a t.b, dblX t.c t.e, dblZ t.c t.e⟩ else ⟨dblX t.a t.b, dblZ t.a t.b, difX t.a t.b t.c t.e, difZ u t.a t.b t.c t.e⟩
def bitN (K j : Nat) : Bool := K / 2 ^ j % 2 == 1
def runN (u : F) (K : Nat) : Nat → St F
 | 0 => ⟨1, 0, u, 1⟩
 | i + 1 => stp u (bitN K (255 - i)) (runN u K i)
def lad (inv : F → F) (u : F) (K : Nat) : F := (runN u K 256).a * inv (runN u K 256).b
structure Way (F : Type) [CR F] (inv : F → F) (s d u : F) (P : F × F) : Prop where
 K : Crv F inv d
 m : Model s d
 on : On d P
 cor : u * (1 - P.2) * s = 1 + P.2
 nz : u ≠ 0
 c5 : (121665 : F) ≠ 0
 c6 : (121666 : F) ≠ 0
 z : inv 0 = 0
theorem difX_turn (X Z X' Z' : F) : difX X' Z' X Z = difX X Z X' Z' := by simp only [difX]; grind
theorem difZ_turn (u X Z X' Z' : F) : difZ u X' Z' X Z = difZ u X Z X' Z' := by simp only [difZ]; grind
theorem bit_split (K i : Nat) (hi : i < 256) : K / 2 ^ (255 - i) = 2 * (K / 2 ^ (256 - i)) + (bif bitN K (255 - i) then 1 else 0) := by
 have e : 2 ^ (256 - i) = 2 ^ (255 - i) * 2 := by rw [show 256 - i = (255 - i) + 1 by omega, Nat.pow_succ]
 unfold bitN
 rw [e, ← Nat.div_div_eq_div_mul]
 generalize K / 2 ^ (255 - i) = q
 rcases (by omega : q % 2 = 0 ∨ q % 2 = 1) with h | h <;> rw [h] <;> simp <;> omega
theorem Way.run {s d u : F} {P : F × F} (W : Way F inv s d u P) (K : Nat) (hK : K < 2 ^ 256) : ∀ i, i ≤ 256 →
  Rep s (runN u K i).a (runN u K i).b (mul inv d (K / 2 ^ (256 - i)) P) ∧ Rep s (runN u K i).c (runN u K i).e (mul inv d (K / 2 ^ (256 - i) + 1) P)
 | 0, _ => by
  have h0 : K / 2 ^ (256 - 0) = 0 := Nat.div_eq_of_lt hK
  rw [h0, W.K.mul_one W.on]
  refine ⟨⟨?_, fun h => W.K.one h.1⟩, ⟨?_, fun h => W.K.one h.2⟩⟩
  ·simp only [runN, mul, O]; grind
  ·have := W.cor
   simp only [runN]; grind
 | i + 1, hi => by
  obtain ⟨h1, h2⟩ := W.run K hK i (by omega)
  have hb := bit_split K i (by omega)
  rw [show 256 - (i + 1) = 255 - i by omega]
  generalize K / 2 ^ (256 - i) = n at *
  have o1 := W.K.mul_on W.on n
  have hd := W.K.dif W.m W.on o1 (show mul inv d (n + 1) P = add inv d (mul inv d n P) P from rfl) h1 h2 W.cor W.nz
  rw [← W.K.mul_plus W.on] at hd
  show Rep s (stp u (bitN K (255 - i)) (runN u K i)).a (stp u (bitN K (255 - i)) (runN u K i)).b _ ∧ Rep s (stp u (bitN K (255 - i)) (runN u K i)).c (stp u (bitN K (255 - i)) (runN u K i)).e _
  rw [hb]
  generalize runN u K i = t at *
  cases bitN K (255 - i) with
  | false =>
   have h3 := W.K.dbl W.m W.c5 W.c6 o1 h1
   rw [← W.K.mul_plus W.on] at h3
   refine ⟨?_, ?_⟩
   ·rw [show 2 * n + (bif false then 1 else 0) = n + n by simp; omega]; exact h3
   ·rw [show 2 * n + (bif false then 1 else 0) + 1 = n + (n + 1) by simp; omega]; exact hd
  | true =>
   have h3 := W.K.dbl W.m W.c5 W.c6 (W.K.mul_on W.on (n + 1)) h2
   rw [← W.K.mul_plus W.on] at h3
   rw [← difX_turn, ← difZ_turn] at hd
   refine ⟨?_, ?_⟩
   ·rw [show 2 * n + (bif true then 1 else 0) = n + (n + 1) by simp; omega]; exact hd
   ·rw [show 2 * n + (bif true then 1 else 0) + 1 = n + 1 + (n + 1) by simp; omega]; exact h3
def aff (inv : F → F) (s : F) (Q : F × F) : F := (1 + Q.2) * inv ((1 - Q.2) * s)
theorem Fld.one_of (K : Fld F inv) {s : F} (hs : s * s = 1) {y : F} (h : (1 - y) * s = 0) : 1 - y = 0 := by
 rcases K.zero h with h | h
 ·exact h
 ·exact absurd (show (1 : F) = 0 by rw [← hs, h]; exact zz) K.one
theorem Rep.aff {s X Z : F} {Q : F × F} (K : Fld F inv) (hs : s * s = 1) (hz : inv 0 = 0) (h : Rep s X Z Q) : X * inv Z = Edw.aff inv s Q := by
 obtain ⟨h1, h2⟩ := h
 unfold Edw.aff
 by_cases hZ : Z = 0
 ·have hX : X ≠ 0 := fun e => h2 ⟨e, hZ⟩
  rw [hZ] at h1 ⊢
  have ht : (1 - Q.2) * s = 0 := by
   rcases K.zero (show X * ((1 - Q.2) * s) = 0 by grind) with h | h
   ·exact absurd h hX
   ·exact h
  rw [ht, hz]
  grind
 ·have ht : (1 - Q.2) * s ≠ 0 := fun e => by
   have e1 := K.one_of hs e
   rcases K.zero (show Z * (1 + Q.2) = 0 by rw [← h1]; grind) with h | h
   ·exact hZ h
   ·exact K.two (by grind)
  have i1 := K.mul_inv Z hZ
  have i2 := K.mul_inv _ ht
  generalize inv Z = iz at *
  generalize inv ((1 - Q.2) * s) = it at *
  refine K.cancel (K.ne hZ ht) ?_
  grind
theorem Way.lad {s d u : F} {P : F × F} (W : Way F inv s d u P) (K : Nat) (hK : K < 2 ^ 256) : Edw.lad inv u K = Edw.aff inv s (mul inv d K P) := by
 have h := (W.run K hK 256 (Nat.le_refl _)).1
 rw [show K / 2 ^ (256 - 256) = K by simp] at h
 exact h.aff W.K.toFld (sq_ne W.m) W.z
theorem dblZ_zero {X Z : F} (h : X * Z = 0) : dblZ X Z = 0 := by
 have e : dblE X Z = 0 := by simp only [dblE]; grind
 simp only [dblZ, e]
 exact zz'
theorem difZ_zero (X Z X' Z' : F) : difZ 0 X Z X' Z' = 0 := by simp only [difZ]; grind
theorem run_zero (K : Nat) : ∀ i, (runN (0 : F) K i).a * (runN (0 : F) K i).b = 0 ∧ (runN (0 : F) K i).c * (runN (0 : F) K i).e = 0
 | 0 => by simp only [runN]; constructor <;> grind
 | i + 1 => by
  obtain ⟨h1, h2⟩ := run_zero K i
  show (stp 0 (bitN K (255 - i)) (runN 0 K i)).a * (stp 0 (bitN K (255 - i)) (runN 0 K i)).b = 0 ∧ (stp 0 (bitN K (255 - i)) (runN 0 K i)).c * (stp 0 (bitN K (255 - i)) (runN 0 K i)).e = 0
  generalize runN (0 : F) K i = t at *
  cases bitN K (255 - i) with
  | false =>
   simp only [stp, cond_false, dblZ_zero h1, difZ_zero]
   constructor <;> grind
  | true =>
   simp only [stp, cond_true, dblZ_zero h2, difZ_zero]
   constructor <;> grind
theorem lad_zero (K : Fld F inv) (hz : inv 0 = 0) (n : Nat) : Edw.lad inv 0 n = 0 := by
 have h := (run_zero (F := F) n 256).1
 unfold Edw.lad
 rcases K.zero h with h | h
 ·rw [h]; exact zz'
 ·rw [h, hz]; grind
theorem lad_one (K : Fld F inv) (hz : inv 0 = 0) (H : ∀ u : F, u ≠ 0 → ∃ s d P, Way F inv s d u P) (u : F) : Edw.lad inv u 1 = u := by
 by_cases hu : u = 0
 ·rw [hu, lad_zero K hz]
 ·obtain ⟨s, d, P, W⟩ := H u hu
  rw [W.lad 1 (by decide), W.K.mul_one W.on]
  have ht : (1 - P.2) * s ≠ 0 := fun e => by
   have e1 := W.K.one_of (sq_ne W.m) e
   have c := W.cor
   exact W.K.two (by rw [e1] at c; grind)
  have i := W.K.mul_inv _ ht
  have c := W.cor
  unfold Edw.aff
  generalize inv ((1 - P.2) * s) = it at *
  grind
end Edw
end
end Go.Proofs.YtdoolhbmekahdaaGreatDoor
/- The field of the curve: of characteristic 2^255 - 19; its squares; each number but 0 is the x of a point of one of the two models. -/
namespace Go.Proofs.YtdoolhbmekahdaaGreatDoor
section
namespace Edw
set_option linter.unusedVariables false
def hf : Nat := 28948022309329048855892746252171976963317496166410141009864396001978282409974
def qf : Nat := 14474011154664524427946373126085988481658748083205070504932198000989141204987
def rf : Nat := 7237005577332262213973186563042994240829374041602535252466099000494570602494
theorem hf_two : hf + hf = undo + 1 := by rw [undo_is]; rfl
theorem qf_two : qf + qf = hf := rfl
theorem rf_two : rf + rf = 1 + qf := rfl
theorem nres : 121665 ^ hf % 57896044618658097711785492504343953926634992332820282019728792003956564819949 = 57896044618658097711785492504343953926634992332820282019728792003956564819949 - 1 := by
 rw [← pmf_is 57896044618658097711785492504343953926634992332820282019728792003956564819949 256 121665 hf (by decide)]
 decide +kernel
attribute [irreducible] hf qf rf
structure Fp (F : Type) [CR F] (r : Int → F) : Prop where
 ext : ∀ x y : Int, r x = r y ↔ x % 57896044618658097711785492504343953926634992332820282019728792003956564819949 = y % 57896044618658097711785492504343953926634992332820282019728792003956564819949
 sur : ∀ x : F, ∃ n : Int, 0 ≤ n ∧ n < 57896044618658097711785492504343953926634992332820282019728792003956564819949 ∧ x = r n
 mul : ∀ x y : Int, r (x * y) = r x * r y
 zero : r 0 = 0
 one : r 1 = 1
 neg : r (-1) = -1
 two : r 2 = 2
 n5 : r 121665 = 121665
 n6 : r 121666 = 121666
variable {F : Type} [CR F] {r : Int → F}
def finv (x : F) : F := x ^ undo
theorem pow_zer (x : F) : x ^ 0 = 1 := by grind
theorem pow_suc (x : F) (n : Nat) : x ^ (n + 1) = x ^ n * x := by grind
theorem pow_plus (x : F) (m : Nat) : ∀ n : Nat, x ^ (m + n) = x ^ m * x ^ n
 | 0 => by rw [pow_zer]; grind
 | n + 1 => by rw [show m + (n + 1) = (m + n) + 1 from rfl, pow_suc, pow_suc, pow_plus x m n]; grind
theorem pow_two' (x : F) (n : Nat) : x ^ n * x ^ n = x ^ (n + n) := (pow_plus x n n).symm
theorem mul_pow' (x y : F) : ∀ n : Nat, (x * y) ^ n = x ^ n * y ^ n
 | 0 => by rw [pow_zer, pow_zer, pow_zer]; grind
 | n + 1 => by rw [pow_suc, pow_suc, pow_suc, mul_pow' x y n]; grind
theorem Fp.pow (K : Fp F r) (x : Int) : ∀ n : Nat, r (x ^ n) = r x ^ n
 | 0 => by rw [Int.pow_zero, K.one, pow_zer]
 | n + 1 => by rw [Int.pow_succ, K.mul, K.pow x n, pow_suc]
theorem Fp.ne (K : Fp F r) (x y : Int) (h : x % 57896044618658097711785492504343953926634992332820282019728792003956564819949 ≠ y % 57896044618658097711785492504343953926634992332820282019728792003956564819949) : r x ≠ r y := fun e => h ((K.ext x y).1 e)
theorem Fp.mul_inv (K : Fp F r) (x : F) (hx : x ≠ 0) : x * finv x = 1 := by
 obtain ⟨n, h0, h1, rfl⟩ := K.sur x
 have hn : n ≠ 0 := fun e => hx (by rw [e]; exact K.zero)
 have hf := fermat_int n (by omega) h1
 have := (K.ext (n * n ^ undo) 1).2 (by rw [hf]; rfl)
 rw [K.mul, K.pow, K.one] at this
 exact this
theorem Fp.fld (K : Fp F r) : Fld F finv where
 one := by
  have := K.ne 1 0 (by decide)
  rwa [K.one, K.zero] at this
 two := by
  have := K.ne 2 0 (by decide)
  rwa [K.zero, K.two] at this
 mul_inv := K.mul_inv
theorem Fp.inv_zero (K : Fp F r) : finv (0 : F) = 0 := by
 unfold finv
 obtain ⟨m, hm⟩ : ∃ m, undo = m + 1 := ⟨undo - 1, by have := undo_is; omega⟩
 rw [hm, pow_suc]
 grind
theorem Fp.half (K : Fp F r) (w : F) (hw : w ≠ 0) : w ^ hf * w ^ hf = 1 := by
 rw [pow_two', hf_two, pow_suc]
 have := K.mul_inv w hw
 unfold finv at this
 grind
theorem Fp.half_cases (K : Fp F r) (w : F) (hw : w ≠ 0) : w ^ hf = 1 ∨ w ^ hf = -1 := by
 have h := K.half w hw
 rcases K.fld.zero (show (w ^ hf - 1) * (w ^ hf + 1) = 0 by grind) with h | h
 ·exact .inl (by grind)
 ·exact .inr (by grind)
theorem Fp.half_sq (K : Fp F r) (t : F) (ht : t ≠ 0) : (t * t) ^ hf = 1 := by
 rw [mul_pow']
 exact K.half t ht
theorem nres_int : (121665 : Int) ^ hf % 57896044618658097711785492504343953926634992332820282019728792003956564819949 = (-1) % 57896044618658097711785492504343953926634992332820282019728792003956564819949 := by
 have h : ((121665 ^ hf % 57896044618658097711785492504343953926634992332820282019728792003956564819949 : Nat) : Int) = ((57896044618658097711785492504343953926634992332820282019728792003956564819949 - 1 : Nat) : Int) := by rw [nres]
 rw [Int.natCast_emod, Int.natCast_pow] at h
 exact h
theorem Fp.nres (K : Fp F r) : (121665 : F) ^ hf = -1 := by
 have := (K.ext ((121665 : Int) ^ hf) (-1)).2 nres_int
 rwa [K.pow, K.neg, K.n5] at this
theorem Fp.c5 (K : Fp F r) : (121665 : F) ≠ 0 := by
 have := K.ne 121665 0 (by decide)
 rwa [K.zero, K.n5] at this
theorem Fp.c6 (K : Fp F r) : (121666 : F) ≠ 0 := by
 have := K.ne 121666 0 (by decide)
 rwa [K.zero, K.n6] at this
theorem Fp.res (K : Fp F r) : ∃ r : F, r * r = 121666 := by
 refine ⟨r 53349024335595116287218880480235248380932224208407348260407321313250266849793, ?_⟩
 rw [← K.mul, (K.ext _ 121666).2 (by decide +kernel)]
 exact K.n6
theorem Fp.im (K : Fp F r) : ∃ i : F, i * i = -1 := by
 refine ⟨r 19681161376707505956807079304988542015446066515923890162744021073123829784752, ?_⟩
 rw [← K.mul, (K.ext _ (-1)).2 (by decide +kernel)]
 exact K.neg
theorem Fp.root (K : Fp F r) (w : F) (h : w ^ hf = 1) : ∃ t : F, t * t = w := by
 have g2 : w ^ qf * w ^ qf = 1 := by rw [pow_two', qf_two, h]
 have r2 : w ^ rf * w ^ rf = w * w ^ qf := by rw [pow_two', rf_two, pow_plus, show w ^ 1 = w by grind]
 generalize w ^ qf = g at *
 generalize w ^ rf = r at *
 rcases K.fld.zero (show (g - 1) * (g + 1) = 0 by grind) with h1 | h1
 ·exact ⟨r, by grind⟩
 ·obtain ⟨i, hi⟩ := K.im
  exact ⟨i * r, by grind⟩
theorem Fp.signs (K : Fp F r) : (1 : F) ≠ -1 := fun h => K.fld.two (by grind)
theorem Fp.nosq (K : Fp F r) (t c : F) (hc : c ^ hf = -1) (h0 : c ≠ 0) : t * t ≠ c := fun h => by
 have ht : t ≠ 0 := fun e => h0 (by rw [← h, e]; exact zz)
 have := K.half_sq t ht
 rw [h, hc] at this
 exact K.signs this.symm
theorem Fp.both_hf (K : Fp F r) : (121665 * 121666 : F) ^ hf = -1 := by
 obtain ⟨r, hr⟩ := K.res
 have hr0 : r ≠ 0 := fun e => K.c6 (by rw [← hr, e]; exact zz)
 have := K.half_sq r hr0
 rw [mul_pow', K.nres, ← hr, this]
 grind
theorem Fp.crv1 (K : Fp F r) {d : F} (hd : 121666 * d = 121665) : Crv F finv d := { K.fld with nonsq := fun t h => K.nosq (121666 * t) (121665 * 121666) K.both_hf (K.fld.ne K.c5 K.c6) (by rw [← hd, ← h]; grind) }
theorem Fp.crv2 (K : Fp F r) {d : F} (hd : 121665 * d = 121666) : Crv F finv d := { K.fld with nonsq := fun t h => K.nosq (121665 * t) (121665 * 121666) K.both_hf (K.fld.ne K.c5 K.c6) (by rw [← hd, ← h]; grind) }
theorem Fp.quad (K : Fp F r) (u : F) : u * u + 486662 * u + 1 ≠ 0 := fun h => by
 have h4 : (4 : F) ≠ 0 := by have := K.fld.ne K.fld.two K.fld.two; exact fun e => this (by grind)
 refine K.nosq (2 * u + 486662) (4 * 4 * (121665 * 121666)) ?_ (K.fld.ne (K.fld.ne h4 h4) (K.fld.ne K.c5 K.c6)) (by grind)
 rw [mul_pow', K.both_hf, K.half_sq 4 h4]
 grind
theorem model1 (u v r X Y d : F) (hX : X * v = 2 * r * u) (hY : Y * (u + 1) = u - 1) (hv : v * v = u * (u * u + 486662 * u + 1)) (hr : r * r = 121666) (hd : 121666 * d = 121665) :
  (X * X + Y * Y) * (v * v * ((u + 1) * (u + 1))) = (1 + d * X * X * Y * Y) * (v * v * ((u + 1) * (u + 1))) := by
 have e1 : X * X * (v * v) = 4 * 121666 * (u * u) := by rw [← hr]; grind
 have e2 : Y * Y * ((u + 1) * (u + 1)) = (u - 1) * (u - 1) := by grind
 have l : (X * X + Y * Y) * (v * v * ((u + 1) * (u + 1))) = X * X * (v * v) * ((u + 1) * (u + 1)) + Y * Y * ((u + 1) * (u + 1)) * (v * v) := by clear hX hY hv hr hd e1 e2; grind
 have r' : (1 + d * X * X * Y * Y) * (v * v * ((u + 1) * (u + 1))) = v * v * ((u + 1) * (u + 1)) + d * (X * X * (v * v)) * (Y * Y * ((u + 1) * (u + 1))) := by clear hX hY hv hr hd e1 e2; grind
 rw [l, r', e1, e2, hv]
 clear l r' e1 e2 hX hY hv hr
 grind
theorem model2 (u v X Y d : F) (hX : X * v = 2 * 121665 * u) (hY : Y * (u - 1) = u + 1) (hv : v * v = 121665 * (u * (u * u + 486662 * u + 1))) (hd : 121665 * d = 121666) :
  (X * X + Y * Y) * (v * v * ((u - 1) * (u - 1))) = (1 + d * X * X * Y * Y) * (v * v * ((u - 1) * (u - 1))) := by
 have e1 : X * X * (v * v) = 4 * 121665 * 121665 * (u * u) := by grind
 have e2 : Y * Y * ((u - 1) * (u - 1)) = (u + 1) * (u + 1) := by grind
 have l : (X * X + Y * Y) * (v * v * ((u - 1) * (u - 1))) = X * X * (v * v) * ((u - 1) * (u - 1)) + Y * Y * ((u - 1) * (u - 1)) * (v * v) := by clear hX hY hv hd e1 e2; grind
 have r' : (1 + d * X * X * Y * Y) * (v * v * ((u - 1) * (u - 1))) = v * v * ((u - 1) * (u - 1)) + d * (X * X * (v * v)) * (Y * Y * ((u - 1) * (u - 1))) := by clear hX hY hv hd e1 e2; grind
 rw [l, r', e1, e2, hv]
 clear l r' e1 e2 hX hY hv
 grind
theorem Fp.way (K : Fp F r) (u : F) (hu : u ≠ 0) : ∃ s d P, Way F finv s d u P := by
 have hw : u * (u * u + 486662 * u + 1) ≠ 0 := K.fld.ne hu (K.quad u)
 have h2 := K.fld.two
 obtain ⟨r, hr⟩ := K.res
 have hr0 : r ≠ 0 := fun e => K.c6 (by rw [← hr, e]; exact zz)
 rcases K.half_cases _ hw with h | h
 ·obtain ⟨v, hv⟩ := K.root _ h
  have hv0 : v ≠ 0 := fun e => hw (by rw [← hv, e]; exact zz)
  have h1 : u + 1 ≠ 0 := fun e => by
   have hu1 : u = -1 := by grind
   rw [show u * (u * u + 486662 * u + 1) = 2 * 2 * 121665 by rw [hu1]; grind, mul_pow', K.nres, K.half_sq 2 h2] at h
   exact K.signs (by rw [← h]; grind)
  have hd := K.mul_inv _ K.c6
  have hd' : 121666 * (121665 * finv (121666 : F)) = 121665 := by grind
  have iv := K.mul_inv _ hv0
  have i1 := K.mul_inv _ h1
  refine ⟨1, 121665 * finv 121666, (2 * r * u * finv v, (u - 1) * finv (u + 1)), K.crv1 hd', .inl ⟨rfl, hd'⟩, ?_, ?_, hu, K.c5, K.c6, K.inv_zero⟩
  ·refine K.fld.cancel (K.fld.ne (K.fld.ne hv0 hv0) (K.fld.ne h1 h1)) (model1 u v r _ _ _ ?_ ?_ hv hr hd')
   ·show 2 * r * u * finv v * v = 2 * r * u
    generalize finv v = x at *
    clear hd hd' i1
    grind
   ·show (u - 1) * finv (u + 1) * (u + 1) = u - 1
    generalize finv (u + 1) = x at *
    clear hd hd' iv
    grind
  ·show u * (1 - (u - 1) * finv (u + 1)) * 1 = 1 + (u - 1) * finv (u + 1)
   generalize finv (u + 1) = x at *
   clear hd hd' iv
   grind
 ·obtain ⟨v, hv⟩ := K.root (121665 * (u * (u * u + 486662 * u + 1))) (by rw [mul_pow', K.nres, h]; grind)
  have hv0 : v ≠ 0 := fun e => K.fld.ne K.c5 hw (by rw [← hv, e]; exact zz)
  have h1 : u - 1 ≠ 0 := fun e => by
   have hu1 : u = 1 := by grind
   rw [show u * (u * u + 486662 * u + 1) = 2 * r * (2 * r) by rw [hu1]; grind, K.half_sq _ (K.fld.ne h2 hr0)] at h
   exact K.signs h
  have hd := K.mul_inv _ K.c5
  have hd' : 121665 * (121666 * finv (121665 : F)) = 121666 := by grind
  have iv := K.mul_inv _ hv0
  have i1 := K.mul_inv _ h1
  refine ⟨-1, 121666 * finv 121665, (2 * 121665 * u * finv v, (u + 1) * finv (u - 1)), K.crv2 hd', .inr ⟨rfl, hd'⟩, ?_, ?_, hu, K.c5, K.c6, K.inv_zero⟩
  ·refine K.fld.cancel (K.fld.ne (K.fld.ne hv0 hv0) (K.fld.ne h1 h1)) (model2 u v _ _ _ ?_ ?_ hv hd')
   ·show 2 * 121665 * u * finv v * v = 2 * 121665 * u
    generalize finv v = x at *
    clear hd hd' i1
    grind
   ·show (u + 1) * finv (u - 1) * (u - 1) = u + 1
    generalize finv (u - 1) = x at *
    clear hd hd' iv
    grind
  ·show u * (1 - (u + 1) * finv (u - 1)) * -1 = 1 + (u + 1) * finv (u - 1)
   generalize finv (u - 1) = x at *
   clear hd hd' iv
   grind
end Edw
end
end Go.Proofs.YtdoolhbmekahdaaGreatDoor
/- The ladder over the numbers modulo 2^255 - 19. -/
namespace Go.Proofs.YtdoolhbmekahdaaGreatDoor
section
namespace Edw
set_option linter.unusedVariables false
theorem Fp.ladOne {F : Type} [CR F] {r : Int → F} (K : Fp F r) (u : F) : lad finv u 1 = u := lad_one K.fld K.inv_zero K.way u
end Edw
end
end Go.Proofs.YtdoolhbmekahdaaGreatDoor
/- The numbers modulo 2^255 - 19, as a field for the ladder. -/
namespace Go.Proofs.YtdoolhbmekahdaaGreatDoor
section
namespace Edw
set_option linter.unusedVariables false
instance neP : NeZero (57896044618658097711785492504343953926634992332820282019728792003956564819949 : Nat) := ⟨by decide⟩
def Gp : Type := Fin 57896044618658097711785492504343953926634992332820282019728792003956564819949
instance gpRing : CR Gp := inferInstanceAs (CR (Fin 57896044618658097711785492504343953926634992332820282019728792003956564819949))
def gmk (n : Nat) (h : n < 57896044618658097711785492504343953926634992332820282019728792003956564819949) : Gp := (⟨n, h⟩ : Fin 57896044618658097711785492504343953926634992332820282019728792003956564819949)
def gnat (x : Gp) : Nat := (show Fin 57896044618658097711785492504343953926634992332820282019728792003956564819949 from x).val
theorem gnat_lt (x : Gp) : gnat x < 57896044618658097711785492504343953926634992332820282019728792003956564819949 := (show Fin 57896044618658097711785492504343953926634992332820282019728792003956564819949 from x).isLt
theorem gnat_inj {x y : Gp} (h : gnat x = gnat y) : x = y := Fin.ext h
theorem gnat_add (x y : Gp) : gnat (x + y) = (gnat x + gnat y) % 57896044618658097711785492504343953926634992332820282019728792003956564819949 := rfl
theorem gnat_mul (x y : Gp) : gnat (x * y) = gnat x * gnat y % 57896044618658097711785492504343953926634992332820282019728792003956564819949 := rfl
def red (x : Int) : Gp := gmk (x % 57896044618658097711785492504343953926634992332820282019728792003956564819949).toNat (by omega)
theorem gnat_red (x : Int) : gnat (red x) = (x % 57896044618658097711785492504343953926634992332820282019728792003956564819949).toNat := rfl
theorem red_eq (x y : Int) : red x = red y ↔ x % 57896044618658097711785492504343953926634992332820282019728792003956564819949 = y % 57896044618658097711785492504343953926634992332820282019728792003956564819949 := by
 constructor
 ·intro h
  have := congrArg gnat h
  rw [gnat_red, gnat_red] at this
  omega
 ·intro h
  unfold red
  congr 1
  rw [h]
theorem red_add (x y : Int) : red (x + y) = red x + red y := gnat_inj (by
 rw [gnat_add, gnat_red, gnat_red, gnat_red]
 omega)
theorem red_mul (x y : Int) : red (x * y) = red x * red y := gnat_inj (by
 rw [gnat_mul, gnat_red, gnat_red, gnat_red]
 have h1 : ((x % 57896044618658097711785492504343953926634992332820282019728792003956564819949).toNat : Int) = x % 57896044618658097711785492504343953926634992332820282019728792003956564819949 := Int.toNat_of_nonneg (Int.emod_nonneg _ (by decide))
 have h2 : ((y % 57896044618658097711785492504343953926634992332820282019728792003956564819949).toNat : Int) = y % 57896044618658097711785492504343953926634992332820282019728792003956564819949 := Int.toNat_of_nonneg (Int.emod_nonneg _ (by decide))
 have h3 : (((x * y) % 57896044618658097711785492504343953926634992332820282019728792003956564819949).toNat : Int) = (x * y) % 57896044618658097711785492504343953926634992332820282019728792003956564819949 := Int.toNat_of_nonneg (Int.emod_nonneg _ (by decide))
 have h4 : (((x % 57896044618658097711785492504343953926634992332820282019728792003956564819949).toNat * (y % 57896044618658097711785492504343953926634992332820282019728792003956564819949).toNat % 57896044618658097711785492504343953926634992332820282019728792003956564819949 : Nat) : Int) = (x * y) % 57896044618658097711785492504343953926634992332820282019728792003956564819949 := by
  rw [Int.natCast_emod, Int.natCast_mul, h1, h2, Int.mul_emod x y]
  rfl
 omega)
theorem red_zero : red 0 = 0 := gnat_inj (by decide +kernel)
theorem red_one : red 1 = 1 := gnat_inj (by decide +kernel)
theorem red_mod (x : Int) : red (x % 57896044618658097711785492504343953926634992332820282019728792003956564819949) = red x := (red_eq _ _).2 (by omega)
theorem red_gnat (x : Gp) : red (gnat x : Int) = x := gnat_inj (by
 have := gnat_lt x
 rw [gnat_red]
 omega)
theorem gp : Fp Gp red where
 ext := red_eq
 sur x := ⟨gnat x, by omega, by have := gnat_lt x; omega, (red_gnat x).symm⟩
 mul := red_mul
 zero := red_zero
 one := red_one
 neg := gnat_inj (by decide +kernel)
 two := gnat_inj (by decide +kernel)
 n5 := gnat_inj (by decide +kernel)
 n6 := gnat_inj (by decide +kernel)
theorem sub_of {F : Type} [CR F] (a b c : F) (h : a = b + c) : a - c = b := by grind
theorem red_sub (x y : Int) : red (x - y) = red x - red y := by
 have h := red_add (x - y) y
 rw [Int.sub_add_cancel] at h
 exact (sub_of _ _ _ h).symm
theorem red_pow (x : Int) (n : Nat) : red (x ^ n) = red x ^ n := gp.pow x n
end Edw
end
end Go.Proofs.YtdoolhbmekahdaaGreatDoor
/- The order of the base point, 2^252 + 27742317777372353535851937790883648493, is prime. -/
namespace Go.Proofs.YtdoolhbmekahdaaGreatDoor
section
set_option linter.unusedVariables false
end
end Go.Proofs.YtdoolhbmekahdaaGreatDoor
/- What multiples of a point come to the neutral one. -/
namespace Go.Proofs.YtdoolhbmekahdaaGreatDoor
section
namespace Edw
set_option linter.unusedVariables false
variable {F : Type} [CR F] {inv : F → F}
end Edw
end
end Go.Proofs.YtdoolhbmekahdaaGreatDoor
/- A point's x, so many times, as a number; what the order of 9 says of it. -/
namespace Go.Proofs.YtdoolhbmekahdaaGreatDoor
section
namespace Edw
set_option linter.unusedVariables false
theorem Way.next {F : Type} [CR F] {inv : F → F} {s d u : F} {P : F × F} (W : Way F inv s d u P) (k : Nat) (hk : k < 2 ^ 256) (h : Edw.lad inv u k ≠ 0) : Way F inv s d (Edw.lad inv u k) (mul inv d k P) := by
 rw [W.lad k hk] at h ⊢
 have hQ := W.K.mul_on W.on k
 generalize mul inv d k P = Q at *
 have ht : (1 - Q.2) * s ≠ 0 := fun e => h (by unfold Edw.aff; rw [e, W.z]; grind)
 have i := W.K.mul_inv _ ht
 exact ⟨W.K, W.m, hQ, by unfold Edw.aff; generalize inv ((1 - Q.2) * s) = it at *; grind, h, W.c5, W.c6, W.z⟩
def gval (x : Gp) : Int := (gnat x : Int)
theorem gval_bd (x : Gp) : 0 ≤ gval x ∧ gval x < 57896044618658097711785492504343953926634992332820282019728792003956564819949 := by
 unfold gval
 have := gnat_lt x
 omega
theorem red_gval (x : Gp) : red (gval x) = x := red_gnat x
theorem red_inj {x y : Int} (hx : 0 ≤ x ∧ x < 57896044618658097711785492504343953926634992332820282019728792003956564819949) (hy : 0 ≤ y ∧ y < 57896044618658097711785492504343953926634992332820282019728792003956564819949) (h : red x = red y) : x = y := by
 have := (red_eq x y).1 h
 omega
def tv (K : Nat) (v : Int) : Int := gval (lad finv (red v) K)
theorem tv_bd (K : Nat) (v : Int) : 0 ≤ tv K v ∧ tv K v < 57896044618658097711785492504343953926634992332820282019728792003956564819949 := gval_bd _
theorem tv_red (K : Nat) (v : Int) : red (tv K v) = lad finv (red v) K := red_gval _
theorem tv_of {K : Nat} {v x : Int} (hx : 0 ≤ x ∧ x < 57896044618658097711785492504343953926634992332820282019728792003956564819949) (h : red x = lad finv (red v) K) : x = tv K v := red_inj hx (tv_bd _ _) (h.trans (tv_red _ _).symm)
theorem tv_one (v : Int) (hv : 0 ≤ v ∧ v < 57896044618658097711785492504343953926634992332820282019728792003956564819949) : tv 1 v = v := red_inj (tv_bd _ _) hv (by
 rw [tv_red]
 exact gp.ladOne (red v))
def gK (n : Nat) : Gp := red (n : Int)
theorem gK_num : gK 121665 = 121665 := gp.n5
end Edw
end
end Go.Proofs.YtdoolhbmekahdaaGreatDoor
