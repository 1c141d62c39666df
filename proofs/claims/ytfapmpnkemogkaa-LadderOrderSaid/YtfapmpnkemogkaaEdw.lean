/- Edwards' addition, over a field in which d is no square: it has no exceptions, and is a commutative group; multiples. (For the ladder.) -/
namespace Go.Proofs.Ytfapmpnkemogkaa
namespace Edw
open Lean.Grind
set_option linter.unusedVariables false
structure Fld (F : Type) [CommRing F] (inv : F → F) : Prop where
  one : (1 : F) ≠ 0
  two : (2 : F) ≠ 0
  mul_inv : ∀ x : F, x ≠ 0 → x * inv x = 1
variable {F : Type} [CommRing F] {inv : F → F}
theorem Fld.zero (K : Fld F inv) {a b : F} (h : a * b = 0) : a = 0 ∨ b = 0 := by
  by_cases ha : a = 0
  · exact .inl ha
  · right
    have := K.mul_inv a ha
    grind
theorem Fld.ne (K : Fld F inv) {a b : F} (ha : a ≠ 0) (hb : b ≠ 0) : a * b ≠ 0 := fun h => by
  rcases K.zero h with h | h <;> contradiction
theorem Fld.cancel (K : Fld F inv) {a b c : F} (hc : c ≠ 0) (h : a * c = b * c) : a = b := by
  have := K.mul_inv c hc
  grind
/-- on the curve -/
def On (d : F) (P : F × F) : Prop := P.1 * P.1 + P.2 * P.2 = 1 + d * P.1 * P.1 * P.2 * P.2
def xx (d : F) (P Q : F × F) : F := d * P.1 * Q.1 * P.2 * Q.2
def add (inv : F → F) (d : F) (P Q : F × F) : F × F := ((P.1 * Q.2 + P.2 * Q.1) * inv (1 + xx d P Q), (P.2 * Q.2 - P.1 * Q.1) * inv (1 - xx d P Q))
structure Crv (F : Type) [CommRing F] (inv : F → F) (d : F) : Prop extends Fld F inv where
  nonsq : ∀ t : F, t * t ≠ d
/-- no exceptions -/
theorem Crv.complete {d : F} (K : Crv F inv d) {P Q : F × F} (hP : On d P) (hQ : On d Q) : xx d P Q * xx d P Q ≠ 1 := by
  obtain ⟨x1, y1⟩ := P
  obtain ⟨x2, y2⟩ := Q
  simp only [On, xx] at hP hQ ⊢
  intro h
  have nz : ∀ a b : F, d * x1 * x2 * y1 * y2 = a * b → a ≠ 0 := fun a b e ha => K.one (by rw [← h, e, ha]; grind)
  have hx1 : x1 ≠ 0 := nz x1 (d * x2 * y1 * y2) (by grind)
  have hy1 : y1 ≠ 0 := nz y1 (d * x1 * x2 * y2) (by grind)
  have hx2 : x2 ≠ 0 := nz x2 (d * x1 * y1 * y2) (by grind)
  have sq : ∀ s t : F, t ≠ 0 → s * s = d * (t * t) → False := fun s t ht e => by
    have hi := K.mul_inv t ht
    exact K.nonsq (s * inv t) (by grind)
  by_cases hp : x2 + y2 = 0
  · by_cases hm : x2 - y2 = 0
    · rcases K.zero (show 2 * x2 = 0 by grind) with h2 | h2
      · exact K.two h2
      · exact hx2 h2
    · exact sq (x1 - d * x1 * x2 * y1 * y2 * y1) (x1 * y1 * (x2 - y2)) (K.ne (K.ne hx1 hy1) hm) (by grind)
  · exact sq (x1 + d * x1 * x2 * y1 * y2 * y1) (x1 * y1 * (x2 + y2)) (K.ne (K.ne hx1 hy1) hp) (by grind)
theorem Crv.plus {d : F} (K : Crv F inv d) {P Q : F × F} (hP : On d P) (hQ : On d Q) : 1 + xx d P Q ≠ 0 := fun h => K.complete hP hQ (by grind)
theorem Crv.minus {d : F} (K : Crv F inv d) {P Q : F × F} (hP : On d P) (hQ : On d Q) : 1 - xx d P Q ≠ 0 := fun h => K.complete hP hQ (by grind)
/-- the sum's coordinates, without undoing -/
theorem Crv.add_x {d : F} (K : Crv F inv d) {P Q : F × F} (hP : On d P) (hQ : On d Q) : (add inv d P Q).1 * (1 + xx d P Q) = P.1 * Q.2 + P.2 * Q.1 := by
  have := K.mul_inv _ (K.plus hP hQ)
  simp only [add]
  grind
theorem Crv.add_y {d : F} (K : Crv F inv d) {P Q : F × F} (hP : On d P) (hQ : On d Q) : (add inv d P Q).2 * (1 - xx d P Q) = P.2 * Q.2 - P.1 * Q.1 := by
  have := K.mul_inv _ (K.minus hP hQ)
  simp only [add]
  grind
theorem clos (x1 y1 x2 y2 d X Y e : F) (he : e = d * x1 * x2 * y1 * y2) (c1 : x1*x1+y1*y1 = 1 + d*x1*x1*y1*y1) (c2 : x2*x2+y2*y2 = 1 + d*x2*x2*y2*y2) :
    (x1*y2+y1*x2)*(x1*y2+y1*x2)*((1-e)*(1-e)) + (y1*y2-x1*x2)*(y1*y2-x1*x2)*((1+e)*(1+e)) = (1+e)*(1+e)*((1-e)*(1-e)) + d*((x1*y2+y1*x2)*(x1*y2+y1*x2))*((y1*y2-x1*x2)*(y1*y2-x1*x2)) := by
  subst he
  grind
theorem Crv.add_on {d : F} (K : Crv F inv d) {P Q : F × F} (hP : On d P) (hQ : On d Q) : On d (add inv d P Q) := by
  have hx := K.add_x hP hQ
  have hy := K.add_y hP hQ
  have np := K.plus hP hQ
  have nm := K.minus hP hQ
  obtain ⟨x1, y1⟩ := P
  obtain ⟨x2, y2⟩ := Q
  generalize add inv d (x1, y1) (x2, y2) = S at *
  obtain ⟨X, Y⟩ := S
  have hc := clos x1 y1 x2 y2 d X Y _ rfl hP hQ
  simp only [On, xx] at *
  generalize d * x1 * x2 * y1 * y2 = e at *
  refine K.cancel (K.ne (K.ne np np) (K.ne nm nm)) ?_
  rw [← hx, ← hy] at hc
  clear hx hy hP hQ np nm
  grind
theorem Crv.add_comm (d : F) (P Q : F × F) : add inv d P Q = add inv d Q P := by
  have e : xx d P Q = xx d Q P := by simp only [xx]; grind
  simp only [add, e]
  congr 1
  · congr 1; grind
  · congr 1; grind
theorem assocX (x1 y1 x2 y2 x3 y3 d : F) (c1 : x1*x1+y1*y1 = 1 + d*x1*x1*y1*y1) (c2 : x2*x2+y2*y2 = 1 + d*x2*x2*y2*y2) (c3 : x3*x3+y3*y3 = 1 + d*x3*x3*y3*y3) :
    ((x1*y2+y1*x2)*y3*(1-d*x1*x2*y1*y2) + (y1*y2-x1*x2)*x3*(1+d*x1*x2*y1*y2)) * ((1+d*x2*x3*y2*y3)*(1-d*x2*x3*y2*y3) + d*(x2*y3+y2*x3)*(y2*y3-x2*x3)*x1*y1)
    = (x1*(y2*y3-x2*x3)*(1+d*x2*x3*y2*y3) + y1*(x2*y3+y2*x3)*(1-d*x2*x3*y2*y3)) * ((1+d*x1*x2*y1*y2)*(1-d*x1*x2*y1*y2) + d*(x1*y2+y1*x2)*(y1*y2-x1*x2)*x3*y3) := by grind
theorem assocY (x1 y1 x2 y2 x3 y3 d : F) (c1 : x1*x1+y1*y1 = 1 + d*x1*x1*y1*y1) (c2 : x2*x2+y2*y2 = 1 + d*x2*x2*y2*y2) (c3 : x3*x3+y3*y3 = 1 + d*x3*x3*y3*y3) :
    ((y1*y2-x1*x2)*y3*(1+d*x1*x2*y1*y2) - (x1*y2+y1*x2)*x3*(1-d*x1*x2*y1*y2)) * ((1+d*x2*x3*y2*y3)*(1-d*x2*x3*y2*y3) - d*(x2*y3+y2*x3)*(y2*y3-x2*x3)*x1*y1)
    = (y1*(y2*y3-x2*x3)*(1+d*x2*x3*y2*y3) - x1*(x2*y3+y2*x3)*(1-d*x2*x3*y2*y3)) * ((1+d*x1*x2*y1*y2)*(1-d*x1*x2*y1*y2) - d*(x1*y2+y1*x2)*(y1*y2-x1*x2)*x3*y3) := by grind
theorem glue {X L M X' L' M' : F} (h : X * L = M) (h' : X' * L' = M') (e : M * L' = M' * L) : X * (L * L') = X' * (L * L') := by grind
/-- the sum of a sum and a third: its coordinates, without undoing -/
theorem Crv.add3_x {d : F} (K : Crv F inv d) {P Q R : F × F} (hP : On d P) (hQ : On d Q) (hR : On d R) :
    (add inv d (add inv d P Q) R).1 * ((1 + xx d P Q) * (1 - xx d P Q) + d * (P.1 * Q.2 + P.2 * Q.1) * (P.2 * Q.2 - P.1 * Q.1) * R.1 * R.2)
      = (P.1 * Q.2 + P.2 * Q.1) * R.2 * (1 - xx d P Q) + (P.2 * Q.2 - P.1 * Q.1) * R.1 * (1 + xx d P Q) := by
  have hx := K.add_x hP hQ
  have hy := K.add_y hP hQ
  have h3 := K.add_x (K.add_on hP hQ) hR
  rw [← hx, ← hy]
  generalize 1 + xx d P Q = p at *
  generalize 1 - xx d P Q = m at *
  generalize add inv d P Q = A at *
  generalize add inv d A R = S at *
  simp only [xx] at h3
  clear hx hy
  grind
theorem Crv.add3_y {d : F} (K : Crv F inv d) {P Q R : F × F} (hP : On d P) (hQ : On d Q) (hR : On d R) :
    (add inv d (add inv d P Q) R).2 * ((1 + xx d P Q) * (1 - xx d P Q) - d * (P.1 * Q.2 + P.2 * Q.1) * (P.2 * Q.2 - P.1 * Q.1) * R.1 * R.2)
      = (P.2 * Q.2 - P.1 * Q.1) * R.2 * (1 + xx d P Q) - (P.1 * Q.2 + P.2 * Q.1) * R.1 * (1 - xx d P Q) := by
  have hx := K.add_x hP hQ
  have hy := K.add_y hP hQ
  have h3 := K.add_y (K.add_on hP hQ) hR
  rw [← hx, ← hy]
  generalize 1 + xx d P Q = p at *
  generalize 1 - xx d P Q = m at *
  generalize add inv d P Q = A at *
  generalize add inv d A R = S at *
  simp only [xx] at h3
  clear hx hy
  grind
theorem Crv.den_x {d : F} (K : Crv F inv d) {P Q R : F × F} (hP : On d P) (hQ : On d Q) (hR : On d R) : (1 + xx d P Q) * (1 - xx d P Q) + d * (P.1 * Q.2 + P.2 * Q.1) * (P.2 * Q.2 - P.1 * Q.1) * R.1 * R.2 ≠ 0 := by
  have hx := K.add_x hP hQ
  have hy := K.add_y hP hQ
  have h3 := K.ne (K.ne (K.plus hP hQ) (K.minus hP hQ)) (K.plus (K.add_on hP hQ) hR)
  rw [← hx, ← hy]
  generalize 1 + xx d P Q = p at *
  generalize 1 - xx d P Q = m at *
  generalize add inv d P Q = A at *
  simp only [xx] at h3
  clear hx hy
  intro h
  exact h3 (by rw [← h]; grind)
theorem Crv.den_y {d : F} (K : Crv F inv d) {P Q R : F × F} (hP : On d P) (hQ : On d Q) (hR : On d R) : (1 + xx d P Q) * (1 - xx d P Q) - d * (P.1 * Q.2 + P.2 * Q.1) * (P.2 * Q.2 - P.1 * Q.1) * R.1 * R.2 ≠ 0 := by
  have hx := K.add_x hP hQ
  have hy := K.add_y hP hQ
  have h3 := K.ne (K.ne (K.plus hP hQ) (K.minus hP hQ)) (K.minus (K.add_on hP hQ) hR)
  rw [← hx, ← hy]
  generalize 1 + xx d P Q = p at *
  generalize 1 - xx d P Q = m at *
  generalize add inv d P Q = A at *
  simp only [xx] at h3
  clear hx hy
  intro h
  exact h3 (by rw [← h]; grind)
theorem Crv.assoc {d : F} (K : Crv F inv d) {P Q R : F × F} (hP : On d P) (hQ : On d Q) (hR : On d R) : add inv d (add inv d P Q) R = add inv d P (add inv d Q R) := by
  rw [Crv.add_comm d P (add inv d Q R), Crv.add_comm d Q R]
  refine Prod.ext ?_ ?_
  · refine K.cancel (K.ne (K.den_x hP hQ hR) (K.den_x hR hQ hP)) (glue (K.add3_x hP hQ hR) (K.add3_x hR hQ hP) ?_)
    have h := assocX P.1 P.2 Q.1 Q.2 R.1 R.2 d hP hQ hR
    simp only [xx]
    clear hP hQ hR
    grind
  · refine K.cancel (K.ne (K.den_y hP hQ hR) (K.den_y hR hQ hP)) (glue (K.add3_y hP hQ hR) (K.add3_y hR hQ hP) ?_)
    have h := assocY P.1 P.2 Q.1 Q.2 R.1 R.2 d hP hQ hR
    simp only [xx]
    clear hP hQ hR
    grind
def O : F × F := (0, 1)
theorem O_on (d : F) : On d (O : F × F) := by simp only [On, O]; grind
theorem Crv.add_O {d : F} (K : Crv F inv d) {P : F × F} (hP : On d P) : add inv d P O = P := by
  refine Prod.ext ?_ ?_
  · refine K.cancel (K.plus hP (O_on d)) ?_
    rw [K.add_x hP (O_on d)]
    simp only [O, xx]
    grind
  · refine K.cancel (K.minus hP (O_on d)) ?_
    rw [K.add_y hP (O_on d)]
    simp only [O, xx]
    grind
def neg (P : F × F) : F × F := (-P.1, P.2)
theorem neg_on {d : F} {P : F × F} (hP : On d P) : On d (neg P) := by simp only [On, neg] at *; grind
theorem Crv.add_neg {d : F} (K : Crv F inv d) {P : F × F} (hP : On d P) : add inv d P (neg P) = O := by
  refine Prod.ext ?_ ?_
  · refine K.cancel (K.plus hP (neg_on hP)) ?_
    rw [K.add_x hP (neg_on hP)]
    simp only [O, neg]
    grind
  · refine K.cancel (K.minus hP (neg_on hP)) ?_
    rw [K.add_y hP (neg_on hP)]
    simp only [O, neg, xx, On] at *
    grind
/-- multiples -/
def mul (inv : F → F) (d : F) : Nat → F × F → F × F
  | 0, _ => O
  | n + 1, P => add inv d (mul inv d n P) P
theorem Crv.mul_on {d : F} (K : Crv F inv d) {P : F × F} (hP : On d P) : ∀ n, On d (mul inv d n P)
  | 0 => O_on d
  | n + 1 => K.add_on (K.mul_on hP n) hP
theorem Crv.mul_plus {d : F} (K : Crv F inv d) {P : F × F} (hP : On d P) (m : Nat) : ∀ n, mul inv d (m + n) P = add inv d (mul inv d m P) (mul inv d n P)
  | 0 => (K.add_O (K.mul_on hP m)).symm
  | n + 1 => by
    show add inv d (mul inv d (m + n) P) P = add inv d (mul inv d m P) (add inv d (mul inv d n P) P)
    rw [K.mul_plus hP m n, K.assoc (K.mul_on hP m) (K.mul_on hP n) hP]
theorem Crv.mul_mul {d : F} (K : Crv F inv d) {P : F × F} (hP : On d P) (m : Nat) : ∀ n, mul inv d (n * m) P = mul inv d n (mul inv d m P)
  | 0 => by rw [Nat.zero_mul]; rfl
  | n + 1 => by
    rw [Nat.succ_mul, K.mul_plus hP, K.mul_mul hP m n]
    rfl
theorem Crv.mul_one {d : F} (K : Crv F inv d) {P : F × F} (hP : On d P) : mul inv d 1 P = P := by
  show add inv d O P = P
  rw [Crv.add_comm, K.add_O hP]
theorem Crv.mul_swap {d : F} (K : Crv F inv d) {P : F × F} (hP : On d P) (m n : Nat) : mul inv d n (mul inv d m P) = mul inv d m (mul inv d n P) := by
  rw [← K.mul_mul hP, ← K.mul_mul hP, Nat.mul_comm]
end Edw
end Go.Proofs.Ytfapmpnkemogkaa
