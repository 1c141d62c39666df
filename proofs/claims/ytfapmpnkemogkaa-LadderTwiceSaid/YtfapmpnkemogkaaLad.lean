/- Montgomery's ladder over a field: what it comes to is the x of a multiple; so multiples of multiples hang on no order. (For P5.2.) -/
import Derived.Test.YtfapmpnkemogkaaEdw
namespace Go.Proofs.Ytfapmpnkemogkaa
namespace Edw
open Lean.Grind
set_option linter.unusedVariables false
variable {F : Type} [CommRing F] {inv : F → F}
/-- the two models: s = 1 for the curve, s = -1 for its twist -/
def Model (s d : F) : Prop := (s = 1 ∧ 121666 * d = 121665) ∨ (s = -1 ∧ 121665 * d = 121666)
/-- X by Z stands for a point -/
def Rep (s X Z : F) (Q : F × F) : Prop := X * (1 - Q.2) * s = Z * (1 + Q.2) ∧ ¬ (X = 0 ∧ Z = 0)
def dblX (X Z : F) : F := (X + Z) * (X + Z) * ((X - Z) * (X - Z))
def dblE (X Z : F) : F := (X + Z) * (X + Z) - (X - Z) * (X - Z)
def dblZ (X Z : F) : F := dblE X Z * ((X + Z) * (X + Z) + 121665 * dblE X Z)
def difX (X Z X' Z' : F) : F := ((X' - Z') * (X + Z) + (X' + Z') * (X - Z)) * ((X' - Z') * (X + Z) + (X' + Z') * (X - Z))
def difZ (u X Z X' Z' : F) : F := u * (((X' - Z') * (X + Z) - (X' + Z') * (X - Z)) * ((X' - Z') * (X + Z) - (X' + Z') * (X - Z)))
/-- of A and B, one is y times the other -/
theorem rep_ab {s d X Z : F} {Q : F × F} (hs : Model s d) (h : Rep s X Z Q) : (s = 1 ∧ 121666 * d = 121665 ∧ X - Z = (X + Z) * Q.2) ∨ (s = -1 ∧ 121665 * d = 121666 ∧ X + Z = (X - Z) * Q.2) := by
  rcases hs with ⟨rfl, hd⟩ | ⟨rfl, hd⟩
  · have := h.1
    exact .inl ⟨rfl, hd, by grind⟩
  · have := h.1
    exact .inr ⟨rfl, hd, by grind⟩
theorem Fld.both (K : Fld F inv) {X Z : F} (h1 : X + Z = 0) (h2 : X - Z = 0) : X = 0 ∧ Z = 0 := by
  constructor
  · rcases K.zero (show 2 * X = 0 by grind) with h | h
    · exact absurd h K.two
    · exact h
  · rcases K.zero (show 2 * Z = 0 by grind) with h | h
    · exact absurd h K.two
    · exact h
theorem half_one (x y d : F) (c : x * x + y * y = 1 + d * x * x * y * y) (hd : 121666 * d = 121665) : (121666 - 121665 * (y * y)) * (1 - x * x) = y * y := by grind
theorem half_two (x y d : F) (c : x * x + y * y = 1 + d * x * x * y * y) (hd : 121665 * d = 121666) : (121665 - 121666 * (y * y)) * (1 - x * x) = - (y * y) := by grind
theorem Crv.dbl {s d : F} (K : Crv F inv d) (hs : Model s d) (c5 : (121665 : F) ≠ 0) (c6 : (121666 : F) ≠ 0) {X Z : F} {R : F × F} (hR : On d R) (h : Rep s X Z R) : Rep s (dblX X Z) (dblZ X Z) (add inv d R R) := by
  have hy := K.add_y hR hR
  have nm := K.minus hR hR
  have hab := rep_ab hs h
  have hn := h.2
  have hnz : ¬ (X + Z = 0 ∧ X - Z = 0) := fun h' => hn (K.both h'.1 h'.2)
  constructor
  · refine K.cancel nm ?_
    obtain ⟨x, y⟩ := R
    generalize (add inv d (x, y) (x, y)).2 = Y at *
    simp only [xx, On, dblX, dblZ, dblE] at *
    clear h hn hnz nm
    generalize X + Z = A at *
    generalize X - Z = B at *
    have e1 : (1 - Y) * (1 - d * x * x * y * y) = 2 - 2 * (y * y) := by grind
    have e2 : (1 + Y) * (1 - d * x * x * y * y) = 2 - 2 * (x * x) := by grind
    rcases hab with ⟨rfl, hd, hb⟩ | ⟨rfl, hd, hb⟩
    · have hh := half_one x y d hR hd
      subst hb
      generalize 1 - d * x * x * y * y = m at *
      clear hy hs hR hd
      have l : A * A * (A * y * (A * y)) * (1 - Y) * 1 * m = A * A * (A * y * (A * y)) * (2 - 2 * (y * y)) := by rw [← e1]; grind
      have r : (A * A - A * y * (A * y)) * (A * A + 121665 * (A * A - A * y * (A * y))) * (1 + Y) * m = (A * A - A * y * (A * y)) * (A * A + 121665 * (A * A - A * y * (A * y))) * (2 - 2 * (x * x)) := by rw [← e2]; grind
      rw [l, r]
      clear e1 e2 l r
      grind
    · have hh := half_two x y d hR hd
      subst hb
      generalize 1 - d * x * x * y * y = m at *
      clear hy hs hR hd
      have l : B * y * (B * y) * (B * B) * (1 - Y) * (-1) * m = - (B * y * (B * y) * (B * B)) * (2 - 2 * (y * y)) := by rw [← e1]; grind
      have r : (B * y * (B * y) - B * B) * (B * y * (B * y) + 121665 * (B * y * (B * y) - B * B)) * (1 + Y) * m = (B * y * (B * y) - B * B) * (B * y * (B * y) + 121665 * (B * y * (B * y) - B * B)) * (2 - 2 * (x * x)) := by rw [← e2]; grind
      rw [l, r]
      clear e1 e2 l r
      grind
  · rintro ⟨hx, hz⟩
    simp only [dblX, dblZ, dblE] at hx hz
    generalize X + Z = A at *
    generalize X - Z = B at *
    have key : A = 0 ∨ B = 0 := by
      rcases K.zero hx with h1 | h1
      · rcases K.zero h1 with h2 | h2 <;> exact .inl h2
      · rcases K.zero h1 with h2 | h2 <;> exact .inr h2
    rcases key with rfl | rfl
    · have hB : B ≠ 0 := fun e => hnz ⟨rfl, e⟩
      exact K.ne c5 (K.ne (K.ne hB hB) (K.ne hB hB)) (by rw [← hz]; grind)
    · have hA : A ≠ 0 := fun e => hnz ⟨e, rfl⟩
      exact K.ne c6 (K.ne (K.ne hA hA) (K.ne hA hA)) (by rw [← hz]; grind)
theorem Crv.back {d : F} (K : Crv F inv d) {P R : F × F} (hP : On d P) (hR : On d R) : add inv d (add inv d R P) (neg R) = P := by
  rw [Crv.add_comm d R P, K.assoc hP hR (neg_on hR), K.add_neg hR, K.add_O hP]
theorem difid (x y x' y' d e : F) (he : e = d * x * x' * y * y') (c : x * x + y * y = 1 + d * x * x * y * y) (c' : x' * x' + y' * y' = 1 + d * x' * x' * y' * y') :
    (y + y') * (y + y') * ((1 - e - (y * y' - x * x')) * (1 + e - (y * y' + x * x'))) = (y' - y) * (y' - y) * ((1 - e + (y * y' - x * x')) * (1 + e + (y * y' + x * x'))) := by
  subst he
  grind
theorem one_less {Y m t : F} (h : Y * m = t) : (1 - Y) * m = m - t := by grind
theorem one_more {Y m t : F} (h : Y * m = t) : (1 + Y) * m = m + t := by grind
theorem turn_neg {q e x y x' y' : F} (h : q * (1 - -e) = y' * y - x' * -x) : q * (1 + e) = y * y' + x * x' := by grind
theorem zz : (0 : F) * 0 = 0 := by grind
theorem zz' {a : F} : 0 * a = 0 := by grind
theorem sq_ne {s d : F} (hs : Model s d) : s * s = 1 := by rcases hs with ⟨rfl, _⟩ | ⟨rfl, _⟩ <;> grind
theorem Crv.dif {s d : F} (K : Crv F inv d) (hs : Model s d) {u X Z X' Z' : F} {P R S : F × F} (hP : On d P) (hR : On d R) (hS : S = add inv d R P) (h : Rep s X Z R) (h' : Rep s X' Z' S) (hu : u * (1 - P.2) * s = 1 + P.2) (hu0 : u ≠ 0) :
    Rep s (difX X Z X' Z') (difZ u X Z X' Z') (add inv d R S) := by
  have hSo : On d S := hS ▸ K.add_on hR hP
  have hy := K.add_y hR hSo
  have hb := K.back hP hR
  rw [← hS] at hb
  have hp := K.add_y hSo (neg_on hR)
  rw [hb] at hp
  have nm := K.minus hR hSo
  have np := K.plus hR hSo
  have hab := rep_ab hs h
  have hab' := rep_ab hs h'
  have hn : ¬ (X + Z = 0 ∧ X - Z = 0) := fun e => h.2 (K.both e.1 e.2)
  have hn' : ¬ (X' + Z' = 0 ∧ X' - Z' = 0) := fun e => h'.2 (K.both e.1 e.2)
  have hs1 := sq_ne hs
  have h1P : 1 - P.2 ≠ 0 := fun e => K.two (by
    rw [e] at hu
    have : P.2 = 1 := by grind
    rw [this] at hu
    grind)
  have h1P' : 1 + P.2 ≠ 0 := fun e => by
    rw [e] at hu
    rcases K.zero hu with h0 | h0
    · exact K.ne hu0 h1P h0
    · exact K.one (by rw [← hs1, h0]; exact zz)
  have hid := difid R.1 R.2 S.1 S.2 d (xx d R S) (by simp only [xx]) hR hSo
  have he : xx d S (neg R) = - xx d R S := by simp only [xx, neg]; grind
  rw [he] at hp
  simp only [neg] at hp
  unfold Rep
  have hxx : xx d R S = d * R.1 * S.1 * R.2 * S.2 := by simp only [xx]
  have hcR : R.1 * R.1 + R.2 * R.2 = 1 + d * R.1 * R.1 * R.2 * R.2 := hR
  have hcS : S.1 * S.1 + S.2 * S.2 = 1 + d * S.1 * S.1 * S.2 * S.2 := hSo
  generalize xx d R S = e at *
  generalize (add inv d R S).2 = Y at *
  generalize P.2 = q at *
  generalize R.1 = x at *
  generalize R.2 = y at *
  generalize S.1 = x' at *
  generalize S.2 = y' at *
  clear he hb hS hSo hR hP h h'
  have hp' := turn_neg hp
  have a1 := one_less hy
  have a2 := one_less hp'
  have b1 := one_more hy
  have b2 := one_more hp'
  rw [← a1, ← a2, ← b1, ← b2] at hid
  have hmid : ∃ k, difX X Z X' Z' = k * ((y + y') * (y + y')) ∧ difZ u X Z X' Z' = u * (k * ((y' - y) * (y' - y))) := by
    simp only [difX, difZ]
    generalize X + Z = A at *
    generalize X - Z = B at *
    generalize X' + Z' = C at *
    generalize X' - Z' = D at *
    clear hid a1 a2 b1 b2 hu hy hp hp' hcR hcS hxx hs
    rcases hab with ⟨_, _, hb⟩ | ⟨s1, _, hb⟩
    · rcases hab' with ⟨_, _, hd⟩ | ⟨s2, _, hd⟩
      · exact ⟨A * A * (C * C), by subst hb hd; grind, by subst hb hd; grind⟩
      · have : (1 : F) = -1 := by grind
        exact absurd (show (2 : F) = 0 by grind) K.two
    · rcases hab' with ⟨s2, _, hd⟩ | ⟨_, _, hd⟩
      · have : (1 : F) = -1 := by grind
        exact absurd (show (2 : F) = 0 by grind) K.two
      · exact ⟨B * B * (D * D), by subst hb hd; grind, by subst hb hd; grind⟩
  constructor
  · obtain ⟨k, h1, h2⟩ := hmid
    rw [h1, h2]
    refine K.cancel (K.ne (K.ne nm np) h1P) ?_
    clear hab hab' hn hn' h1 h2 a1 a2 b1 b2 hy hp hp' hxx hcR hcS
    generalize (y + y') * (y + y') = f at *
    generalize (y' - y) * (y' - y) = g at *
    generalize hm : 1 - e = m at *
    generalize hpp : 1 + e = pp at *
    generalize 1 - Y = Y1 at *
    generalize 1 + Y = Y2 at *
    generalize 1 - q = q1 at *
    generalize 1 + q = q2 at *
    clear hm hpp np nm hs
    have hu' : u * q1 = q2 * s := by rw [← hu]; grind
    have l : k * f * Y1 * s * (m * pp * q1) = k * s * (f * (Y1 * m * (q1 * pp))) := by grind
    have r : u * (k * g) * Y2 * (m * pp * q1) = k * s * (g * (Y2 * m * (q2 * pp))) := by grind
    rw [l, r, hid]
  · rintro ⟨hx, hz⟩
    simp only [difX, difZ] at hx hz
    have hx' : (X' - Z') * (X + Z) + (X' + Z') * (X - Z) = 0 := by rcases K.zero hx with h | h <;> exact h
    have hz' : (X' - Z') * (X + Z) - (X' + Z') * (X - Z) = 0 := by
      rcases K.zero hz with h | h
      · exact absurd h hu0
      · rcases K.zero h with h | h <;> exact h
    have both := K.both hx' hz'
    clear hmid hx hz hid a1 a2 b1 b2
    generalize X + Z = A at *
    generalize X - Z = B at *
    generalize X' + Z' = C at *
    generalize X' - Z' = D at *
    have hyy : y = 0 ∧ y' = 0 := by
      rcases hab with ⟨s1, _, hb⟩ | ⟨s1, _, hb⟩
      · have hA : A ≠ 0 := fun e => hn ⟨e, by rw [hb, e]; grind⟩
        rcases hab' with ⟨s2, _, hd⟩ | ⟨s2, _, hd⟩
        · have hC : C ≠ 0 := fun e => hn' ⟨e, by rw [hd, e]; grind⟩
          constructor
          · rcases K.zero both.2 with h0 | h0
            · exact absurd h0 hC
            · rw [hb] at h0
              rcases K.zero h0 with h0 | h0
              · exact absurd h0 hA
              · exact h0
          · rcases K.zero both.1 with h0 | h0
            · rw [hd] at h0
              rcases K.zero h0 with h0 | h0
              · exact absurd h0 hC
              · exact h0
            · exact absurd h0 hA
        · exact absurd (show (2 : F) = 0 by grind) K.two
      · have hB : B ≠ 0 := fun e => hn ⟨by rw [hb, e]; grind, e⟩
        rcases hab' with ⟨s2, _, hd⟩ | ⟨s2, _, hd⟩
        · exact absurd (show (2 : F) = 0 by grind) K.two
        · have hD : D ≠ 0 := fun e => hn' ⟨by rw [hd, e]; grind, e⟩
          constructor
          · rcases K.zero both.1 with h0 | h0
            · exact absurd h0 hD
            · rw [hb] at h0
              rcases K.zero h0 with h0 | h0
              · exact absurd h0 hB
              · exact h0
          · rcases K.zero both.2 with h0 | h0
            · rw [hd] at h0
              rcases K.zero h0 with h0 | h0
              · exact absurd h0 hD
              · exact h0
            · exact absurd h0 hB
    obtain ⟨rfl, rfl⟩ := hyy
    have hq : (1 - q) * (1 + q) = 0 := by
      clear hab hab' hn hn' both hu hs
      have e0 : e = 0 := by rw [hxx]; grind
      subst e0
      grind
    exact K.ne h1P h1P' hq
/-- the ladder's state: X2, Z2, X3, Z3 -/
structure St (F : Type) where
  a : F
  b : F
  c : F
  e : F
/-- a bit -/
def stp (u : F) (bit : Bool) (t : St F) : St F :=
  bif bit then ⟨difX t.c t.e t.a t.b, difZ u t.c t.e t.a t.b, dblX t.c t.e, dblZ t.c t.e⟩ else ⟨dblX t.a t.b, dblZ t.a t.b, difX t.a t.b t.c t.e, difZ u t.a t.b t.c t.e⟩
def bitN (K j : Nat) : Bool := K / 2 ^ j % 2 == 1
/-- behind the first i of 256 bits -/
def runN (u : F) (K : Nat) : Nat → St F
  | 0 => ⟨1, 0, u, 1⟩
  | i + 1 => stp u (bitN K (255 - i)) (runN u K i)
def lad (inv : F → F) (u : F) (K : Nat) : F := (runN u K 256).a * inv (runN u K 256).b
/-- what is known of the field and the curve -/
structure Way (F : Type) [CommRing F] (inv : F → F) (s d u : F) (P : F × F) : Prop where
  K : Crv F inv d
  m : Model s d
  on : On d P
  cor : u * (1 - P.2) * s = 1 + P.2
  nz : u ≠ 0
  c5 : (121665 : F) ≠ 0
  c6 : (121666 : F) ≠ 0
  z : inv 0 = 0
theorem difX_turn (X Z X' Z' : F) : difX X' Z' X Z = difX X Z X' Z' := by simp only [difX]; grind
theorem difZ_turn (u X Z X' Z' : F) : difZ u X' Z' X Z = difZ u X Z X' Z' := by simp only [difZ]; grind
theorem bit_split (K i : Nat) (hi : i < 256) : K / 2 ^ (255 - i) = 2 * (K / 2 ^ (256 - i)) + (bif bitN K (255 - i) then 1 else 0) := by
  have e : 2 ^ (256 - i) = 2 ^ (255 - i) * 2 := by rw [show 256 - i = (255 - i) + 1 by omega, Nat.pow_succ]
  unfold bitN
  rw [e, ← Nat.div_div_eq_div_mul]
  generalize K / 2 ^ (255 - i) = q
  rcases (by omega : q % 2 = 0 ∨ q % 2 = 1) with h | h <;> rw [h] <;> simp <;> omega
theorem Way.run {s d u : F} {P : F × F} (W : Way F inv s d u P) (K : Nat) (hK : K < 2 ^ 256) : ∀ i, i ≤ 256 →
    Rep s (runN u K i).a (runN u K i).b (mul inv d (K / 2 ^ (256 - i)) P) ∧ Rep s (runN u K i).c (runN u K i).e (mul inv d (K / 2 ^ (256 - i) + 1) P)
  | 0, _ => by
    have h0 : K / 2 ^ (256 - 0) = 0 := Nat.div_eq_of_lt hK
    rw [h0, W.K.mul_one W.on]
    refine ⟨⟨?_, fun h => W.K.one h.1⟩, ⟨?_, fun h => W.K.one h.2⟩⟩
    · simp only [runN, mul, O]; grind
    · have := W.cor
      simp only [runN]; grind
  | i + 1, hi => by
    obtain ⟨h1, h2⟩ := W.run K hK i (by omega)
    have hb := bit_split K i (by omega)
    rw [show 256 - (i + 1) = 255 - i by omega]
    generalize K / 2 ^ (256 - i) = n at *
    have o1 := W.K.mul_on W.on n
    have hd := W.K.dif W.m W.on o1 (show mul inv d (n + 1) P = add inv d (mul inv d n P) P from rfl) h1 h2 W.cor W.nz
    rw [← W.K.mul_plus W.on] at hd
    show Rep s (stp u (bitN K (255 - i)) (runN u K i)).a (stp u (bitN K (255 - i)) (runN u K i)).b _ ∧ Rep s (stp u (bitN K (255 - i)) (runN u K i)).c (stp u (bitN K (255 - i)) (runN u K i)).e _
    rw [hb]
    generalize runN u K i = t at *
    cases bitN K (255 - i) with
    | false =>
      have h3 := W.K.dbl W.m W.c5 W.c6 o1 h1
      rw [← W.K.mul_plus W.on] at h3
      refine ⟨?_, ?_⟩
      · rw [show 2 * n + (bif false then 1 else 0) = n + n by simp; omega]; exact h3
      · rw [show 2 * n + (bif false then 1 else 0) + 1 = n + (n + 1) by simp; omega]; exact hd
    | true =>
      have h3 := W.K.dbl W.m W.c5 W.c6 (W.K.mul_on W.on (n + 1)) h2
      rw [← W.K.mul_plus W.on] at h3
      rw [← difX_turn, ← difZ_turn] at hd
      refine ⟨?_, ?_⟩
      · rw [show 2 * n + (bif true then 1 else 0) = n + (n + 1) by simp; omega]; exact hd
      · rw [show 2 * n + (bif true then 1 else 0) + 1 = n + 1 + (n + 1) by simp; omega]; exact h3
/-- a point's x; 0 where there is none -/
def aff (inv : F → F) (s : F) (Q : F × F) : F := (1 + Q.2) * inv ((1 - Q.2) * s)
theorem Fld.one_of (K : Fld F inv) {s : F} (hs : s * s = 1) {y : F} (h : (1 - y) * s = 0) : 1 - y = 0 := by
  rcases K.zero h with h | h
  · exact h
  · exact absurd (show (1 : F) = 0 by rw [← hs, h]; exact zz) K.one
theorem Rep.aff {s X Z : F} {Q : F × F} (K : Fld F inv) (hs : s * s = 1) (hz : inv 0 = 0) (h : Rep s X Z Q) : X * inv Z = Edw.aff inv s Q := by
  obtain ⟨h1, h2⟩ := h
  unfold Edw.aff
  by_cases hZ : Z = 0
  · have hX : X ≠ 0 := fun e => h2 ⟨e, hZ⟩
    rw [hZ] at h1 ⊢
    have ht : (1 - Q.2) * s = 0 := by
      rcases K.zero (show X * ((1 - Q.2) * s) = 0 by grind) with h | h
      · exact absurd h hX
      · exact h
    rw [ht, hz]
    grind
  · have ht : (1 - Q.2) * s ≠ 0 := fun e => by
      have e1 := K.one_of hs e
      rcases K.zero (show Z * (1 + Q.2) = 0 by rw [← h1]; grind) with h | h
      · exact hZ h
      · exact K.two (by grind)
    have i1 := K.mul_inv Z hZ
    have i2 := K.mul_inv _ ht
    generalize inv Z = iz at *
    generalize inv ((1 - Q.2) * s) = it at *
    refine K.cancel (K.ne hZ ht) ?_
    grind
theorem Way.lad {s d u : F} {P : F × F} (W : Way F inv s d u P) (K : Nat) (hK : K < 2 ^ 256) : Edw.lad inv u K = Edw.aff inv s (mul inv d K P) := by
  have h := (W.run K hK 256 (Nat.le_refl _)).1
  rw [show K / 2 ^ (256 - 256) = K by simp] at h
  exact h.aff W.K.toFld (sq_ne W.m) W.z
theorem dblZ_zero {X Z : F} (h : X * Z = 0) : dblZ X Z = 0 := by
  have e : dblE X Z = 0 := by simp only [dblE]; grind
  simp only [dblZ, e]
  exact zz'
theorem difZ_zero (X Z X' Z' : F) : difZ 0 X Z X' Z' = 0 := by simp only [difZ]; grind
theorem run_zero (K : Nat) : ∀ i, (runN (0 : F) K i).a * (runN (0 : F) K i).b = 0 ∧ (runN (0 : F) K i).c * (runN (0 : F) K i).e = 0
  | 0 => by simp only [runN]; constructor <;> grind
  | i + 1 => by
    obtain ⟨h1, h2⟩ := run_zero K i
    show (stp 0 (bitN K (255 - i)) (runN 0 K i)).a * (stp 0 (bitN K (255 - i)) (runN 0 K i)).b = 0 ∧ (stp 0 (bitN K (255 - i)) (runN 0 K i)).c * (stp 0 (bitN K (255 - i)) (runN 0 K i)).e = 0
    generalize runN (0 : F) K i = t at *
    cases bitN K (255 - i) with
    | false =>
      simp only [stp, cond_false, dblZ_zero h1, difZ_zero]
      constructor <;> grind
    | true =>
      simp only [stp, cond_true, dblZ_zero h2, difZ_zero]
      constructor <;> grind
theorem lad_zero (K : Fld F inv) (hz : inv 0 = 0) (n : Nat) : Edw.lad inv 0 n = 0 := by
  have h := (run_zero (F := F) n 256).1
  unfold Edw.lad
  rcases K.zero h with h | h
  · rw [h]; exact zz'
  · rw [h, hz]; grind
/-- of order 2, or the neutral one -/
theorem aff_zero {s : F} {Q : F × F} (K : Fld F inv) (hs : s * s = 1) (h : Edw.aff inv s Q = 0) : Q.2 * Q.2 = 1 := by
  unfold Edw.aff at h
  rcases K.zero h with h | h
  · grind
  · by_cases ht : (1 - Q.2) * s = 0
    · have := K.one_of hs ht
      grind
    · have i := K.mul_inv _ ht
      rw [h] at i
      exact absurd (show (1 : F) = 0 by rw [← i]; grind) K.one
theorem zero_aff {s : F} {Q : F × F} (K : Fld F inv) (hz : inv 0 = 0) (h : Q.2 * Q.2 = 1) : Edw.aff inv s Q = 0 := by
  unfold Edw.aff
  rcases K.zero (show (1 - Q.2) * (1 + Q.2) = 0 by grind) with h | h
  · rw [h, show (0 : F) * s = 0 by grind, hz]; grind
  · rw [h]; exact zz'
theorem Crv.pole {d : F} (K : Crv F inv d) {Q : F × F} (hQ : On d Q) (h : Q.2 * Q.2 = 1) : Q.1 = 0 := by
  have hd : 1 - d ≠ 0 := fun e => K.nonsq 1 (by grind)
  have h1 : Q.1 * Q.1 * (1 - d) = 0 := by
    unfold On at hQ
    generalize Q.1 = x at *
    generalize Q.2 = y at *
    grind
  rcases K.zero h1 with h2 | h2
  · rcases K.zero h2 with h3 | h3 <;> exact h3
  · exact absurd h2 hd
theorem Crv.pole_mul {d : F} (K : Crv F inv d) {Q : F × F} (hQ : On d Q) (h : Q.2 * Q.2 = 1) : ∀ n, (mul inv d n Q).2 * (mul inv d n Q).2 = 1
  | 0 => by simp only [mul, O]; grind
  | n + 1 => by
    have ih := K.pole_mul hQ h n
    have o := K.mul_on hQ n
    have hy := K.add_y o hQ
    have x1 := K.pole o ih
    show (add inv d (mul inv d n Q) Q).2 * (add inv d (mul inv d n Q) Q).2 = 1
    generalize mul inv d n Q = R at *
    generalize (add inv d R Q).2 = Y at *
    have e : xx d R Q = 0 := by simp only [xx, x1]; grind
    rw [e, x1] at hy
    generalize R.2 = y at *
    generalize Q.2 = q at *
    grind
theorem Way.twice {s d u : F} {P : F × F} (W : Way F inv s d u P) (j k : Nat) (hj : j < 2 ^ 256) (hk : k < 2 ^ 256) : Edw.lad inv (Edw.lad inv u k) j = Edw.aff inv s (mul inv d (j * k) P) := by
  rw [W.lad k hk, W.K.mul_mul W.on k j]
  have hQ := W.K.mul_on W.on k
  generalize mul inv d k P = Q at *
  by_cases hv : Edw.aff inv s Q = 0
  · rw [hv, lad_zero W.K.toFld W.z, zero_aff W.K.toFld W.z (W.K.pole_mul hQ (aff_zero W.K.toFld (sq_ne W.m) hv) j)]
  · have ht : (1 - Q.2) * s ≠ 0 := fun e => hv (by unfold Edw.aff; rw [e, W.z]; grind)
    have i := W.K.mul_inv _ ht
    have W' : Way F inv s d (Edw.aff inv s Q) Q := ⟨W.K, W.m, hQ, by unfold Edw.aff; generalize inv ((1 - Q.2) * s) = it at *; grind, hv, W.c5, W.c6, W.z⟩
    exact W'.lad j hj
/-- multiples of multiples hang on no order -/
theorem lad_swap (K : Fld F inv) (hz : inv 0 = 0) (H : ∀ u : F, u ≠ 0 → ∃ s d P, Way F inv s d u P) (u : F) (j k : Nat) (hj : j < 2 ^ 256) (hk : k < 2 ^ 256) : Edw.lad inv (Edw.lad inv u k) j = Edw.lad inv (Edw.lad inv u j) k := by
  by_cases hu : u = 0
  · simp only [hu, lad_zero K hz]
  · obtain ⟨s, d, P, W⟩ := H u hu
    rw [W.twice j k hj hk, W.twice k j hk hj, Nat.mul_comm]
/-- .. and are the multiples' product's -/
theorem lad_mul (K : Fld F inv) (hz : inv 0 = 0) (H : ∀ u : F, u ≠ 0 → ∃ s d P, Way F inv s d u P) (u : F) (j k : Nat) (hj : j < 2 ^ 256) (hk : k < 2 ^ 256) (hjk : j * k < 2 ^ 256) : Edw.lad inv (Edw.lad inv u k) j = Edw.lad inv u (j * k) := by
  by_cases hu : u = 0
  · simp only [hu, lad_zero K hz]
  · obtain ⟨s, d, P, W⟩ := H u hu
    rw [W.twice j k hj hk, W.lad (j * k) hjk]
/-- once -/
theorem lad_one (K : Fld F inv) (hz : inv 0 = 0) (H : ∀ u : F, u ≠ 0 → ∃ s d P, Way F inv s d u P) (u : F) : Edw.lad inv u 1 = u := by
  by_cases hu : u = 0
  · rw [hu, lad_zero K hz]
  · obtain ⟨s, d, P, W⟩ := H u hu
    rw [W.lad 1 (by decide), W.K.mul_one W.on]
    have ht : (1 - P.2) * s ≠ 0 := fun e => by
      have e1 := W.K.one_of (sq_ne W.m) e
      have c := W.cor
      exact W.K.two (by rw [e1] at c; grind)
    have i := W.K.mul_inv _ ht
    have c := W.cor
    unfold Edw.aff
    generalize inv ((1 - P.2) * s) = it at *
    grind
end Edw
end Go.Proofs.Ytfapmpnkemogkaa
