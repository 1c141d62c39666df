/- What a bit makes of two points, by the reference. -/
import Derived.Test.YtfapmpnkemogkaaRefPow
import Derived.Test.YtfapmpnkemogkaaMat
import Derived.Test.YtfapmpnkemogkaaTail9
namespace Go.Proofs.Ytfapmpnkemogkaa
open Go.RowKit
set_option linter.unusedVariables false
set_option linter.unusedSimpArgs false

def BD (x : Int) : Prop := 0 ≤ x ∧ x < 57896044618658097711785492504343953926634992332820282019728792003956564819949
def aN (x y : Int) : Int := (x + y) % 57896044618658097711785492504343953926634992332820282019728792003956564819949
def sN (x y : Int) : Int := (x - y) % 57896044618658097711785492504343953926634992332820282019728792003956564819949
def mN (x y : Int) : Int := x * y % 57896044618658097711785492504343953926634992332820282019728792003956564819949
def iN (x : Int) : Int := x ^ undo % 57896044618658097711785492504343953926634992332820282019728792003956564819949
theorem aN_bd (x y : Int) : BD (aN x y) := by unfold BD aN; omega
theorem sN_bd (x y : Int) : BD (sN x y) := by unfold BD sN; omega
theorem mN_bd (x y : Int) : BD (mN x y) := by unfold BD mN; omega
theorem iN_bd (x : Int) : BD (iN x) := by unfold BD iN; omega
theorem nv_BD (f : Nat → Int) : BD (nv f) := nv_bd f
theorem small_BD (n : Int) (h0 : 0 ≤ n) (h1 : n ≤ 4294967295) : BD n := by unfold BD; omega
theorem aN_any (x y : Int) (w : World) (hx : BD x) (hy : BD y) : Calls Try.prog 44 #[.agg (ints .i64 16 (numN (x))), .agg (ints .i64 16 (numN (y)))] w fun e w' => e = .returned (.agg (ints .i64 16 (numN (aN x y)))) ∧ Below w.heap.size w w' := addN_any x y w hx hy
theorem sN_any (x y : Int) (w : World) (hx : BD x) (hy : BD y) : Calls Try.prog 47 #[.agg (ints .i64 16 (numN (x))), .agg (ints .i64 16 (numN (y)))] w fun e w' => e = .returned (.agg (ints .i64 16 (numN (sN x y)))) ∧ Below w.heap.size w w' := refSub_any x y w hx hy
theorem mN_any (x y : Int) (w : World) (hx : BD x) (hy : BD y) : Calls Try.prog 51 #[.agg (ints .i64 16 (numN (x))), .agg (ints .i64 16 (numN (y)))] w fun e w' => e = .returned (.agg (ints .i64 16 (numN (mN x y)))) ∧ Below w.heap.size w w' := mulN_any x y w hx hy
theorem iN_any (x : Int) (w : World) (hx : BD x) : Calls Try.prog 61 #[.agg (ints .i64 16 (numN (x)))] w fun e w' => e = .returned (.agg (ints .i64 16 (numN (iN x)))) ∧ Below w.heap.size w w' := invN_any x w hx
def twXN (x z : Int) : Int := mN (mN (aN x z) (aN x z)) (mN (sN x z) (sN x z))
def twEN (x z : Int) : Int := sN (mN (aN x z) (aN x z)) (mN (sN x z) (sN x z))
def twZN (x z : Int) : Int := mN (twEN x z) (aN (mN (aN x z) (aN x z)) (mN 121665 (twEN x z)))
def daN (x z x' z' : Int) : Int := mN (sN x' z') (aN x z)
def cbN (x z x' z' : Int) : Int := mN (aN x' z') (sN x z)
def boXN (x z x' z' : Int) : Int := mN (aN (daN x z x' z') (cbN x z x' z')) (aN (daN x z x' z') (cbN x z x' z'))
def boZN (u x z x' z' : Int) : Int := mN u (mN (sN (daN x z x' z') (cbN x z x' z')) (sN (daN x z x' z') (cbN x z x' z')))
theorem ret_row4 {P : Program} {fn : Func} {R : Ending → World → Prop} {a : Act} {w : World} {p0 p1 p2 p3 : Tmp} (ty : TypeId) (h : fn.results = #[.cell p0 ty, .cell p1 ty, .cell p2 ty, .cell p3 ty]) (g0 g1 g2 g3 : Nat) (c0 c1 c2 c3 : Array Value) {t0 t1 t2 t3 : TypeId} {f0 f1 f2 f3 : Nat × Nat} {d : TypeDesc} {n : Nat}
    (h0 : a.tmps.getD p0 undef = .pointer (some ⟨g0, 0, none⟩)) (h1 : a.tmps.getD p1 undef = .pointer (some ⟨g1, 0, none⟩)) (h2 : a.tmps.getD p2 undef = .pointer (some ⟨g2, 0, none⟩)) (h3 : a.tmps.getD p3 undef = .pointer (some ⟨g3, 0, none⟩))
    (k0 : objAt w g0 = some (.cells c0 t0 f0)) (k1 : objAt w g1 = some (.cells c1 t1 f1)) (k2 : objAt w g2 = some (.cells c2 t2 f2)) (k3 : objAt w g3 = some (.cells c3 t3 f3))
    (hu : P.underlying ty = some d) (hd : (match d with | .struct _ | .array _ _ => true | _ => false) = true) (hi : (P.info? ty).map (·.size) = some n)
    (s0 : c0.size = n) (s1 : c1.size = n) (s2 : c2.size = n) (s3 : c3.size = n)
    (hD : a.defers = []) (hR : R (.returned (.tuple #[.agg c0, .agg c1, .agg c2, .agg c3])) w) : bodyPost P fn R .ret a w := by
  refine bodyPost_ret_by ?_ hD hR
  have e0 : a.tmps[p0]?.getD undef = .pointer (some ⟨g0, 0, none⟩) := by simpa using h0
  have e1 : a.tmps[p1]?.getD undef = .pointer (some ⟨g1, 0, none⟩) := by simpa using h1
  have e2 : a.tmps[p2]?.getD undef = .pointer (some ⟨g2, 0, none⟩) := by simpa using h2
  have e3 : a.tmps[p3]?.getD undef = .pointer (some ⟨g3, 0, none⟩) := by simpa using h3
  unfold objAt at k0 k1 k2 k3
  simp [results, h, e0, e1, e2, e3, asAddr, run_loadVar_row w g0 t0 ty c0 f0 d k0 hu hd (by rw [hi, s0]), run_loadVar_row w g1 t1 ty c1 f1 d k1 hu hd (by rw [hi, s1]), run_loadVar_row w g2 t2 ty c2 f2 d k2 hu hd (by rw [hi, s2]), run_loadVar_row w g3 t3 ty c3 f3 d k3 hu hd (by rw [hi, s3])]
set_option maxRecDepth 100000 in
set_option maxHeartbeats 2000000 in
theorem stepN_any (u x z x' z' : Int) (w : World) (hu : BD u) (hx : BD x) (hz : BD z) (hx' : BD x') (hz' : BD z') :
    Calls Try.prog 69 #[.agg (ints .i64 16 (numN (u))), .agg (ints .i64 16 (numN (x))), .agg (ints .i64 16 (numN (z))), .agg (ints .i64 16 (numN (x'))), .agg (ints .i64 16 (numN (z')))] w fun e w' => e = .returned (.tuple #[.agg (ints .i64 16 (numN (twXN x z))), .agg (ints .i64 16 (numN (twZN x z))), .agg (ints .i64 16 (numN (boXN x z x' z'))), .agg (ints .i64 16 (numN (boZN u x z x' z')))]) ∧ Below w.heap.size w w' := by
  have hG := Grew.refl w
  have fu : True := trivial
  have fx : True := trivial
  have fz : True := trivial
  have fp : True := trivial
  have fq : True := trivial
  have fr0 : True := trivial
  have fr1 : True := trivial
  have fr2 : True := trivial
  have fr3 : True := trivial
  go_enter Try.func69, Try.ntmps69
  have c1 : ∀ w, Calls Try.prog 44 #[.agg (ints .i64 16 (numN (x))), .agg (ints .i64 16 (numN (z)))] w fun e w' => e = .returned (.agg (ints .i64 16 (numN (aN x z)))) ∧ Below w.heap.size w w' := fun w => aN_any _ _ w hx hz
  have c2 : ∀ w, Calls Try.prog 47 #[.agg (ints .i64 16 (numN (x))), .agg (ints .i64 16 (numN (z)))] w fun e w' => e = .returned (.agg (ints .i64 16 (numN (sN x z)))) ∧ Below w.heap.size w w' := fun w => sN_any _ _ w hx hz
  have c3 : ∀ w, Calls Try.prog 44 #[.agg (ints .i64 16 (numN (x'))), .agg (ints .i64 16 (numN (z')))] w fun e w' => e = .returned (.agg (ints .i64 16 (numN (aN x' z')))) ∧ Below w.heap.size w w' := fun w => aN_any _ _ w hx' hz'
  have c4 : ∀ w, Calls Try.prog 47 #[.agg (ints .i64 16 (numN (x'))), .agg (ints .i64 16 (numN (z')))] w fun e w' => e = .returned (.agg (ints .i64 16 (numN (sN x' z')))) ∧ Below w.heap.size w w' := fun w => sN_any _ _ w hx' hz'
  have c5 : ∀ w, Calls Try.prog 51 #[.agg (ints .i64 16 (numN (sN x' z'))), .agg (ints .i64 16 (numN (aN x z)))] w fun e w' => e = .returned (.agg (ints .i64 16 (numN (daN x z x' z')))) ∧ Below w.heap.size w w' := fun w => mN_any _ _ w (sN_bd _ _) (aN_bd _ _)
  have c6 : ∀ w, Calls Try.prog 51 #[.agg (ints .i64 16 (numN (aN x' z'))), .agg (ints .i64 16 (numN (sN x z)))] w fun e w' => e = .returned (.agg (ints .i64 16 (numN (cbN x z x' z')))) ∧ Below w.heap.size w w' := fun w => mN_any _ _ w (aN_bd _ _) (sN_bd _ _)
  have c7 : ∀ w, Calls Try.prog 51 #[.agg (ints .i64 16 (numN (aN x z))), .agg (ints .i64 16 (numN (aN x z)))] w fun e w' => e = .returned (.agg (ints .i64 16 (numN (mN (aN x z) (aN x z))))) ∧ Below w.heap.size w w' := fun w => mN_any _ _ w (aN_bd _ _) (aN_bd _ _)
  have c8 : ∀ w, Calls Try.prog 51 #[.agg (ints .i64 16 (numN (sN x z))), .agg (ints .i64 16 (numN (sN x z)))] w fun e w' => e = .returned (.agg (ints .i64 16 (numN (mN (sN x z) (sN x z))))) ∧ Below w.heap.size w w' := fun w => mN_any _ _ w (sN_bd _ _) (sN_bd _ _)
  have c9 : ∀ w, Calls Try.prog 47 #[.agg (ints .i64 16 (numN (mN (aN x z) (aN x z)))), .agg (ints .i64 16 (numN (mN (sN x z) (sN x z))))] w fun e w' => e = .returned (.agg (ints .i64 16 (numN (twEN x z)))) ∧ Below w.heap.size w w' := fun w => sN_any _ _ w (mN_bd _ _) (mN_bd _ _)
  have c10 : ∀ w, Calls Try.prog 44 #[.agg (ints .i64 16 (numN (daN x z x' z'))), .agg (ints .i64 16 (numN (cbN x z x' z')))] w fun e w' => e = .returned (.agg (ints .i64 16 (numN (aN (daN x z x' z') (cbN x z x' z'))))) ∧ Below w.heap.size w w' := fun w => aN_any _ _ w (mN_bd _ _) (mN_bd _ _)
  have c11 : ∀ w, Calls Try.prog 47 #[.agg (ints .i64 16 (numN (daN x z x' z'))), .agg (ints .i64 16 (numN (cbN x z x' z')))] w fun e w' => e = .returned (.agg (ints .i64 16 (numN (sN (daN x z x' z') (cbN x z x' z'))))) ∧ Below w.heap.size w w' := fun w => sN_any _ _ w (mN_bd _ _) (mN_bd _ _)
  have d1 : ∀ w, Calls Try.prog 51 #[.agg (ints .i64 16 (numN (mN (aN x z) (aN x z)))), .agg (ints .i64 16 (numN (mN (sN x z) (sN x z))))] w fun e w' => e = .returned (.agg (ints .i64 16 (numN (twXN x z)))) ∧ Below w.heap.size w w' := fun w => mN_any _ _ w (mN_bd _ _) (mN_bd _ _)
  have d2 : ∀ w, Calls Try.prog 51 #[.agg (ints .i64 16 (numN (121665))), .agg (ints .i64 16 (numN (twEN x z)))] w fun e w' => e = .returned (.agg (ints .i64 16 (numN (mN 121665 (twEN x z))))) ∧ Below w.heap.size w w' := fun w => mN_any _ _ w (small_BD _ (by decide) (by decide)) (sN_bd _ _)
  have d3 : ∀ w, Calls Try.prog 44 #[.agg (ints .i64 16 (numN (mN (aN x z) (aN x z)))), .agg (ints .i64 16 (numN (mN 121665 (twEN x z))))] w fun e w' => e = .returned (.agg (ints .i64 16 (numN (aN (mN (aN x z) (aN x z)) (mN 121665 (twEN x z)))))) ∧ Below w.heap.size w w' := fun w => aN_any _ _ w (mN_bd _ _) (mN_bd _ _)
  have d4 : ∀ w, Calls Try.prog 51 #[.agg (ints .i64 16 (numN (twEN x z))), .agg (ints .i64 16 (numN (aN (mN (aN x z) (aN x z)) (mN 121665 (twEN x z)))))] w fun e w' => e = .returned (.agg (ints .i64 16 (numN (twZN x z)))) ∧ Below w.heap.size w w' := fun w => mN_any _ _ w (sN_bd _ _) (aN_bd _ _)
  have d5 : ∀ w, Calls Try.prog 51 #[.agg (ints .i64 16 (numN (aN (daN x z x' z') (cbN x z x' z')))), .agg (ints .i64 16 (numN (aN (daN x z x' z') (cbN x z x' z'))))] w fun e w' => e = .returned (.agg (ints .i64 16 (numN (boXN x z x' z')))) ∧ Below w.heap.size w w' := fun w => mN_any _ _ w (aN_bd _ _) (aN_bd _ _)
  have d6 : ∀ w, Calls Try.prog 51 #[.agg (ints .i64 16 (numN (sN (daN x z x' z') (cbN x z x' z')))), .agg (ints .i64 16 (numN (sN (daN x z x' z') (cbN x z x' z'))))] w fun e w' => e = .returned (.agg (ints .i64 16 (numN (mN (sN (daN x z x' z') (cbN x z x' z')) (sN (daN x z x' z') (cbN x z x' z')))))) ∧ Below w.heap.size w w' := fun w => mN_any _ _ w (sN_bd _ _) (sN_bd _ _)
  have d7 : ∀ w, Calls Try.prog 51 #[.agg (ints .i64 16 (numN (u))), .agg (ints .i64 16 (numN (mN (sN (daN x z x' z') (cbN x z x' z')) (sN (daN x z x' z') (cbN x z x' z')))))] w fun e w' => e = .returned (.agg (ints .i64 16 (numN (boZN u x z x' z')))) ∧ Below w.heap.size w w' := fun w => mN_any _ _ w hu (mN_bd _ _)
  have d8 := fun w => smallN_any 121665 w (by decide) (by decide)
  go_wp2_with fail
  replace fu : objAt (((((((((w.alloc (.cells (ints .i64 16 (numN (u))) 41)).alloc (.cells (ints .i64 16 (numN (x))) 41)).alloc (.cells (ints .i64 16 (numN (z))) 41)).alloc (.cells (ints .i64 16 (numN (x'))) 41)).alloc (.cells (ints .i64 16 (numN (z'))) 41)).alloc (.cells (ints .i64 16 nought) 41)).alloc (.cells (ints .i64 16 nought) 41)).alloc (.cells (ints .i64 16 nought) 41)).alloc (.cells (ints .i64 16 nought) 41)) (w.heap.size) = some (.cells (ints .i64 16 (numN (u))) 41) := by (repeat (first | assumption | exact objAt_alloc_at _ _ _ rfl | (refine objAt_alloc_at _ _ _ ?_; (simp; done)) | refine keep_alloc _ ?_ | refine keep_drewN _ ?_ | refine keep_more _ ?_ | exact keep_row _ (by assumption) | refine keep_setRow _ _ ?_ (by first | omega | (simp; omega) | simp)))
  replace fx : objAt (((((((((w.alloc (.cells (ints .i64 16 (numN (u))) 41)).alloc (.cells (ints .i64 16 (numN (x))) 41)).alloc (.cells (ints .i64 16 (numN (z))) 41)).alloc (.cells (ints .i64 16 (numN (x'))) 41)).alloc (.cells (ints .i64 16 (numN (z'))) 41)).alloc (.cells (ints .i64 16 nought) 41)).alloc (.cells (ints .i64 16 nought) 41)).alloc (.cells (ints .i64 16 nought) 41)).alloc (.cells (ints .i64 16 nought) 41)) (w.heap.size + 1) = some (.cells (ints .i64 16 (numN (x))) 41) := by (repeat (first | assumption | exact objAt_alloc_at _ _ _ rfl | (refine objAt_alloc_at _ _ _ ?_; (simp; done)) | refine keep_alloc _ ?_ | refine keep_drewN _ ?_ | refine keep_more _ ?_ | exact keep_row _ (by assumption) | refine keep_setRow _ _ ?_ (by first | omega | (simp; omega) | simp)))
  replace fz : objAt (((((((((w.alloc (.cells (ints .i64 16 (numN (u))) 41)).alloc (.cells (ints .i64 16 (numN (x))) 41)).alloc (.cells (ints .i64 16 (numN (z))) 41)).alloc (.cells (ints .i64 16 (numN (x'))) 41)).alloc (.cells (ints .i64 16 (numN (z'))) 41)).alloc (.cells (ints .i64 16 nought) 41)).alloc (.cells (ints .i64 16 nought) 41)).alloc (.cells (ints .i64 16 nought) 41)).alloc (.cells (ints .i64 16 nought) 41)) (w.heap.size + 1 + 1) = some (.cells (ints .i64 16 (numN (z))) 41) := by (repeat (first | assumption | exact objAt_alloc_at _ _ _ rfl | (refine objAt_alloc_at _ _ _ ?_; (simp; done)) | refine keep_alloc _ ?_ | refine keep_drewN _ ?_ | refine keep_more _ ?_ | exact keep_row _ (by assumption) | refine keep_setRow _ _ ?_ (by first | omega | (simp; omega) | simp)))
  replace fp : objAt (((((((((w.alloc (.cells (ints .i64 16 (numN (u))) 41)).alloc (.cells (ints .i64 16 (numN (x))) 41)).alloc (.cells (ints .i64 16 (numN (z))) 41)).alloc (.cells (ints .i64 16 (numN (x'))) 41)).alloc (.cells (ints .i64 16 (numN (z'))) 41)).alloc (.cells (ints .i64 16 nought) 41)).alloc (.cells (ints .i64 16 nought) 41)).alloc (.cells (ints .i64 16 nought) 41)).alloc (.cells (ints .i64 16 nought) 41)) (w.heap.size + 1 + 1 + 1) = some (.cells (ints .i64 16 (numN (x'))) 41) := by (repeat (first | assumption | exact objAt_alloc_at _ _ _ rfl | (refine objAt_alloc_at _ _ _ ?_; (simp; done)) | refine keep_alloc _ ?_ | refine keep_drewN _ ?_ | refine keep_more _ ?_ | exact keep_row _ (by assumption) | refine keep_setRow _ _ ?_ (by first | omega | (simp; omega) | simp)))
  replace fq : objAt (((((((((w.alloc (.cells (ints .i64 16 (numN (u))) 41)).alloc (.cells (ints .i64 16 (numN (x))) 41)).alloc (.cells (ints .i64 16 (numN (z))) 41)).alloc (.cells (ints .i64 16 (numN (x'))) 41)).alloc (.cells (ints .i64 16 (numN (z'))) 41)).alloc (.cells (ints .i64 16 nought) 41)).alloc (.cells (ints .i64 16 nought) 41)).alloc (.cells (ints .i64 16 nought) 41)).alloc (.cells (ints .i64 16 nought) 41)) (w.heap.size + 1 + 1 + 1 + 1) = some (.cells (ints .i64 16 (numN (z'))) 41) := by (repeat (first | assumption | exact objAt_alloc_at _ _ _ rfl | (refine objAt_alloc_at _ _ _ ?_; (simp; done)) | refine keep_alloc _ ?_ | refine keep_drewN _ ?_ | refine keep_more _ ?_ | exact keep_row _ (by assumption) | refine keep_setRow _ _ ?_ (by first | omega | (simp; omega) | simp)))
  replace fr0 : objAt (((((((((w.alloc (.cells (ints .i64 16 (numN (u))) 41)).alloc (.cells (ints .i64 16 (numN (x))) 41)).alloc (.cells (ints .i64 16 (numN (z))) 41)).alloc (.cells (ints .i64 16 (numN (x'))) 41)).alloc (.cells (ints .i64 16 (numN (z'))) 41)).alloc (.cells (ints .i64 16 nought) 41)).alloc (.cells (ints .i64 16 nought) 41)).alloc (.cells (ints .i64 16 nought) 41)).alloc (.cells (ints .i64 16 nought) 41)) (w.heap.size + 1 + 1 + 1 + 1 + 1) = some (.cells (ints .i64 16 nought) 41) := by (repeat (first | assumption | exact objAt_alloc_at _ _ _ rfl | (refine objAt_alloc_at _ _ _ ?_; (simp; done)) | refine keep_alloc _ ?_ | refine keep_drewN _ ?_ | refine keep_more _ ?_ | exact keep_row _ (by assumption) | refine keep_setRow _ _ ?_ (by first | omega | (simp; omega) | simp)))
  replace fr1 : objAt (((((((((w.alloc (.cells (ints .i64 16 (numN (u))) 41)).alloc (.cells (ints .i64 16 (numN (x))) 41)).alloc (.cells (ints .i64 16 (numN (z))) 41)).alloc (.cells (ints .i64 16 (numN (x'))) 41)).alloc (.cells (ints .i64 16 (numN (z'))) 41)).alloc (.cells (ints .i64 16 nought) 41)).alloc (.cells (ints .i64 16 nought) 41)).alloc (.cells (ints .i64 16 nought) 41)).alloc (.cells (ints .i64 16 nought) 41)) (w.heap.size + 1 + 1 + 1 + 1 + 1 + 1) = some (.cells (ints .i64 16 nought) 41) := by (repeat (first | assumption | exact objAt_alloc_at _ _ _ rfl | (refine objAt_alloc_at _ _ _ ?_; (simp; done)) | refine keep_alloc _ ?_ | refine keep_drewN _ ?_ | refine keep_more _ ?_ | exact keep_row _ (by assumption) | refine keep_setRow _ _ ?_ (by first | omega | (simp; omega) | simp)))
  replace fr2 : objAt (((((((((w.alloc (.cells (ints .i64 16 (numN (u))) 41)).alloc (.cells (ints .i64 16 (numN (x))) 41)).alloc (.cells (ints .i64 16 (numN (z))) 41)).alloc (.cells (ints .i64 16 (numN (x'))) 41)).alloc (.cells (ints .i64 16 (numN (z'))) 41)).alloc (.cells (ints .i64 16 nought) 41)).alloc (.cells (ints .i64 16 nought) 41)).alloc (.cells (ints .i64 16 nought) 41)).alloc (.cells (ints .i64 16 nought) 41)) (w.heap.size + 1 + 1 + 1 + 1 + 1 + 1 + 1) = some (.cells (ints .i64 16 nought) 41) := by (repeat (first | assumption | exact objAt_alloc_at _ _ _ rfl | (refine objAt_alloc_at _ _ _ ?_; (simp; done)) | refine keep_alloc _ ?_ | refine keep_drewN _ ?_ | refine keep_more _ ?_ | exact keep_row _ (by assumption) | refine keep_setRow _ _ ?_ (by first | omega | (simp; omega) | simp)))
  replace fr3 : objAt (((((((((w.alloc (.cells (ints .i64 16 (numN (u))) 41)).alloc (.cells (ints .i64 16 (numN (x))) 41)).alloc (.cells (ints .i64 16 (numN (z))) 41)).alloc (.cells (ints .i64 16 (numN (x'))) 41)).alloc (.cells (ints .i64 16 (numN (z'))) 41)).alloc (.cells (ints .i64 16 nought) 41)).alloc (.cells (ints .i64 16 nought) 41)).alloc (.cells (ints .i64 16 nought) 41)).alloc (.cells (ints .i64 16 nought) 41)) (w.heap.size + 1 + 1 + 1 + 1 + 1 + 1 + 1 + 1) = some (.cells (ints .i64 16 nought) 41) := by (repeat (first | assumption | exact objAt_alloc_at _ _ _ rfl | (refine objAt_alloc_at _ _ _ ?_; (simp; done)) | refine keep_alloc _ ?_ | refine keep_drewN _ ?_ | refine keep_more _ ?_ | exact keep_row _ (by assumption) | refine keep_setRow _ _ ?_ (by first | omega | (simp; omega) | simp)))
  replace hG : Below w.heap.size w (((((((((w.alloc (.cells (ints .i64 16 (numN (u))) 41)).alloc (.cells (ints .i64 16 (numN (x))) 41)).alloc (.cells (ints .i64 16 (numN (z))) 41)).alloc (.cells (ints .i64 16 (numN (x'))) 41)).alloc (.cells (ints .i64 16 (numN (z'))) 41)).alloc (.cells (ints .i64 16 nought) 41)).alloc (.cells (ints .i64 16 nought) 41)).alloc (.cells (ints .i64 16 nought) 41)).alloc (.cells (ints .i64 16 nought) 41)) := by (repeat (first | assumption | exact Grew.refl _ | refine Grew.more ?_ _ | refine Grew.alloc ?_ _ | refine Grew.drewN ?_ _ | refine Grew.setRow ?_ _ _ (by omega) | refine Grew.setRow ?_ _ _ (by simp; omega) | refine Grew.setRow ?_ _ _ (by simp)))
  generalize ((((((((w.alloc (.cells (ints .i64 16 (numN (u))) 41)).alloc (.cells (ints .i64 16 (numN (x))) 41)).alloc (.cells (ints .i64 16 (numN (z))) 41)).alloc (.cells (ints .i64 16 (numN (x'))) 41)).alloc (.cells (ints .i64 16 (numN (z'))) 41)).alloc (.cells (ints .i64 16 nought) 41)).alloc (.cells (ints .i64 16 nought) 41)).alloc (.cells (ints .i64 16 nought) 41)).alloc (.cells (ints .i64 16 nought) 41) = w1 at *
  have lfu := lt_of_objAt fu
  have lfx := lt_of_objAt fx
  have lfz := lt_of_objAt fz
  have lfp := lt_of_objAt fp
  have lfq := lt_of_objAt fq
  have lfr0 := lt_of_objAt fr0
  have lfr1 := lt_of_objAt fr1
  have lfr2 := lt_of_objAt fr2
  have lfr3 := lt_of_objAt fr3
  go_wp2_with fail
  (refine wp_rel (by kernel_rfl) (by kernel_rfl) ?_; (repeat (first | refine exv_skip rfl ?_ | (refine exv_call rfl ?_; apply Exists.intro))); refine exv_nil ?_; intro γ hinj hbase; (repeat (first | (refine rel_quiet rfl ?_; ((first | go_big_quiet_skip | (go_big_quiet_want; go_big_quiet_op; go_big_quiet_on)); refine wpQuiet_nil ?_)) | (first | (refine rel_skip_some rfl (fun _ => rfl) ?_; ((first | go_big_quiet_skip | (go_big_quiet_want; go_big_quiet_op; go_big_quiet_on)); refine wpQuiet_nil ?_)) | refine rel_skip_none rfl (fun _ => rfl) ?_) | ((try simp only [Nat.zero_add, Nat.reduceAdd]); apply rel_box alloc_cls; (focus rfl); (focus (first | exact cells_agg _ | exact cells_int _ _ | exact cells_bool _ | rfl)); (focus ((repeat (refine fits_cons ⟨by (first | exact stab_full _ _ _ | exact stab_hdr _ _ _ | exact stab_hdr_at _ _ _ _ | exact stab_full_at _ _ _ _ (hinj _ _ (by decide))), by (first | exact stab_full _ _ _ | exact stab_hdr _ _ _ | exact stab_hdr_at _ _ _ _ | exact stab_full_at _ _ _ _ (hinj _ _ (by decide)))⟩ ?_)); exact fits_nil (by (first | exact stab_full _ _ _ | exact stab_hdr _ _ _ | exact stab_hdr_at _ _ _ _ | exact stab_full_at _ _ _ _ (hinj _ _ (by decide)))))); ((first | go_big_quiet_skip | (go_big_quiet_want; go_big_quiet_op; go_big_quiet_on)); refine wpQuiet_nil ?_)) | ((try simp only [Nat.zero_add, Nat.reduceAdd]); apply rel_alloc _ _ alloc_cls; (focus rfl); (focus (intro W; (first | exact zero_key _ | exact zero_elem _ | exact zero_num _ | exact zero_pair _))); (focus exact cells_ints _ _ _); (focus ((repeat (refine fits_cons ⟨by (first | exact stab_full _ _ _ | exact stab_hdr _ _ _ | exact stab_hdr_at _ _ _ _ | exact stab_full_at _ _ _ _ (hinj _ _ (by decide))), by (first | exact stab_full _ _ _ | exact stab_hdr _ _ _ | exact stab_hdr_at _ _ _ _ | exact stab_full_at _ _ _ _ (hinj _ _ (by decide)))⟩ ?_)); exact fits_nil (by (first | exact stab_full _ _ _ | exact stab_hdr _ _ _ | exact stab_hdr_at _ _ _ _ | exact stab_full_at _ _ _ _ (hinj _ _ (by decide)))))); ((first | go_big_quiet_skip | (go_big_quiet_want; go_big_quiet_op; go_big_quiet_on)); refine wpQuiet_nil ?_)) | ((try simp only [Nat.zero_add, Nat.reduceAdd]); apply rel_slice alloc_cls; (focus rfl); (focus (intro W; simp only [List.map_toArray, List.map_cons, List.map_nil]; first | fail)); (focus ((repeat (refine fits_cons ⟨by (first | exact stab_full _ _ _ | exact stab_hdr _ _ _ | exact stab_hdr_at _ _ _ _ | exact stab_full_at _ _ _ _ (hinj _ _ (by decide))), by (first | exact stab_full _ _ _ | exact stab_hdr _ _ _ | exact stab_hdr_at _ _ _ _ | exact stab_full_at _ _ _ _ (hinj _ _ (by decide)))⟩ ?_)); exact fits_nil (by (first | exact stab_full _ _ _ | exact stab_hdr _ _ _ | exact stab_hdr_at _ _ _ _ | exact stab_full_at _ _ _ _ (hinj _ _ (by decide)))))); ((first | go_big_quiet_skip | (go_big_quiet_want; go_big_quiet_op; go_big_quiet_on)); refine wpQuiet_nil ?_)) | ((try simp only [Nat.zero_add, Nat.reduceAdd]); apply rel_store (setRow_cls (hbase _)); (focus rfl); (focus rfl); (focus rfl); (focus (first | exact cells_agg _ | exact cells_int _ _ | exact cells_bool _ | rfl)); rotate_left 3; (focus (first | exact List.mem_cons_self .. | exact List.mem_cons_of_mem _ (List.mem_cons_self ..) | exact List.mem_cons_of_mem _ (List.mem_cons_of_mem _ (List.mem_cons_self ..)) | exact List.mem_cons_of_mem _ (List.mem_cons_of_mem _ (List.mem_cons_of_mem _ (List.mem_cons_self ..))) | exact List.mem_cons_of_mem _ (List.mem_cons_of_mem _ (List.mem_cons_of_mem _ (List.mem_cons_of_mem _ (List.mem_cons_self ..)))))); rotate_right 3; (focus kernel_rfl); (focus exact ints_size _ _ _); (focus exact ints_ones _ _ _); (focus (decide +kernel)); (focus ((repeat (refine fits_cons ⟨by (first | exact stab_full _ _ _ | exact stab_hdr _ _ _ | exact stab_hdr_at _ _ _ _ | exact stab_full_at _ _ _ _ (hinj _ _ (by decide))), by (first | exact stab_full _ _ _ | exact stab_hdr _ _ _ | exact stab_hdr_at _ _ _ _ | exact stab_full_at _ _ _ _ (hinj _ _ (by decide)))⟩ ?_)); exact fits_nil (by (first | exact stab_full _ _ _ | exact stab_hdr _ _ _ | exact stab_hdr_at _ _ _ _ | exact stab_full_at _ _ _ _ (hinj _ _ (by decide))))))) | (apply rel_fact; (focus rfl); (focus rfl); (focus rfl); (focus (intro W hC hF; go_big_quiet_want; go_big_quiet_op; (first | go_big_quiet_on | (apply Exists.intro; refine ⟨fun _ => ?_, ?_⟩; (focus (first | (with_reducible exact Calls.of_more (c1 _)) | (with_reducible exact Calls.of_more (c2 _)))); go_big_quiet_on)); exact wpQuiet_nil rfl)); (focus (exact fun _ => rfl)); ((first | go_big_quiet_skip | (go_big_quiet_want; go_big_quiet_op; go_big_quiet_on)); refine wpQuiet_nil ?_)))))
  (refine rel_nil ?_; rintro _ ⟨mq, rfl⟩ hF; simp only [List.forall_mem_cons] at hF; obtain ⟨fb, fa, -⟩ := hF)
  have nab : ¬ (γ 6 = γ 7) := hinj _ _ (by decide)
  replace fu : objAt (more w1 mq) (w.heap.size) = some (.cells (ints .i64 16 (numN (u))) 41) := keep_more _ fu
  replace fx : objAt (more w1 mq) (w.heap.size + 1) = some (.cells (ints .i64 16 (numN (x))) 41) := keep_more _ fx
  replace fz : objAt (more w1 mq) (w.heap.size + 1 + 1) = some (.cells (ints .i64 16 (numN (z))) 41) := keep_more _ fz
  replace fp : objAt (more w1 mq) (w.heap.size + 1 + 1 + 1) = some (.cells (ints .i64 16 (numN (x'))) 41) := keep_more _ fp
  replace fq : objAt (more w1 mq) (w.heap.size + 1 + 1 + 1 + 1) = some (.cells (ints .i64 16 (numN (z'))) 41) := keep_more _ fq
  replace fr0 : objAt (more w1 mq) (w.heap.size + 1 + 1 + 1 + 1 + 1) = some (.cells (ints .i64 16 nought) 41) := keep_more _ fr0
  replace fr1 : objAt (more w1 mq) (w.heap.size + 1 + 1 + 1 + 1 + 1 + 1) = some (.cells (ints .i64 16 nought) 41) := keep_more _ fr1
  replace fr2 : objAt (more w1 mq) (w.heap.size + 1 + 1 + 1 + 1 + 1 + 1 + 1) = some (.cells (ints .i64 16 nought) 41) := keep_more _ fr2
  replace fr3 : objAt (more w1 mq) (w.heap.size + 1 + 1 + 1 + 1 + 1 + 1 + 1 + 1) = some (.cells (ints .i64 16 nought) 41) := keep_more _ fr3
  replace hG : Below w.heap.size w (more w1 mq) := Grew.more hG _
  replace fa : objAt (more w1 mq) (γ 6) = some (.cells (ints .i64 16 (numN (aN x z))) 41) := fa
  replace fb : objAt (more w1 mq) (γ 7) = some (.cells (ints .i64 16 (numN (sN x z))) 41) := fb
  clear lfu lfx lfz lfp lfq lfr0 lfr1 lfr2 lfr3
  clear hinj hbase
  generalize γ 6 = ga at *
  generalize γ 7 = gb at *
  generalize more w1 mq = w2 at *
  clear γ
  have lfu := lt_of_objAt fu
  have lfx := lt_of_objAt fx
  have lfz := lt_of_objAt fz
  have lfp := lt_of_objAt fp
  have lfq := lt_of_objAt fq
  have lfr0 := lt_of_objAt fr0
  have lfr1 := lt_of_objAt fr1
  have lfr2 := lt_of_objAt fr2
  have lfr3 := lt_of_objAt fr3
  have lfa := lt_of_objAt fa
  have lfb := lt_of_objAt fb
  go_wp2_with fail
  (refine wp_rel (by kernel_rfl) (by kernel_rfl) ?_; (repeat (first | refine exv_skip rfl ?_ | (refine exv_call rfl ?_; apply Exists.intro))); refine exv_nil ?_; intro γ hinj hbase; (repeat (first | (refine rel_quiet rfl ?_; ((first | go_big_quiet_skip | (go_big_quiet_want; go_big_quiet_op; go_big_quiet_on)); refine wpQuiet_nil ?_)) | (first | (refine rel_skip_some rfl (fun _ => rfl) ?_; ((first | go_big_quiet_skip | (go_big_quiet_want; go_big_quiet_op; go_big_quiet_on)); refine wpQuiet_nil ?_)) | refine rel_skip_none rfl (fun _ => rfl) ?_) | ((try simp only [Nat.zero_add, Nat.reduceAdd]); apply rel_box alloc_cls; (focus rfl); (focus (first | exact cells_agg _ | exact cells_int _ _ | exact cells_bool _ | rfl)); (focus ((repeat (refine fits_cons ⟨by (first | exact stab_full _ _ _ | exact stab_hdr _ _ _ | exact stab_hdr_at _ _ _ _ | exact stab_full_at _ _ _ _ (hinj _ _ (by decide))), by (first | exact stab_full _ _ _ | exact stab_hdr _ _ _ | exact stab_hdr_at _ _ _ _ | exact stab_full_at _ _ _ _ (hinj _ _ (by decide)))⟩ ?_)); exact fits_nil (by (first | exact stab_full _ _ _ | exact stab_hdr _ _ _ | exact stab_hdr_at _ _ _ _ | exact stab_full_at _ _ _ _ (hinj _ _ (by decide)))))); ((first | go_big_quiet_skip | (go_big_quiet_want; go_big_quiet_op; go_big_quiet_on)); refine wpQuiet_nil ?_)) | ((try simp only [Nat.zero_add, Nat.reduceAdd]); apply rel_alloc _ _ alloc_cls; (focus rfl); (focus (intro W; (first | exact zero_key _ | exact zero_elem _ | exact zero_num _ | exact zero_pair _))); (focus exact cells_ints _ _ _); (focus ((repeat (refine fits_cons ⟨by (first | exact stab_full _ _ _ | exact stab_hdr _ _ _ | exact stab_hdr_at _ _ _ _ | exact stab_full_at _ _ _ _ (hinj _ _ (by decide))), by (first | exact stab_full _ _ _ | exact stab_hdr _ _ _ | exact stab_hdr_at _ _ _ _ | exact stab_full_at _ _ _ _ (hinj _ _ (by decide)))⟩ ?_)); exact fits_nil (by (first | exact stab_full _ _ _ | exact stab_hdr _ _ _ | exact stab_hdr_at _ _ _ _ | exact stab_full_at _ _ _ _ (hinj _ _ (by decide)))))); ((first | go_big_quiet_skip | (go_big_quiet_want; go_big_quiet_op; go_big_quiet_on)); refine wpQuiet_nil ?_)) | ((try simp only [Nat.zero_add, Nat.reduceAdd]); apply rel_slice alloc_cls; (focus rfl); (focus (intro W; simp only [List.map_toArray, List.map_cons, List.map_nil]; first | fail)); (focus ((repeat (refine fits_cons ⟨by (first | exact stab_full _ _ _ | exact stab_hdr _ _ _ | exact stab_hdr_at _ _ _ _ | exact stab_full_at _ _ _ _ (hinj _ _ (by decide))), by (first | exact stab_full _ _ _ | exact stab_hdr _ _ _ | exact stab_hdr_at _ _ _ _ | exact stab_full_at _ _ _ _ (hinj _ _ (by decide)))⟩ ?_)); exact fits_nil (by (first | exact stab_full _ _ _ | exact stab_hdr _ _ _ | exact stab_hdr_at _ _ _ _ | exact stab_full_at _ _ _ _ (hinj _ _ (by decide)))))); ((first | go_big_quiet_skip | (go_big_quiet_want; go_big_quiet_op; go_big_quiet_on)); refine wpQuiet_nil ?_)) | ((try simp only [Nat.zero_add, Nat.reduceAdd]); apply rel_store (setRow_cls (hbase _)); (focus rfl); (focus rfl); (focus rfl); (focus (first | exact cells_agg _ | exact cells_int _ _ | exact cells_bool _ | rfl)); rotate_left 3; (focus (first | exact List.mem_cons_self .. | exact List.mem_cons_of_mem _ (List.mem_cons_self ..) | exact List.mem_cons_of_mem _ (List.mem_cons_of_mem _ (List.mem_cons_self ..)) | exact List.mem_cons_of_mem _ (List.mem_cons_of_mem _ (List.mem_cons_of_mem _ (List.mem_cons_self ..))) | exact List.mem_cons_of_mem _ (List.mem_cons_of_mem _ (List.mem_cons_of_mem _ (List.mem_cons_of_mem _ (List.mem_cons_self ..)))))); rotate_right 3; (focus kernel_rfl); (focus exact ints_size _ _ _); (focus exact ints_ones _ _ _); (focus (decide +kernel)); (focus ((repeat (refine fits_cons ⟨by (first | exact stab_full _ _ _ | exact stab_hdr _ _ _ | exact stab_hdr_at _ _ _ _ | exact stab_full_at _ _ _ _ (hinj _ _ (by decide))), by (first | exact stab_full _ _ _ | exact stab_hdr _ _ _ | exact stab_hdr_at _ _ _ _ | exact stab_full_at _ _ _ _ (hinj _ _ (by decide)))⟩ ?_)); exact fits_nil (by (first | exact stab_full _ _ _ | exact stab_hdr _ _ _ | exact stab_hdr_at _ _ _ _ | exact stab_full_at _ _ _ _ (hinj _ _ (by decide))))))) | (apply rel_fact; (focus rfl); (focus rfl); (focus rfl); (focus (intro W hC hF; go_big_quiet_want; go_big_quiet_op; (first | go_big_quiet_on | (apply Exists.intro; refine ⟨fun _ => ?_, ?_⟩; (focus (first | (with_reducible exact Calls.of_more (c3 _)) | (with_reducible exact Calls.of_more (c4 _)))); go_big_quiet_on)); exact wpQuiet_nil rfl)); (focus (exact fun _ => rfl)); ((first | go_big_quiet_skip | (go_big_quiet_want; go_big_quiet_op; go_big_quiet_on)); refine wpQuiet_nil ?_)))))
  (refine rel_nil ?_; rintro _ ⟨mq, rfl⟩ hF; simp only [List.forall_mem_cons] at hF; obtain ⟨fd, fc, -⟩ := hF)
  have ncd : ¬ (γ 6 = γ 7) := hinj _ _ (by decide)
  replace fu : objAt (more w2 mq) (w.heap.size) = some (.cells (ints .i64 16 (numN (u))) 41) := keep_more _ fu
  replace fx : objAt (more w2 mq) (w.heap.size + 1) = some (.cells (ints .i64 16 (numN (x))) 41) := keep_more _ fx
  replace fz : objAt (more w2 mq) (w.heap.size + 1 + 1) = some (.cells (ints .i64 16 (numN (z))) 41) := keep_more _ fz
  replace fp : objAt (more w2 mq) (w.heap.size + 1 + 1 + 1) = some (.cells (ints .i64 16 (numN (x'))) 41) := keep_more _ fp
  replace fq : objAt (more w2 mq) (w.heap.size + 1 + 1 + 1 + 1) = some (.cells (ints .i64 16 (numN (z'))) 41) := keep_more _ fq
  replace fr0 : objAt (more w2 mq) (w.heap.size + 1 + 1 + 1 + 1 + 1) = some (.cells (ints .i64 16 nought) 41) := keep_more _ fr0
  replace fr1 : objAt (more w2 mq) (w.heap.size + 1 + 1 + 1 + 1 + 1 + 1) = some (.cells (ints .i64 16 nought) 41) := keep_more _ fr1
  replace fr2 : objAt (more w2 mq) (w.heap.size + 1 + 1 + 1 + 1 + 1 + 1 + 1) = some (.cells (ints .i64 16 nought) 41) := keep_more _ fr2
  replace fr3 : objAt (more w2 mq) (w.heap.size + 1 + 1 + 1 + 1 + 1 + 1 + 1 + 1) = some (.cells (ints .i64 16 nought) 41) := keep_more _ fr3
  replace fa : objAt (more w2 mq) (ga) = some (.cells (ints .i64 16 (numN (aN x z))) 41) := keep_more _ fa
  replace fb : objAt (more w2 mq) (gb) = some (.cells (ints .i64 16 (numN (sN x z))) 41) := keep_more _ fb
  replace hG : Below w.heap.size w (more w2 mq) := Grew.more hG _
  replace fc : objAt (more w2 mq) (γ 6) = some (.cells (ints .i64 16 (numN (aN x' z'))) 41) := fc
  replace fd : objAt (more w2 mq) (γ 7) = some (.cells (ints .i64 16 (numN (sN x' z'))) 41) := fd
  clear lfu lfx lfz lfp lfq lfr0 lfr1 lfr2 lfr3 lfa lfb
  clear hinj hbase
  generalize γ 6 = gc at *
  generalize γ 7 = gd at *
  generalize more w2 mq = w3 at *
  clear γ
  have lfu := lt_of_objAt fu
  have lfx := lt_of_objAt fx
  have lfz := lt_of_objAt fz
  have lfp := lt_of_objAt fp
  have lfq := lt_of_objAt fq
  have lfr0 := lt_of_objAt fr0
  have lfr1 := lt_of_objAt fr1
  have lfr2 := lt_of_objAt fr2
  have lfr3 := lt_of_objAt fr3
  have lfa := lt_of_objAt fa
  have lfb := lt_of_objAt fb
  have lfc := lt_of_objAt fc
  have lfd := lt_of_objAt fd
  go_wp2_with fail
  (refine wp_rel (by kernel_rfl) (by kernel_rfl) ?_; (repeat (first | refine exv_skip rfl ?_ | (refine exv_call rfl ?_; apply Exists.intro))); refine exv_nil ?_; intro γ hinj hbase; (repeat (first | (refine rel_quiet rfl ?_; ((first | go_big_quiet_skip | (go_big_quiet_want; go_big_quiet_op; go_big_quiet_on)); refine wpQuiet_nil ?_)) | (first | (refine rel_skip_some rfl (fun _ => rfl) ?_; ((first | go_big_quiet_skip | (go_big_quiet_want; go_big_quiet_op; go_big_quiet_on)); refine wpQuiet_nil ?_)) | refine rel_skip_none rfl (fun _ => rfl) ?_) | ((try simp only [Nat.zero_add, Nat.reduceAdd]); apply rel_box alloc_cls; (focus rfl); (focus (first | exact cells_agg _ | exact cells_int _ _ | exact cells_bool _ | rfl)); (focus ((repeat (refine fits_cons ⟨by (first | exact stab_full _ _ _ | exact stab_hdr _ _ _ | exact stab_hdr_at _ _ _ _ | exact stab_full_at _ _ _ _ (hinj _ _ (by decide))), by (first | exact stab_full _ _ _ | exact stab_hdr _ _ _ | exact stab_hdr_at _ _ _ _ | exact stab_full_at _ _ _ _ (hinj _ _ (by decide)))⟩ ?_)); exact fits_nil (by (first | exact stab_full _ _ _ | exact stab_hdr _ _ _ | exact stab_hdr_at _ _ _ _ | exact stab_full_at _ _ _ _ (hinj _ _ (by decide)))))); ((first | go_big_quiet_skip | (go_big_quiet_want; go_big_quiet_op; go_big_quiet_on)); refine wpQuiet_nil ?_)) | ((try simp only [Nat.zero_add, Nat.reduceAdd]); apply rel_alloc _ _ alloc_cls; (focus rfl); (focus (intro W; (first | exact zero_key _ | exact zero_elem _ | exact zero_num _ | exact zero_pair _))); (focus exact cells_ints _ _ _); (focus ((repeat (refine fits_cons ⟨by (first | exact stab_full _ _ _ | exact stab_hdr _ _ _ | exact stab_hdr_at _ _ _ _ | exact stab_full_at _ _ _ _ (hinj _ _ (by decide))), by (first | exact stab_full _ _ _ | exact stab_hdr _ _ _ | exact stab_hdr_at _ _ _ _ | exact stab_full_at _ _ _ _ (hinj _ _ (by decide)))⟩ ?_)); exact fits_nil (by (first | exact stab_full _ _ _ | exact stab_hdr _ _ _ | exact stab_hdr_at _ _ _ _ | exact stab_full_at _ _ _ _ (hinj _ _ (by decide)))))); ((first | go_big_quiet_skip | (go_big_quiet_want; go_big_quiet_op; go_big_quiet_on)); refine wpQuiet_nil ?_)) | ((try simp only [Nat.zero_add, Nat.reduceAdd]); apply rel_slice alloc_cls; (focus rfl); (focus (intro W; simp only [List.map_toArray, List.map_cons, List.map_nil]; first | fail)); (focus ((repeat (refine fits_cons ⟨by (first | exact stab_full _ _ _ | exact stab_hdr _ _ _ | exact stab_hdr_at _ _ _ _ | exact stab_full_at _ _ _ _ (hinj _ _ (by decide))), by (first | exact stab_full _ _ _ | exact stab_hdr _ _ _ | exact stab_hdr_at _ _ _ _ | exact stab_full_at _ _ _ _ (hinj _ _ (by decide)))⟩ ?_)); exact fits_nil (by (first | exact stab_full _ _ _ | exact stab_hdr _ _ _ | exact stab_hdr_at _ _ _ _ | exact stab_full_at _ _ _ _ (hinj _ _ (by decide)))))); ((first | go_big_quiet_skip | (go_big_quiet_want; go_big_quiet_op; go_big_quiet_on)); refine wpQuiet_nil ?_)) | ((try simp only [Nat.zero_add, Nat.reduceAdd]); apply rel_store (setRow_cls (hbase _)); (focus rfl); (focus rfl); (focus rfl); (focus (first | exact cells_agg _ | exact cells_int _ _ | exact cells_bool _ | rfl)); rotate_left 3; (focus (first | exact List.mem_cons_self .. | exact List.mem_cons_of_mem _ (List.mem_cons_self ..) | exact List.mem_cons_of_mem _ (List.mem_cons_of_mem _ (List.mem_cons_self ..)) | exact List.mem_cons_of_mem _ (List.mem_cons_of_mem _ (List.mem_cons_of_mem _ (List.mem_cons_self ..))) | exact List.mem_cons_of_mem _ (List.mem_cons_of_mem _ (List.mem_cons_of_mem _ (List.mem_cons_of_mem _ (List.mem_cons_self ..)))))); rotate_right 3; (focus kernel_rfl); (focus exact ints_size _ _ _); (focus exact ints_ones _ _ _); (focus (decide +kernel)); (focus ((repeat (refine fits_cons ⟨by (first | exact stab_full _ _ _ | exact stab_hdr _ _ _ | exact stab_hdr_at _ _ _ _ | exact stab_full_at _ _ _ _ (hinj _ _ (by decide))), by (first | exact stab_full _ _ _ | exact stab_hdr _ _ _ | exact stab_hdr_at _ _ _ _ | exact stab_full_at _ _ _ _ (hinj _ _ (by decide)))⟩ ?_)); exact fits_nil (by (first | exact stab_full _ _ _ | exact stab_hdr _ _ _ | exact stab_hdr_at _ _ _ _ | exact stab_full_at _ _ _ _ (hinj _ _ (by decide))))))) | (apply rel_fact; (focus rfl); (focus rfl); (focus rfl); (focus (intro W hC hF; go_big_quiet_want; go_big_quiet_op; (first | go_big_quiet_on | (apply Exists.intro; refine ⟨fun _ => ?_, ?_⟩; (focus (first | (with_reducible exact Calls.of_more (c5 _)) | (with_reducible exact Calls.of_more (c6 _)))); go_big_quiet_on)); exact wpQuiet_nil rfl)); (focus (exact fun _ => rfl)); ((first | go_big_quiet_skip | (go_big_quiet_want; go_big_quiet_op; go_big_quiet_on)); refine wpQuiet_nil ?_)))))
  (refine rel_nil ?_; rintro _ ⟨mq, rfl⟩ hF; simp only [List.forall_mem_cons] at hF; obtain ⟨fcb, fda, -⟩ := hF)
  have ncbda : ¬ (γ 7 = γ 6) := hinj _ _ (by decide)
  replace fu : objAt (more w3 mq) (w.heap.size) = some (.cells (ints .i64 16 (numN (u))) 41) := keep_more _ fu
  replace fx : objAt (more w3 mq) (w.heap.size + 1) = some (.cells (ints .i64 16 (numN (x))) 41) := keep_more _ fx
  replace fz : objAt (more w3 mq) (w.heap.size + 1 + 1) = some (.cells (ints .i64 16 (numN (z))) 41) := keep_more _ fz
  replace fp : objAt (more w3 mq) (w.heap.size + 1 + 1 + 1) = some (.cells (ints .i64 16 (numN (x'))) 41) := keep_more _ fp
  replace fq : objAt (more w3 mq) (w.heap.size + 1 + 1 + 1 + 1) = some (.cells (ints .i64 16 (numN (z'))) 41) := keep_more _ fq
  replace fr0 : objAt (more w3 mq) (w.heap.size + 1 + 1 + 1 + 1 + 1) = some (.cells (ints .i64 16 nought) 41) := keep_more _ fr0
  replace fr1 : objAt (more w3 mq) (w.heap.size + 1 + 1 + 1 + 1 + 1 + 1) = some (.cells (ints .i64 16 nought) 41) := keep_more _ fr1
  replace fr2 : objAt (more w3 mq) (w.heap.size + 1 + 1 + 1 + 1 + 1 + 1 + 1) = some (.cells (ints .i64 16 nought) 41) := keep_more _ fr2
  replace fr3 : objAt (more w3 mq) (w.heap.size + 1 + 1 + 1 + 1 + 1 + 1 + 1 + 1) = some (.cells (ints .i64 16 nought) 41) := keep_more _ fr3
  replace fa : objAt (more w3 mq) (ga) = some (.cells (ints .i64 16 (numN (aN x z))) 41) := keep_more _ fa
  replace fb : objAt (more w3 mq) (gb) = some (.cells (ints .i64 16 (numN (sN x z))) 41) := keep_more _ fb
  replace fc : objAt (more w3 mq) (gc) = some (.cells (ints .i64 16 (numN (aN x' z'))) 41) := keep_more _ fc
  replace fd : objAt (more w3 mq) (gd) = some (.cells (ints .i64 16 (numN (sN x' z'))) 41) := keep_more _ fd
  replace hG : Below w.heap.size w (more w3 mq) := Grew.more hG _
  replace fda : objAt (more w3 mq) (γ 6) = some (.cells (ints .i64 16 (numN (daN x z x' z'))) 41) := fda
  replace fcb : objAt (more w3 mq) (γ 7) = some (.cells (ints .i64 16 (numN (cbN x z x' z'))) 41) := fcb
  clear lfu lfx lfz lfp lfq lfr0 lfr1 lfr2 lfr3 lfa lfb lfc lfd
  clear hinj hbase
  generalize γ 6 = gda at *
  generalize γ 7 = gcb at *
  generalize more w3 mq = w4 at *
  clear γ
  have lfu := lt_of_objAt fu
  have lfx := lt_of_objAt fx
  have lfz := lt_of_objAt fz
  have lfp := lt_of_objAt fp
  have lfq := lt_of_objAt fq
  have lfr0 := lt_of_objAt fr0
  have lfr1 := lt_of_objAt fr1
  have lfr2 := lt_of_objAt fr2
  have lfr3 := lt_of_objAt fr3
  have lfa := lt_of_objAt fa
  have lfb := lt_of_objAt fb
  have lfc := lt_of_objAt fc
  have lfd := lt_of_objAt fd
  have lfda := lt_of_objAt fda
  have lfcb := lt_of_objAt fcb
  clear fc lfc
  clear fd lfd
  clear fx lfx
  clear fz lfz
  clear fp lfp
  clear fq lfq
  go_wp2_with fail
  (refine wp_rel (by kernel_rfl) (by kernel_rfl) ?_; (repeat (first | refine exv_skip rfl ?_ | (refine exv_call rfl ?_; apply Exists.intro))); refine exv_nil ?_; intro γ hinj hbase; (repeat (first | (refine rel_quiet rfl ?_; ((first | go_big_quiet_skip | (go_big_quiet_want; go_big_quiet_op; go_big_quiet_on)); refine wpQuiet_nil ?_)) | (first | (refine rel_skip_some rfl (fun _ => rfl) ?_; ((first | go_big_quiet_skip | (go_big_quiet_want; go_big_quiet_op; go_big_quiet_on)); refine wpQuiet_nil ?_)) | refine rel_skip_none rfl (fun _ => rfl) ?_) | ((try simp only [Nat.zero_add, Nat.reduceAdd]); apply rel_box alloc_cls; (focus rfl); (focus (first | exact cells_agg _ | exact cells_int _ _ | exact cells_bool _ | rfl)); (focus ((repeat (refine fits_cons ⟨by (first | exact stab_full _ _ _ | exact stab_hdr _ _ _ | exact stab_hdr_at _ _ _ _ | exact stab_full_at _ _ _ _ (hinj _ _ (by decide))), by (first | exact stab_full _ _ _ | exact stab_hdr _ _ _ | exact stab_hdr_at _ _ _ _ | exact stab_full_at _ _ _ _ (hinj _ _ (by decide)))⟩ ?_)); exact fits_nil (by (first | exact stab_full _ _ _ | exact stab_hdr _ _ _ | exact stab_hdr_at _ _ _ _ | exact stab_full_at _ _ _ _ (hinj _ _ (by decide)))))); ((first | go_big_quiet_skip | (go_big_quiet_want; go_big_quiet_op; go_big_quiet_on)); refine wpQuiet_nil ?_)) | ((try simp only [Nat.zero_add, Nat.reduceAdd]); apply rel_alloc _ _ alloc_cls; (focus rfl); (focus (intro W; (first | exact zero_key _ | exact zero_elem _ | exact zero_num _ | exact zero_pair _))); (focus exact cells_ints _ _ _); (focus ((repeat (refine fits_cons ⟨by (first | exact stab_full _ _ _ | exact stab_hdr _ _ _ | exact stab_hdr_at _ _ _ _ | exact stab_full_at _ _ _ _ (hinj _ _ (by decide))), by (first | exact stab_full _ _ _ | exact stab_hdr _ _ _ | exact stab_hdr_at _ _ _ _ | exact stab_full_at _ _ _ _ (hinj _ _ (by decide)))⟩ ?_)); exact fits_nil (by (first | exact stab_full _ _ _ | exact stab_hdr _ _ _ | exact stab_hdr_at _ _ _ _ | exact stab_full_at _ _ _ _ (hinj _ _ (by decide)))))); ((first | go_big_quiet_skip | (go_big_quiet_want; go_big_quiet_op; go_big_quiet_on)); refine wpQuiet_nil ?_)) | ((try simp only [Nat.zero_add, Nat.reduceAdd]); apply rel_slice alloc_cls; (focus rfl); (focus (intro W; simp only [List.map_toArray, List.map_cons, List.map_nil]; first | fail)); (focus ((repeat (refine fits_cons ⟨by (first | exact stab_full _ _ _ | exact stab_hdr _ _ _ | exact stab_hdr_at _ _ _ _ | exact stab_full_at _ _ _ _ (hinj _ _ (by decide))), by (first | exact stab_full _ _ _ | exact stab_hdr _ _ _ | exact stab_hdr_at _ _ _ _ | exact stab_full_at _ _ _ _ (hinj _ _ (by decide)))⟩ ?_)); exact fits_nil (by (first | exact stab_full _ _ _ | exact stab_hdr _ _ _ | exact stab_hdr_at _ _ _ _ | exact stab_full_at _ _ _ _ (hinj _ _ (by decide)))))); ((first | go_big_quiet_skip | (go_big_quiet_want; go_big_quiet_op; go_big_quiet_on)); refine wpQuiet_nil ?_)) | ((try simp only [Nat.zero_add, Nat.reduceAdd]); apply rel_store (setRow_cls (hbase _)); (focus rfl); (focus rfl); (focus rfl); (focus (first | exact cells_agg _ | exact cells_int _ _ | exact cells_bool _ | rfl)); rotate_left 3; (focus (first | exact List.mem_cons_self .. | exact List.mem_cons_of_mem _ (List.mem_cons_self ..) | exact List.mem_cons_of_mem _ (List.mem_cons_of_mem _ (List.mem_cons_self ..)) | exact List.mem_cons_of_mem _ (List.mem_cons_of_mem _ (List.mem_cons_of_mem _ (List.mem_cons_self ..))) | exact List.mem_cons_of_mem _ (List.mem_cons_of_mem _ (List.mem_cons_of_mem _ (List.mem_cons_of_mem _ (List.mem_cons_self ..)))))); rotate_right 3; (focus kernel_rfl); (focus exact ints_size _ _ _); (focus exact ints_ones _ _ _); (focus (decide +kernel)); (focus ((repeat (refine fits_cons ⟨by (first | exact stab_full _ _ _ | exact stab_hdr _ _ _ | exact stab_hdr_at _ _ _ _ | exact stab_full_at _ _ _ _ (hinj _ _ (by decide))), by (first | exact stab_full _ _ _ | exact stab_hdr _ _ _ | exact stab_hdr_at _ _ _ _ | exact stab_full_at _ _ _ _ (hinj _ _ (by decide)))⟩ ?_)); exact fits_nil (by (first | exact stab_full _ _ _ | exact stab_hdr _ _ _ | exact stab_hdr_at _ _ _ _ | exact stab_full_at _ _ _ _ (hinj _ _ (by decide))))))) | (apply rel_fact; (focus rfl); (focus rfl); (focus rfl); (focus (intro W hC hF; go_big_quiet_want; go_big_quiet_op; (first | go_big_quiet_on | (apply Exists.intro; refine ⟨fun _ => ?_, ?_⟩; (focus (first | (with_reducible exact Calls.of_more (c7 _)) | (with_reducible exact Calls.of_more (c8 _)))); go_big_quiet_on)); exact wpQuiet_nil rfl)); (focus (exact fun _ => rfl)); ((first | go_big_quiet_skip | (go_big_quiet_want; go_big_quiet_op; go_big_quiet_on)); refine wpQuiet_nil ?_)))))
  (refine rel_nil ?_; rintro _ ⟨mq, rfl⟩ hF; simp only [List.forall_mem_cons] at hF; obtain ⟨fbb, faa, -⟩ := hF)
  have naabb : ¬ (γ 6 = γ 7) := hinj _ _ (by decide)
  replace fu : objAt (more w4 mq) (w.heap.size) = some (.cells (ints .i64 16 (numN (u))) 41) := keep_more _ fu
  replace fr0 : objAt (more w4 mq) (w.heap.size + 1 + 1 + 1 + 1 + 1) = some (.cells (ints .i64 16 nought) 41) := keep_more _ fr0
  replace fr1 : objAt (more w4 mq) (w.heap.size + 1 + 1 + 1 + 1 + 1 + 1) = some (.cells (ints .i64 16 nought) 41) := keep_more _ fr1
  replace fr2 : objAt (more w4 mq) (w.heap.size + 1 + 1 + 1 + 1 + 1 + 1 + 1) = some (.cells (ints .i64 16 nought) 41) := keep_more _ fr2
  replace fr3 : objAt (more w4 mq) (w.heap.size + 1 + 1 + 1 + 1 + 1 + 1 + 1 + 1) = some (.cells (ints .i64 16 nought) 41) := keep_more _ fr3
  replace fa : objAt (more w4 mq) (ga) = some (.cells (ints .i64 16 (numN (aN x z))) 41) := keep_more _ fa
  replace fb : objAt (more w4 mq) (gb) = some (.cells (ints .i64 16 (numN (sN x z))) 41) := keep_more _ fb
  replace fda : objAt (more w4 mq) (gda) = some (.cells (ints .i64 16 (numN (daN x z x' z'))) 41) := keep_more _ fda
  replace fcb : objAt (more w4 mq) (gcb) = some (.cells (ints .i64 16 (numN (cbN x z x' z'))) 41) := keep_more _ fcb
  replace hG : Below w.heap.size w (more w4 mq) := Grew.more hG _
  replace faa : objAt (more w4 mq) (γ 6) = some (.cells (ints .i64 16 (numN (mN (aN x z) (aN x z)))) 41) := faa
  replace fbb : objAt (more w4 mq) (γ 7) = some (.cells (ints .i64 16 (numN (mN (sN x z) (sN x z)))) 41) := fbb
  clear lfu lfr0 lfr1 lfr2 lfr3 lfa lfb lfda lfcb
  clear hinj hbase
  generalize γ 6 = gaa at *
  generalize γ 7 = gbb at *
  generalize more w4 mq = w5 at *
  clear γ
  have lfu := lt_of_objAt fu
  have lfr0 := lt_of_objAt fr0
  have lfr1 := lt_of_objAt fr1
  have lfr2 := lt_of_objAt fr2
  have lfr3 := lt_of_objAt fr3
  have lfa := lt_of_objAt fa
  have lfb := lt_of_objAt fb
  have lfda := lt_of_objAt fda
  have lfcb := lt_of_objAt fcb
  have lfaa := lt_of_objAt faa
  have lfbb := lt_of_objAt fbb
  clear fa lfa
  clear fb lfb
  go_wp2_with fail
  (refine (c9 _).mono ?_; rintro e w6 ⟨rfl, hb⟩; replace fu : objAt w6 (w.heap.size) = some (.cells (ints .i64 16 (numN (u))) 41) := keep_below hb (by (repeat (first | assumption | exact objAt_alloc_at _ _ _ rfl | (refine objAt_alloc_at _ _ _ ?_; (simp; done)) | refine keep_alloc _ ?_ | refine keep_drewN _ ?_ | refine keep_more _ ?_ | exact keep_row _ (by assumption) | refine keep_setRow _ _ ?_ (by first | omega | (simp; omega) | simp)))); have lfu := lt_of_objAt fu; replace fr0 : objAt w6 (w.heap.size + 1 + 1 + 1 + 1 + 1) = some (.cells (ints .i64 16 nought) 41) := keep_below hb (by (repeat (first | assumption | exact objAt_alloc_at _ _ _ rfl | (refine objAt_alloc_at _ _ _ ?_; (simp; done)) | refine keep_alloc _ ?_ | refine keep_drewN _ ?_ | refine keep_more _ ?_ | exact keep_row _ (by assumption) | refine keep_setRow _ _ ?_ (by first | omega | (simp; omega) | simp)))); have lfr0 := lt_of_objAt fr0; replace fr1 : objAt w6 (w.heap.size + 1 + 1 + 1 + 1 + 1 + 1) = some (.cells (ints .i64 16 nought) 41) := keep_below hb (by (repeat (first | assumption | exact objAt_alloc_at _ _ _ rfl | (refine objAt_alloc_at _ _ _ ?_; (simp; done)) | refine keep_alloc _ ?_ | refine keep_drewN _ ?_ | refine keep_more _ ?_ | exact keep_row _ (by assumption) | refine keep_setRow _ _ ?_ (by first | omega | (simp; omega) | simp)))); have lfr1 := lt_of_objAt fr1; replace fr2 : objAt w6 (w.heap.size + 1 + 1 + 1 + 1 + 1 + 1 + 1) = some (.cells (ints .i64 16 nought) 41) := keep_below hb (by (repeat (first | assumption | exact objAt_alloc_at _ _ _ rfl | (refine objAt_alloc_at _ _ _ ?_; (simp; done)) | refine keep_alloc _ ?_ | refine keep_drewN _ ?_ | refine keep_more _ ?_ | exact keep_row _ (by assumption) | refine keep_setRow _ _ ?_ (by first | omega | (simp; omega) | simp)))); have lfr2 := lt_of_objAt fr2; replace fr3 : objAt w6 (w.heap.size + 1 + 1 + 1 + 1 + 1 + 1 + 1 + 1) = some (.cells (ints .i64 16 nought) 41) := keep_below hb (by (repeat (first | assumption | exact objAt_alloc_at _ _ _ rfl | (refine objAt_alloc_at _ _ _ ?_; (simp; done)) | refine keep_alloc _ ?_ | refine keep_drewN _ ?_ | refine keep_more _ ?_ | exact keep_row _ (by assumption) | refine keep_setRow _ _ ?_ (by first | omega | (simp; omega) | simp)))); have lfr3 := lt_of_objAt fr3; replace fda : objAt w6 (gda) = some (.cells (ints .i64 16 (numN (daN x z x' z'))) 41) := keep_below hb (by (repeat (first | assumption | exact objAt_alloc_at _ _ _ rfl | (refine objAt_alloc_at _ _ _ ?_; (simp; done)) | refine keep_alloc _ ?_ | refine keep_drewN _ ?_ | refine keep_more _ ?_ | exact keep_row _ (by assumption) | refine keep_setRow _ _ ?_ (by first | omega | (simp; omega) | simp)))); have lfda := lt_of_objAt fda; replace fcb : objAt w6 (gcb) = some (.cells (ints .i64 16 (numN (cbN x z x' z'))) 41) := keep_below hb (by (repeat (first | assumption | exact objAt_alloc_at _ _ _ rfl | (refine objAt_alloc_at _ _ _ ?_; (simp; done)) | refine keep_alloc _ ?_ | refine keep_drewN _ ?_ | refine keep_more _ ?_ | exact keep_row _ (by assumption) | refine keep_setRow _ _ ?_ (by first | omega | (simp; omega) | simp)))); have lfcb := lt_of_objAt fcb; replace faa : objAt w6 (gaa) = some (.cells (ints .i64 16 (numN (mN (aN x z) (aN x z)))) 41) := keep_below hb (by (repeat (first | assumption | exact objAt_alloc_at _ _ _ rfl | (refine objAt_alloc_at _ _ _ ?_; (simp; done)) | refine keep_alloc _ ?_ | refine keep_drewN _ ?_ | refine keep_more _ ?_ | exact keep_row _ (by assumption) | refine keep_setRow _ _ ?_ (by first | omega | (simp; omega) | simp)))); have lfaa := lt_of_objAt faa; replace fbb : objAt w6 (gbb) = some (.cells (ints .i64 16 (numN (mN (sN x z) (sN x z)))) 41) := keep_below hb (by (repeat (first | assumption | exact objAt_alloc_at _ _ _ rfl | (refine objAt_alloc_at _ _ _ ?_; (simp; done)) | refine keep_alloc _ ?_ | refine keep_drewN _ ?_ | refine keep_more _ ?_ | exact keep_row _ (by assumption) | refine keep_setRow _ _ ?_ (by first | omega | (simp; omega) | simp)))); have lfbb := lt_of_objAt fbb; replace hG : Below w.heap.size w w6 := Grew.trans (by (repeat (first | assumption | exact Grew.refl _ | refine Grew.more ?_ _ | refine Grew.alloc ?_ _ | refine Grew.drewN ?_ _ | refine Grew.setRow ?_ _ _ (by omega) | refine Grew.setRow ?_ _ _ (by simp; omega) | refine Grew.setRow ?_ _ _ (by simp)))) hb; clear hb)
  go_wp2_with fail
  have fe : objAt (w6.alloc (.cells (ints .i64 16 (numN (twEN x z))) 41)) w6.heap.size = some (.cells (ints .i64 16 (numN (twEN x z))) 41) := objAt_alloc_at _ _ _ rfl
  replace fu : objAt (w6.alloc (.cells (ints .i64 16 (numN (twEN x z))) 41)) (w.heap.size) = some (.cells (ints .i64 16 (numN (u))) 41) := keep_alloc _ fu
  replace fr0 : objAt (w6.alloc (.cells (ints .i64 16 (numN (twEN x z))) 41)) (w.heap.size + 1 + 1 + 1 + 1 + 1) = some (.cells (ints .i64 16 nought) 41) := keep_alloc _ fr0
  replace fr1 : objAt (w6.alloc (.cells (ints .i64 16 (numN (twEN x z))) 41)) (w.heap.size + 1 + 1 + 1 + 1 + 1 + 1) = some (.cells (ints .i64 16 nought) 41) := keep_alloc _ fr1
  replace fr2 : objAt (w6.alloc (.cells (ints .i64 16 (numN (twEN x z))) 41)) (w.heap.size + 1 + 1 + 1 + 1 + 1 + 1 + 1) = some (.cells (ints .i64 16 nought) 41) := keep_alloc _ fr2
  replace fr3 : objAt (w6.alloc (.cells (ints .i64 16 (numN (twEN x z))) 41)) (w.heap.size + 1 + 1 + 1 + 1 + 1 + 1 + 1 + 1) = some (.cells (ints .i64 16 nought) 41) := keep_alloc _ fr3
  replace fda : objAt (w6.alloc (.cells (ints .i64 16 (numN (twEN x z))) 41)) (gda) = some (.cells (ints .i64 16 (numN (daN x z x' z'))) 41) := keep_alloc _ fda
  replace fcb : objAt (w6.alloc (.cells (ints .i64 16 (numN (twEN x z))) 41)) (gcb) = some (.cells (ints .i64 16 (numN (cbN x z x' z'))) 41) := keep_alloc _ fcb
  replace faa : objAt (w6.alloc (.cells (ints .i64 16 (numN (twEN x z))) 41)) (gaa) = some (.cells (ints .i64 16 (numN (mN (aN x z) (aN x z)))) 41) := keep_alloc _ faa
  replace fbb : objAt (w6.alloc (.cells (ints .i64 16 (numN (twEN x z))) 41)) (gbb) = some (.cells (ints .i64 16 (numN (mN (sN x z) (sN x z)))) 41) := keep_alloc _ fbb
  replace hG : Below w.heap.size w (w6.alloc (.cells (ints .i64 16 (numN (twEN x z))) 41)) := Grew.alloc hG _
  clear lfu lfr0 lfr1 lfr2 lfr3 lfda lfcb lfaa lfbb
  generalize w6.alloc (.cells (ints .i64 16 (numN (twEN x z))) 41) = w7 at *
  generalize w6.heap.size = ge at *
  have lfu := lt_of_objAt fu
  have lfr0 := lt_of_objAt fr0
  have lfr1 := lt_of_objAt fr1
  have lfr2 := lt_of_objAt fr2
  have lfr3 := lt_of_objAt fr3
  have lfda := lt_of_objAt fda
  have lfcb := lt_of_objAt fcb
  have lfaa := lt_of_objAt faa
  have lfbb := lt_of_objAt fbb
  have lfe := lt_of_objAt fe
  go_wp2_with fail
  (refine wp_rel (by kernel_rfl) (by kernel_rfl) ?_; (repeat (first | refine exv_skip rfl ?_ | (refine exv_call rfl ?_; apply Exists.intro))); refine exv_nil ?_; intro γ hinj hbase; (repeat (first | (refine rel_quiet rfl ?_; ((first | go_big_quiet_skip | (go_big_quiet_want; go_big_quiet_op; go_big_quiet_on)); refine wpQuiet_nil ?_)) | (first | (refine rel_skip_some rfl (fun _ => rfl) ?_; ((first | go_big_quiet_skip | (go_big_quiet_want; go_big_quiet_op; go_big_quiet_on)); refine wpQuiet_nil ?_)) | refine rel_skip_none rfl (fun _ => rfl) ?_) | ((try simp only [Nat.zero_add, Nat.reduceAdd]); apply rel_box alloc_cls; (focus rfl); (focus (first | exact cells_agg _ | exact cells_int _ _ | exact cells_bool _ | rfl)); (focus ((repeat (refine fits_cons ⟨by (first | exact stab_full _ _ _ | exact stab_hdr _ _ _ | exact stab_hdr_at _ _ _ _ | exact stab_full_at _ _ _ _ (hinj _ _ (by decide))), by (first | exact stab_full _ _ _ | exact stab_hdr _ _ _ | exact stab_hdr_at _ _ _ _ | exact stab_full_at _ _ _ _ (hinj _ _ (by decide)))⟩ ?_)); exact fits_nil (by (first | exact stab_full _ _ _ | exact stab_hdr _ _ _ | exact stab_hdr_at _ _ _ _ | exact stab_full_at _ _ _ _ (hinj _ _ (by decide)))))); ((first | go_big_quiet_skip | (go_big_quiet_want; go_big_quiet_op; go_big_quiet_on)); refine wpQuiet_nil ?_)) | ((try simp only [Nat.zero_add, Nat.reduceAdd]); apply rel_alloc _ _ alloc_cls; (focus rfl); (focus (intro W; (first | exact zero_key _ | exact zero_elem _ | exact zero_num _ | exact zero_pair _))); (focus exact cells_ints _ _ _); (focus ((repeat (refine fits_cons ⟨by (first | exact stab_full _ _ _ | exact stab_hdr _ _ _ | exact stab_hdr_at _ _ _ _ | exact stab_full_at _ _ _ _ (hinj _ _ (by decide))), by (first | exact stab_full _ _ _ | exact stab_hdr _ _ _ | exact stab_hdr_at _ _ _ _ | exact stab_full_at _ _ _ _ (hinj _ _ (by decide)))⟩ ?_)); exact fits_nil (by (first | exact stab_full _ _ _ | exact stab_hdr _ _ _ | exact stab_hdr_at _ _ _ _ | exact stab_full_at _ _ _ _ (hinj _ _ (by decide)))))); ((first | go_big_quiet_skip | (go_big_quiet_want; go_big_quiet_op; go_big_quiet_on)); refine wpQuiet_nil ?_)) | ((try simp only [Nat.zero_add, Nat.reduceAdd]); apply rel_slice alloc_cls; (focus rfl); (focus (intro W; simp only [List.map_toArray, List.map_cons, List.map_nil]; first | fail)); (focus ((repeat (refine fits_cons ⟨by (first | exact stab_full _ _ _ | exact stab_hdr _ _ _ | exact stab_hdr_at _ _ _ _ | exact stab_full_at _ _ _ _ (hinj _ _ (by decide))), by (first | exact stab_full _ _ _ | exact stab_hdr _ _ _ | exact stab_hdr_at _ _ _ _ | exact stab_full_at _ _ _ _ (hinj _ _ (by decide)))⟩ ?_)); exact fits_nil (by (first | exact stab_full _ _ _ | exact stab_hdr _ _ _ | exact stab_hdr_at _ _ _ _ | exact stab_full_at _ _ _ _ (hinj _ _ (by decide)))))); ((first | go_big_quiet_skip | (go_big_quiet_want; go_big_quiet_op; go_big_quiet_on)); refine wpQuiet_nil ?_)) | ((try simp only [Nat.zero_add, Nat.reduceAdd]); apply rel_store (setRow_cls (hbase _)); (focus rfl); (focus rfl); (focus rfl); (focus (first | exact cells_agg _ | exact cells_int _ _ | exact cells_bool _ | rfl)); rotate_left 3; (focus (first | exact List.mem_cons_self .. | exact List.mem_cons_of_mem _ (List.mem_cons_self ..) | exact List.mem_cons_of_mem _ (List.mem_cons_of_mem _ (List.mem_cons_self ..)) | exact List.mem_cons_of_mem _ (List.mem_cons_of_mem _ (List.mem_cons_of_mem _ (List.mem_cons_self ..))) | exact List.mem_cons_of_mem _ (List.mem_cons_of_mem _ (List.mem_cons_of_mem _ (List.mem_cons_of_mem _ (List.mem_cons_self ..)))))); rotate_right 3; (focus kernel_rfl); (focus exact ints_size _ _ _); (focus exact ints_ones _ _ _); (focus (decide +kernel)); (focus ((repeat (refine fits_cons ⟨by (first | exact stab_full _ _ _ | exact stab_hdr _ _ _ | exact stab_hdr_at _ _ _ _ | exact stab_full_at _ _ _ _ (hinj _ _ (by decide))), by (first | exact stab_full _ _ _ | exact stab_hdr _ _ _ | exact stab_hdr_at _ _ _ _ | exact stab_full_at _ _ _ _ (hinj _ _ (by decide)))⟩ ?_)); exact fits_nil (by (first | exact stab_full _ _ _ | exact stab_hdr _ _ _ | exact stab_hdr_at _ _ _ _ | exact stab_full_at _ _ _ _ (hinj _ _ (by decide))))))) | (apply rel_fact; (focus rfl); (focus rfl); (focus rfl); (focus (intro W hC hF; go_big_quiet_want; go_big_quiet_op; (first | go_big_quiet_on | (apply Exists.intro; refine ⟨fun _ => ?_, ?_⟩; (focus (first | (with_reducible exact Calls.of_more (c10 _)) | (with_reducible exact Calls.of_more (c11 _)))); go_big_quiet_on)); exact wpQuiet_nil rfl)); (focus (exact fun _ => rfl)); ((first | go_big_quiet_skip | (go_big_quiet_want; go_big_quiet_op; go_big_quiet_on)); refine wpQuiet_nil ?_)))))
  (refine rel_nil ?_; rintro _ ⟨mq, rfl⟩ hF; simp only [List.forall_mem_cons] at hF; obtain ⟨fdif, fsum, -⟩ := hF)
  have ndifsum : ¬ (γ 7 = γ 6) := hinj _ _ (by decide)
  replace fu : objAt (more w7 mq) (w.heap.size) = some (.cells (ints .i64 16 (numN (u))) 41) := keep_more _ fu
  replace fr0 : objAt (more w7 mq) (w.heap.size + 1 + 1 + 1 + 1 + 1) = some (.cells (ints .i64 16 nought) 41) := keep_more _ fr0
  replace fr1 : objAt (more w7 mq) (w.heap.size + 1 + 1 + 1 + 1 + 1 + 1) = some (.cells (ints .i64 16 nought) 41) := keep_more _ fr1
  replace fr2 : objAt (more w7 mq) (w.heap.size + 1 + 1 + 1 + 1 + 1 + 1 + 1) = some (.cells (ints .i64 16 nought) 41) := keep_more _ fr2
  replace fr3 : objAt (more w7 mq) (w.heap.size + 1 + 1 + 1 + 1 + 1 + 1 + 1 + 1) = some (.cells (ints .i64 16 nought) 41) := keep_more _ fr3
  replace fda : objAt (more w7 mq) (gda) = some (.cells (ints .i64 16 (numN (daN x z x' z'))) 41) := keep_more _ fda
  replace fcb : objAt (more w7 mq) (gcb) = some (.cells (ints .i64 16 (numN (cbN x z x' z'))) 41) := keep_more _ fcb
  replace faa : objAt (more w7 mq) (gaa) = some (.cells (ints .i64 16 (numN (mN (aN x z) (aN x z)))) 41) := keep_more _ faa
  replace fbb : objAt (more w7 mq) (gbb) = some (.cells (ints .i64 16 (numN (mN (sN x z) (sN x z)))) 41) := keep_more _ fbb
  replace fe : objAt (more w7 mq) (ge) = some (.cells (ints .i64 16 (numN (twEN x z))) 41) := keep_more _ fe
  replace hG : Below w.heap.size w (more w7 mq) := Grew.more hG _
  replace fsum : objAt (more w7 mq) (γ 6) = some (.cells (ints .i64 16 (numN (aN (daN x z x' z') (cbN x z x' z')))) 41) := fsum
  replace fdif : objAt (more w7 mq) (γ 7) = some (.cells (ints .i64 16 (numN (sN (daN x z x' z') (cbN x z x' z')))) 41) := fdif
  clear lfu lfr0 lfr1 lfr2 lfr3 lfda lfcb lfaa lfbb lfe
  clear hinj hbase
  generalize γ 6 = gsum at *
  generalize γ 7 = gdif at *
  generalize more w7 mq = w8 at *
  clear γ
  have lfu := lt_of_objAt fu
  have lfr0 := lt_of_objAt fr0
  have lfr1 := lt_of_objAt fr1
  have lfr2 := lt_of_objAt fr2
  have lfr3 := lt_of_objAt fr3
  have lfda := lt_of_objAt fda
  have lfcb := lt_of_objAt fcb
  have lfaa := lt_of_objAt faa
  have lfbb := lt_of_objAt fbb
  have lfe := lt_of_objAt fe
  have lfsum := lt_of_objAt fsum
  have lfdif := lt_of_objAt fdif
  clear fda lfda
  clear fcb lfcb
  have n2 : ¬ (w.heap.size + 1 + 1 = w.heap.size) := by omega
  have n3 : ¬ (w.heap.size + 1 + 1 + 1 = w.heap.size) := by omega
  clear c1 c2 c3 c4 c5 c6 c7 c8 c9 c10 c11
  go_wp2_with fail
  ((first | (with_reducible refine wp_region_tail_on9 18 (by kernel_rfl) (by kernel_rfl) (by kernel_rfl) (by kernel_rfl) (by kernel_rfl) ?_) | refine wp_region_tail_more9 18 (by kernel_rfl) (by kernel_rfl) (by kernel_rfl) (by kernel_rfl) (by kernel_rfl) ?_); simp only [List.take_succ_cons, List.take_zero]; (repeat (first | go_big_quiet_skip | (go_big_quiet_want; go_big_quiet_op; first | go_big_quiet_on | (apply Exists.intro; refine ⟨fun _ => ?_, ?_⟩; (focus (first | (with_reducible exact Calls.of_more (d1 _)) | (with_reducible exact Calls.of_more (d2 _)) | (with_reducible exact Calls.of_more (d3 _)) | (with_reducible exact Calls.of_more (d4 _)) | (with_reducible exact Calls.of_more (d5 _)) | (with_reducible exact Calls.of_more (d6 _)) | (with_reducible exact Calls.of_more (d7 _)) | (with_reducible exact Calls.of_more (d8 _)))); go_big_quiet_on)))); refine wpQuiet_nil ?_; rintro _ ⟨mq, rfl⟩)
  (refine tail_one (i := 18) (fuel := 3) (by kernel_rfl) rfl ?_; intro K hK; go_simp; refine hK _ _ ?_; clear hK K)
  (refine tail_one (i := 19) (fuel := 2) (by kernel_rfl) rfl ?_; intro K hK; go_simp; refine hK _ _ ?_; clear hK K)
  (refine tail_one (i := 20) (fuel := 1) (by kernel_rfl) rfl ?_; intro K hK; go_simp; refine hK _ _ ?_; clear hK K)
  (refine tail_one (i := 21) (fuel := 0) (by kernel_rfl) rfl ?_; intro K hK; go_simp; refine hK _ _ ?_; clear hK K)
  (refine wpAny_done (by kernel_rfl) ?_ _)
  go_wp2
  refine ret_row4 41 rfl _ _ _ _ _ _ _ _ rfl rfl rfl rfl (keep_more _ (keep_setRow _ _ (keep_setRow _ _ (keep_setRow _ _ (keep_row _ (fr0)) (by omega)) (by omega)) (by omega))) (keep_more _ (keep_setRow _ _ (keep_setRow _ _ (keep_row _ (keep_setRow _ _ (fr1) (by omega))) (by omega)) (by omega))) (keep_more _ (keep_setRow _ _ (keep_row _ (keep_setRow _ _ (keep_setRow _ _ (fr2) (by omega)) (by omega))) (by omega))) (keep_more _ (keep_row _ (keep_setRow _ _ (keep_setRow _ _ (keep_setRow _ _ (fr3) (by omega)) (by omega)) (by omega)))) Try.underlying41 rfl (n := 16) (by kernel_rfl) (ints_size _ _ _) (ints_size _ _ _) (ints_size _ _ _) (ints_size _ _ _) rfl ⟨rfl, Grew.more (Grew.setRow (Grew.setRow (Grew.setRow (Grew.setRow hG _ _ (by omega)) _ _ (by omega)) _ _ (by omega)) _ _ (by omega)) _⟩
end Go.Proofs.Ytfapmpnkemogkaa
