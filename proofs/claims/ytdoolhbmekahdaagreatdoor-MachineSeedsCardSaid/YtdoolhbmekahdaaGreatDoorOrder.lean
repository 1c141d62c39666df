/- Order -/
import Derived.Test.YtdoolhbmekahdaaGreatDoorTimes
import Derived.Test.YtdoolhbmekahdaaGreatDoorMat
set_option maxRecDepth 100000
set_option maxHeartbeats 4000000
namespace Go.Proofs.YtdoolhbmekahdaaGreatDoor
open Go.RowKit
set_option linter.unusedVariables false
set_option linter.unusedSimpArgs false
open Edw (red tv)
def rv (f : Nat → Int) : Edw.Gp := red (nv f)
theorem rv_mul (a b : Nat → Int) : rv (mulF a b) = rv a * rv b := by unfold rv; rw [nv_mul, Edw.red_mod, Edw.red_mul]
theorem rv_sum (a b : Nat → Int) : rv (sumE a b) = rv a + rv b := by unfold rv sumE; rw [nv_plus, Edw.red_mod, Edw.red_add]
theorem rv_dif (a b : Nat → Int) : rv (difE a b) = rv a - rv b := by unfold rv difE; rw [nv_minus, Edw.red_mod, Edw.red_sub]
theorem rv_times (a : Nat → Int) (n : Int) : rv (timesF a n) = rv a * red n := by unfold rv; rw [nv_times, Edw.red_mod, Edw.red_mul]
theorem rv_inv (a : Nat → Int) : rv (invF a) = Edw.finv (rv a) := by unfold rv Edw.finv; rw [nv_inv, Edw.red_mod, Edw.red_pow]
theorem rv_one : rv (upd nought 0 1) = 1 := by unfold rv; rw [nv_one, Edw.red_one]
theorem rv_nought : rv nought = 0 := by unfold rv; rw [nv_nought, Edw.red_zero]
theorem red_num : red 121665 = 121665 := Edw.gK_num
theorem ring_turn {F : Type} [Edw.CR F] (a b : F) : a * b = b * a := by grind
theorem rv_twE (x z : Nat → Int) : rv (twE x z) = Edw.dblE (rv x) (rv z) := by simp only [twE, Edw.dblE, rv_mul, rv_sum, rv_dif]
theorem rv_twX (x z : Nat → Int) : rv (twX x z) = Edw.dblX (rv x) (rv z) := by simp only [twX, Edw.dblX, rv_mul, rv_sum, rv_dif]
theorem rv_twZ (x z : Nat → Int) : rv (twZ x z) = Edw.dblZ (rv x) (rv z) := by
 simp only [twZ, Edw.dblZ, rv_mul, rv_sum, rv_times, rv_twE, red_num]
 rw [ring_turn (Edw.dblE (rv x) (rv z)) 121665]
theorem rv_boX (x z x' z' : Nat → Int) : rv (boX x z x' z') = Edw.difX (rv x) (rv z) (rv x') (rv z') := by simp only [boX, daE, cbE, Edw.difX, rv_mul, rv_sum, rv_dif]
theorem rv_boZ (u x z x' z' : Nat → Int) : rv (boZ u x z x' z') = Edw.difZ (rv u) (rv x) (rv z) (rv x') (rv z') := by simp only [boZ, daE, cbE, Edw.difZ, rv_mul, rv_sum, rv_dif]
def stR (s : El) : Edw.St Edw.Gp := ⟨rv s.a, rv s.b, rv s.c, rv s.e⟩
theorem oneOf_no (x y : Nat → Int) : oneOf 0 x y = x := rfl
theorem oneOf_yes (x y : Nat → Int) : oneOf 1 x y = y := rfl
theorem run_is (u k : Nat → Int) (hk : Bytes 32 k) : ∀ c, c ≤ 256 → stR (ruE u k c) = Edw.runN (rv u) (knum k 32) c
 | 0, _ => by simp only [ruE, stR, Edw.runN, rv_one, rv_nought]
 | c + 1, hc => by
  have ih := run_is u k hk c (by omega)
  have hb := knum_bit k hk (255 - c) (by omega)
  have h01 := bitN_01 k (255 - c)
  show stR (swE (bitN k (255 - c)) (stE u (swE (bitN k (255 - c)) (ruE u k c)))) = Edw.stp (rv u) (Edw.bitN (knum k 32) (255 - c)) (Edw.runN (rv u) (knum k 32) c)
  rw [← ih]
  unfold Edw.bitN
  rw [hb]
  generalize ruE u k c = s
  generalize bitN k (255 - c) = B at *
  rcases h01 with rfl | rfl
  ·simp only [swE, stE, stR, oneOf_no, rv_twX, rv_twZ, rv_boX, rv_boZ]; rfl
  ·simp only [swE, stE, stR, oneOf_yes, rv_twX, rv_twZ, rv_boX, rv_boZ]; rfl
theorem nv_timesL (u k : Nat → Int) (hk : Bytes 32 k) : nv (timesL u k) = tv (knum k 32) (nv u) := by
 refine Edw.tv_of (nv_bd _) ?_
 have h := run_is u k hk 256 (Nat.le_refl _)
 show rv (mulF (ruE u k 256).a (invF (ruE u k 256).b)) = _
 rw [rv_mul, rv_inv]
 unfold Edw.lad
 show (stR (ruE u k 256)).a * Edw.finv (stR (ruE u k 256)).b = _
 rw [h]
 rfl
theorem tight_timesL (u k : Nat → Int) (hu : Under 18014398509481984 u) : Under 4503599627370496 (timesL u k) := tight_mul _ _ (loose_ru u k hu 256).a (loose_inv _ (loose_ru u k hu 256).b)
theorem loose_timesL (u k : Nat → Int) (hu : Under 18014398509481984 u) : Under 18014398509481984 (timesL u k) := loose_tight (tight_timesL u k hu)
end Go.Proofs.YtdoolhbmekahdaaGreatDoor
namespace Go.Proofs.YtdoolhbmekahdaaGreatDoor
open Go.RowKit
set_option linter.unusedVariables false
set_option linter.unusedSimpArgs false
open Edw (red tv)
theorem Awake4_any (w : World) :
  Calls Tryz.prog 429 #[] w fun e w' => e = .returned (.bool true) ∧ Below w.heap.size w w' := by
 have hG := Grew.refl w
 go_enter Tryz.func429, Tryz.ntmps429
 go_wp2_with fail
 (refine (awake4_any _).mono ?_; rintro e w1 ⟨rfl, hb⟩; replace hG : Below w.heap.size w w1 := Grew.trans (by exact grew_auto) hb; clear hb)
 go_wp2
 go_ret
 exact ⟨rfl, by exact grew_auto⟩
theorem ok5_bytes : Bytes 32 (upd nought 0 1) := fun i _ => by unfold upd nought; split <;> omega
theorem zk5_bytes : Bytes 32 nought := fun i _ => by unfold nought; omega
theorem ok5_num : knum (upd nought 0 1) 32 = 1 := by kernel_rfl
theorem once_nv (x : Nat → Int) : nv (timesL x (upd nought 0 1)) = nv x := by
 rw [nv_timesL _ _ ok5_bytes, ok5_num, Edw.tv_one _ (nv_bd x)]
theorem loose_nine : Under 18014398509481984 (upd nought 0 9) := loose_small 9 (by decide) (by decide)
set_option maxHeartbeats 1000000 in
theorem awake5_any (w : World) :
  Calls Tryz.prog 428 #[] w fun e w' => e = .returned (.bool true) ∧ Below w.heap.size w w' := by
 have hG := Grew.refl w
 go_enter Tryz.func428, Tryz.ntmps428
 have l9 := loose_timesL (upd nought 0 9) (upd nought 0 1) loose_nine
 have q9 := once_nv (upd nought 0 9)
 go_wp2_with fail
 (refine (Awake4_any _).mono ?_; rintro e w1 ⟨rfl, hb⟩; replace hG : Below w.heap.size w w1 := Grew.trans (by exact grew_auto) hb; clear hb)
 go_wp2_with fail
 (refine (small_any 9 _ (by decide) (by decide)).mono ?_; rintro e w2 ⟨rfl, hb⟩; replace hG : Below w.heap.size w w2 := Grew.trans (by exact grew_auto) hb; clear hb)
 go_wp2_with fail
 (refine (times_calls _ _ _ ok5_bytes loose_nine).mono ?_; rintro e w3 ⟨rfl, hb⟩; replace hG : Below w.heap.size w w3 := Grew.trans (by exact grew_auto) hb; clear hb)
 go_wp2_with fail
 (refine (small_any 9 _ (by decide) (by decide)).mono ?_; rintro e w4 ⟨rfl, hb⟩; replace hG : Below w.heap.size w w4 := Grew.trans (by exact grew_auto) hb; clear hb)
 go_wp2_with fail
 (refine (equal_yes _ _ _ l9 loose_nine q9).mono ?_; rintro e w5 ⟨rfl, hb⟩; replace hG : Below w.heap.size w w5 := Grew.trans (by exact grew_auto) hb; clear hb)
 go_wp2
 go_ret
 exact ⟨rfl, by exact grew_auto⟩
theorem Awake5_any (w : World) :
  Calls Tryz.prog 427 #[] w fun e w' => e = .returned (.bool true) ∧ Below w.heap.size w w' := by
 have hG := Grew.refl w
 go_enter Tryz.func427, Tryz.ntmps427
 go_wp2_with fail
 (refine (awake5_any _).mono ?_; rintro e w1 ⟨rfl, hb⟩; replace hG : Below w.heap.size w w1 := Grew.trans (by exact grew_auto) hb; clear hb)
 go_wp2
 go_ret
 exact ⟨rfl, by exact grew_auto⟩
end Go.Proofs.YtdoolhbmekahdaaGreatDoor
