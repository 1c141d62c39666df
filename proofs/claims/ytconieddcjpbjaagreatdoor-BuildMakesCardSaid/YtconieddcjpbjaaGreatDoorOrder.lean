/- Order -/
import Derived.Test.YtconieddcjpbjaaGreatDoorTimes
import Derived.Test.YtconieddcjpbjaaGreatDoorMat
set_option maxRecDepth 100000
set_option maxHeartbeats 4000000
namespace Go.Proofs.YtconieddcjpbjaaGreatDoor
open Go.RowKit
set_option linter.unusedVariables false
set_option linter.unusedSimpArgs false
open Edw (red tv)
def rv (f : Nat → Int) : Edw.Gp := red (nv f)
theorem zqny (a b : Nat → Int) : rv (mulF a b) = rv a * rv b := by unfold rv; rw [zqmi, Edw.red_mod, Edw.red_mul]
theorem zqqp (a b : Nat → Int) : rv (sumE a b) = rv a + rv b := by unfold rv sumE; rw [nv_plus, Edw.red_mod, Edw.red_add]
theorem zqt2 (a b : Nat → Int) : rv (difE a b) = rv a - rv b := by unfold rv difE; rw [nv_minus, Edw.red_mod, Edw.red_sub]
theorem rv_times (a : Nat → Int) (n : Int) : rv (zqfa a n) = rv a * red n := by unfold rv; rw [nv_times, Edw.red_mod, Edw.red_mul]
theorem rv_inv (a : Nat → Int) : rv (invF a) = Edw.finv (rv a) := by unfold rv Edw.finv; rw [nv_inv, Edw.red_mod, Edw.red_pow]
theorem rv_one : rv (upd zqd 0 1) = 1 := by unfold rv; rw [nv_one, Edw.red_one]
theorem rv_nought : rv zqd = 0 := by unfold rv; rw [zqk6, Edw.red_zero]
theorem red_num : red 121665 = 121665 := Edw.gK_num
theorem ring_turn {F : Type} [Edw.CR F] (a b : F) : a * b = b * a := by grind
theorem rv_twE (x z : Nat → Int) : rv (twE x z) = Edw.dblE (rv x) (rv z) := by simp only [twE, Edw.dblE, zqny, zqqp, zqt2]
theorem rv_twX (x z : Nat → Int) : rv (twX x z) = Edw.dblX (rv x) (rv z) := by simp only [twX, Edw.dblX, zqny, zqqp, zqt2]
theorem rv_twZ (x z : Nat → Int) : rv (twZ x z) = Edw.dblZ (rv x) (rv z) := by
 simp only [twZ, Edw.dblZ, zqny, zqqp, rv_times, rv_twE, red_num]
 rw [ring_turn (Edw.dblE (rv x) (rv z)) 121665]
theorem rv_boX (x z x' z' : Nat → Int) : rv (boX x z x' z') = Edw.difX (rv x) (rv z) (rv x') (rv z') := by simp only [boX, daE, cbE, Edw.difX, zqny, zqqp, zqt2]
theorem rv_boZ (u x z x' z' : Nat → Int) : rv (boZ u x z x' z') = Edw.difZ (rv u) (rv x) (rv z) (rv x') (rv z') := by simp only [boZ, daE, cbE, Edw.difZ, zqny, zqqp, zqt2]
def stR (s : El) : Edw.St Edw.Gp := ⟨rv s.a, rv s.b, rv s.c, rv s.e⟩
theorem oneOf_no (x y : Nat → Int) : oneOf 0 x y = x := rfl
theorem oneOf_yes (x y : Nat → Int) : oneOf 1 x y = y := rfl
theorem run_is (u k : Nat → Int) (hk : Bytes 32 k) : ∀ c, c ≤ 256 → stR (ruE u k c) = Edw.runN (rv u) (knum k 32) c
 | 0, _ => by simp only [ruE, stR, Edw.runN, rv_one, rv_nought]
 | c + 1, hc => by
  have ih := run_is u k hk c (by omega)
  have hb := zqko k hk (255 - c) (by omega)
  have h01 := zqhr k (255 - c)
  show stR (swE (bitN k (255 - c)) (stE u (swE (bitN k (255 - c)) (ruE u k c)))) = Edw.stp (rv u) (Edw.bitN (knum k 32) (255 - c)) (Edw.runN (rv u) (knum k 32) c)
  rw [← ih]
  unfold Edw.bitN
  rw [hb]
  generalize ruE u k c = s
  generalize bitN k (255 - c) = B at *
  rcases h01 with rfl | rfl
  ·simp only [swE, stE, stR, oneOf_no, rv_twX, rv_twZ, rv_boX, rv_boZ]; rfl
  ·simp only [swE, stE, stR, oneOf_yes, rv_twX, rv_twZ, rv_boX, rv_boZ]; rfl
theorem zqp7 (u k : Nat → Int) (hk : Bytes 32 k) : nv (zqlp u k) = tv (knum k 32) (nv u) := by
 refine Edw.tv_of (nv_bd _) ?_
 have h := run_is u k hk 256 (Nat.le_refl _)
 show rv (mulF (ruE u k 256).a (invF (ruE u k 256).b)) = _
 rw [zqny, rv_inv]
 unfold Edw.lad
 show (stR (ruE u k 256)).a * Edw.finv (stR (ruE u k 256)).b = _
 rw [h]
 rfl
theorem zqrd (u k : Nat → Int) (hu : Under 18014398509481984 u) : Under 4503599627370496 (zqlp u k) := zqek _ _ (zqh6 u k hu 256).a (zqgl _ (zqh6 u k hu 256).b)
theorem zqkb (u k : Nat → Int) (hu : Under 18014398509481984 u) : Under 18014398509481984 (zqlp u k) := zqcf (zqrd u k hu)
theorem zqxl (k : Nat → Int) (hk : Bytes 32 k) : knum k 32 < 2 ^ 256 := zqjp k hk 32 (Nat.le_refl _)
end Go.Proofs.YtconieddcjpbjaaGreatDoor
namespace Go.Proofs.YtconieddcjpbjaaGreatDoor
open Go.RowKit
set_option linter.unusedVariables false
set_option linter.unusedSimpArgs false
open Edw (red tv)
theorem zqv4 (w : World) :
  Calls Tryz.prog 201 #[] w fun e w' => e = .returned (.bool true) ∧ Below w.heap.size w w' := by
 have hG := Grew.refl w
 go_enter Tryz.func201, Tryz.ntmps201
 go_wp2_with fail
 (refine (zqwj _).mono ?_; rintro e w1 ⟨rfl, hb⟩; replace hG : Below w.heap.size w w1 := Grew.trans (by exact zqe) hb; clear hb)
 go_wp2
 go_ret
 exact ⟨rfl, by exact zqe⟩
theorem zqle : Bytes 32 (upd zqd 0 1) := fun i _ => by unfold upd zqd; split <;> omega
theorem zk5_bytes : Bytes 32 zqd := fun i _ => by unfold zqd; omega
theorem ok5_num : knum (upd zqd 0 1) 32 = 1 := by kernel_rfl
theorem once_nv (x : Nat → Int) : nv (zqlp x (upd zqd 0 1)) = nv x := by
 rw [zqp7 _ _ zqle, ok5_num, Edw.tv_one _ (nv_bd x)]
theorem zqj5 : Under 18014398509481984 (upd zqd 0 9) := zqeo 9 (by decide) (by decide)
set_option maxHeartbeats 1000000 in
theorem zqxc (w : World) :
  Calls Tryz.prog 200 #[] w fun e w' => e = .returned (.bool true) ∧ Below w.heap.size w w' := by
 have hG := Grew.refl w
 go_enter Tryz.func200, Tryz.ntmps200
 have l9 := zqkb (upd zqd 0 9) (upd zqd 0 1) zqj5
 have q9 := once_nv (upd zqd 0 9)
 go_wp2_with fail
 (refine (zqv4 _).mono ?_; rintro e w1 ⟨rfl, hb⟩; replace hG : Below w.heap.size w w1 := Grew.trans (by exact zqe) hb; clear hb)
 go_wp2_with fail
 (refine (zqcz 9 _ (by decide) (by decide)).mono ?_; rintro e w2 ⟨rfl, hb⟩; replace hG : Below w.heap.size w w2 := Grew.trans (by exact zqe) hb; clear hb)
 go_wp2_with fail
 (refine (zqmf _ _ _ zqle zqj5).mono ?_; rintro e w3 ⟨rfl, hb⟩; replace hG : Below w.heap.size w w3 := Grew.trans (by exact zqe) hb; clear hb)
 go_wp2_with fail
 (refine (zqcz 9 _ (by decide) (by decide)).mono ?_; rintro e w4 ⟨rfl, hb⟩; replace hG : Below w.heap.size w w4 := Grew.trans (by exact zqe) hb; clear hb)
 go_wp2_with fail
 (refine (zqqf _ _ _ l9 zqj5 q9).mono ?_; rintro e w5 ⟨rfl, hb⟩; replace hG : Below w.heap.size w w5 := Grew.trans (by exact zqe) hb; clear hb)
 go_wp2
 go_ret
 exact ⟨rfl, by exact zqe⟩
theorem zqxx (w : World) :
  Calls Tryz.prog 199 #[] w fun e w' => e = .returned (.bool true) ∧ Below w.heap.size w w' := by
 have hG := Grew.refl w
 go_enter Tryz.func199, Tryz.ntmps199
 go_wp2_with fail
 (refine (zqxc _).mono ?_; rintro e w1 ⟨rfl, hb⟩; replace hG : Below w.heap.size w w1 := Grew.trans (by exact zqe) hb; clear hb)
 go_wp2
 go_ret
 exact ⟨rfl, by exact zqe⟩
end Go.Proofs.YtconieddcjpbjaaGreatDoor
