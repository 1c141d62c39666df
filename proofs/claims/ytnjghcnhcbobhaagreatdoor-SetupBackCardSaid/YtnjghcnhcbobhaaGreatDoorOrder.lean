/- Order -/
import Derived.Test.YtnjghcnhcbobhaaGreatDoorTimes
import Derived.Test.YtnjghcnhcbobhaaGreatDoorMat
set_option linter.unusedVariables false
set_option linter.unusedSimpArgs false
set_option maxRecDepth 100000
set_option maxHeartbeats 4000000
namespace Go.Proofs.YtnjghcnhcbobhaaGreatDoor
open Go.RowKit
open Edw (red tv)
def rv (f : Nat -> Int) : Edw.Gp := red (nv f)
theorem zqni (a b : Nat -> Int) : rv (mulF a b) = rv a * rv b := by unfold rv; rw [zqmj, Edw.red_mod, Edw.red_mul]
theorem zqqt (a b : Nat -> Int) : rv (sumE a b) = rv a + rv b := by unfold rv sumE; rw [zra3, Edw.red_mod, Edw.red_add]
theorem zqvg (a b : Nat -> Int) : rv (difE a b) = rv a - rv b := by unfold rv difE; rw [zq4d, Edw.red_mod, Edw.red_sub]
theorem zq4i (a : Nat -> Int) (n : Int) : rv (zqfr a n) = rv a * red n := by unfold rv; rw [zq6m, Edw.red_mod, Edw.red_mul]
theorem zrg1 (a : Nat -> Int) : rv (invF a) = Edw.finv (rv a) := by unfold rv Edw.finv; rw [zq2t, Edw.red_mod, Edw.red_pow]
theorem zrfw : rv (upd zqe 0 1) = 1 := by unfold rv; rw [zq2m, Edw.red_one]
theorem zq0l : rv zqe = 0 := by unfold rv; rw [zqmb, Edw.red_zero]
theorem zrc2 : red 121665 = 121665 := Edw.gK_num
theorem zqza {F : Type} [Edw.CR F] (a b : F) : a * b = b * a := by grind
theorem zrfu (x z : Nat -> Int) : rv (twE x z) = Edw.dblE (rv x) (rv z) := by simp only [twE, Edw.dblE, zqni, zqqt, zqvg]
theorem zq7t (x z : Nat -> Int) : rv (twX x z) = Edw.dblX (rv x) (rv z) := by simp only [twX, Edw.dblX, zqni, zqqt, zqvg]
theorem zq8f (x z : Nat -> Int) : rv (twZ x z) = Edw.dblZ (rv x) (rv z) := by
 simp only [twZ, Edw.dblZ, zqni, zqqt, zq4i, zrfu, zrc2]
 rw [zqza (Edw.dblE (rv x) (rv z)) 121665]
theorem zq70 (x z x' z' : Nat -> Int) : rv (boX x z x' z') = Edw.difX (rv x) (rv z) (rv x') (rv z') := by simp only [boX, daE, cbE, Edw.difX, zqni, zqqt, zqvg]
theorem zq8o (u x z x' z' : Nat -> Int) : rv (boZ u x z x' z') = Edw.difZ (rv u) (rv x) (rv z) (rv x') (rv z') := by simp only [boZ, daE, cbE, Edw.difZ, zqni, zqqt, zqvg]
def stR (s : El) : Edw.St Edw.Gp := ⟨rv s.a, rv s.b, rv s.c, rv s.e⟩
theorem zq54 (x y : Nat -> Int) : oneOf 0 x y = x := rfl
theorem zq2h (x y : Nat -> Int) : oneOf 1 x y = y := rfl
theorem zq7m (u k : Nat -> Int) (hk : Bytes 32 k) : ∀ c, c <= 256 -> stR (ruE u k c) = Edw.runN (rv u) (knum k 32) c
 | 0, _ => by simp only [ruE, stR, Edw.runN, zrfw, zq0l]
 | c + 1, hc => by
  have ih := zq7m u k hk c (by omega);have hb := zquj k hk (255 - c) (by omega);have h01 := zqo0 k (255 - c)
  show stR (swE (bitN k (255 - c)) (stE u (swE (bitN k (255 - c)) (ruE u k c)))) = Edw.stp (rv u) (Edw.bitN (knum k 32) (255 - c)) (Edw.runN (rv u) (knum k 32) c)
  rw [<- ih];unfold Edw.bitN;rw [hb];generalize ruE u k c = s;generalize bitN k (255 - c) = B at *
  rcases h01 with rfl | rfl
  ·simp only [swE, stE, stR, zq54, zq7t, zq8f, zq70, zq8o]; rfl
  ·simp only [swE, stE, stR, zq2h, zq7t, zq8f, zq70, zq8o]; rfl
theorem zqrf (u k : Nat -> Int) (hk : Bytes 32 k) : nv (zqlb u k) = tv (knum k 32) (nv u) := by
 refine Edw.tv_of (zq2f _) ?_
 have h := zq7m u k hk 256 (Nat.le_refl _)
 show rv (mulF (ruE u k 256).a (invF (ruE u k 256).b)) = _
 rw [zqni, zrg1];unfold Edw.lad
 show (stR (ruE u k 256)).a * Edw.finv (stR (ruE u k 256)).b = _
 rw [h]
 rfl
theorem zqp8 (u k : Nat -> Int) (hu : zq7 18014398509481984 u) : zq7 4503599627370496 (zqlb u k) := zqew _ _ (zqix u k hu 256).a (zqgu _ (zqix u k hu 256).b)
theorem zqkn (u k : Nat -> Int) (hu : zq7 18014398509481984 u) : zq7 18014398509481984 (zqlb u k) := zqcd (zqp8 u k hu)
theorem zqyt (k : Nat -> Int) (hk : Bytes 32 k) : knum k 32 < 2 ^ 256 := zqlk k hk 32 (Nat.le_refl _)
end Go.Proofs.YtnjghcnhcbobhaaGreatDoor
namespace Go.Proofs.YtnjghcnhcbobhaaGreatDoor
open Go.RowKit
open Edw (red tv)
theorem zqwf (w : World) :
  Calls Tryz.prog 251 #[] w (Rt w (.bool true)) := by
 have hG := Grew.refl w
 go_enter Tryz.func251, Tryz.ntmps251
 go_wp2_with fail
 (refine (zqxn _).mono ?_; rintro e w1 ⟨rfl, hb⟩; replace hG : Below w.heap.size w w1 := Grew.trans (by exact zqf) hb; clear hb)
 go_wp2;go_ret;exact ⟨rfl, by exact zqf⟩
theorem zqld : Bytes 32 (upd zqe 0 1) := fun i _ => by unfold upd zqe; split <;> omega
theorem zqzu : Bytes 32 zqe := fun i _ => by unfold zqe; omega
theorem zqzl : knum (upd zqe 0 1) 32 = 1 := by kernel_rfl
theorem zra0 (x : Nat -> Int) : nv (zqlb x (upd zqe 0 1)) = nv x := by
 rw [zqrf _ _ zqld, zqzl, Edw.tv_one _ (zq2f x)]
theorem zqjm : zq7 18014398509481984 (upd zqe 0 9) := zqev 9 (by decide) (by decide)
set_option maxHeartbeats 1000000 in
theorem zqwm (w : World) :
  Calls Tryz.prog 250 #[] w (Rt w (.bool true)) := by
 have hG := Grew.refl w
 go_enter Tryz.func250, Tryz.ntmps250
 have l9 := zqkn (upd zqe 0 9) (upd zqe 0 1) zqjm;have q9 := zra0 (upd zqe 0 9);go_wp2_with fail
 (refine (zqwf _).mono ?_; rintro e w1 ⟨rfl, hb⟩; replace hG : Below w.heap.size w w1 := Grew.trans (by exact zqf) hb; clear hb)
 go_wp2_with fail
 (refine (zqcz 9 _ (by decide) (by decide)).mono ?_; rintro e w2 ⟨rfl, hb⟩; replace hG : Below w.heap.size w w2 := Grew.trans (by exact zqf) hb; clear hb)
 go_wp2_with fail
 (refine (zqml _ _ _ zqld zqjm).mono ?_; rintro e w3 ⟨rfl, hb⟩; replace hG : Below w.heap.size w w3 := Grew.trans (by exact zqf) hb; clear hb)
 go_wp2_with fail
 (refine (zqcz 9 _ (by decide) (by decide)).mono ?_; rintro e w4 ⟨rfl, hb⟩; replace hG : Below w.heap.size w w4 := Grew.trans (by exact zqf) hb; clear hb)
 go_wp2_with fail
 (refine (zqrg _ _ _ l9 zqjm q9).mono ?_; rintro e w5 ⟨rfl, hb⟩; replace hG : Below w.heap.size w w5 := Grew.trans (by exact zqf) hb; clear hb)
 go_wp2;go_ret;exact ⟨rfl, by exact zqf⟩
theorem zqy3 (w : World) :
  Calls Tryz.prog 249 #[] w (Rt w (.bool true)) := by
 have hG := Grew.refl w
 go_enter Tryz.func249, Tryz.ntmps249
 go_wp2_with fail
 (refine (zqwm _).mono ?_; rintro e w1 ⟨rfl, hb⟩; replace hG : Below w.heap.size w w1 := Grew.trans (by exact zqf) hb; clear hb)
 go_wp2;go_ret;exact ⟨rfl, by exact zqf⟩
end Go.Proofs.YtnjghcnhcbobhaaGreatDoor
