/- Order -/
import Derived.Test.YtfglcifnjaknnaaGreatDoorTimes
import Derived.Test.YtfglcifnjaknnaaGreatDoorMat
set_option linter.unusedVariables false
set_option linter.unusedSimpArgs false
set_option maxRecDepth 100000
set_option maxHeartbeats 4000000
namespace Go.Proofs.YtfglcifnjaknnaaGreatDoor
open Go.RowKit
open Edw (red tv)
def rv (f : Nat -> Int) : Edw.Gp := red (nv f)
theorem zqn2 (a b : Nat -> Int) : rv (mulF a b) = rv a * rv b := by unfold rv; rw [zql1, Edw.red_mod, Edw.red_mul]
theorem zqpa (a b : Nat -> Int) : rv (sumE a b) = rv a + rv b := by unfold rv sumE; rw [zrai, Edw.red_mod, Edw.red_add]
theorem zqva (a b : Nat -> Int) : rv (difE a b) = rv a - rv b := by unfold rv difE; rw [zq4d, Edw.red_mod, Edw.red_sub]
theorem zq6t (a : Nat -> Int) (n : Int) : rv (zqfh a n) = rv a * red n := by unfold rv; rw [zq56, Edw.red_mod, Edw.red_mul]
theorem zrfl (a : Nat -> Int) : rv (invF a) = Edw.finv (rv a) := by unfold rv Edw.finv; rw [zqzk, Edw.red_mod, Edw.red_pow]
theorem zreh : rv (upd zqd 0 1) = 1 := by unfold rv; rw [zq1b, Edw.red_one]
theorem zqzp : rv zqd = 0 := by unfold rv; rw [zqml, Edw.red_zero]
theorem zq8p : red 121665 = 121665 := Edw.gK_num
theorem zq01 {F : Type} [Edw.CR F] (a b : F) : a * b = b * a := by grind
theorem zre5 (x z : Nat -> Int) : rv (twE x z) = Edw.dblE (rv x) (rv z) := by simp only [twE, Edw.dblE, zqn2, zqpa, zqva]
theorem zq7q (x z : Nat -> Int) : rv (twX x z) = Edw.dblX (rv x) (rv z) := by simp only [twX, Edw.dblX, zqn2, zqpa, zqva]
theorem zq7g (x z : Nat -> Int) : rv (twZ x z) = Edw.dblZ (rv x) (rv z) := by
 simp only [twZ, Edw.dblZ, zqn2, zqpa, zq6t, zre5, zq8p]
 rw [zq01 (Edw.dblE (rv x) (rv z)) 121665]
theorem zq8e (x z x' z' : Nat -> Int) : rv (boX x z x' z') = Edw.difX (rv x) (rv z) (rv x') (rv z') := by simp only [boX, daE, cbE, Edw.difX, zqn2, zqpa, zqva]
theorem zq8i (u x z x' z' : Nat -> Int) : rv (boZ u x z x' z') = Edw.difZ (rv u) (rv x) (rv z) (rv x') (rv z') := by simp only [boZ, daE, cbE, Edw.difZ, zqn2, zqpa, zqva]
def stR (s : El) : Edw.St Edw.Gp := ⟨rv s.a, rv s.b, rv s.c, rv s.e⟩
theorem zq3n (x y : Nat -> Int) : oneOf 0 x y = x := rfl
theorem zq0a (x y : Nat -> Int) : oneOf 1 x y = y := rfl
theorem zq79 (u k : Nat -> Int) (hk : Bytes 32 k) : ∀ c, c <= 256 -> stR (ruE u k c) = Edw.runN (rv u) (knum k 32) c
 | 0, _ => by simp only [ruE, stR, Edw.runN, zreh, zqzp]
 | c + 1, hc => by
  have ih := zq79 u k hk c (by omega);have hb := zqua k hk (255 - c) (by omega);have h01 := zqov k (255 - c)
  show stR (swE (bitN k (255 - c)) (stE u (swE (bitN k (255 - c)) (ruE u k c)))) = Edw.stp (rv u) (Edw.bitN (knum k 32) (255 - c)) (Edw.runN (rv u) (knum k 32) c)
  rw [<- ih];unfold Edw.bitN;rw [hb];generalize ruE u k c = s;generalize bitN k (255 - c) = B at *
  rcases h01 with rfl | rfl
  ·simp only [swE, stE, stR, zq3n, zq7q, zq7g, zq8e, zq8i]; rfl
  ·simp only [swE, stE, stR, zq0a, zq7q, zq7g, zq8e, zq8i]; rfl
theorem zqp0 (u k : Nat -> Int) (hk : Bytes 32 k) : nv (zqlo u k) = tv (knum k 32) (nv u) := by
 refine Edw.tv_of (zq0u _) ?_
 have h := zq79 u k hk 256 (Nat.le_refl _)
 show rv (mulF (ruE u k 256).a (invF (ruE u k 256).b)) = _
 rw [zqn2, zrfl];unfold Edw.lad
 show (stR (ruE u k 256)).a * Edw.finv (stR (ruE u k 256)).b = _
 rw [h]
 rfl
theorem zqpy (u k : Nat -> Int) (hu : zq8 18014398509481984 u) : zq8 4503599627370496 (zqlo u k) := zqez _ _ (zqii u k hu 256).a (zqgo _ (zqii u k hu 256).b)
theorem zqke (u k : Nat -> Int) (hu : zq8 18014398509481984 u) : zq8 18014398509481984 (zqlo u k) := zqb5 (zqpy u k hu)
theorem zqxg (k : Nat -> Int) (hk : Bytes 32 k) : knum k 32 < 2 ^ 256 := zqme k hk 32 (Nat.le_refl _)
theorem zqv3 (w : World) :
  Calls Tryz.prog 257 #[] w (Rt w (.bool true)) := by
 have hG := Grew.refl w
 go_enter Tryz.func257, Tryz.ntmps257
 go_wp2_with fail
 (refine (zqxu _).mono ?_; rintro e w1 ⟨rfl, hb⟩; replace hG : Below w.heap.size w w1 := Grew.trans (by exact zqf) hb; clear hb)
 go_wp2;go_ret;exact ⟨rfl, by exact zqf⟩
theorem zqkz : Bytes 32 (upd zqd 0 1) := fun i _ => by unfold upd zqd; split <;> omega
theorem zq1w : Bytes 32 zqd := fun i _ => by unfold zqd; omega
theorem zqz0 : knum (upd zqd 0 1) 32 = 1 := by kernel_rfl
theorem zrbx (x : Nat -> Int) : nv (zqlo x (upd zqd 0 1)) = nv x := by
 rw [zqp0 _ _ zqkz, zqz0, Edw.tv_one _ (zq0u x)]
theorem zqjy : zq8 18014398509481984 (upd zqd 0 9) := zqew 9 (by decide) (by decide)
set_option maxHeartbeats 1000000 in
theorem zqwf (w : World) :
  Calls Tryz.prog 256 #[] w (Rt w (.bool true)) := by
 have hG := Grew.refl w
 go_enter Tryz.func256, Tryz.ntmps256
 have l9 := zqke (upd zqd 0 9) (upd zqd 0 1) zqjy;have q9 := zrbx (upd zqd 0 9);go_wp2_with fail
 (refine (zqv3 _).mono ?_; rintro e w1 ⟨rfl, hb⟩; replace hG : Below w.heap.size w w1 := Grew.trans (by exact zqf) hb; clear hb)
 go_wp2_with fail
 (refine (zqcq 9 _ (by decide) (by decide)).mono ?_; rintro e w2 ⟨rfl, hb⟩; replace hG : Below w.heap.size w w2 := Grew.trans (by exact zqf) hb; clear hb)
 go_wp2_with fail
 (refine (zqmf _ _ _ zqkz zqjy).mono ?_; rintro e w3 ⟨rfl, hb⟩; replace hG : Below w.heap.size w w3 := Grew.trans (by exact zqf) hb; clear hb)
 go_wp2_with fail
 (refine (zqcq 9 _ (by decide) (by decide)).mono ?_; rintro e w4 ⟨rfl, hb⟩; replace hG : Below w.heap.size w w4 := Grew.trans (by exact zqf) hb; clear hb)
 go_wp2_with fail
 (refine (zqpo _ _ _ l9 zqjy q9).mono ?_; rintro e w5 ⟨rfl, hb⟩; replace hG : Below w.heap.size w w5 := Grew.trans (by exact zqf) hb; clear hb)
 go_wp2;go_ret;exact ⟨rfl, by exact zqf⟩
theorem zqyf (w : World) :
  Calls Tryz.prog 255 #[] w (Rt w (.bool true)) := by
 have hG := Grew.refl w
 go_enter Tryz.func255, Tryz.ntmps255
 go_wp2_with fail
 (refine (zqwf _).mono ?_; rintro e w1 ⟨rfl, hb⟩; replace hG : Below w.heap.size w w1 := Grew.trans (by exact zqf) hb; clear hb)
 go_wp2;go_ret;exact ⟨rfl, by exact zqf⟩
end Go.Proofs.YtfglcifnjaknnaaGreatDoor
