/- Order -/
import Derived.Test.YtconieddcjpbjaaGreatDoorTimes
import Derived.Test.YtconieddcjpbjaaGreatDoorMat
set_option linter.unusedVariables false
set_option linter.unusedSimpArgs false
set_option maxRecDepth 100000
set_option maxHeartbeats 4000000
namespace Go.Proofs.YtconieddcjpbjaaGreatDoor
open Go.RowKit
open Edw (red tv)
def rv (f : Nat -> Int) : Edw.Gp := red (nv f)
theorem zqo3 (a b : Nat -> Int) : rv (mulF a b) = rv a * rv b := by unfold rv; rw [zqnz, Edw.red_mod, Edw.red_mul]
theorem zqr6 (a b : Nat -> Int) : rv (sumE a b) = rv a + rv b := by unfold rv sumE; rw [zrea, Edw.red_mod, Edw.red_add]
theorem zqw9 (a b : Nat -> Int) : rv (difE a b) = rv a - rv b := by unfold rv difE; rw [zq8p, Edw.red_mod, Edw.red_sub]
theorem zq6w (a : Nat -> Int) (n : Int) : rv (zqgh a n) = rv a * red n := by unfold rv; rw [zq8b, Edw.red_mod, Edw.red_mul]
theorem zrhi (a : Nat -> Int) : rv (invF a) = Edw.finv (rv a) := by unfold rv Edw.finv; rw [zq42, Edw.red_mod, Edw.red_pow]
theorem zrg1 : rv (upd zqg 0 1) = 1 := by unfold rv; rw [zq36, Edw.red_one]
theorem zq4g : rv zqg = 0 := by unfold rv; rw [zqmy, Edw.red_zero]
theorem zq2o : red 121665 = 121665 := Edw.gK_num
theorem zq4l {F : Type} [Edw.CR F] (a b : F) : a * b = b * a := by grind
theorem zrhu (x z : Nat -> Int) : rv (twE x z) = Edw.dblE (rv x) (rv z) := by simp only [twE, Edw.dblE, zqo3, zqr6, zqw9]
theorem zq9t (x z : Nat -> Int) : rv (twX x z) = Edw.dblX (rv x) (rv z) := by simp only [twX, Edw.dblX, zqo3, zqr6, zqw9]
theorem zq9j (x z : Nat -> Int) : rv (twZ x z) = Edw.dblZ (rv x) (rv z) := by
 simp only [twZ, Edw.dblZ, zqo3, zqr6, zq6w, zrhu, zq2o]
 rw [zq4l (Edw.dblE (rv x) (rv z)) 121665]
theorem zq90 (x z x' z' : Nat -> Int) : rv (boX x z x' z') = Edw.difX (rv x) (rv z) (rv x') (rv z') := by simp only [boX, daE, cbE, Edw.difX, zqo3, zqr6, zqw9]
theorem zrag (u x z x' z' : Nat -> Int) : rv (boZ u x z x' z') = Edw.difZ (rv u) (rv x) (rv z) (rv x') (rv z') := by simp only [boZ, daE, cbE, Edw.difZ, zqo3, zqr6, zqw9]
def stR (s : El) : Edw.St Edw.Gp := ⟨rv s.a, rv s.b, rv s.c, rv s.e⟩
theorem zq89 (x y : Nat -> Int) : oneOf 0 x y = x := rfl
theorem zq2p (x y : Nat -> Int) : oneOf 1 x y = y := rfl
theorem zq92 (u k : Nat -> Int) (hk : Bytes 32 k) : ∀ c, c <= 256 -> stR (ruE u k c) = Edw.runN (rv u) (knum k 32) c
 | 0, _ => by simp only [ruE, stR, Edw.runN, zrg1, zq4g]
 | c + 1, hc => by
  have ih := zq92 u k hk c (by omega);have hb := zqme k hk (255 - c) (by omega);have h01 := zqi6 k (255 - c)
  show stR (swE (bitN k (255 - c)) (stE u (swE (bitN k (255 - c)) (ruE u k c)))) = Edw.stp (rv u) (Edw.bitN (knum k 32) (255 - c)) (Edw.runN (rv u) (knum k 32) c)
  rw [<- ih];unfold Edw.bitN;rw [hb];generalize ruE u k c = s;generalize bitN k (255 - c) = B at *
  rcases h01 with rfl | rfl
  ·simp only [swE, stE, stR, zq89, zq9t, zq9j, zq90, zrag]; rfl
  ·simp only [swE, stE, stR, zq2p, zq9t, zq9j, zq90, zrag]; rfl
theorem zqsv (u k : Nat -> Int) (hk : Bytes 32 k) : nv (zqn0 u k) = tv (knum k 32) (nv u) := by
 refine Edw.tv_of (zq04 _) ?_
 have h := zq92 u k hk 256 (Nat.le_refl _)
 show rv (mulF (ruE u k 256).a (invF (ruE u k 256).b)) = _
 rw [zqo3, zrhi];unfold Edw.lad
 show (stR (ruE u k 256)).a * Edw.finv (stR (ruE u k 256)).b = _
 rw [h]
 rfl
theorem zqs3 (u k : Nat -> Int) (hu : zqae 18014398509481984 u) : zqae 4503599627370496 (zqn0 u k) := zqfo _ _ (zqj5 u k hu 256).a (zqhy _ (zqj5 u k hu 256).b)
theorem zqly (u k : Nat -> Int) (hu : zqae 18014398509481984 u) : zqae 18014398509481984 (zqn0 u k) := zqcx (zqs3 u k hu)
theorem zqz4 (k : Nat -> Int) (hk : Bytes 32 k) : knum k 32 < 2 ^ 256 := zqkw k hk 32 (Nat.le_refl _)
end Go.Proofs.YtconieddcjpbjaaGreatDoor
namespace Go.Proofs.YtconieddcjpbjaaGreatDoor
open Go.RowKit
open Edw (red tv)
theorem zqze (w : World) :
  Calls Tryz.prog 201 #[] w (Rt w (.bool true)) := by
 have hG := Grew.refl w
 go_enter Tryz.func201, Tryz.ntmps201
 go_wp2_with fail
 (refine (zq09 _).mono ?_; rintro e w1 ⟨rfl, hb⟩; replace hG : Below w.heap.size w w1 := Grew.trans (by exact zqf) hb; clear hb)
 go_wp2;go_ret;exact ⟨rfl, by exact zqf⟩
theorem zqnj : Bytes 32 (upd zqg 0 1) := fun i _ => by unfold upd zqg; split <;> omega
theorem zq5k : Bytes 32 zqg := fun i _ => by unfold zqg; omega
theorem zq2e : knum (upd zqg 0 1) 32 = 1 := by kernel_rfl
theorem zrbj (x : Nat -> Int) : nv (zqn0 x (upd zqg 0 1)) = nv x := by
 rw [zqsv _ _ zqnj, zq2e, Edw.tv_one _ (zq04 x)]
theorem zqkt : zqae 18014398509481984 (upd zqg 0 9) := zqfm 9 (by decide) (by decide)
set_option maxHeartbeats 1000000 in
theorem zqyr (w : World) :
  Calls Tryz.prog 200 #[] w (Rt w (.bool true)) := by
 have hG := Grew.refl w
 go_enter Tryz.func200, Tryz.ntmps200
 have l9 := zqly (upd zqg 0 9) (upd zqg 0 1) zqkt;have q9 := zrbj (upd zqg 0 9);go_wp2_with fail
 (refine (zqze _).mono ?_; rintro e w1 ⟨rfl, hb⟩; replace hG : Below w.heap.size w w1 := Grew.trans (by exact zqf) hb; clear hb)
 go_wp2_with fail
 (refine (zqdj 9 _ (by decide) (by decide)).mono ?_; rintro e w2 ⟨rfl, hb⟩; replace hG : Below w.heap.size w w2 := Grew.trans (by exact zqf) hb; clear hb)
 go_wp2_with fail
 (refine (zqoa _ _ _ zqnj zqkt).mono ?_; rintro e w3 ⟨rfl, hb⟩; replace hG : Below w.heap.size w w3 := Grew.trans (by exact zqf) hb; clear hb)
 go_wp2_with fail
 (refine (zqdj 9 _ (by decide) (by decide)).mono ?_; rintro e w4 ⟨rfl, hb⟩; replace hG : Below w.heap.size w w4 := Grew.trans (by exact zqf) hb; clear hb)
 go_wp2_with fail
 (refine (zqr9 _ _ _ l9 zqkt q9).mono ?_; rintro e w5 ⟨rfl, hb⟩; replace hG : Below w.heap.size w w5 := Grew.trans (by exact zqf) hb; clear hb)
 go_wp2;go_ret;exact ⟨rfl, by exact zqf⟩
theorem zqy2 (w : World) :
  Calls Tryz.prog 199 #[] w (Rt w (.bool true)) := by
 have hG := Grew.refl w
 go_enter Tryz.func199, Tryz.ntmps199
 go_wp2_with fail
 (refine (zqyr _).mono ?_; rintro e w1 ⟨rfl, hb⟩; replace hG : Below w.heap.size w w1 := Grew.trans (by exact zqf) hb; clear hb)
 go_wp2;go_ret;exact ⟨rfl, by exact zqf⟩
end Go.Proofs.YtconieddcjpbjaaGreatDoor
