/- Order -/
import Derived.Test.YtnjghcnhcbobhaaGreatDoorTimes
import Derived.Test.YtnjghcnhcbobhaaGreatDoorMat
set_option linter.unusedVariables false
set_option linter.unusedSimpArgs false
set_option maxRecDepth 100000
set_option maxHeartbeats 4000000
namespace Go.Proofs.YtnjghcnhcbobhaaGreatDoor
open Go.RowKit
open Edw (red tv)
def rv (f : Nat -> Int) : Edw.Gp := red (nv f)
theorem zqok (a b : Nat -> Int) : rv (mulF a b) = rv a * rv b := by unfold rv; rw [zqly, Edw.red_mod, Edw.red_mul]
theorem zqs7 (a b : Nat -> Int) : rv (sumE a b) = rv a + rv b := by unfold rv sumE; rw [zrfx, Edw.red_mod, Edw.red_add]
theorem zqv6 (a b : Nat -> Int) : rv (difE a b) = rv a - rv b := by unfold rv difE; rw [zq56, Edw.red_mod, Edw.red_sub]
theorem zq6j (a : Nat -> Int) (n : Int) : rv (zqfy a n) = rv a * red n := by unfold rv; rw [zq9d, Edw.red_mod, Edw.red_mul]
theorem zrjy (a : Nat -> Int) : rv (invF a) = Edw.finv (rv a) := by unfold rv Edw.finv; rw [zq4n, Edw.red_mod, Edw.red_pow]
theorem zrkd : rv (upd zqe 0 1) = 1 := by unfold rv; rw [zq2h, Edw.red_one]
theorem zq4a : rv zqe = 0 := by unfold rv; rw [zqm4, Edw.red_zero]
theorem zrd1 : red 121665 = 121665 := Edw.gK_num
theorem zq19 {F : Type} [Edw.CR F] (a b : F) : a * b = b * a := by grind
theorem zrka (x z : Nat -> Int) : rv (twE x z) = Edw.dblE (rv x) (rv z) := by simp only [twE, Edw.dblE, zqok, zqs7, zqv6]
theorem zrau (x z : Nat -> Int) : rv (twX x z) = Edw.dblX (rv x) (rv z) := by simp only [twX, Edw.dblX, zqok, zqs7, zqv6]
theorem zrab (x z : Nat -> Int) : rv (twZ x z) = Edw.dblZ (rv x) (rv z) := by
 simp only [twZ, Edw.dblZ, zqok, zqs7, zq6j, zrka, zrd1]
 rw [zq19 (Edw.dblE (rv x) (rv z)) 121665]
theorem zrbx (x z x' z' : Nat -> Int) : rv (boX x z x' z') = Edw.difX (rv x) (rv z) (rv x') (rv z') := by simp only [boX, daE, cbE, Edw.difX, zqok, zqs7, zqv6]
theorem zrbc (u x z x' z' : Nat -> Int) : rv (boZ u x z x' z') = Edw.difZ (rv u) (rv x) (rv z) (rv x') (rv z') := by simp only [boZ, daE, cbE, Edw.difZ, zqok, zqs7, zqv6]
def stR (s : El) : Edw.St Edw.Gp := ⟨rv s.a, rv s.b, rv s.c, rv s.e⟩
theorem zq6w (x y : Nat -> Int) : oneOf 0 x y = x := rfl
theorem zq0n (x y : Nat -> Int) : oneOf 1 x y = y := rfl
theorem zq99 (u k : Nat -> Int) (hk : Bytes 32 k) : ∀ c, c <= 256 -> stR (ruE u k c) = Edw.runN (rv u) (knum k 32) c
 | 0, _ => by simp only [ruE, stR, Edw.runN, zrkd, zq4a]
 | c + 1, hc => by
  have ih := zq99 u k hk c (by omega);have hb := zqw7 k hk (255 - c) (by omega);have h01 := zqpn k (255 - c)
  show stR (swE (bitN k (255 - c)) (stE u (swE (bitN k (255 - c)) (ruE u k c)))) = Edw.stp (rv u) (Edw.bitN (knum k 32) (255 - c)) (Edw.runN (rv u) (knum k 32) c)
  rw [<- ih];unfold Edw.bitN;rw [hb];generalize ruE u k c = s;generalize bitN k (255 - c) = B at *
  rcases h01 with rfl | rfl
  ·simp only [swE, stE, stR, zq6w, zrau, zrab, zrbx, zrbc]; rfl
  ·simp only [swE, stE, stR, zq0n, zrau, zrab, zrbx, zrbc]; rfl
theorem zqro (u k : Nat -> Int) (hk : Bytes 32 k) : nv (zqmw u k) = tv (knum k 32) (nv u) := by
 refine Edw.tv_of (zq20 _) ?_
 have h := zq99 u k hk 256 (Nat.le_refl _)
 show rv (mulF (ruE u k 256).a (invF (ruE u k 256).b)) = _
 rw [zqok, zrjy];unfold Edw.lad
 show (stR (ruE u k 256)).a * Edw.finv (stR (ruE u k 256)).b = _
 rw [h]
 rfl
theorem zqsh (u k : Nat -> Int) (hu : zqag 18014398509481984 u) : zqag 4503599627370496 (zqmw u k) := zqe8 _ _ (zqji u k hu 256).a (zqg2 _ (zqji u k hu 256).b)
theorem zqk1 (u k : Nat -> Int) (hu : zqag 18014398509481984 u) : zqag 18014398509481984 (zqmw u k) := zqcd (zqsh u k hu)
theorem zqz9 (k : Nat -> Int) (hk : Bytes 32 k) : knum k 32 < 2 ^ 256 := zqnn k hk 32 (Nat.le_refl _)
end Go.Proofs.YtnjghcnhcbobhaaGreatDoor
namespace Go.Proofs.YtnjghcnhcbobhaaGreatDoor
open Go.RowKit
open Edw (red tv)
theorem zqz6 (w : World) :
  Calls Tryz.prog 251 #[] w (Rt w (.bool true)) := by
 have hG := Grew.refl w
 go_enter Tryz.func251, Tryz.ntmps251
 go_wp2_with fail
 (refine (zqzw _).mono ?_; rintro e w1 ⟨rfl, hb⟩; replace hG : Below w.heap.size w w1 := Grew.trans (by exact zqf) hb; clear hb)
 go_wp2;go_ret;exact ⟨rfl, by exact zqf⟩
theorem zqmy : Bytes 32 (upd zqe 0 1) := fun i _ => by unfold upd zqe; split <;> omega
theorem zq3b : Bytes 32 zqe := fun i _ => by unfold zqe; omega
theorem zq36 : knum (upd zqe 0 1) 32 = 1 := by kernel_rfl
theorem zrct (x : Nat -> Int) : nv (zqmw x (upd zqe 0 1)) = nv x := by
 rw [zqro _ _ zqmy, zq36, Edw.tv_one _ (zq20 x)]
theorem zqj0 : zqag 18014398509481984 (upd zqe 0 9) := zqe7 9 (by decide) (by decide)
set_option maxHeartbeats 1000000 in
theorem zqzr (w : World) :
  Calls Tryz.prog 250 #[] w (Rt w (.bool true)) := by
 have hG := Grew.refl w
 go_enter Tryz.func250, Tryz.ntmps250
 have l9 := zqk1 (upd zqe 0 9) (upd zqe 0 1) zqj0;have q9 := zrct (upd zqe 0 9);go_wp2_with fail
 (refine (zqz6 _).mono ?_; rintro e w1 ⟨rfl, hb⟩; replace hG : Below w.heap.size w w1 := Grew.trans (by exact zqf) hb; clear hb)
 go_wp2_with fail
 (refine (zqc4 9 _ (by decide) (by decide)).mono ?_; rintro e w2 ⟨rfl, hb⟩; replace hG : Below w.heap.size w w2 := Grew.trans (by exact zqf) hb; clear hb)
 go_wp2_with fail
 (refine (zqm8 _ _ _ zqmy zqj0).mono ?_; rintro e w3 ⟨rfl, hb⟩; replace hG : Below w.heap.size w w3 := Grew.trans (by exact zqf) hb; clear hb)
 go_wp2_with fail
 (refine (zqc4 9 _ (by decide) (by decide)).mono ?_; rintro e w4 ⟨rfl, hb⟩; replace hG : Below w.heap.size w w4 := Grew.trans (by exact zqf) hb; clear hb)
 go_wp2_with fail
 (refine (zqs8 _ _ _ l9 zqj0 q9).mono ?_; rintro e w5 ⟨rfl, hb⟩; replace hG : Below w.heap.size w w5 := Grew.trans (by exact zqf) hb; clear hb)
 go_wp2;go_ret;exact ⟨rfl, by exact zqf⟩
theorem zqz5 (w : World) :
  Calls Tryz.prog 249 #[] w (Rt w (.bool true)) := by
 have hG := Grew.refl w
 go_enter Tryz.func249, Tryz.ntmps249
 go_wp2_with fail
 (refine (zqzr _).mono ?_; rintro e w1 ⟨rfl, hb⟩; replace hG : Below w.heap.size w w1 := Grew.trans (by exact zqf) hb; clear hb)
 go_wp2;go_ret;exact ⟨rfl, by exact zqf⟩
end Go.Proofs.YtnjghcnhcbobhaaGreatDoor
