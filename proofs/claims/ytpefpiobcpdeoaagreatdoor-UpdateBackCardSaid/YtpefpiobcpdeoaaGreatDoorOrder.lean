/- Order -/
import Derived.Test.YtpefpiobcpdeoaaGreatDoorTimes
import Derived.Test.YtpefpiobcpdeoaaGreatDoorMat
set_option linter.unusedVariables false
set_option linter.unusedSimpArgs false
set_option maxRecDepth 100000
set_option maxHeartbeats 4000000
namespace Go.Proofs.YtpefpiobcpdeoaaGreatDoor
open Go.RowKit
open Edw (red tv)
def rv (f : Nat -> Int) : Edw.Gp := red (nv f)
theorem zqol (a b : Nat -> Int) : rv (mulF a b) = rv a * rv b := by unfold rv; rw [zqlo, Edw.red_mod, Edw.red_mul]
theorem zqpt (a b : Nat -> Int) : rv (sumE a b) = rv a + rv b := by unfold rv sumE; rw [zra5, Edw.red_mod, Edw.red_add]
theorem zqui (a b : Nat -> Int) : rv (difE a b) = rv a - rv b := by unfold rv difE; rw [zq4y, Edw.red_mod, Edw.red_sub]
theorem zq4g (a : Nat -> Int) (n : Int) : rv (zqfv a n) = rv a * red n := by unfold rv; rw [zq4p, Edw.red_mod, Edw.red_mul]
theorem zrez (a : Nat -> Int) : rv (invF a) = Edw.finv (rv a) := by unfold rv Edw.finv; rw [zq0r, Edw.red_mod, Edw.red_pow]
theorem zrep : rv (upd zqe 0 1) = 1 := by unfold rv; rw [zqzw, Edw.red_one]
theorem zq1o : rv zqe = 0 := by unfold rv; rw [zqlx, Edw.red_zero]
theorem zram : red 121665 = 121665 := Edw.gK_num
theorem zq0x {F : Type} [Edw.CR F] (a b : F) : a * b = b * a := by grind
theorem zrd2 (x z : Nat -> Int) : rv (twE x z) = Edw.dblE (rv x) (rv z) := by simp only [twE, Edw.dblE, zqol, zqpt, zqui]
theorem zq63 (x z : Nat -> Int) : rv (twX x z) = Edw.dblX (rv x) (rv z) := by simp only [twX, Edw.dblX, zqol, zqpt, zqui]
theorem zq7h (x z : Nat -> Int) : rv (twZ x z) = Edw.dblZ (rv x) (rv z) := by
 simp only [twZ, Edw.dblZ, zqol, zqpt, zq4g, zrd2, zram]
 rw [zq0x (Edw.dblE (rv x) (rv z)) 121665]
theorem zq6y (x z x' z' : Nat -> Int) : rv (boX x z x' z') = Edw.difX (rv x) (rv z) (rv x') (rv z') := by simp only [boX, daE, cbE, Edw.difX, zqol, zqpt, zqui]
theorem zq6k (u x z x' z' : Nat -> Int) : rv (boZ u x z x' z') = Edw.difZ (rv u) (rv x) (rv z) (rv x') (rv z') := by simp only [boZ, daE, cbE, Edw.difZ, zqol, zqpt, zqui]
def stR (s : El) : Edw.St Edw.Gp := ⟨rv s.a, rv s.b, rv s.c, rv s.e⟩
theorem zq5v (x y : Nat -> Int) : oneOf 0 x y = x := rfl
theorem zq0i (x y : Nat -> Int) : oneOf 1 x y = y := rfl
theorem zq6q (u k : Nat -> Int) (hk : Bytes 32 k) : ∀ c, c <= 256 -> stR (ruE u k c) = Edw.runN (rv u) (knum k 32) c
 | 0, _ => by simp only [ruE, stR, Edw.runN, zrep, zq1o]
 | c + 1, hc => by
  have ih := zq6q u k hk c (by omega);have hb := zquz k hk (255 - c) (by omega);have h01 := zqoy k (255 - c)
  show stR (swE (bitN k (255 - c)) (stE u (swE (bitN k (255 - c)) (ruE u k c)))) = Edw.stp (rv u) (Edw.bitN (knum k 32) (255 - c)) (Edw.runN (rv u) (knum k 32) c)
  rw [<- ih];unfold Edw.bitN;rw [hb];generalize ruE u k c = s;generalize bitN k (255 - c) = B at *
  rcases h01 with rfl | rfl
  ·simp only [swE, stE, stR, zq5v, zq63, zq7h, zq6y, zq6k]; rfl
  ·simp only [swE, stE, stR, zq0i, zq63, zq7h, zq6y, zq6k]; rfl
theorem zqqg (u k : Nat -> Int) (hk : Bytes 32 k) : nv (zqmh u k) = tv (knum k 32) (nv u) := by
 refine Edw.tv_of (zq1n _) ?_
 have h := zq6q u k hk 256 (Nat.le_refl _)
 show rv (mulF (ruE u k 256).a (invF (ruE u k 256).b)) = _
 rw [zqol, zrez];unfold Edw.lad
 show (stR (ruE u k 256)).a * Edw.finv (stR (ruE u k 256)).b = _
 rw [h]
 rfl
theorem zqpv (u k : Nat -> Int) (hu : zqac 18014398509481984 u) : zqac 4503599627370496 (zqmh u k) := zqe9 _ _ (zqi1 u k hu 256).a (zqg3 _ (zqi1 u k hu 256).b)
theorem zqkx (u k : Nat -> Int) (hu : zqac 18014398509481984 u) : zqac 18014398509481984 (zqmh u k) := zqcj (zqpv u k hu)
theorem zqwz (k : Nat -> Int) (hk : Bytes 32 k) : knum k 32 < 2 ^ 256 := zqll k hk 32 (Nat.le_refl _)
end Go.Proofs.YtpefpiobcpdeoaaGreatDoor
namespace Go.Proofs.YtpefpiobcpdeoaaGreatDoor
open Go.RowKit
open Edw (red tv)
theorem zqxq (w : World) :
  Calls Tryz.prog 271 #[] w (Rt w (.bool true)) := by
 have hG := Grew.refl w
 go_enter Tryz.func271, Tryz.ntmps271
 go_wp2_with fail
 (refine (zqvc _).mono ?_; rintro e w1 ⟨rfl, hb⟩; replace hG : Below w.heap.size w w1 := Grew.trans (by exact zqf) hb; clear hb)
 go_wp2;go_ret;exact ⟨rfl, by exact zqf⟩
theorem zqmv : Bytes 32 (upd zqe 0 1) := fun i _ => by unfold upd zqe; split <;> omega
theorem zq0s : Bytes 32 zqe := fun i _ => by unfold zqe; omega
theorem zqyj : knum (upd zqe 0 1) 32 = 1 := by kernel_rfl
theorem zrac (x : Nat -> Int) : nv (zqmh x (upd zqe 0 1)) = nv x := by
 rw [zqqg _ _ zqmv, zqyj, Edw.tv_one _ (zq1n x)]
theorem zqkf : zqac 18014398509481984 (upd zqe 0 9) := zqe4 9 (by decide) (by decide)
set_option maxHeartbeats 1000000 in
theorem zqxs (w : World) :
  Calls Tryz.prog 270 #[] w (Rt w (.bool true)) := by
 have hG := Grew.refl w
 go_enter Tryz.func270, Tryz.ntmps270
 have l9 := zqkx (upd zqe 0 9) (upd zqe 0 1) zqkf;have q9 := zrac (upd zqe 0 9);go_wp2_with fail
 (refine (zqxq _).mono ?_; rintro e w1 ⟨rfl, hb⟩; replace hG : Below w.heap.size w w1 := Grew.trans (by exact zqf) hb; clear hb)
 go_wp2_with fail
 (refine (zqc1 9 _ (by decide) (by decide)).mono ?_; rintro e w2 ⟨rfl, hb⟩; replace hG : Below w.heap.size w w2 := Grew.trans (by exact zqf) hb; clear hb)
 go_wp2_with fail
 (refine (zqm5 _ _ _ zqmv zqkf).mono ?_; rintro e w3 ⟨rfl, hb⟩; replace hG : Below w.heap.size w w3 := Grew.trans (by exact zqf) hb; clear hb)
 go_wp2_with fail
 (refine (zqc1 9 _ (by decide) (by decide)).mono ?_; rintro e w4 ⟨rfl, hb⟩; replace hG : Below w.heap.size w w4 := Grew.trans (by exact zqf) hb; clear hb)
 go_wp2_with fail
 (refine (zqqp _ _ _ l9 zqkf q9).mono ?_; rintro e w5 ⟨rfl, hb⟩; replace hG : Below w.heap.size w w5 := Grew.trans (by exact zqf) hb; clear hb)
 go_wp2;go_ret;exact ⟨rfl, by exact zqf⟩
theorem zqvl (w : World) :
  Calls Tryz.prog 269 #[] w (Rt w (.bool true)) := by
 have hG := Grew.refl w
 go_enter Tryz.func269, Tryz.ntmps269
 go_wp2_with fail
 (refine (zqxs _).mono ?_; rintro e w1 ⟨rfl, hb⟩; replace hG : Below w.heap.size w w1 := Grew.trans (by exact zqf) hb; clear hb)
 go_wp2;go_ret;exact ⟨rfl, by exact zqf⟩
end Go.Proofs.YtpefpiobcpdeoaaGreatDoor
