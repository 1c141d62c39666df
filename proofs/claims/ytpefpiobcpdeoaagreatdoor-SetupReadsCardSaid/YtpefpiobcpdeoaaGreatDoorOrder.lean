/- Order -/
import Derived.Test.YtpefpiobcpdeoaaGreatDoorTimes
import Derived.Test.YtpefpiobcpdeoaaGreatDoorMat
set_option linter.unusedVariables false
set_option linter.unusedSimpArgs false
set_option maxRecDepth 100000
set_option maxHeartbeats 4000000
namespace Go.Proofs.YtpefpiobcpdeoaaGreatDoor
open Go.RowKit
open Edw (red tv)
def rv (f : Nat -> Int) : Edw.Gp := red (nv f)
theorem zqni (a b : Nat -> Int) : rv (mulF a b) = rv a * rv b := by unfold rv; rw [zqmp, Edw.red_mod, Edw.red_mul]
theorem zqpk (a b : Nat -> Int) : rv (sumE a b) = rv a + rv b := by unfold rv sumE; rw [zq7d, Edw.red_mod, Edw.red_add]
theorem zqt4 (a b : Nat -> Int) : rv (difE a b) = rv a - rv b := by unfold rv difE; rw [zq4s, Edw.red_mod, Edw.red_sub]
theorem zq26 (a : Nat -> Int) (n : Int) : rv (zqf3 a n) = rv a * red n := by unfold rv; rw [zq33, Edw.red_mod, Edw.red_mul]
theorem zre0 (a : Nat -> Int) : rv (invF a) = Edw.finv (rv a) := by unfold rv Edw.finv; rw [zq0w, Edw.red_mod, Edw.red_pow]
theorem zrc1 : rv (upd zqc 0 1) = 1 := by unfold rv; rw [zqzz, Edw.red_one]
theorem zqxz : rv zqc = 0 := by unfold rv; rw [zqlv, Edw.red_zero]
theorem zq84 : red 121665 = 121665 := Edw.gK_num
theorem zq0a {F : Type} [Edw.CR F] (a b : F) : a * b = b * a := by grind
theorem zrdn (x z : Nat -> Int) : rv (twE x z) = Edw.dblE (rv x) (rv z) := by simp only [twE, Edw.dblE, zqni, zqpk, zqt4]
theorem zq5p (x z : Nat -> Int) : rv (twX x z) = Edw.dblX (rv x) (rv z) := by simp only [twX, Edw.dblX, zqni, zqpk, zqt4]
theorem zq59 (x z : Nat -> Int) : rv (twZ x z) = Edw.dblZ (rv x) (rv z) := by
 simp only [twZ, Edw.dblZ, zqni, zqpk, zq26, zrdn, zq84]
 rw [zq0a (Edw.dblE (rv x) (rv z)) 121665]
theorem zq61 (x z x' z' : Nat -> Int) : rv (boX x z x' z') = Edw.difX (rv x) (rv z) (rv x') (rv z') := by simp only [boX, daE, cbE, Edw.difX, zqni, zqpk, zqt4]
theorem zq6q (u x z x' z' : Nat -> Int) : rv (boZ u x z x' z') = Edw.difZ (rv u) (rv x) (rv z) (rv x') (rv z') := by simp only [boZ, daE, cbE, Edw.difZ, zqni, zqpk, zqt4]
def stR (s : El) : Edw.St Edw.Gp := ⟨rv s.a, rv s.b, rv s.c, rv s.e⟩
theorem zq3m (x y : Nat -> Int) : oneOf 0 x y = x := rfl
theorem zqzl (x y : Nat -> Int) : oneOf 1 x y = y := rfl
theorem zq5o (u k : Nat -> Int) (hk : Bytes 32 k) : ∀ c, c <= 256 -> stR (ruE u k c) = Edw.runN (rv u) (knum k 32) c
 | 0, _ => by simp only [ruE, stR, Edw.runN, zrc1, zqxz]
 | c + 1, hc => by
  have ih := zq5o u k hk c (by omega);have hb := zqt3 k hk (255 - c) (by omega);have h01 := zqoi k (255 - c)
  show stR (swE (bitN k (255 - c)) (stE u (swE (bitN k (255 - c)) (ruE u k c)))) = Edw.stp (rv u) (Edw.bitN (knum k 32) (255 - c)) (Edw.runN (rv u) (knum k 32) c)
  rw [<- ih];unfold Edw.bitN;rw [hb];generalize ruE u k c = s;generalize bitN k (255 - c) = B at *
  rcases h01 with rfl | rfl
  ·simp only [swE, stE, stR, zq3m, zq5p, zq59, zq61, zq6q]; rfl
  ·simp only [swE, stE, stR, zqzl, zq5p, zq59, zq61, zq6q]; rfl
theorem zqqo (u k : Nat -> Int) (hk : Bytes 32 k) : nv (zqlf u k) = tv (knum k 32) (nv u) := by
 refine Edw.tv_of (zqx8 _) ?_
 have h := zq5o u k hk 256 (Nat.le_refl _)
 show rv (mulF (ruE u k 256).a (invF (ruE u k 256).b)) = _
 rw [zqni, zre0];unfold Edw.lad
 show (stR (ruE u k 256)).a * Edw.finv (stR (ruE u k 256)).b = _
 rw [h]
 rfl
theorem zqp8 (u k : Nat -> Int) (hu : zqaa 18014398509481984 u) : zqaa 4503599627370496 (zqlf u k) := zqe2 _ _ (zqis u k hu 256).a (zqg1 _ (zqis u k hu 256).b)
theorem zqkk (u k : Nat -> Int) (hu : zqaa 18014398509481984 u) : zqaa 18014398509481984 (zqlf u k) := zqch (zqp8 u k hu)
theorem zqw7 (k : Nat -> Int) (hk : Bytes 32 k) : knum k 32 < 2 ^ 256 := zqmh k hk 32 (Nat.le_refl _)
end Go.Proofs.YtpefpiobcpdeoaaGreatDoor
namespace Go.Proofs.YtpefpiobcpdeoaaGreatDoor
open Go.RowKit
open Edw (red tv)
theorem zqu8 (w : World) :
  Calls Tryz.prog 271 #[] w (Rt w (.bool true)) := by
 have hG := Grew.refl w
 go_enter Tryz.func271, Tryz.ntmps271
 go_wp2_with fail
 (refine (zqwk _).mono ?_; rintro e w1 ⟨rfl, hb⟩; replace hG : Below w.heap.size w w1 := Grew.trans (by exact zqf) hb; clear hb)
 go_wp2;go_ret;exact ⟨rfl, by exact zqf⟩
theorem zqkw : Bytes 32 (upd zqc 0 1) := fun i _ => by unfold upd zqc; split <;> omega
theorem zqza : Bytes 32 zqc := fun i _ => by unfold zqc; omega
theorem zqx9 : knum (upd zqc 0 1) 32 = 1 := by kernel_rfl
theorem zq9p (x : Nat -> Int) : nv (zqlf x (upd zqc 0 1)) = nv x := by
 rw [zqqo _ _ zqkw, zqx9, Edw.tv_one _ (zqx8 x)]
theorem zqju : zqaa 18014398509481984 (upd zqc 0 9) := zqe1 9 (by decide) (by decide)
set_option maxHeartbeats 1000000 in
theorem zqw2 (w : World) :
  Calls Tryz.prog 270 #[] w (Rt w (.bool true)) := by
 have hG := Grew.refl w
 go_enter Tryz.func270, Tryz.ntmps270
 have l9 := zqkk (upd zqc 0 9) (upd zqc 0 1) zqju;have q9 := zq9p (upd zqc 0 9);go_wp2_with fail
 (refine (zqu8 _).mono ?_; rintro e w1 ⟨rfl, hb⟩; replace hG : Below w.heap.size w w1 := Grew.trans (by exact zqf) hb; clear hb)
 go_wp2_with fail
 (refine (zqc0 9 _ (by decide) (by decide)).mono ?_; rintro e w2 ⟨rfl, hb⟩; replace hG : Below w.heap.size w w2 := Grew.trans (by exact zqf) hb; clear hb)
 go_wp2_with fail
 (refine (zqkz _ _ _ zqkw zqju).mono ?_; rintro e w3 ⟨rfl, hb⟩; replace hG : Below w.heap.size w w3 := Grew.trans (by exact zqf) hb; clear hb)
 go_wp2_with fail
 (refine (zqc0 9 _ (by decide) (by decide)).mono ?_; rintro e w4 ⟨rfl, hb⟩; replace hG : Below w.heap.size w w4 := Grew.trans (by exact zqf) hb; clear hb)
 go_wp2_with fail
 (refine (zqqw _ _ _ l9 zqju q9).mono ?_; rintro e w5 ⟨rfl, hb⟩; replace hG : Below w.heap.size w w5 := Grew.trans (by exact zqf) hb; clear hb)
 go_wp2;go_ret;exact ⟨rfl, by exact zqf⟩
theorem zqxq (w : World) :
  Calls Tryz.prog 269 #[] w (Rt w (.bool true)) := by
 have hG := Grew.refl w
 go_enter Tryz.func269, Tryz.ntmps269
 go_wp2_with fail
 (refine (zqw2 _).mono ?_; rintro e w1 ⟨rfl, hb⟩; replace hG : Below w.heap.size w w1 := Grew.trans (by exact zqf) hb; clear hb)
 go_wp2;go_ret;exact ⟨rfl, by exact zqf⟩
end Go.Proofs.YtpefpiobcpdeoaaGreatDoor
