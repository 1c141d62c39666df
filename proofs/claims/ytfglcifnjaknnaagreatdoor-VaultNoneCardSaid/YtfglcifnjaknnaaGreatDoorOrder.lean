/- Order -/
import Derived.Test.YtfglcifnjaknnaaGreatDoorTimes
import Derived.Test.YtfglcifnjaknnaaGreatDoorMat
set_option linter.unusedVariables false
set_option linter.unusedSimpArgs false
set_option maxRecDepth 100000
set_option maxHeartbeats 4000000
namespace Go.Proofs.YtfglcifnjaknnaaGreatDoor
open Go.RowKit
open Edw (red tv)
def rv (f : Nat -> Int) : Edw.Gp := red (nv f)
theorem zqn0 (a b : Nat -> Int) : rv (mulF a b) = rv a * rv b := by unfold rv; rw [zqmh, Edw.red_mod, Edw.red_mul]
theorem zqpb (a b : Nat -> Int) : rv (sumE a b) = rv a + rv b := by unfold rv sumE; rw [zq9r, Edw.red_mod, Edw.red_add]
theorem zqt3 (a b : Nat -> Int) : rv (difE a b) = rv a - rv b := by unfold rv difE; rw [zq6k, Edw.red_mod, Edw.red_sub]
theorem zq46 (a : Nat -> Int) (n : Int) : rv (zqfg a n) = rv a * red n := by unfold rv; rw [zq5m, Edw.red_mod, Edw.red_mul]
theorem zrfo (a : Nat -> Int) : rv (invF a) = Edw.finv (rv a) := by unfold rv Edw.finv; rw [zq1z, Edw.red_mod, Edw.red_pow]
theorem zrd4 : rv (upd zqd 0 1) = 1 := by unfold rv; rw [zqzf, Edw.red_one]
theorem zq2u : rv zqd = 0 := by unfold rv; rw [zqk2, Edw.red_zero]
theorem zra9 : red 121665 = 121665 := Edw.gK_num
theorem zqzn {F : Type} [Edw.CR F] (a b : F) : a * b = b * a := by grind
theorem zrd6 (x z : Nat -> Int) : rv (twE x z) = Edw.dblE (rv x) (rv z) := by simp only [twE, Edw.dblE, zqn0, zqpb, zqt3]
theorem zq8d (x z : Nat -> Int) : rv (twX x z) = Edw.dblX (rv x) (rv z) := by simp only [twX, Edw.dblX, zqn0, zqpb, zqt3]
theorem zq7z (x z : Nat -> Int) : rv (twZ x z) = Edw.dblZ (rv x) (rv z) := by
 simp only [twZ, Edw.dblZ, zqn0, zqpb, zq46, zrd6, zra9]
 rw [zqzn (Edw.dblE (rv x) (rv z)) 121665]
theorem zq8a (x z x' z' : Nat -> Int) : rv (boX x z x' z') = Edw.difX (rv x) (rv z) (rv x') (rv z') := by simp only [boX, daE, cbE, Edw.difX, zqn0, zqpb, zqt3]
theorem zq8b (u x z x' z' : Nat -> Int) : rv (boZ u x z x' z') = Edw.difZ (rv u) (rv x) (rv z) (rv x') (rv z') := by simp only [boZ, daE, cbE, Edw.difZ, zqn0, zqpb, zqt3]
def stR (s : El) : Edw.St Edw.Gp := ⟨rv s.a, rv s.b, rv s.c, rv s.e⟩
theorem zq6a (x y : Nat -> Int) : oneOf 0 x y = x := rfl
theorem zq1v (x y : Nat -> Int) : oneOf 1 x y = y := rfl
theorem zq7c (u k : Nat -> Int) (hk : Bytes 32 k) : ∀ c, c <= 256 -> stR (ruE u k c) = Edw.runN (rv u) (knum k 32) c
 | 0, _ => by simp only [ruE, stR, Edw.runN, zrd4, zq2u]
 | c + 1, hc => by
  have ih := zq7c u k hk c (by omega);have hb := zqvm k hk (255 - c) (by omega);have h01 := zqn3 k (255 - c)
  show stR (swE (bitN k (255 - c)) (stE u (swE (bitN k (255 - c)) (ruE u k c)))) = Edw.stp (rv u) (Edw.bitN (knum k 32) (255 - c)) (Edw.runN (rv u) (knum k 32) c)
  rw [<- ih];unfold Edw.bitN;rw [hb];generalize ruE u k c = s;generalize bitN k (255 - c) = B at *
  rcases h01 with rfl | rfl
  ·simp only [swE, stE, stR, zq6a, zq8d, zq7z, zq8a, zq8b]; rfl
  ·simp only [swE, stE, stR, zq1v, zq8d, zq7z, zq8a, zq8b]; rfl
theorem zqqc (u k : Nat -> Int) (hk : Bytes 32 k) : nv (zqma u k) = tv (knum k 32) (nv u) := by
 refine Edw.tv_of (zqyw _) ?_
 have h := zq7c u k hk 256 (Nat.le_refl _)
 show rv (mulF (ruE u k 256).a (invF (ruE u k 256).b)) = _
 rw [zqn0, zrfo];unfold Edw.lad
 show (stR (ruE u k 256)).a * Edw.finv (stR (ruE u k 256)).b = _
 rw [h]
 rfl
theorem zqpt (u k : Nat -> Int) (hu : zq8 18014398509481984 u) : zq8 4503599627370496 (zqma u k) := zqes _ _ (zqip u k hu 256).a (zqgr _ (zqip u k hu 256).b)
theorem zqkc (u k : Nat -> Int) (hu : zq8 18014398509481984 u) : zq8 18014398509481984 (zqma u k) := zqb4 (zqpt u k hu)
theorem zqw5 (k : Nat -> Int) (hk : Bytes 32 k) : knum k 32 < 2 ^ 256 := zqll k hk 32 (Nat.le_refl _)
theorem zqx8 (w : World) :
  Calls Tryz.prog 257 #[] w (Rt w (.bool true)) := by
 have hG := Grew.refl w
 go_enter Tryz.func257, Tryz.ntmps257
 go_wp2_with fail
 (refine (zqx1 _).mono ?_; rintro e w1 ⟨rfl, hb⟩; replace hG : Below w.heap.size w w1 := Grew.trans (by exact zqf) hb; clear hb)
 go_wp2;go_ret;exact ⟨rfl, by exact zqf⟩
theorem zqk8 : Bytes 32 (upd zqd 0 1) := fun i _ => by unfold upd zqd; split <;> omega
theorem zq0t : Bytes 32 zqd := fun i _ => by unfold zqd; omega
theorem zqy8 : knum (upd zqd 0 1) 32 = 1 := by kernel_rfl
theorem zq8s (x : Nat -> Int) : nv (zqma x (upd zqd 0 1)) = nv x := by
 rw [zqqc _ _ zqk8, zqy8, Edw.tv_one _ (zqyw x)]
theorem zqi5 : zq8 18014398509481984 (upd zqd 0 9) := zqez 9 (by decide) (by decide)
set_option maxHeartbeats 1000000 in
theorem zqwl (w : World) :
  Calls Tryz.prog 256 #[] w (Rt w (.bool true)) := by
 have hG := Grew.refl w
 go_enter Tryz.func256, Tryz.ntmps256
 have l9 := zqkc (upd zqd 0 9) (upd zqd 0 1) zqi5;have q9 := zq8s (upd zqd 0 9);go_wp2_with fail
 (refine (zqx8 _).mono ?_; rintro e w1 ⟨rfl, hb⟩; replace hG : Below w.heap.size w w1 := Grew.trans (by exact zqf) hb; clear hb)
 go_wp2_with fail
 (refine (zqcr 9 _ (by decide) (by decide)).mono ?_; rintro e w2 ⟨rfl, hb⟩; replace hG : Below w.heap.size w w2 := Grew.trans (by exact zqf) hb; clear hb)
 go_wp2_with fail
 (refine (zqla _ _ _ zqk8 zqi5).mono ?_; rintro e w3 ⟨rfl, hb⟩; replace hG : Below w.heap.size w w3 := Grew.trans (by exact zqf) hb; clear hb)
 go_wp2_with fail
 (refine (zqcr 9 _ (by decide) (by decide)).mono ?_; rintro e w4 ⟨rfl, hb⟩; replace hG : Below w.heap.size w w4 := Grew.trans (by exact zqf) hb; clear hb)
 go_wp2_with fail
 (refine (zqqw _ _ _ l9 zqi5 q9).mono ?_; rintro e w5 ⟨rfl, hb⟩; replace hG : Below w.heap.size w w5 := Grew.trans (by exact zqf) hb; clear hb)
 go_wp2;go_ret;exact ⟨rfl, by exact zqf⟩
theorem zqxb (w : World) :
  Calls Tryz.prog 255 #[] w (Rt w (.bool true)) := by
 have hG := Grew.refl w
 go_enter Tryz.func255, Tryz.ntmps255
 go_wp2_with fail
 (refine (zqwl _).mono ?_; rintro e w1 ⟨rfl, hb⟩; replace hG : Below w.heap.size w w1 := Grew.trans (by exact zqf) hb; clear hb)
 go_wp2;go_ret;exact ⟨rfl, by exact zqf⟩
end Go.Proofs.YtfglcifnjaknnaaGreatDoor
