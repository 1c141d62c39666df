/- Order -/
import Derived.Test.YtnjghcnhcbobhaaGreatDoorTimes
import Derived.Test.YtnjghcnhcbobhaaGreatDoorMat
set_option linter.unusedVariables false
set_option linter.unusedSimpArgs false
set_option maxRecDepth 100000
set_option maxHeartbeats 4000000
namespace Go.Proofs.YtnjghcnhcbobhaaGreatDoor
open Go.RowKit
open Edw (red tv)
def rv (f : Nat -> Int) : Edw.Gp := red (nv f)
theorem zqn8 (a b : Nat -> Int) : rv (mulF a b) = rv a * rv b := by unfold rv; rw [zql0, Edw.red_mod, Edw.red_mul]
theorem zqq5 (a b : Nat -> Int) : rv (sumE a b) = rv a + rv b := by unfold rv sumE; rw [zrch, Edw.red_mod, Edw.red_add]
theorem zquu (a b : Nat -> Int) : rv (difE a b) = rv a - rv b := by unfold rv difE; rw [zq64, Edw.red_mod, Edw.red_sub]
theorem zq4a (a : Nat -> Int) (n : Int) : rv (zqfz a n) = rv a * red n := by unfold rv; rw [zq7k, Edw.red_mod, Edw.red_mul]
theorem zrha (a : Nat -> Int) : rv (invF a) = Edw.finv (rv a) := by unfold rv Edw.finv; rw [zq2b, Edw.red_mod, Edw.red_pow]
theorem zrjg : rv (upd zqg 0 1) = 1 := by unfold rv; rw [zq0p, Edw.red_one]
theorem zqz2 : rv zqg = 0 := by unfold rv; rw [zqmy, Edw.red_zero]
theorem zrco : red 121665 = 121665 := Edw.gK_num
theorem zq0q {F : Type} [Edw.CR F] (a b : F) : a * b = b * a := by grind
theorem zriy (x z : Nat -> Int) : rv (twE x z) = Edw.dblE (rv x) (rv z) := by simp only [twE, Edw.dblE, zqn8, zqq5, zquu]
theorem zq87 (x z : Nat -> Int) : rv (twX x z) = Edw.dblX (rv x) (rv z) := by simp only [twX, Edw.dblX, zqn8, zqq5, zquu]
theorem zq8o (x z : Nat -> Int) : rv (twZ x z) = Edw.dblZ (rv x) (rv z) := by
 simp only [twZ, Edw.dblZ, zqn8, zqq5, zq4a, zriy, zrco]
 rw [zq0q (Edw.dblE (rv x) (rv z)) 121665]
theorem zq84 (x z x' z' : Nat -> Int) : rv (boX x z x' z') = Edw.difX (rv x) (rv z) (rv x') (rv z') := by simp only [boX, daE, cbE, Edw.difX, zqn8, zqq5, zquu]
theorem zq9r (u x z x' z' : Nat -> Int) : rv (boZ u x z x' z') = Edw.difZ (rv u) (rv x) (rv z) (rv x') (rv z') := by simp only [boZ, daE, cbE, Edw.difZ, zqn8, zqq5, zquu]
def stR (s : El) : Edw.St Edw.Gp := ⟨rv s.a, rv s.b, rv s.c, rv s.e⟩
theorem zq6n (x y : Nat -> Int) : oneOf 0 x y = x := rfl
theorem zq28 (x y : Nat -> Int) : oneOf 1 x y = y := rfl
theorem zq8s (u k : Nat -> Int) (hk : Bytes 32 k) : ∀ c, c <= 256 -> stR (ruE u k c) = Edw.runN (rv u) (knum k 32) c
 | 0, _ => by simp only [ruE, stR, Edw.runN, zrjg, zqz2]
 | c + 1, hc => by
  have ih := zq8s u k hk c (by omega);have hb := zqu8 k hk (255 - c) (by omega);have h01 := zqou k (255 - c)
  show stR (swE (bitN k (255 - c)) (stE u (swE (bitN k (255 - c)) (ruE u k c)))) = Edw.stp (rv u) (Edw.bitN (knum k 32) (255 - c)) (Edw.runN (rv u) (knum k 32) c)
  rw [<- ih];unfold Edw.bitN;rw [hb];generalize ruE u k c = s;generalize bitN k (255 - c) = B at *
  rcases h01 with rfl | rfl
  ·simp only [swE, stE, stR, zq6n, zq87, zq8o, zq84, zq9r]; rfl
  ·simp only [swE, stE, stR, zq28, zq87, zq8o, zq84, zq9r]; rfl
theorem zqr6 (u k : Nat -> Int) (hk : Bytes 32 k) : nv (zqmo u k) = tv (knum k 32) (nv u) := by
 refine Edw.tv_of (zq05 _) ?_
 have h := zq8s u k hk 256 (Nat.le_refl _)
 show rv (mulF (ruE u k 256).a (invF (ruE u k 256).b)) = _
 rw [zqn8, zrha];unfold Edw.lad
 show (stR (ruE u k 256)).a * Edw.finv (stR (ruE u k 256)).b = _
 rw [h]
 rfl
theorem zqrs (u k : Nat -> Int) (hu : zqad 18014398509481984 u) : zqad 4503599627370496 (zqmo u k) := zqe0 _ _ (zqih u k hu 256).a (zqgy _ (zqih u k hu 256).b)
theorem zqke (u k : Nat -> Int) (hu : zqad 18014398509481984 u) : zqad 18014398509481984 (zqmo u k) := zqch (zqrs u k hu)
theorem zqys (k : Nat -> Int) (hk : Bytes 32 k) : knum k 32 < 2 ^ 256 := zqlk k hk 32 (Nat.le_refl _)
end Go.Proofs.YtnjghcnhcbobhaaGreatDoor
namespace Go.Proofs.YtnjghcnhcbobhaaGreatDoor
open Go.RowKit
open Edw (red tv)
theorem zqxu (w : World) :
  Calls Tryz.prog 251 #[] w (Rt w (.bool true)) := by
 have hG := Grew.refl w
 go_enter Tryz.func251, Tryz.ntmps251
 go_wp2_with fail
 (refine (zqw4 _).mono ?_; rintro e w1 ⟨rfl, hb⟩; replace hG : Below w.heap.size w w1 := Grew.trans (by exact zqe) hb; clear hb)
 go_wp2;go_ret;exact ⟨rfl, by exact zqe⟩
theorem zqla : Bytes 32 (upd zqg 0 1) := fun i _ => by unfold upd zqg; split <;> omega
theorem zq0m : Bytes 32 zqg := fun i _ => by unfold zqg; omega
theorem zqzk : knum (upd zqg 0 1) 32 = 1 := by kernel_rfl
theorem zrbx (x : Nat -> Int) : nv (zqmo x (upd zqg 0 1)) = nv x := by
 rw [zqr6 _ _ zqla, zqzk, Edw.tv_one _ (zq05 x)]
theorem zqj4 : zqad 18014398509481984 (upd zqg 0 9) := zqe5 9 (by decide) (by decide)
set_option maxHeartbeats 1000000 in
theorem zqxv (w : World) :
  Calls Tryz.prog 250 #[] w (Rt w (.bool true)) := by
 have hG := Grew.refl w
 go_enter Tryz.func250, Tryz.ntmps250
 have l9 := zqke (upd zqg 0 9) (upd zqg 0 1) zqj4;have q9 := zrbx (upd zqg 0 9);go_wp2_with fail
 (refine (zqxu _).mono ?_; rintro e w1 ⟨rfl, hb⟩; replace hG : Below w.heap.size w w1 := Grew.trans (by exact zqe) hb; clear hb)
 go_wp2_with fail
 (refine (zqcy 9 _ (by decide) (by decide)).mono ?_; rintro e w2 ⟨rfl, hb⟩; replace hG : Below w.heap.size w w2 := Grew.trans (by exact zqe) hb; clear hb)
 go_wp2_with fail
 (refine (zqmm _ _ _ zqla zqj4).mono ?_; rintro e w3 ⟨rfl, hb⟩; replace hG : Below w.heap.size w w3 := Grew.trans (by exact zqe) hb; clear hb)
 go_wp2_with fail
 (refine (zqcy 9 _ (by decide) (by decide)).mono ?_; rintro e w4 ⟨rfl, hb⟩; replace hG : Below w.heap.size w w4 := Grew.trans (by exact zqe) hb; clear hb)
 go_wp2_with fail
 (refine (zqq4 _ _ _ l9 zqj4 q9).mono ?_; rintro e w5 ⟨rfl, hb⟩; replace hG : Below w.heap.size w w5 := Grew.trans (by exact zqe) hb; clear hb)
 go_wp2;go_ret;exact ⟨rfl, by exact zqe⟩
theorem zqwm (w : World) :
  Calls Tryz.prog 249 #[] w (Rt w (.bool true)) := by
 have hG := Grew.refl w
 go_enter Tryz.func249, Tryz.ntmps249
 go_wp2_with fail
 (refine (zqxv _).mono ?_; rintro e w1 ⟨rfl, hb⟩; replace hG : Below w.heap.size w w1 := Grew.trans (by exact zqe) hb; clear hb)
 go_wp2;go_ret;exact ⟨rfl, by exact zqe⟩
end Go.Proofs.YtnjghcnhcbobhaaGreatDoor
