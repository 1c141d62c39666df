/- Law01 -/
import Derived.Test.YtconieddcjpbjaaGreatDoorCt
import Derived.Test.YtconieddcjpbjaaGreatDoorShelf
set_option linter.unusedVariables false
set_option linter.unusedSimpArgs false
namespace Go.Proofs.YtconieddcjpbjaaGreatDoor
open Go.RowKit
theorem zqzn : Lib.repeatL [48] 64 = (strOf 64 (hexd zqg)).toList := by
 rw [zqgm]
 kernel_rfl
theorem zqr1 (n : Nat) (f : Nat -> Int) (i : Nat) (v : Int) (h : Bytes n f) (h0 : 0 <= v) (h1 : v <= 255) : Bytes n (upd f i v) := by
 intro j hj;unfold upd
 split
 ·exact ⟨h0, h1⟩
 ·exact h j hj
theorem zreo : same 32 (oneOf 3 (upd zqg 0 1) (upd zqg 0 2)) (upd zqg 0 2) = true := by
 unfold oneOf;rw [if_neg (by decide)];exact zqet _ _
set_option maxHeartbeats 400000 in
theorem zq22 (w : World) :
  Calls Tryz.prog 209 #[] w (Rt w (.bool true)) := by
 have h1 := zreo;have h2 : ((strOf 64 (hexd zqg)).toList == Lib.repeatL [48] 64) = true := by rw [zqzn]; exact beq_self_eq_true _
 go_enter Tryz.func209, Tryz.ntmps209
 go_wp2_with fail;refine (pick_any 3 (upd zqg 0 1) (upd zqg 0 2) _ (zqr1 _ _ _ _ zqf5 (by decide) (by decide)) (zqr1 _ _ _ _ zqf5 (by decide) (by decide))).mono ?_
 rintro e w1 ⟨rfl, hb1⟩;go_wp2_with fail;refine (zquy zqg _ zqf5).mono ?_
 rintro e w2 ⟨rfl, hb2⟩;go_wp2_with fail;refine (Tryz.strings_Repeat ⟨#[48]⟩ 64 _ (by decide) (by decide)).mono ?_
 rintro e w3 ⟨rfl, hb3⟩;go_wp2;go_ret;exact ⟨rfl, Grew.trans (Grew.trans hb1 hb2) hb3⟩
end Go.Proofs.YtconieddcjpbjaaGreatDoor
