/- Law01 -/
import Derived.Test.YtconieddcjpbjaaGreatDoorCt
import Derived.Test.YtconieddcjpbjaaGreatDoorShelf
namespace Go.Proofs.YtconieddcjpbjaaGreatDoor
open Go.RowKit
set_option linter.unusedVariables false
set_option linter.unusedSimpArgs false
theorem zqvt : Lib.repeatL [48] 64 = (strOf 64 (hexd zqd)).toList := by
 rw [zqfj]
 kernel_rfl
theorem zqqw (n : Nat) (f : Nat → Int) (i : Nat) (v : Int) (h : Bytes n f) (h0 : 0 ≤ v) (h1 : v ≤ 255) : Bytes n (upd f i v) := by
 intro j hj
 unfold upd
 split
 ·exact ⟨h0, h1⟩
 ·exact h j hj
theorem one_two : same 32 (oneOf 3 (upd zqd 0 1) (upd zqd 0 2)) (upd zqd 0 2) = true := by
 unfold oneOf
 rw [if_neg (by decide)]
 exact zqb6 _ _
set_option maxHeartbeats 400000 in
theorem awake_any (w : World) :
  Calls Tryz.prog 209 #[] w fun e w' => e = .returned (.bool true) ∧ Below w.heap.size w w' := by
 have h1 := one_two
 have h2 : ((strOf 64 (hexd zqd)).toList == Lib.repeatL [48] 64) = true := by rw [zqvt]; exact beq_self_eq_true _
 go_enter Tryz.func209, Tryz.ntmps209
 go_wp2_with fail
 refine (pick_any 3 (upd zqd 0 1) (upd zqd 0 2) _ (zqqw _ _ _ _ zqe5 (by decide) (by decide)) (zqqw _ _ _ _ zqe5 (by decide) (by decide))).mono ?_
 rintro e w1 ⟨rfl, hb1⟩
 go_wp2_with fail
 refine (zqtk zqd _ zqe5).mono ?_
 rintro e w2 ⟨rfl, hb2⟩
 go_wp2_with fail
 refine (Tryz.strings_Repeat ⟨#[48]⟩ 64 _ (by decide) (by decide)).mono ?_
 rintro e w3 ⟨rfl, hb3⟩
 go_wp2
 go_ret
 exact ⟨rfl, Grew.trans (Grew.trans hb1 hb2) hb3⟩
end Go.Proofs.YtconieddcjpbjaaGreatDoor
