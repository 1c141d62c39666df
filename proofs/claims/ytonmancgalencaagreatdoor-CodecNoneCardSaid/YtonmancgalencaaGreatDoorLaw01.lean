/- Law01 -/
import Derived.Test.YtonmancgalencaaGreatDoorCt
import Derived.Test.YtonmancgalencaaGreatDoorShelf
namespace Go.Proofs.YtonmancgalencaaGreatDoor
open Go.RowKit
set_option linter.unusedVariables false
set_option linter.unusedSimpArgs false
theorem zeros_text : Lib.repeatL [48] 64 = (strOf 64 (hexd nought)).toList := by
 rw [strOf_list]
 kernel_rfl
theorem bytes_upd (n : Nat) (f : Nat → Int) (i : Nat) (v : Int) (h : Bytes n f) (h0 : 0 ≤ v) (h1 : v ≤ 255) : Bytes n (upd f i v) := by
 intro j hj
 unfold upd
 split
 ·exact ⟨h0, h1⟩
 ·exact h j hj
theorem one_two : same 32 (oneOf 3 (upd nought 0 1) (upd nought 0 2)) (upd nought 0 2) = true := by
 unfold oneOf
 rw [if_neg (by decide)]
 exact same_refl _ _
set_option maxHeartbeats 400000 in
theorem awake_any (w : World) :
  Calls Tryz.prog 195 #[] w fun e w' => e = .returned (.bool true) ∧ Below w.heap.size w w' := by
 have h1 := one_two
 have h2 : ((strOf 64 (hexd nought)).toList == Lib.repeatL [48] 64) = true := by rw [zeros_text]; exact beq_self_eq_true _
 go_enter Tryz.func195, Tryz.ntmps195
 go_wp2_with fail
 refine (pick_any 3 (upd nought 0 1) (upd nought 0 2) _ (bytes_upd _ _ _ _ bytes_nought (by decide) (by decide)) (bytes_upd _ _ _ _ bytes_nought (by decide) (by decide))).mono ?_
 rintro e w1 ⟨rfl, hb1⟩
 go_wp2_with fail
 refine (hex_any nought _ bytes_nought).mono ?_
 rintro e w2 ⟨rfl, hb2⟩
 go_wp2_with fail
 refine (Tryz.strings_Repeat ⟨#[48]⟩ 64 _ (by decide) (by decide)).mono ?_
 rintro e w3 ⟨rfl, hb3⟩
 go_wp2
 go_ret
 exact ⟨rfl, Grew.trans (Grew.trans hb1 hb2) hb3⟩
end Go.Proofs.YtonmancgalencaaGreatDoor
