/- The laws of layer 1: the functions of package sapwoodlaw01 answer true, and turn nothing that was there. -/
import Derived.Test.YtjmmmkkngbihkaaHex
import Derived.Test.YtjmmmkkngbihkaaShelf
namespace Go.Proofs.Ytjmmmkkngbihkaa
open Go.RowKit
set_option linter.unusedVariables false
set_option linter.unusedSimpArgs false

theorem same_of_eq {n : Nat} {f g : Nat → Int} (h : ∀ i, i < n → f i = g i) : same n f g = true := (same_iff n f g).2 h
/-- 48, 64 times -/
theorem zeros_text : Lib.repeatL [48] 64 = (strOf 64 (hexd nought)).toList := by
  rw [strOf_list]
  kernel_rfl

theorem bytes_upd (n : Nat) (f : Nat → Int) (i : Nat) (v : Int) (h : Bytes n f) (h0 : 0 ≤ v) (h1 : v ≤ 255) : Bytes n (upd f i v) := by
  intro j hj
  unfold upd
  split
  · exact ⟨h0, h1⟩
  · exact h j hj
theorem one_two : same 32 (oneOf 3 (upd nought 0 1) (upd nought 0 2)) (upd nought 0 2) = true := by
  unfold oneOf
  rw [if_neg (by decide)]
  exact same_refl _ _
set_option maxHeartbeats 400000 in
theorem awake_any (w : World) :
    Calls Try.prog 10 #[] w fun e w' => e = .returned (.bool true) ∧ Below w.heap.size w w' := by
  have h1 := one_two
  have h2 : ((strOf 64 (hexd nought)).toList == Lib.repeatL [48] 64) = true := by rw [zeros_text]; exact beq_self_eq_true _
  go_enter Try.func10, Try.ntmps10
  go_wp2_with fail
  refine (pick_any 3 (upd nought 0 1) (upd nought 0 2) _ (bytes_upd _ _ _ _ bytes_nought (by decide) (by decide)) (bytes_upd _ _ _ _ bytes_nought (by decide) (by decide))).mono ?_
  rintro e w1 ⟨rfl, hb1⟩
  go_wp2_with fail
  refine (hex_any nought _ bytes_nought).mono ?_
  rintro e w2 ⟨rfl, hb2⟩
  go_wp2_with fail
  refine (Try.strings_Repeat ⟨#[48]⟩ 64 _ (by decide) (by decide)).mono ?_
  rintro e w3 ⟨rfl, hb3⟩
  go_wp2
  go_ret
  exact ⟨rfl, Grew.trans (Grew.trans hb1 hb2) hb3⟩

set_option maxHeartbeats 400000 in
theorem compares_any (a b : ByteArray) (x y : Nat → Int) (w : World) (hx : Bytes 32 x) (hy : Bytes 32 y) (ha : a.size ≤ 9223372036854775807) (hb : b.size ≤ 9223372036854775807) :
    Calls Try.prog 3 #[.string a, .string b, .agg (ints .u8 32 x), .agg (ints .u8 32 y)] w fun e w' => e = .returned (.bool true) ∧ Below w.heap.size w w' := by
  have s1 := same_refl 32 x
  have s2 := same_refl 32 nought
  go_enter Try.func3, Try.ntmps3
  go_wp2_with fail
  refine (awake_any _).mono ?_
  rintro e w1 ⟨rfl, hb1⟩
  obtain ⟨m1, rfl⟩ := more_of_below hb1
  clear hb1
  go_wp2_with fail
  · go_ret
    exact ⟨rfl, by (repeat (first | exact Grew.refl _ | refine Grew.more ?_ _ | refine Grew.alloc ?_ _ | refine Grew.drewN ?_ _))⟩
  · ((first | (with_reducible refine wp_region_on (by kernel_rfl) (by kernel_rfl) ?_) | refine wp_region_more (by kernel_rfl) (by kernel_rfl) ?_); (repeat (first | go_big_quiet_skip | (go_big_quiet_want; go_big_quiet_op; first | go_big_quiet_on | (apply Exists.intro; refine ⟨fun _ => ?_, ?_⟩; (focus (first | (with_reducible exact Calls.of_more (equal_any a b _ ha)) | (with_reducible exact Calls.of_more (equal_any a a _ ha)) | (with_reducible exact Calls.of_more (same_any x y _ hx hy)) | (with_reducible exact Calls.of_more (same_any x x _ hx hx)) | (with_reducible exact Calls.of_more (zero_any x _ hx)) | (with_reducible exact Calls.of_more (zero_any nought _ bytes_nought)))); go_big_quiet_on)))); refine wpQuiet_nil ?_; rintro _ ⟨mq, rfl⟩)
    go_wp2
    go_ret
    exact ⟨rfl, by (repeat (first | exact Grew.refl _ | refine Grew.more ?_ _ | refine Grew.alloc ?_ _ | refine Grew.drewN ?_ _))⟩
  · go_ret
    exact ⟨rfl, by (repeat (first | exact Grew.refl _ | refine Grew.more ?_ _ | refine Grew.alloc ?_ _ | refine Grew.drewN ?_ _))⟩
end Go.Proofs.Ytjmmmkkngbihkaa
