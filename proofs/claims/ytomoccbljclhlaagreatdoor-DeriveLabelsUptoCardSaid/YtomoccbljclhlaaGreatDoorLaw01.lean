/- Law01: Law01 -/
import Derived.Test.YtomoccbljclhlaaGreatDoorCt
import Derived.Test.YtomoccbljclhlaaGreatDoorShelf
namespace Go.Proofs.YtomoccbljclhlaaGreatDoor
open Go.RowKit
set_option linter.unusedVariables false
set_option linter.unusedSimpArgs false
theorem same_of_eq {n : Nat} {f g : Nat → Int} (h : ∀ i, i < n → f i = g i) : same n f g = true := (same_iff n f g).2 h
/-- 48, 64 times -/
theorem zeros_text : Lib.repeatL [48] 64 = (strOf 64 (hexd nought)).toList := by
  rw [strOf_list]
  kernel_rfl
theorem bytes_upd (n : Nat) (f : Nat → Int) (i : Nat) (v : Int) (h : Bytes n f) (h0 : 0 ≤ v) (h1 : v ≤ 255) : Bytes n (upd f i v) := by
  intro j hj
  unfold upd
  split
  · exact ⟨h0, h1⟩
  · exact h j hj
theorem one_two : same 32 (oneOf 3 (upd nought 0 1) (upd nought 0 2)) (upd nought 0 2) = true := by
  unfold oneOf
  rw [if_neg (by decide)]
  exact same_refl _ _
set_option maxHeartbeats 400000 in
theorem awake_any (w : World) :
    Calls Tryz.prog 112 #[] w fun e w' => e = .returned (.bool true) ∧ Below w.heap.size w w' := by
  have h1 := one_two
  have h2 : ((strOf 64 (hexd nought)).toList == Lib.repeatL [48] 64) = true := by rw [zeros_text]; exact beq_self_eq_true _
  go_enter Tryz.func112, Tryz.ntmps112
  go_wp2_with fail
  refine (pick_any 3 (upd nought 0 1) (upd nought 0 2) _ (bytes_upd _ _ _ _ bytes_nought (by decide) (by decide)) (bytes_upd _ _ _ _ bytes_nought (by decide) (by decide))).mono ?_
  rintro e w1 ⟨rfl, hb1⟩
  go_wp2_with fail
  refine (hex_any nought _ bytes_nought).mono ?_
  rintro e w2 ⟨rfl, hb2⟩
  go_wp2_with fail
  refine (Tryz.strings_Repeat ⟨#[48]⟩ 64 _ (by decide) (by decide)).mono ?_
  rintro e w3 ⟨rfl, hb3⟩
  go_wp2
  go_ret
  exact ⟨rfl, Grew.trans (Grew.trans hb1 hb2) hb3⟩
theorem oneOf_even {b : Int} (h : b % 2 = 0) (x y : Nat → Int) : oneOf b x y = x := if_pos h
theorem oneOf_odd {b : Int} (h : ¬ b % 2 = 0) (x y : Nat → Int) : oneOf b x y = y := if_neg h
theorem tmod_two (b : Int) : b.tmod 2 = 0 ↔ b % 2 = 0 := by
  rw [← Int.dvd_iff_tmod_eq_zero, ← Int.dvd_iff_emod_eq_zero]
theorem bytes_oneOf {n : Nat} (b : Int) {x y : Nat → Int} (hx : Bytes n x) (hy : Bytes n y) : Bytes n (oneOf b x y) := by
  unfold oneOf; split <;> assumption
/-- a bit turned -/
theorem flip_bit (p a : Nat) (hp : p < 256) : ∃ q : Nat, bits .xor .u8 (p : Int) (2 ^ (a % 8) % 256) = q ∧ q < 256 ∧ q ≠ p := by
  obtain ⟨m, hm, hm1, hm2⟩ : ∃ m : Nat, ((2 : Int) ^ (a % 8) % 256) = m ∧ m < 256 ∧ m ≠ 0 := by
    rcases (by omega : a % 8 = 0 ∨ a % 8 = 1 ∨ a % 8 = 2 ∨ a % 8 = 3 ∨ a % 8 = 4 ∨ a % 8 = 5 ∨ a % 8 = 6 ∨ a % 8 = 7) with h | h | h | h | h | h | h | h <;> rw [h]
    · exact ⟨1, rfl, by decide, by decide⟩
    · exact ⟨2, rfl, by decide, by decide⟩
    · exact ⟨4, rfl, by decide, by decide⟩
    · exact ⟨8, rfl, by decide, by decide⟩
    · exact ⟨16, rfl, by decide, by decide⟩
    · exact ⟨32, rfl, by decide, by decide⟩
    · exact ⟨64, rfl, by decide, by decide⟩
    · exact ⟨128, rfl, by decide, by decide⟩
  have h1 : p ^^^ m < 2 ^ 8 := Nat.xor_lt_two_pow (by omega) (by omega)
  refine ⟨p ^^^ m, by rw [hm, u8_xor p m hp hm1], by omega, fun e => hm2 ?_⟩
  have := congrArg (fun n => p ^^^ n) e
  simpa [nat_xor_back] using this
theorem turned (x : Nat → Int) (a : Nat) (hx : Bytes 32 x) (ha : a < 256) : Bytes 32 (upd x (a / 8) (bits .xor .u8 (x (a / 8)) (2 ^ (a % 8) % 256))) ∧ same 32 x (upd x (a / 8) (bits .xor .u8 (x (a / 8)) (2 ^ (a % 8) % 256))) = false := by
  have hj : a / 8 < 32 := by omega
  obtain ⟨p, hp, hp1⟩ := u8_nat _ (hx _ hj).1 (hx _ hj).2
  obtain ⟨q, hq, hq1, hq2⟩ := flip_bit p a hp1
  rw [hp, hq]
  refine ⟨bytes_upd 32 x _ _ hx (by omega) (by omega), ?_⟩
  rw [Bool.eq_false_iff]
  intro h
  have := (same_iff _ _ _).1 h _ hj
  rw [upd_same, hp] at this
  exact hq2 (by exact_mod_cast this.symm)
theorem oneOf_twice (b : Int) (x y : Nat → Int) : oneOf b (oneOf b x y) (oneOf b y x) = x := by
  unfold oneOf; split <;> rfl
theorem oneOf_self (b : Int) (x : Nat → Int) : oneOf b x x = x := by
  unfold oneOf; split <;> rfl
theorem longer (s : ByteArray) : (s.toList == (s ++ (⟨#[120]⟩ : ByteArray)).toList) = false := by
  rw [beq_eq_false_iff_ne]
  intro h
  rw [ByteArray.toList_eq, ByteArray.toList_eq] at h
  have := congrArg List.length h
  simp at this
end Go.Proofs.YtomoccbljclhlaaGreatDoor
