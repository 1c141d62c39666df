/- Numbers in five limbs, without the program. -/
import Derived.Test.YtfapmpnkemogkaaLimb
namespace Go.Proofs.Ytfapmpnkemogkaa
set_option linter.unusedVariables false
set_option linter.unusedSimpArgs false

def valE (f : Nat → Int) : Int := f 0 + f 1 * 2251799813685248 + f 2 * 5070602400912917605986812821504 + f 3 * 11417981541647679048466287755595961091061972992 + f 4 * 25711008708143844408671393477458601640355247900524685364822016
theorem val_carry (f : Nat → Int) : valE (carryF f) % 57896044618658097711785492504343953926634992332820282019728792003956564819949 = valE f % 57896044618658097711785492504343953926634992332820282019728792003956564819949 := by
  unfold valE
  rw [carry_0, carry_1, carry_2, carry_3, carry_4]
  omega
theorem dig_bd (g : Nat → Int) (i : Nat) : 0 ≤ digF g i ∧ digF g i < 2251799813685248 := by unfold digF; omega
theorem over_val (g : Nat → Int) : ∃ c : Int, valE g + 19 = c + 57896044618658097711785492504343953926634992332820282019728792003956564819968 * overF g 4 ∧ 0 ≤ c ∧ c < 57896044618658097711785492504343953926634992332820282019728792003956564819968 := by
  have h0 : overF g 0 = (g 0 + 19) / 2251799813685248 := rfl
  have h1 : overF g 1 = (g 1 + overF g 0) / 2251799813685248 := rfl
  have h2 : overF g 2 = (g 2 + overF g 1) / 2251799813685248 := rfl
  have h3 : overF g 3 = (g 3 + overF g 2) / 2251799813685248 := rfl
  have h4 : overF g 4 = (g 4 + overF g 3) / 2251799813685248 := rfl
  refine ⟨valE g + 19 - 57896044618658097711785492504343953926634992332820282019728792003956564819968 * overF g 4, by omega, ?_, ?_⟩ <;> unfold valE <;> omega
theorem rest_val (g : Nat → Int) : valE (digF g) + 57896044618658097711785492504343953926634992332820282019728792003956564819968 * restF g 5 = valE g + 19 * overF g 4 := by
  have h0 : restF g 0 = 19 * overF g 4 := rfl
  have h1 : restF g 1 = (restF g 0 + g 0) / 2251799813685248 := rfl
  have h2 : restF g 2 = (restF g 1 + g 1) / 2251799813685248 := rfl
  have h3 : restF g 3 = (restF g 2 + g 2) / 2251799813685248 := rfl
  have h4 : restF g 4 = (restF g 3 + g 3) / 2251799813685248 := rfl
  have h5 : restF g 5 = (restF g 4 + g 4) / 2251799813685248 := rfl
  unfold valE digF
  omega
theorem val_bd (d : Nat → Int) (hd : ∀ i, 0 ≤ d i ∧ d i < 2251799813685248) : 0 ≤ valE d ∧ valE d < 57896044618658097711785492504343953926634992332820282019728792003956564819968 := by
  have := hd 0; have := hd 1; have := hd 2; have := hd 3; have := hd 4
  unfold valE
  omega
theorem val_dig (g : Nat → Int) (hg : ∀ i, i < 5 → 0 ≤ g i ∧ g i ≤ 2251799813685399) : valE (digF g) = valE g % 57896044618658097711785492504343953926634992332820282019728792003956564819949 := by
  obtain ⟨o0, o1⟩ := over_bd g hg 4 (by decide)
  obtain ⟨c, hc, c0, c1⟩ := over_val g
  have hr := rest_val g
  obtain ⟨v0, v1⟩ := val_bd _ (dig_bd g)
  obtain ⟨r0, r1⟩ := rest_bd g hg 5 (by decide)
  have hv : 0 ≤ valE g ∧ valE g < 115792089237316195423570985008687907853269984665640564039457584007913129639898 := by
    have := hg 0 (by decide); have := hg 1 (by decide); have := hg 2 (by decide); have := hg 3 (by decide); have := hg 4 (by decide)
    unfold valE; omega
  rcases (by omega : overF g 4 = 0 ∨ overF g 4 = 1) with h | h <;> rw [h] at hc hr <;> omega
/-- .. of any loose element -/
theorem val_least (f : Nat → Int) (hf : Under 18014398509481984 f) : valE (digF (carryF f)) = valE f % 57896044618658097711785492504343953926634992332820282019728792003956564819949 := by
  rw [val_dig _ (carry_bd f hf), val_carry]
/-- the digits of a number -/
def digN (v : Int) : Nat → Int := fun i => if i = 0 then v % 2251799813685248 else if i = 1 then v / 2251799813685248 % 2251799813685248 else if i = 2 then v / 5070602400912917605986812821504 % 2251799813685248 else if i = 3 then v / 11417981541647679048466287755595961091061972992 % 2251799813685248 else v / 25711008708143844408671393477458601640355247900524685364822016 % 2251799813685248
/-- the bytes of a number -/
def keyN (v : Int) : Nat → Int := keyD (digN v)
theorem digN_of (d : Nat → Int) (hd : ∀ i, 0 ≤ d i ∧ d i < 2251799813685248) (i : Nat) (hi : i < 5) : d i = digN (valE d) i := by
  obtain ⟨a0, b0⟩ := hd 0
  obtain ⟨a1, b1⟩ := hd 1
  obtain ⟨a2, b2⟩ := hd 2
  obtain ⟨a3, b3⟩ := hd 3
  obtain ⟨a4, b4⟩ := hd 4
  rcases (by omega : i = 0 ∨ i = 1 ∨ i = 2 ∨ i = 3 ∨ i = 4) with rfl | rfl | rfl | rfl | rfl
  · show d 0 = valE d % 2251799813685248
    unfold valE; omega
  · show d 1 = valE d / 2251799813685248 % 2251799813685248
    unfold valE; omega
  · show d 2 = valE d / 5070602400912917605986812821504 % 2251799813685248
    unfold valE; omega
  · show d 3 = valE d / 11417981541647679048466287755595961091061972992 % 2251799813685248
    unfold valE; omega
  · show d 4 = valE d / 25711008708143844408671393477458601640355247900524685364822016 % 2251799813685248
    unfold valE; omega
theorem keyD_congr (d e : Nat → Int) (h : ∀ i, i < 5 → d i = e i) : keyD d = keyD e := by
  have hw : wordD d = wordD e := by
    funext j
    unfold wordD
    rw [h 0 (by decide), h 1 (by decide), h 2 (by decide), h 3 (by decide), h 4 (by decide)]
  unfold keyD
  rw [hw]
theorem key_val (f : Nat → Int) (hf : Under 18014398509481984 f) : keyD (digF (carryF f)) = keyN (valE f % 57896044618658097711785492504343953926634992332820282019728792003956564819949) := by
  rw [← val_least f hf]
  exact keyD_congr _ _ (digN_of _ (dig_bd _))
end Go.Proofs.Ytfapmpnkemogkaa
