/- The numbers of layer 2: what its limbs, its digits and its bytes have in common. -/
import Derived.Test.YtfapmpnkemogkaaVal
import Derived.Test.YtfapmpnkemogkaaLimbs
namespace Go.Proofs.Ytfapmpnkemogkaa
open Go.RowKit
set_option linter.unusedVariables false
set_option linter.unusedSimpArgs false

theorem hv_val (e : Nat → Int) : hv e 5 = valE e % 57896044618658097711785492504343953926634992332820282019728792003956564819949 := by
  have h1 : hv e 1 = e 4 % 57896044618658097711785492504343953926634992332820282019728792003956564819949 := by
    rw [hv, hv]; show (0 * _ % _ + e 4 % _) % _ = _; omega
  have h2 : hv e 2 = (e 4 * 2251799813685248 + e 3) % 57896044618658097711785492504343953926634992332820282019728792003956564819949 := by
    rw [hv, h1]; show (_ + e 3 % _) % _ = _; omega
  have h3 : hv e 3 = ((e 4 * 2251799813685248 + e 3) * 2251799813685248 + e 2) % 57896044618658097711785492504343953926634992332820282019728792003956564819949 := by
    rw [hv, h2]; show (_ + e 2 % _) % _ = _; omega
  have h4 : hv e 4 = (((e 4 * 2251799813685248 + e 3) * 2251799813685248 + e 2) * 2251799813685248 + e 1) % 57896044618658097711785492504343953926634992332820282019728792003956564819949 := by
    rw [hv, h3]; show (_ + e 1 % _) % _ = _; omega
  rw [hv, h4]
  show (_ + e 0 % _) % _ = _
  unfold valE
  omega
theorem of_val (k : Nat → Int) (hk : Bytes 32 k) : valE (ofF k) = dval (ofL k) 16 := by
  have hk' : ∀ i, i < 32 → 0 ≤ k i ∧ k i < 256 := fun i hi => by have := hk i hi; omega
  have e0 : ofF k 0 = k 0 + k 1 * 256 + k 2 * 65536 + k 3 * 16777216 + k 4 * 4294967296 + k 5 * 1099511627776 + k 6 % 8 * 281474976710656 := by
    obtain ⟨a0, b0⟩ := hk' 0 (by decide)
    obtain ⟨a1, b1⟩ := hk' 1 (by decide)
    obtain ⟨a2, b2⟩ := hk' 2 (by decide)
    obtain ⟨a3, b3⟩ := hk' 3 (by decide)
    obtain ⟨a4, b4⟩ := hk' 4 (by decide)
    obtain ⟨a5, b5⟩ := hk' 5 (by decide)
    obtain ⟨a6, b6⟩ := hk' 6 (by decide)
    obtain ⟨a7, b7⟩ := hk' 7 (by decide)
    show wsum k 0 8 % 2251799813685248 = _
    simp only [wsum, Nat.zero_add]
    omega
  have e1 : ofF k 1 = k 6 / 8 + k 7 * 32 + k 8 * 8192 + k 9 * 2097152 + k 10 * 536870912 + k 11 * 137438953472 + k 12 % 64 * 35184372088832 := by
    obtain ⟨a0, b0⟩ := hk' 6 (by decide)
    obtain ⟨a1, b1⟩ := hk' 7 (by decide)
    obtain ⟨a2, b2⟩ := hk' 8 (by decide)
    obtain ⟨a3, b3⟩ := hk' 9 (by decide)
    obtain ⟨a4, b4⟩ := hk' 10 (by decide)
    obtain ⟨a5, b5⟩ := hk' 11 (by decide)
    obtain ⟨a6, b6⟩ := hk' 12 (by decide)
    obtain ⟨a7, b7⟩ := hk' 13 (by decide)
    show wsum k 6 8 / 8 % 2251799813685248 = _
    simp only [wsum, Nat.reduceAdd]
    omega
  have e2 : ofF k 2 = k 12 / 64 + k 13 * 4 + k 14 * 1024 + k 15 * 262144 + k 16 * 67108864 + k 17 * 17179869184 + k 18 * 4398046511104 + k 19 % 2 * 1125899906842624 := by
    obtain ⟨a0, b0⟩ := hk' 12 (by decide)
    obtain ⟨a1, b1⟩ := hk' 13 (by decide)
    obtain ⟨a2, b2⟩ := hk' 14 (by decide)
    obtain ⟨a3, b3⟩ := hk' 15 (by decide)
    obtain ⟨a4, b4⟩ := hk' 16 (by decide)
    obtain ⟨a5, b5⟩ := hk' 17 (by decide)
    obtain ⟨a6, b6⟩ := hk' 18 (by decide)
    obtain ⟨a7, b7⟩ := hk' 19 (by decide)
    show wsum k 12 8 / 64 % 2251799813685248 = _
    simp only [wsum, Nat.reduceAdd]
    omega
  have e3 : ofF k 3 = k 19 / 2 + k 20 * 128 + k 21 * 32768 + k 22 * 8388608 + k 23 * 2147483648 + k 24 * 549755813888 + k 25 % 16 * 140737488355328 := by
    obtain ⟨a0, b0⟩ := hk' 19 (by decide)
    obtain ⟨a1, b1⟩ := hk' 20 (by decide)
    obtain ⟨a2, b2⟩ := hk' 21 (by decide)
    obtain ⟨a3, b3⟩ := hk' 22 (by decide)
    obtain ⟨a4, b4⟩ := hk' 23 (by decide)
    obtain ⟨a5, b5⟩ := hk' 24 (by decide)
    obtain ⟨a6, b6⟩ := hk' 25 (by decide)
    obtain ⟨a7, b7⟩ := hk' 26 (by decide)
    show wsum k 19 8 / 2 % 2251799813685248 = _
    simp only [wsum, Nat.reduceAdd]
    omega
  have e4 : ofF k 4 = k 25 / 16 + k 26 * 16 + k 27 * 4096 + k 28 * 1048576 + k 29 * 268435456 + k 30 * 68719476736 + k 31 % 128 * 17592186044416 := by
    obtain ⟨a0, b0⟩ := hk' 24 (by decide)
    obtain ⟨a1, b1⟩ := hk' 25 (by decide)
    obtain ⟨a2, b2⟩ := hk' 26 (by decide)
    obtain ⟨a3, b3⟩ := hk' 27 (by decide)
    obtain ⟨a4, b4⟩ := hk' 28 (by decide)
    obtain ⟨a5, b5⟩ := hk' 29 (by decide)
    obtain ⟨a6, b6⟩ := hk' 30 (by decide)
    obtain ⟨a7, b7⟩ := hk' 31 (by decide)
    show wsum k 24 8 / 4096 % 2251799813685248 = _
    simp only [wsum, Nat.reduceAdd]
    omega
  obtain ⟨a0, b0⟩ := hk' 30 (by decide)
  have l15 : ofL k 15 = k 30 + 256 * (k 31 % 128) := by
    show (k 30 + 256 * k 31) % 32768 = _
    omega
  have l : ∀ i, i < 15 → ofL k i = k (2 * i) + 256 * k (2 * i + 1) := fun i hi => by unfold ofL; rw [if_neg (by omega)]
  simp only [dval, l15, l 0 (by decide), l 1 (by decide), l 2 (by decide), l 3 (by decide), l 4 (by decide), l 5 (by decide), l 6 (by decide), l 7 (by decide), l 8 (by decide), l 9 (by decide), l 10 (by decide), l 11 (by decide), l 12 (by decide), l 13 (by decide), l 14 (by decide)]
  unfold valE
  rw [e0, e1, e2, e3, e4]
  simp only [Nat.reduceMul, Nat.reduceAdd]
  have q6 := Int.emod_add_mul_ediv (k 6) 8
  have q12 := Int.emod_add_mul_ediv (k 12) 64
  have q19 := Int.emod_add_mul_ediv (k 19) 2
  have q25 := Int.emod_add_mul_ediv (k 25) 16
  clear e0 e1 e2 e3 e4 l l15 hk hk'
  omega
theorem word_val (v : Int) (h0 : 0 ≤ v) (h1 : v < 57896044618658097711785492504343953926634992332820282019728792003956564819968) (j : Nat) (hj : j < 4) : wordD (digN v) j = v / 18446744073709551616 ^ j % 18446744073709551616 := by
  rcases (by omega : j = 0 ∨ j = 1 ∨ j = 2 ∨ j = 3) with rfl | rfl | rfl | rfl
  · show (v % 2251799813685248 + v / 2251799813685248 % 2251799813685248 * 2251799813685248) % 18446744073709551616 = _
    omega
  · show (v / 2251799813685248 % 2251799813685248 / 8192 + v / 5070602400912917605986812821504 % 2251799813685248 * 274877906944) % 18446744073709551616 = _
    omega
  · show (v / 5070602400912917605986812821504 % 2251799813685248 / 67108864 + v / 11417981541647679048466287755595961091061972992 % 2251799813685248 * 33554432) % 18446744073709551616 = _
    omega
  · show v / 11417981541647679048466287755595961091061972992 % 2251799813685248 / 549755813888 + v / 25711008708143844408671393477458601640355247900524685364822016 % 2251799813685248 * 4096 = _
    omega
set_option maxHeartbeats 4000000 in
theorem key_bytes (v : Int) (h0 : 0 ≤ v) (h1 : v < 57896044618658097711785492504343953926634992332820282019728792003956564819968) (i : Nat) (hi : i < 32) : keyN v i = bytesN (numN v) i := by
  have hw := word_val v h0 h1
  rcases (by omega : i = 0 ∨ i = 1 ∨ i = 2 ∨ i = 3 ∨ i = 4 ∨ i = 5 ∨ i = 6 ∨ i = 7 ∨ i = 8 ∨ i = 9 ∨ i = 10 ∨ i = 11 ∨ i = 12 ∨ i = 13 ∨ i = 14 ∨ i = 15 ∨ i = 16 ∨ i = 17 ∨ i = 18 ∨ i = 19 ∨ i = 20 ∨ i = 21 ∨ i = 22 ∨ i = 23 ∨ i = 24 ∨ i = 25 ∨ i = 26 ∨ i = 27 ∨ i = 28 ∨ i = 29 ∨ i = 30 ∨ i = 31) with rfl | rfl | rfl | rfl | rfl | rfl | rfl | rfl | rfl | rfl | rfl | rfl | rfl | rfl | rfl | rfl | rfl | rfl | rfl | rfl | rfl | rfl | rfl | rfl | rfl | rfl | rfl | rfl | rfl | rfl | rfl | rfl
  · show wordD (digN v) 0 / 2 ^ 0 % 256 = numN v 0 % 256
    rw [hw 0 (by decide)]
    simp only [numN, Nat.reduceMul, Nat.reducePow, Int.reducePow, Nat.reduceAdd]
    omega
  · show wordD (digN v) 0 / 2 ^ 8 % 256 = numN v 0 / 256
    rw [hw 0 (by decide)]
    simp only [numN, Nat.reduceMul, Nat.reducePow, Int.reducePow, Nat.reduceAdd]
    omega
  · show wordD (digN v) 0 / 2 ^ 16 % 256 = numN v 1 % 256
    rw [hw 0 (by decide)]
    simp only [numN, Nat.reduceMul, Nat.reducePow, Int.reducePow, Nat.reduceAdd]
    omega
  · show wordD (digN v) 0 / 2 ^ 24 % 256 = numN v 1 / 256
    rw [hw 0 (by decide)]
    simp only [numN, Nat.reduceMul, Nat.reducePow, Int.reducePow, Nat.reduceAdd]
    omega
  · show wordD (digN v) 0 / 2 ^ 32 % 256 = numN v 2 % 256
    rw [hw 0 (by decide)]
    simp only [numN, Nat.reduceMul, Nat.reducePow, Int.reducePow, Nat.reduceAdd]
    omega
  · show wordD (digN v) 0 / 2 ^ 40 % 256 = numN v 2 / 256
    rw [hw 0 (by decide)]
    simp only [numN, Nat.reduceMul, Nat.reducePow, Int.reducePow, Nat.reduceAdd]
    omega
  · show wordD (digN v) 0 / 2 ^ 48 % 256 = numN v 3 % 256
    rw [hw 0 (by decide)]
    simp only [numN, Nat.reduceMul, Nat.reducePow, Int.reducePow, Nat.reduceAdd]
    omega
  · show wordD (digN v) 0 / 2 ^ 56 % 256 = numN v 3 / 256
    rw [hw 0 (by decide)]
    simp only [numN, Nat.reduceMul, Nat.reducePow, Int.reducePow, Nat.reduceAdd]
    omega
  · show wordD (digN v) 1 / 2 ^ 0 % 256 = numN v 4 % 256
    rw [hw 1 (by decide)]
    simp only [numN, Nat.reduceMul, Nat.reducePow, Int.reducePow, Nat.reduceAdd]
    omega
  · show wordD (digN v) 1 / 2 ^ 8 % 256 = numN v 4 / 256
    rw [hw 1 (by decide)]
    simp only [numN, Nat.reduceMul, Nat.reducePow, Int.reducePow, Nat.reduceAdd]
    omega
  · show wordD (digN v) 1 / 2 ^ 16 % 256 = numN v 5 % 256
    rw [hw 1 (by decide)]
    simp only [numN, Nat.reduceMul, Nat.reducePow, Int.reducePow, Nat.reduceAdd]
    omega
  · show wordD (digN v) 1 / 2 ^ 24 % 256 = numN v 5 / 256
    rw [hw 1 (by decide)]
    simp only [numN, Nat.reduceMul, Nat.reducePow, Int.reducePow, Nat.reduceAdd]
    omega
  · show wordD (digN v) 1 / 2 ^ 32 % 256 = numN v 6 % 256
    rw [hw 1 (by decide)]
    simp only [numN, Nat.reduceMul, Nat.reducePow, Int.reducePow, Nat.reduceAdd]
    omega
  · show wordD (digN v) 1 / 2 ^ 40 % 256 = numN v 6 / 256
    rw [hw 1 (by decide)]
    simp only [numN, Nat.reduceMul, Nat.reducePow, Int.reducePow, Nat.reduceAdd]
    omega
  · show wordD (digN v) 1 / 2 ^ 48 % 256 = numN v 7 % 256
    rw [hw 1 (by decide)]
    simp only [numN, Nat.reduceMul, Nat.reducePow, Int.reducePow, Nat.reduceAdd]
    omega
  · show wordD (digN v) 1 / 2 ^ 56 % 256 = numN v 7 / 256
    rw [hw 1 (by decide)]
    simp only [numN, Nat.reduceMul, Nat.reducePow, Int.reducePow, Nat.reduceAdd]
    omega
  · show wordD (digN v) 2 / 2 ^ 0 % 256 = numN v 8 % 256
    rw [hw 2 (by decide)]
    simp only [numN, Nat.reduceMul, Nat.reducePow, Int.reducePow, Nat.reduceAdd]
    omega
  · show wordD (digN v) 2 / 2 ^ 8 % 256 = numN v 8 / 256
    rw [hw 2 (by decide)]
    simp only [numN, Nat.reduceMul, Nat.reducePow, Int.reducePow, Nat.reduceAdd]
    omega
  · show wordD (digN v) 2 / 2 ^ 16 % 256 = numN v 9 % 256
    rw [hw 2 (by decide)]
    simp only [numN, Nat.reduceMul, Nat.reducePow, Int.reducePow, Nat.reduceAdd]
    omega
  · show wordD (digN v) 2 / 2 ^ 24 % 256 = numN v 9 / 256
    rw [hw 2 (by decide)]
    simp only [numN, Nat.reduceMul, Nat.reducePow, Int.reducePow, Nat.reduceAdd]
    omega
  · show wordD (digN v) 2 / 2 ^ 32 % 256 = numN v 10 % 256
    rw [hw 2 (by decide)]
    simp only [numN, Nat.reduceMul, Nat.reducePow, Int.reducePow, Nat.reduceAdd]
    omega
  · show wordD (digN v) 2 / 2 ^ 40 % 256 = numN v 10 / 256
    rw [hw 2 (by decide)]
    simp only [numN, Nat.reduceMul, Nat.reducePow, Int.reducePow, Nat.reduceAdd]
    omega
  · show wordD (digN v) 2 / 2 ^ 48 % 256 = numN v 11 % 256
    rw [hw 2 (by decide)]
    simp only [numN, Nat.reduceMul, Nat.reducePow, Int.reducePow, Nat.reduceAdd]
    omega
  · show wordD (digN v) 2 / 2 ^ 56 % 256 = numN v 11 / 256
    rw [hw 2 (by decide)]
    simp only [numN, Nat.reduceMul, Nat.reducePow, Int.reducePow, Nat.reduceAdd]
    omega
  · show wordD (digN v) 3 / 2 ^ 0 % 256 = numN v 12 % 256
    rw [hw 3 (by decide)]
    simp only [numN, Nat.reduceMul, Nat.reducePow, Int.reducePow, Nat.reduceAdd]
    omega
  · show wordD (digN v) 3 / 2 ^ 8 % 256 = numN v 12 / 256
    rw [hw 3 (by decide)]
    simp only [numN, Nat.reduceMul, Nat.reducePow, Int.reducePow, Nat.reduceAdd]
    omega
  · show wordD (digN v) 3 / 2 ^ 16 % 256 = numN v 13 % 256
    rw [hw 3 (by decide)]
    simp only [numN, Nat.reduceMul, Nat.reducePow, Int.reducePow, Nat.reduceAdd]
    omega
  · show wordD (digN v) 3 / 2 ^ 24 % 256 = numN v 13 / 256
    rw [hw 3 (by decide)]
    simp only [numN, Nat.reduceMul, Nat.reducePow, Int.reducePow, Nat.reduceAdd]
    omega
  · show wordD (digN v) 3 / 2 ^ 32 % 256 = numN v 14 % 256
    rw [hw 3 (by decide)]
    simp only [numN, Nat.reduceMul, Nat.reducePow, Int.reducePow, Nat.reduceAdd]
    omega
  · show wordD (digN v) 3 / 2 ^ 40 % 256 = numN v 14 / 256
    rw [hw 3 (by decide)]
    simp only [numN, Nat.reduceMul, Nat.reducePow, Int.reducePow, Nat.reduceAdd]
    omega
  · show wordD (digN v) 3 / 2 ^ 48 % 256 = numN v 15 % 256
    rw [hw 3 (by decide)]
    simp only [numN, Nat.reduceMul, Nat.reducePow, Int.reducePow, Nat.reduceAdd]
    omega
  · show wordD (digN v) 3 / 2 ^ 56 % 256 = numN v 15 / 256
    rw [hw 3 (by decide)]
    simp only [numN, Nat.reduceMul, Nat.reducePow, Int.reducePow, Nat.reduceAdd]
    omega
theorem key_bytes' (v : Int) (h0 : 0 ≤ v) (h1 : v < 57896044618658097711785492504343953926634992332820282019728792003956564819968) : ints .u8 32 (bytesN (numN v)) = ints .u8 32 (keyN v) := ints_congr fun i hi => (key_bytes v h0 h1 i hi).symm
end Go.Proofs.Ytfapmpnkemogkaa
