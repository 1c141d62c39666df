/- Hk: Hk -/
import Derived.Test.YtomoccbljclhlaaGreatDoorMa
namespace Go.Proofs.YtomoccbljclhlaaGreatDoor
open Go.RowKit
set_option linter.unusedVariables false
set_option linter.unusedSimpArgs false
attribute [local irreducible] strOf shaF zerosB padB fullB hashT macF
theorem eq_of_byteAt {s t : ByteArray} (h : s.size = t.size) (h2 : ∀ i, i < s.size → byteAt s i = byteAt t i) : s = t := by
  apply ByteArray.ext
  apply Array.ext h
  intro i i1 i2
  have e := h2 i i1
  rw [← byteAt_lt s i i1, ← byteAt_lt t i i2] at e
  have e2 : (s[i]).toNat = (t[i]).toNat := by exact_mod_cast e
  exact UInt8.toNat_inj.1 e2
/-- one byte as a text -/
def byteB (i : Nat) : ByteArray := strOf 1 fun _ => ((i % 256 : Nat) : Int)
theorem byteB_size (i : Nat) : (byteB i).size = 1 := strOf_size _ _
/-- the blocks -/
def tB (K info : ByteArray) : Nat → ByteArray
  | 0 => ByteArray.empty
  | i + 1 => strOf 32 (macF K (tB K info i ++ info ++ byteB (i + 1)))
theorem tB_size (K info : ByteArray) (i : Nat) : (tB K info (i + 1)).size = 32 := strOf_size _ _
theorem tB_le (K info : ByteArray) (i : Nat) : (tB K info i).size ≤ 32 := by
  cases i with
  | zero => exact Nat.zero_le _
  | succ i => rw [tB_size]; omega
/-- all bytes of theirs, one behind the other -/
def strmF (K info : ByteArray) : Nat → Int := fun i => byteAt (tB K info (i / 32 + 1)) (i % 32)
theorem strm_bytes (K info : ByteArray) (i : Nat) : 0 ≤ strmF K info i ∧ strmF K info i ≤ 255 := byteAt_bd _ _
theorem strm_next (K info : ByteArray) (m : Nat) : strOf (32 * m) (strmF K info) ++ tB K info (m + 1) = strOf (32 * (m + 1)) (strmF K info) := by
  have hs : (strOf (32 * m) (strmF K info)).size = 32 * m := strOf_size _ _
  refine eq_of_byteAt (by rw [ByteArray.size_append, strOf_size, strOf_size, tB_size]; omega) fun i hi => ?_
  rw [ByteArray.size_append, strOf_size, tB_size] at hi
  rw [byteAt_strOf _ _ _ (by omega) (strm_bytes _ _ _)]
  by_cases h : i < 32 * m
  · rw [byteAt_left _ _ _ (by rw [strOf_size]; exact h), byteAt_strOf _ _ _ h (strm_bytes _ _ _)]
  · obtain ⟨k, rfl⟩ : ∃ k, i = 32 * m + k := ⟨i - 32 * m, by omega⟩
    have := byteAt_right (strOf (32 * m) (strmF K info)) (tB K info (m + 1)) k (by rw [tB_size]; omega)
    rw [hs] at this
    rw [this]
    unfold strmF
    rw [show (32 * m + k) / 32 = m by omega, show (32 * m + k) % 32 = k by omega]
theorem strOf_zero (f : Nat → Int) : strOf 0 f = ByteArray.empty := eq_of_byteAt (by rw [strOf_size]; rfl) fun i hi => by rw [strOf_size] at hi; omega
theorem byteAt_ext (s : ByteArray) (a b i : Nat) (h : a + i < b) (hb : b ≤ s.size) : byteAt (s.extract a b) i = byteAt s (a + i) := by
  have h1 : i < (s.extract a b).size := by rw [ByteArray.size_extract]; omega
  rw [← byteAt_lt _ _ h1, ← byteAt_lt _ _ (show a + i < s.size by omega), ByteArray.getElem_extract]
/-- a part of a text of bytes -/
theorem strOf_extract (N a n : Nat) (f : Nat → Int) (hf : ∀ i, 0 ≤ f i ∧ f i ≤ 255) (h : a + n ≤ N) : (strOf N f).extract a (a + n) = strOf n (fun i => f (a + i)) := by
  have hs : (strOf N f).size = N := strOf_size _ _
  refine eq_of_byteAt (by rw [ByteArray.size_extract, strOf_size, strOf_size]; omega) fun i hi => ?_
  rw [ByteArray.size_extract, strOf_size] at hi
  rw [byteAt_ext _ _ _ _ (by omega) (by omega), byteAt_strOf _ _ _ (by omega) (hf _), byteAt_strOf n (fun i => f (a + i)) _ (by omega) (hf _)]
theorem strOf_first (N n : Nat) (f : Nat → Int) (hf : ∀ i, 0 ≤ f i ∧ f i ≤ 255) (h : n ≤ N) : (strOf N f).extract 0 n = strOf n f := by
  have := strOf_extract N 0 n f hf (by omega)
  simpa using this
theorem strOf_self (s : ByteArray) : strOf s.size (byteAt s) = s := eq_of_byteAt (strOf_size _ _) fun i hi => by
  rw [strOf_size] at hi
  exact byteAt_strOf _ _ _ hi (byteAt_bd _ _)
/-- a block out of the stream -/
theorem strm_block (K info : ByteArray) (N m : Nat) (h : 32 * m + 32 ≤ N) : (strOf N (strmF K info)).extract (32 * m) (32 * m + 32) = tB K info (m + 1) := by
  rw [strOf_extract N (32 * m) 32 _ (strm_bytes K info) h]
  refine eq_of_byteAt (by rw [strOf_size, tB_size]) fun i hi => ?_
  rw [strOf_size] at hi
  rw [byteAt_strOf 32 (fun i => strmF K info (32 * m + i)) _ hi (strm_bytes _ _ _)]
  unfold strmF
  rw [show (32 * m + i) / 32 = m by omega, show (32 * m + i) % 32 = i by omega]
/-- the first key -/
def oneF (K info : ByteArray) : Nat → Int := macF K (info ++ byteB 1)
theorem tB_one (K info : ByteArray) : tB K info 1 = strOf 32 (oneF K info) := by
  show strOf 32 (macF K (ByteArray.empty ++ info ++ byteB 1)) = _
  rw [ByteArray.empty_append]; rfl
theorem one_bytes (K info : ByteArray) : Bytes 32 (oneF K info) := mac_bytes _ _
theorem strm_one (K info : ByteArray) : strOf 32 (strmF K info) = strOf 32 (oneF K info) := by
  have := strm_next K info 0
  rw [strOf_zero, ByteArray.empty_append, tB_one] at this
  exact this.symm
/-- a key by a name -/
def labelF (name secret info : ByteArray) : Nat → Int := oneF (strOf 32 (macF name secret)) info
theorem label_bytes (name secret info : ByteArray) : Bytes 32 (labelF name secret info) := one_bytes _ _
/-- a salt of no bytes is as one of 32 bytes 0 -/
theorem blockB_none : blockB (zerosB 32) = blockB ByteArray.empty := by
  have e1 : shortB ByteArray.empty = ByteArray.empty := by unfold shortB; rw [if_neg (by decide)]
  have e2 : shortB (zerosB 32) = zerosB 32 := by unfold shortB; rw [if_neg (by rw [zerosB_size]; decide)]
  rw [(blockB_eq _).out, (blockB_eq _).out, e1, e2, zerosB_size]
  refine eq_of_byteAt (by rw [ByteArray.size_append, ByteArray.size_append, zerosB_size, zerosB_size]; rfl) fun i hi => ?_
  rw [ByteArray.size_append, zerosB_size] at hi
  rw [ByteArray.empty_append, byteAt_zeros]
  by_cases h : i < 32
  · rw [byteAt_left _ _ _ (by rw [zerosB_size]; exact h), byteAt_zeros]
  · obtain ⟨k, rfl⟩ : ∃ k, i = (zerosB 32).size + k := ⟨i - 32, by rw [zerosB_size]; omega⟩
    rw [byteAt_right _ _ _ (by rw [zerosB_size] at *; omega), byteAt_zeros]
end Go.Proofs.YtomoccbljclhlaaGreatDoor
