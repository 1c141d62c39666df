/- How an argument that is a pair is opened. -/
import Derived.Test.YtfapmpnkemogkaaShut
import Derived.Test.YtfapmpnkemogkaaFrameL
import Derived.Test.YtfapmpnkemogkaaPair
import Derived.ChangeSame
namespace Go.Proofs.Ytfapmpnkemogkaa
open Go.ChangeShapes Go.WideShapes Go.ChangeAt Go.RowKit
set_option linter.unusedVariables false
set_option linter.unusedSimpArgs false

set_option maxRecDepth 100000 in
theorem open_pair {H : Type} {enc : TypeId × Value → H} {W : World} {base : Nat} {sp : Nat → Bool} {held : Bool} {r : Reach} {b0 : Nat} {v : Value} {d : DataW H} {ps : List MemPlace}
    (hval : Value.okWide Try.prog W r b0 76 v) (hd : DataW.Trod enc Try.prog W base sp held 76 v d ps) :
    ∃ x z : Nat → Int, v = .agg (ints .u64 10 (pairF x z)) ∧ (∀ i, i < 5 → 0 ≤ x i ∧ x i ≤ 18446744073709551615) ∧ (∀ i, i < 5 → 0 ≤ z i ∧ z i ≤ 18446744073709551615) := by
  unfold Value.okWide at hval
  rw [Try.underlying76] at hval
  obtain ⟨cs, rfl, hsz, _⟩ := hval
  rw [show Try.prog.cellsOf 76 = 10 by kernel_rfl] at hsz
  obtain ⟨fuel, hf⟩ := hd
  obtain ⟨y0, y1, n, _, hl, e0, e1⟩ := trod_struct2 Try.underlying76 hf
  have hlen : cs.toList.length = 10 := by simpa using hsz
  have ec : Try.prog.cellsOf 37 = 5 := by kernel_rfl
  have E0 : DataW.trod enc Try.prog W base sp held n 37 ((cs.toList.drop 0).take (Try.prog.cellsOf 37)) = some y0 := e0
  have E1 : DataW.trod enc Try.prog W base sp held n 37 ((cs.toList.drop 5).take (Try.prog.cellsOf 37)) = some y1 := e1
  rw [ec] at E0 E1
  obtain ⟨x, hx⟩ := trod_array_ints (n := 5) (k := .u64) Try.underlying37 Try.underlying35 (by kernel_rfl) (by simp [hsz]) E0
  obtain ⟨z, hz⟩ := trod_array_ints (n := 5) (k := .u64) Try.underlying37 Try.underlying35 (by kernel_rfl) (by simp [hsz]) E1
  refine ⟨x, z, ?_, fun i hi => bounds_u64 (hx i hi).2, fun i hi => bounds_u64 (hz i hi).2⟩
  congr 1
  apply Array.ext_getElem?
  intro i
  by_cases hi : i < 10
  · rw [ints_get _ _ _ _ hi]
    unfold pairF
    by_cases h5 : i < 5
    · have h := (hx i h5).1
      rw [List.drop_zero, List.getElem?_take, if_pos h5] at h
      rw [if_pos h5]
      simpa using h
    · have h := (hz (i - 5) (by omega)).1
      rw [List.getElem?_take, if_pos (by omega), List.getElem?_drop, show 5 + (i - 5) = i by omega] at h
      rw [if_neg h5]
      simpa using h
  · rw [Array.getElem?_eq_none (by omega), Array.getElem?_eq_none (by rw [ints_size]; omega)]
end Go.Proofs.Ytfapmpnkemogkaa
