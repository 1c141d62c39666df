/- Aw -/
import Derived.Test.YtfgbpfapphofdaaGreatDoorFrame
import Derived.Test.YtfgbpfapphofdaaGreatDoorNds
import Derived.ChangeSame
import Derived.Test.YtfgbpfapphofdaaGreatDoorR12
import Derived.Test.YtfgbpfapphofdaaGreatDoorRefN
import Derived.Test.YtfgbpfapphofdaaGreatDoorL11
import Derived.Test.YtfgbpfapphofdaaGreatDoorL12
import Derived.Test.YtfgbpfapphofdaaGreatDoorQ9
import Derived.Test.YtfgbpfapphofdaaGreatDoorQ11
import Derived.Test.YtfgbpfapphofdaaGreatDoorQ12
set_option maxRecDepth 100000
set_option maxHeartbeats 4000000
namespace Go.Proofs.YtfgbpfapphofdaaGreatDoor
open Go.ChangeShapes Go.WideShapes Go.ChangeAt Go.RowKit
set_option linter.unusedVariables false
set_option linter.unusedSimpArgs false
theorem open_kpair {H : Type} {enc : TypeId × Value → H} {W : World} {base : Nat} {sp : Nat → Bool} {held : Bool} {r : Reach} {b0 : Nat} {v : Value} {d : DataW H} {ps : List MemPlace}
  (hval : Value.okWide Tryz.prog W r b0 49 v) (hd : DataW.Trod enc Tryz.prog W base sp held 49 v d ps) :
  ∃ x z : Nat → Int, v = .agg (ints .u8 64 (keysF x z)) ∧ Bytes 32 x ∧ Bytes 32 z := by
 unfold Value.okWide at hval
 rw [Tryz.underlying49] at hval
 obtain ⟨cs, rfl, hsz, _⟩ := hval
 rw [show Tryz.prog.cellsOf 49 = 64 by kernel_rfl] at hsz
 obtain ⟨fuel, hf⟩ := hd
 obtain ⟨y0, y1, n, _, hl, e0, e1⟩ := trod_struct2 Tryz.underlying49 hf
 have hlen : cs.toList.length = 64 := by simpa using hsz
 have ec : Tryz.prog.cellsOf 47 = 32 := by kernel_rfl
 have E0 : DataW.trod enc Tryz.prog W base sp held n 47 ((cs.toList.drop 0).take (Tryz.prog.cellsOf 47)) = some y0 := e0
 have E1 : DataW.trod enc Tryz.prog W base sp held n 47 ((cs.toList.drop 32).take (Tryz.prog.cellsOf 47)) = some y1 := e1
 rw [ec] at E0 E1
 obtain ⟨x, hx⟩ := trod_array_ints (n := 32) (k := .u8) Tryz.underlying47 Tryz.underlying5 (by kernel_rfl) (by simp [hsz]) E0
 obtain ⟨z, hz⟩ := trod_array_ints (n := 32) (k := .u8) Tryz.underlying47 Tryz.underlying5 (by kernel_rfl) (by simp [hsz]) E1
 refine ⟨x, z, ?_, fun i hi => bounds_u8 (hx i hi).2, fun i hi => bounds_u8 (hz i hi).2⟩
 congr 1
 apply Array.ext_getElem?
 intro i
 by_cases hi : i < 64
 ·rw [ints_get _ _ _ _ hi]
  unfold keysF
  by_cases h5 : i < 32
  ·have h := (hx i h5).1
   rw [List.drop_zero, List.getElem?_take, if_pos h5] at h
   rw [if_pos h5]
   simpa using h
  ·have h := (hz (i - 32) (by omega)).1
   rw [List.getElem?_take, if_pos (by omega), List.getElem?_drop, show 32 + (i - 32) = i by omega] at h
   rw [if_neg h5]
   simpa using h
 ·rw [Array.getElem?_eq_none (by omega), Array.getElem?_eq_none (by rw [ints_size]; omega)]
theorem open_node {H : Type} {enc : TypeId × Value → H} {W : World} {base : Nat} {sp : Nat → Bool} {held : Bool} {r : Reach} {b0 : Nat} {v : Value} {d : DataW H} {ps : List MemPlace}
  (hval : Value.okWide Tryz.prog W r b0 23 v) (hd : DataW.Trod enc Tryz.prog W base sp held 23 v d ps) :
  ∃ a b : Int, v = .agg #[.int .i64 a, .int .i64 b] := by
 unfold Value.okWide at hval
 rw [Tryz.underlying23] at hval
 obtain ⟨cs, rfl, hsz, _⟩ := hval
 rw [show Tryz.prog.cellsOf 23 = 2 by kernel_rfl] at hsz
 obtain ⟨fuel, hf⟩ := hd
 obtain ⟨y0, y1, n, _, hl, e0, e1⟩ := trod_struct2 Tryz.underlying23 hf
 have ec : Tryz.prog.cellsOf 3 = 1 := by kernel_rfl
 have E0 : DataW.trod enc Tryz.prog W base sp held n 3 ((cs.toList.drop 0).take (Tryz.prog.cellsOf 3)) = some y0 := e0
 have E1 : DataW.trod enc Tryz.prog W base sp held n 3 ((cs.toList.drop 1).take (Tryz.prog.cellsOf 3)) = some y1 := e1
 rw [ec] at E0 E1
 obtain ⟨a, ha, -, -⟩ := DataW.trod_int Tryz.underlying3 E0
 obtain ⟨b, hb, -, -⟩ := DataW.trod_int Tryz.underlying3 E1
 obtain ⟨l⟩ := cs
 match l, hsz with
 | [u, v], _ =>
  simp at ha hb
  subst ha
  subst hb
  exact ⟨a, b, rfl⟩
end Go.Proofs.YtfgbpfapphofdaaGreatDoor
namespace Go.Proofs.YtfgbpfapphofdaaGreatDoor
open Go.RowKit
theorem rsharedC : RSharedC := fun k p W hk hp => rshared_any k p W hk hp rfl
theorem rbaseC : RBaseC := fun k W hk => rbase_any k W hk
end Go.Proofs.YtfgbpfapphofdaaGreatDoor
namespace Go.Proofs.YtfgbpfapphofdaaGreatDoor
open Go.ChangeShapes Go.WideShapes Go.ChangeAt Go.RowKit
open Go.ChangeMaps (open_string shut_string)
set_option linter.unusedVariables false
set_option linter.unusedSimpArgs false
theorem aw9 (W : World) (h : Tabs W) : Calls Tryz.prog 67 #[] W fun e w' => e = .returned (.bool true) ∧ Below W.heap.size W w' := Awake9_any expandC W h
theorem aw10 (W : World) (h : Tabs W) : Calls Tryz.prog 36 #[] W fun e w' => e = .returned (.bool true) ∧ Below W.heap.size W w' := Awake10_any (fun W h => awake10_any nodeC leafC aw9 W h) W h
theorem aw11 (W : World) (h : Tabs W) : Calls Tryz.prog 8 #[] W fun e w' => e = .returned (.bool true) ∧ Below W.heap.size W w' := awake11_any allC aw10 W h
theorem aw12 (W : World) (h : Tabs W) : Calls Tryz.prog 26 #[] W fun e w' => e = .returned (.bool true) ∧ Below W.heap.size W w' := awake12_any climbC ofC rightC (fun W h => Awake11_any aw11 W h) W h
end Go.Proofs.YtfgbpfapphofdaaGreatDoor
