/- How an argument is opened that is a node, or a pair of keys. -/
import Derived.Test.YtonmancgalencaaGreatDoorFrame
import Derived.Test.YtonmancgalencaaGreatDoorNds
import Derived.ChangeSame
import Derived.Test.YtonmancgalencaaGreatDoorR12
import Derived.Test.YtonmancgalencaaGreatDoorRefN
import Derived.Test.YtonmancgalencaaGreatDoorL11
import Derived.Test.YtonmancgalencaaGreatDoorL12
import Derived.Test.YtonmancgalencaaGreatDoorQ9
import Derived.Test.YtonmancgalencaaGreatDoorQ11
import Derived.Test.YtonmancgalencaaGreatDoorQ12
set_option maxRecDepth 100000
set_option maxHeartbeats 4000000
namespace Go.Proofs.YtonmancgalencaaGreatDoor
open Go.ChangeShapes Go.WideShapes Go.ChangeAt Go.RowKit
set_option linter.unusedVariables false
set_option linter.unusedSimpArgs false
theorem open_kpair {H : Type} {enc : TypeId × Value → H} {W : World} {base : Nat} {sp : Nat → Bool} {held : Bool} {r : Reach} {b0 : Nat} {v : Value} {d : DataW H} {ps : List MemPlace}
  (hval : Value.okWide Tryz.prog W r b0 108 v) (hd : DataW.Trod enc Tryz.prog W base sp held 108 v d ps) :
  ∃ x z : Nat → Int, v = .agg (ints .u8 64 (keysF x z)) ∧ Bytes 32 x ∧ Bytes 32 z := by
 unfold Value.okWide at hval
 rw [Tryz.underlying108] at hval
 obtain ⟨cs, rfl, hsz, _⟩ := hval
 rw [show Tryz.prog.cellsOf 108 = 64 by kernel_rfl] at hsz
 obtain ⟨fuel, hf⟩ := hd
 obtain ⟨y0, y1, n, _, hl, e0, e1⟩ := trod_struct2 Tryz.underlying108 hf
 have hlen : cs.toList.length = 64 := by simpa using hsz
 have ec : Tryz.prog.cellsOf 24 = 32 := by kernel_rfl
 have E0 : DataW.trod enc Tryz.prog W base sp held n 24 ((cs.toList.drop 0).take (Tryz.prog.cellsOf 24)) = some y0 := e0
 have E1 : DataW.trod enc Tryz.prog W base sp held n 24 ((cs.toList.drop 32).take (Tryz.prog.cellsOf 24)) = some y1 := e1
 rw [ec] at E0 E1
 obtain ⟨x, hx⟩ := trod_array_ints (n := 32) (k := .u8) Tryz.underlying24 Tryz.underlying5 (by kernel_rfl) (by simp [hsz]) E0
 obtain ⟨z, hz⟩ := trod_array_ints (n := 32) (k := .u8) Tryz.underlying24 Tryz.underlying5 (by kernel_rfl) (by simp [hsz]) E1
 refine ⟨x, z, ?_, fun i hi => bounds_u8 (hx i hi).2, fun i hi => bounds_u8 (hz i hi).2⟩
 congr 1
 apply Array.ext_getElem?
 intro i
 by_cases hi : i < 64
 ·rw [ints_get _ _ _ _ hi]
  unfold keysF
  by_cases h5 : i < 32
  ·have h := (hx i h5).1
   rw [List.drop_zero, List.getElem?_take, if_pos h5] at h
   rw [if_pos h5]
   simpa using h
  ·have h := (hz (i - 32) (by omega)).1
   rw [List.getElem?_take, if_pos (by omega), List.getElem?_drop, show 32 + (i - 32) = i by omega] at h
   rw [if_neg h5]
   simpa using h
 ·rw [Array.getElem?_eq_none (by omega), Array.getElem?_eq_none (by rw [ints_size]; omega)]
theorem open_node {H : Type} {enc : TypeId × Value → H} {W : World} {base : Nat} {sp : Nat → Bool} {held : Bool} {r : Reach} {b0 : Nat} {v : Value} {d : DataW H} {ps : List MemPlace}
  (hval : Value.okWide Tryz.prog W r b0 106 v) (hd : DataW.Trod enc Tryz.prog W base sp held 106 v d ps) :
  ∃ a b : Int, v = .agg #[.int .i64 a, .int .i64 b] := by
 unfold Value.okWide at hval
 rw [Tryz.underlying106] at hval
 obtain ⟨cs, rfl, hsz, _⟩ := hval
 rw [show Tryz.prog.cellsOf 106 = 2 by kernel_rfl] at hsz
 obtain ⟨fuel, hf⟩ := hd
 obtain ⟨y0, y1, n, _, hl, e0, e1⟩ := trod_struct2 Tryz.underlying106 hf
 have ec : Tryz.prog.cellsOf 3 = 1 := by kernel_rfl
 have E0 : DataW.trod enc Tryz.prog W base sp held n 3 ((cs.toList.drop 0).take (Tryz.prog.cellsOf 3)) = some y0 := e0
 have E1 : DataW.trod enc Tryz.prog W base sp held n 3 ((cs.toList.drop 1).take (Tryz.prog.cellsOf 3)) = some y1 := e1
 rw [ec] at E0 E1
 obtain ⟨a, ha, -, -⟩ := DataW.trod_int Tryz.underlying3 E0
 obtain ⟨b, hb, -, -⟩ := DataW.trod_int Tryz.underlying3 E1
 obtain ⟨l⟩ := cs
 match l, hsz with
 | [u, v], _ =>
  simp at ha hb
  subst ha
  subst hb
  exact ⟨a, b, rfl⟩
end Go.Proofs.YtonmancgalencaaGreatDoor
namespace Go.Proofs.YtonmancgalencaaGreatDoor
open Go.ChangeShapes Go.WideShapes Go.ChangeAt Go.RowKit
set_option linter.unusedVariables false
set_option linter.unusedSimpArgs false
theorem open_nodeb {H : Type} {enc : TypeId × Value → H} {W : World} {base : Nat} {sp : Nat → Bool} {held : Bool} {r : Reach} {b0 : Nat} {v : Value} {d : DataW H} {ps : List MemPlace}
  (hval : Value.okWide Tryz.prog W r b0 106 v) (hd : DataW.Trod enc Tryz.prog W base sp held 106 v d ps) :
  ∃ a b : Int, v = .agg #[.int .i64 a, .int .i64 b] ∧ (Lit.int .i64 a).wf = true ∧ (Lit.int .i64 b).wf = true := by
 unfold Value.okWide at hval
 rw [Tryz.underlying106] at hval
 obtain ⟨cs, rfl, hsz, _⟩ := hval
 rw [show Tryz.prog.cellsOf 106 = 2 by kernel_rfl] at hsz
 obtain ⟨fuel, hf⟩ := hd
 obtain ⟨y0, y1, n, _, hl, e0, e1⟩ := trod_struct2 Tryz.underlying106 hf
 have ec : Tryz.prog.cellsOf 3 = 1 := by kernel_rfl
 have E0 : DataW.trod enc Tryz.prog W base sp held n 3 ((cs.toList.drop 0).take (Tryz.prog.cellsOf 3)) = some y0 := e0
 have E1 : DataW.trod enc Tryz.prog W base sp held n 3 ((cs.toList.drop 1).take (Tryz.prog.cellsOf 3)) = some y1 := e1
 rw [ec] at E0 E1
 obtain ⟨a, ha, -, wa⟩ := DataW.trod_int Tryz.underlying3 E0
 obtain ⟨b, hb, -, wb⟩ := DataW.trod_int Tryz.underlying3 E1
 obtain ⟨l⟩ := cs
 match l, hsz with
 | [u, v], _ =>
  simp at ha hb
  subst ha
  subst hb
  exact ⟨a, b, rfl, wa, wb⟩
end Go.Proofs.YtonmancgalencaaGreatDoor
namespace Go.Proofs.YtonmancgalencaaGreatDoor
open Go.RowKit
end Go.Proofs.YtonmancgalencaaGreatDoor
namespace Go.Proofs.YtonmancgalencaaGreatDoor
open Go.ChangeShapes Go.WideShapes Go.ChangeAt Go.RowKit
open Go.ChangeMaps (open_string shut_string)
set_option linter.unusedVariables false
set_option linter.unusedSimpArgs false
theorem aw9 (W : World) (h : Tabs W) : Calls Tryz.prog 162 #[] W fun e w' => e = .returned (.bool true) ∧ Below W.heap.size W w' := Awake9_any expandC W h
theorem aw10 (W : World) (h : Tabs W) : Calls Tryz.prog 145 #[] W fun e w' => e = .returned (.bool true) ∧ Below W.heap.size W w' := Awake10_any (fun W h => awake10_any nodeC leafC aw9 W h) W h
theorem aw11 (W : World) (h : Tabs W) : Calls Tryz.prog 139 #[] W fun e w' => e = .returned (.bool true) ∧ Below W.heap.size W w' := awake11_any allC aw10 W h
theorem aw12 (W : World) (h : Tabs W) : Calls Tryz.prog 116 #[] W fun e w' => e = .returned (.bool true) ∧ Below W.heap.size W w' := awake12_any climbC ofC rightC (fun W h => Awake11_any aw11 W h) W h
end Go.Proofs.YtonmancgalencaaGreatDoor
