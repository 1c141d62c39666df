/- Sa -/
import Derived.Test.YtdoolhbmekahdaaGreatDoorSi
import Derived.Test.YtdoolhbmekahdaaGreatDoorRel
import Derived.Test.YtdoolhbmekahdaaGreatDoorDh
set_option maxRecDepth 100000
set_option maxHeartbeats 4000000
namespace Go.Proofs.YtdoolhbmekahdaaGreatDoor
open Go.RowKit
set_option linter.unusedVariables false
set_option linter.unusedSimpArgs false
def oneS (a : ByteArray) : Nat → ByteArray := fun _ => a
def twoS (a b : ByteArray) : Nat → ByteArray := fun j => if j = 0 then a else b
theorem cat_one (a : ByteArray) : catS (oneS a) 1 = a := ByteArray.empty_append
theorem cat_two (a b : ByteArray) : catS (twoS a b) 2 = a ++ b := by
 show ByteArray.empty ++ a ++ b = _
 rw [ByteArray.empty_append]
theorem build1s (a : ByteArray) (W : World) : (Instr.buildSlice 29 1 #[(0, .string a)]).run Tryz.prog W = .ok (.slice (some ⟨W.heap.size, 0, none⟩) 1 1) (W.alloc (.cells #[.string a] 9)) := by kernel_rfl
theorem build2s (a b : ByteArray) (W : World) : (Instr.buildSlice 29 2 #[(0, .string a), (1, .string b)]).run Tryz.prog W = .ok (.slice (some ⟨W.heap.size, 0, none⟩) 2 2) (W.alloc (.cells #[.string a, .string b] 9)) := by kernel_rfl
def buildS1 (v : Value) : Sem Next := do pure (.value (← Instr.buildSlice 29 1 #[(0, v)]))
@[go_sem ↓ high] theorem op_buildS1 (ρ : Operand → Value) (d : Option Tmp) (x : Operand) (t : TypeId) (pos : String) (af : Array Edge) (g : Option (Nat × Bool)) :
  execOp ρ ⟨d, .buildSlice 29 1 #[(0, x)], t, pos, af, g⟩ = buildS1 (ρ x) := by
 unfold execOp buildS1
 simp
@[go_sem high] theorem op_buildS1' (ρ : Operand → Value) (d : Option Tmp) (x : Operand) (t : TypeId) (pos : String) (af : Array Edge) (g : Option (Nat × Bool)) :
  execOp ρ ⟨d, .buildSlice 29 1 #[(0, x)], t, pos, af, g⟩ = buildS1 (ρ x) := op_buildS1 ρ d x t pos af g
@[go_sem] theorem run_buildS1 (a : ByteArray) (W : World) : (buildS1 (.string a)).run Tryz.prog W = .ok (.value (.slice (some ⟨W.heap.size, 0, none⟩) 1 1)) (W.alloc (.cells #[.string a] 9)) := by
 unfold buildS1
 simp only [Sem.run_bind, build1s, Result.andThen_ok, Sem.run_pure]
def buildS2 (u v : Value) : Sem Next := do pure (.value (← Instr.buildSlice 29 2 #[(0, u), (1, v)]))
@[go_sem ↓ high] theorem op_buildS2 (ρ : Operand → Value) (d : Option Tmp) (x y : Operand) (t : TypeId) (pos : String) (af : Array Edge) (g : Option (Nat × Bool)) :
  execOp ρ ⟨d, .buildSlice 29 2 #[(0, x), (1, y)], t, pos, af, g⟩ = buildS2 (ρ x) (ρ y) := by
 unfold execOp buildS2
 simp
@[go_sem high] theorem op_buildS2' (ρ : Operand → Value) (d : Option Tmp) (x y : Operand) (t : TypeId) (pos : String) (af : Array Edge) (g : Option (Nat × Bool)) :
  execOp ρ ⟨d, .buildSlice 29 2 #[(0, x), (1, y)], t, pos, af, g⟩ = buildS2 (ρ x) (ρ y) := op_buildS2 ρ d x y t pos af g
@[go_sem] theorem run_buildS2 (a b : ByteArray) (W : World) : (buildS2 (.string a) (.string b)).run Tryz.prog W = .ok (.value (.slice (some ⟨W.heap.size, 0, none⟩) 2 2)) (W.alloc (.cells #[.string a, .string b] 9)) := by
 unfold buildS2
 simp only [Sem.run_bind, build2s, Result.andThen_ok, Sem.run_pure]
attribute [irreducible] buildS1 buildS2
theorem strs_one {W : World} {g : Nat} {a : ByteArray} {t : TypeId} {fr : Nat × Nat} (h : objAt W g = some (.cells #[.string a] t fr)) : StrsAt W (some ⟨g, 0, none⟩) 1 (oneS a) := by
 refine .inr ⟨_, rfl, fun w' hb j hj => ?_⟩
 have h' := keep_below hb h
 unfold objAt at h'
 obtain rfl : j = 0 := by omega
 have e : (⟨g, 0, none⟩ : Addr).add 0 = ⟨g, 0, none⟩ := by unfold Addr.add; split <;> simp_all
 rw [e, cell_of_row w' g _ _ _ _ h']
 rfl
theorem strs_two {W : World} {g : Nat} {a b : ByteArray} {t : TypeId} {fr : Nat × Nat} (h : objAt W g = some (.cells #[.string a, .string b] t fr)) : StrsAt W (some ⟨g, 0, none⟩) 2 (twoS a b) := by
 refine .inr ⟨_, rfl, fun w' hb j hj => ?_⟩
 have h' := keep_below hb h
 unfold objAt at h'
 have e : (⟨g, 0, none⟩ : Addr).add j = ⟨g, j, none⟩ := by unfold Addr.add; split <;> simp_all
 rw [e, cell_of_row w' g _ _ _ _ h']
 rcases (by omega : j = 0 ∨ j = 1) with rfl | rfl <;> rfl
theorem strs_none (W : World) (F : Nat → ByteArray) : StrsAt W none 0 F := .inl rfl
theorem repeat0 (z : Nat) (hz : z ≤ 140737488355328) (W : World) : Calls Tryz.prog 115 #[.string ⟨#[0]⟩, .int .i64 z] W fun e w' => e = .returned (.string (zerosB z)) ∧ Below W.heap.size W w' :=
 Tryz.strings_Repeat ⟨#[0]⟩ z W (by omega) (by show 1 * z ≤ 140737488355328; omega)
theorem sha_none : ((List.range 64).map fun i => UInt8.ofNat (hexd (shaF ByteArray.empty) i).toNat) = [101, 51, 98, 48, 99, 52, 52, 50, 57, 56, 102, 99, 49, 99, 49, 52, 57, 97, 102, 98, 102, 52, 99, 56, 57, 57, 54, 102, 98, 57, 50, 52, 50, 55, 97, 101, 52, 49, 101, 52, 54, 52, 57, 98, 57, 51, 52, 99, 97, 52, 57, 53, 57, 57, 49, 98, 55, 56, 53, 50, 98, 56, 53, 53] := by decide +kernel
def hashB (s : ByteArray) : Array Value := hashT (byteAt s) s.size
@[go_sem] theorem hashB_size (s : ByteArray) : (hashB s).size = 73 := hashT_size _ _
@[go_sem] theorem hashB_one (s : ByteArray) : oneCells (hashB s) = true := hashT_one _ _
@[go_sem] theorem hashB_zero : hashC nought nought 0 = hashB ByteArray.empty := rfl
theorem new_b (w : World) : Calls Tryz.prog 72 #[] w fun e w' => e = .returned (.agg (hashB ByteArray.empty)) ∧ Below w.heap.size w w' := sha_new w
theorem write_b (s : ByteArray) (oa : Option Addr) (n c : Nat) (F : Nat → ByteArray) (w : World) (hl : s.size + (catS F n).size < 1152921504606846976) (hn : n ≤ 9223372036854775807) (hS : StrsAt w oa n F) (hT : Tabs w) :
  Calls Tryz.prog 73 #[.agg (hashB s), .slice oa n c] w fun e w' => e = .returned (.agg (hashB (s ++ catS F n))) ∧ Below w.heap.size w w' := write_any s oa n c F w hl hn hS hT
theorem sum_b (s : ByteArray) (w : World) (hs : s.size < 1152921504606846976) (hT : Tabs w) : Calls Tryz.prog 75 #[.agg (hashB s)] w fun e w' => e = .returned (.agg (ints .u8 32 (shaF s))) ∧ Below w.heap.size w w' := sumH_any s w hs hT
attribute [irreducible] hashB
set_option maxHeartbeats 1000000 in
theorem Awake6_any (w : World) :
  Calls Tryz.prog 425 #[] w fun e w' => e = .returned (.bool true) ∧ Below w.heap.size w w' := by
 have hG := Grew.refl w
 go_enter Tryz.func425, Tryz.ntmps425
 go_wp2_with fail
 (refine (awake6_any _).mono ?_; rintro e w1 ⟨rfl, hb⟩; replace hG : Below w.heap.size w w1 := Grew.trans (by exact grew_auto) hb; clear hb)
 go_wp2
 go_ret
 exact ⟨rfl, by exact grew_auto⟩
theorem awake7_any (w : World) (hT : Tabs w) :
  Calls Tryz.prog 424 #[] w fun e w' => e = .returned (.bool true) ∧ Below w.heap.size w w' := by
 have h2 : ((strOf 64 (hexd (shaF ByteArray.empty))).toList == [101, 51, 98, 48, 99, 52, 52, 50, 57, 56, 102, 99, 49, 99, 49, 52, 57, 97, 102, 98, 102, 52, 99, 56, 57, 57, 54, 102, 98, 57, 50, 52, 50, 55, 97, 101, 52, 49, 101, 52, 54, 52, 57, 98, 57, 51, 52, 99, 97, 52, 57, 53, 57, 57, 49, 98, 55, 56, 53, 50, 98, 56, 53, 53]) = true := by
  rw [strOf_list, sha_none]
  exact beq_self_eq_true _
 have hs : Hid (∀ W : World, Below w.heap.size w W → Calls Tryz.prog 76 #[.slice none 0 0] W fun e w' => e = .returned (.agg (ints .u8 32 (shaF ByteArray.empty))) ∧ Below W.heap.size W w') := fun W hW => sumS_any none 0 0 (oneS ByteArray.empty) W (by decide) (by decide) (strs_none _ _) (hT.later hW)
 clear hT
 have hb := sha_bytes ByteArray.empty
 generalize shaF ByteArray.empty = F at *
 have hG := Grew.refl w
 go_enter Tryz.func424, Tryz.ntmps424
 go_wp2_with fail
 (refine (Awake6_any _).mono ?_; rintro e w1 ⟨rfl, hb⟩; replace hG : Below w.heap.size w w1 := Grew.trans (by exact grew_auto) hb; clear hb)
 go_wp2_with fail
 (refine (hs.out _ hG).mono ?_; rintro e w2 ⟨rfl, hb⟩; replace hG : Below w.heap.size w w2 := Grew.trans (by exact grew_auto) hb; clear hb)
 go_wp2_with fail
 (refine (hex_any F _ hb).mono ?_; rintro e w3 ⟨rfl, hb⟩; replace hG : Below w.heap.size w w3 := Grew.trans (by exact grew_auto) hb; clear hb)
 go_wp2
 go_ret
 exact ⟨rfl, by exact grew_auto⟩
set_option maxHeartbeats 1000000 in
theorem Awake7_any (w : World) (hT : Tabs w) :
  Calls Tryz.prog 423 #[] w fun e w' => e = .returned (.bool true) ∧ Below w.heap.size w w' := by
 have hG := Grew.refl w
 go_enter Tryz.func423, Tryz.ntmps423
 go_wp2_with fail
 (refine (awake7_any _ hT).mono ?_; rintro e w1 ⟨rfl, hb⟩; replace hG : Below w.heap.size w w1 := Grew.trans (by exact grew_auto) hb; clear hb)
 go_wp2
 go_ret
 exact ⟨rfl, by exact grew_auto⟩
attribute [go_sem] strOf_size zerosB_size
end Go.Proofs.YtdoolhbmekahdaaGreatDoor
