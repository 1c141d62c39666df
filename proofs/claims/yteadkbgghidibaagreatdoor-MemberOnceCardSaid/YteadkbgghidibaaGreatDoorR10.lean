/- R10 -/
import Derived.Test.YteadkbgghidibaaGreatDoorR9
import Derived.Test.YteadkbgghidibaaGreatDoorMa
set_option maxRecDepth 100000
set_option maxHeartbeats 4000000
namespace Go.Proofs.YteadkbgghidibaaGreatDoor
open Go.RowKit
set_option linter.unusedVariables false
set_option linter.unusedSimpArgs false
attribute [local irreducible] strOf shaF zerosB padB fullB hashT
attribute [local irreducible] macF
def nodeF (z : Nat → Int) : Nat → Int := labelF ⟨#[115, 97, 112, 119, 111, 111, 100, 32, 110, 111, 100, 101]⟩ (strOf 32 z) ByteArray.empty
def leafF (z : Nat → Int) : Nat → Int := labelF ⟨#[115, 97, 112, 119, 111, 111, 100, 32, 108, 101, 97, 102]⟩ (strOf 32 z) ByteArray.empty
def tagF (z : Nat → Int) : Nat → Int := labelF ⟨#[115, 97, 112, 119, 111, 111, 100, 32, 116, 97, 103]⟩ (strOf 32 z) ByteArray.empty
def stageF (o t p : Nat → Int) : Nat → Int := labelF ⟨#[115, 97, 112, 119, 111, 111, 100, 32, 115, 116, 97, 103, 101]⟩ (strOf 32 o ++ strOf 32 t) (strOf 32 p)
def pastF (o : Nat → Int) (m : ByteArray) : Nat → Int := shaF (strOf 32 o ++ m)
end Go.Proofs.YteadkbgghidibaaGreatDoor
namespace Go.Proofs.YteadkbgghidibaaGreatDoor
open Go.RowKit
set_option linter.unusedVariables false
set_option linter.unusedSimpArgs false
theorem node_leaf : same 32 (nodeF (upd nought 0 1)) (leafF (upd nought 0 1)) = false := by
 have h : (nodeF (upd nought 0 1) 0 == leafF (upd nought 0 1) 0) = false := by decide +kernel
 cases e : same 32 (nodeF (upd nought 0 1)) (leafF (upd nought 0 1)) with
 | false => rfl
 | true =>
  have := (same_iff _ _ _).1 e 0 (by decide)
  rw [this] at h
  simp at h
attribute [local irreducible] strOf shaF zerosB padB fullB hashT
attribute [local irreducible] macF
attribute [local irreducible] labelF oneF nodeF leafF tagF stageF pastF
def NodeC : Prop := ∀ (z : Nat → Int) (W : World), Bytes 32 z → Tabs W → Calls Tryz.prog 176 #[.agg (ints .u8 32 z)] W fun e w' => e = .returned (.agg (ints .u8 32 (nodeF z))) ∧ Below W.heap.size W w'
def LeafC : Prop := ∀ (z : Nat → Int) (W : World), Bytes 32 z → Tabs W → Calls Tryz.prog 79 #[.agg (ints .u8 32 z)] W fun e w' => e = .returned (.agg (ints .u8 32 (leafF z))) ∧ Below W.heap.size W w'
def TagC : Prop := ∀ (z : Nat → Int) (W : World), Bytes 32 z → Tabs W → Calls Tryz.prog 149 #[.agg (ints .u8 32 z)] W fun e w' => e = .returned (.agg (ints .u8 32 (tagF z))) ∧ Below W.heap.size W w'
def StageC : Prop := ∀ (o t p : Nat → Int) (W : World), Bytes 32 o → Bytes 32 t → Bytes 32 p → Tabs W → Calls Tryz.prog 148 #[.agg (ints .u8 32 o), .agg (ints .u8 32 t), .agg (ints .u8 32 p)] W fun e w' => e = .returned (.agg (ints .u8 32 (stageF o t p))) ∧ Below W.heap.size W w'
def PastC : Prop := ∀ (o : Nat → Int) (m : ByteArray) (W : World), Bytes 32 o → m.size ≤ 100000 → Tabs W → Calls Tryz.prog 147 #[.agg (ints .u8 32 o), .string m] W fun e w' => e = .returned (.agg (ints .u8 32 (pastF o m))) ∧ Below W.heap.size W w'
def oneKeyNext (v : Value) : Sem Next := do pure (.value (← Instr.build 23 #[(0, v)]))
@[go_sem ↓ high] theorem op_oneKey (ρ : Operand → Value) (dd : Option Tmp) (x : Operand) (t : TypeId) (pos : String) (af : Array Edge) (gg : Option (Nat × Bool)) :
  execOp ρ ⟨dd, .build 23 #[(0, x)], t, pos, af, gg⟩ = oneKeyNext (ρ x) := by simp [execOp, oneKeyNext]
@[go_sem high] theorem op_oneKey' (ρ : Operand → Value) (dd : Option Tmp) (x : Operand) (t : TypeId) (pos : String) (af : Array Edge) (gg : Option (Nat × Bool)) :
  execOp ρ ⟨dd, .build 23 #[(0, x)], t, pos, af, gg⟩ = oneKeyNext (ρ x) := by simp [execOp, oneKeyNext]
@[go_sem] theorem one_key1 (w : World) : (oneKeyNext (.int .u8 1)).run Tryz.prog w = .ok (.value (.agg (ints .u8 32 (upd nought 0 1)))) w := by kernel_rfl
attribute [irreducible] oneKeyNext
theorem awake10_walk (z M L : Nat → Int) (w : World) (hT : Tabs w) (hz : z = upd nought 0 1) (hs : same 32 M L = false) (c1 : ∀ W : World, Tabs W → Calls Tryz.prog 176 #[.agg (ints .u8 32 z)] W fun e w' => e = .returned (.agg (ints .u8 32 M)) ∧ Below W.heap.size W w') (c2 : ∀ W : World, Tabs W → Calls Tryz.prog 79 #[.agg (ints .u8 32 z)] W fun e w' => e = .returned (.agg (ints .u8 32 L)) ∧ Below W.heap.size W w') (aw : ∀ W : World, Tabs W → Calls Tryz.prog 268 #[] W fun e w' => e = .returned (.bool true) ∧ Below W.heap.size W w') :
  Calls Tryz.prog 267 #[] w fun e w' => e = .returned (.bool true) ∧ Below w.heap.size w w' := by
 subst hz
 have hTT : Hid (Tabs w) := hT
 clear hT
 have hG := Grew.refl w
 go_enter Tryz.func267, Tryz.ntmps267
 go_wp2_with fail
 (refine (aw _ (hTT.out.later hG)).mono ?_; rintro e w1 ⟨rfl, hb⟩; replace hG : Below w.heap.size w w1 := Grew.trans (by exact grew_auto) hb; clear hb)
 go_wp2_with fail
 (refine (c1 _ (hTT.out.later hG)).mono ?_; rintro e w2 ⟨rfl, hb⟩; replace hG : Below w.heap.size w w2 := Grew.trans (by exact grew_auto) hb; clear hb)
 go_wp2_with fail
 (refine (c2 _ (hTT.out.later hG)).mono ?_; rintro e w3 ⟨rfl, hb⟩; replace hG : Below w.heap.size w w3 := Grew.trans (by exact grew_auto) hb; clear hb)
 go_wp2
 go_ret
 exact ⟨rfl, by exact grew_auto⟩
theorem awake10_any (hN : NodeC) (hL : LeafC) (aw : ∀ W : World, Tabs W → Calls Tryz.prog 268 #[] W fun e w' => e = .returned (.bool true) ∧ Below W.heap.size W w') (w : World) (hT : Tabs w) :
  Calls Tryz.prog 267 #[] w fun e w' => e = .returned (.bool true) ∧ Below w.heap.size w w' := awake10_walk _ _ _ w hT rfl node_leaf (fun W h => hN _ W (fun i hi => by unfold upd nought; split <;> omega) h) (fun W h => hL _ W (fun i hi => by unfold upd nought; split <;> omega) h) aw
attribute [local irreducible] catS
end Go.Proofs.YteadkbgghidibaaGreatDoor
