/- L10: L10 -/
import Derived.Test.YtomoccbljclhlaaGreatDoorR10
import Derived.Test.YtomoccbljclhlaaGreatDoorMa
import Derived.Test.YtomoccbljclhlaaGreatDoorJn
namespace Go.Proofs.YtomoccbljclhlaaGreatDoor
open Go.RowKit
set_option linter.unusedVariables false
set_option linter.unusedSimpArgs false
theorem node_leaf : same 32 (nodeF (upd nought 0 1)) (leafF (upd nought 0 1)) = false := by
  have h : (nodeF (upd nought 0 1) 0 == leafF (upd nought 0 1) 0) = false := by decide +kernel
  cases e : same 32 (nodeF (upd nought 0 1)) (leafF (upd nought 0 1)) with
  | false => rfl
  | true =>
    have := (same_iff _ _ _).1 e 0 (by decide)
    rw [this] at h
    simp at h
attribute [local irreducible] strOf shaF zerosB padB fullB hashT
attribute [local irreducible] macF
attribute [local irreducible] labelF oneF nodeF leafF tagF stageF pastF
def NodeC : Prop := ∀ (z : Nat → Int) (W : World), Bytes 32 z → Tabs W → Calls Tryz.prog 6 #[.agg (ints .u8 32 z)] W fun e w' => e = .returned (.agg (ints .u8 32 (nodeF z))) ∧ Below W.heap.size W w'
def LeafC : Prop := ∀ (z : Nat → Int) (W : World), Bytes 32 z → Tabs W → Calls Tryz.prog 8 #[.agg (ints .u8 32 z)] W fun e w' => e = .returned (.agg (ints .u8 32 (leafF z))) ∧ Below W.heap.size W w'
def TagC : Prop := ∀ (z : Nat → Int) (W : World), Bytes 32 z → Tabs W → Calls Tryz.prog 12 #[.agg (ints .u8 32 z)] W fun e w' => e = .returned (.agg (ints .u8 32 (tagF z))) ∧ Below W.heap.size W w'
def StageC : Prop := ∀ (o t p : Nat → Int) (W : World), Bytes 32 o → Bytes 32 t → Bytes 32 p → Tabs W → Calls Tryz.prog 10 #[.agg (ints .u8 32 o), .agg (ints .u8 32 t), .agg (ints .u8 32 p)] W fun e w' => e = .returned (.agg (ints .u8 32 (stageF o t p))) ∧ Below W.heap.size W w'
def PastC : Prop := ∀ (o : Nat → Int) (m : ByteArray) (W : World), Bytes 32 o → m.size ≤ 100000 → Tabs W → Calls Tryz.prog 14 #[.agg (ints .u8 32 o), .string m] W fun e w' => e = .returned (.agg (ints .u8 32 (pastF o m))) ∧ Below W.heap.size W w'
def LabelC : Prop := ∀ (name secret : ByteArray) (oa : Option Addr) (n c : Nat) (F : Nat → ByteArray) (W : World), name.size ≤ 100000 → secret.size ≤ 100000 → (catS F n).size ≤ 100000 → n ≤ 100000 → n ≤ c → StrsAt W oa n F → Tabs W → Calls Tryz.prog 17 #[.string name, .string secret, .slice oa n c] W fun e w' => e = .returned (.agg (ints .u8 32 (labelF name secret (catS F n)))) ∧ Below W.heap.size W w'
def oneKeyNext (v : Value) : Sem Next := do pure (.value (← Instr.build 23 #[(0, v)]))
@[go_sem ↓ high] theorem op_oneKey (ρ : Operand → Value) (dd : Option Tmp) (x : Operand) (t : TypeId) (pos : String) (af : Array Edge) (gg : Option (Nat × Bool)) :
    execOp ρ ⟨dd, .build 23 #[(0, x)], t, pos, af, gg⟩ = oneKeyNext (ρ x) := by simp [execOp, oneKeyNext]
@[go_sem high] theorem op_oneKey' (ρ : Operand → Value) (dd : Option Tmp) (x : Operand) (t : TypeId) (pos : String) (af : Array Edge) (gg : Option (Nat × Bool)) :
    execOp ρ ⟨dd, .build 23 #[(0, x)], t, pos, af, gg⟩ = oneKeyNext (ρ x) := by simp [execOp, oneKeyNext]
@[go_sem] theorem one_key1 (w : World) : (oneKeyNext (.int .u8 1)).run Tryz.prog w = .ok (.value (.agg (ints .u8 32 (upd nought 0 1)))) w := by kernel_rfl
attribute [irreducible] oneKeyNext
set_option maxRecDepth 100000 in
set_option maxHeartbeats 4000000 in
theorem awake10_walk (z M L : Nat → Int) (w : World) (hT : Tabs w) (hz : z = upd nought 0 1) (hs : same 32 M L = false) (c1 : ∀ W : World, Tabs W → Calls Tryz.prog 6 #[.agg (ints .u8 32 z)] W fun e w' => e = .returned (.agg (ints .u8 32 M)) ∧ Below W.heap.size W w') (c2 : ∀ W : World, Tabs W → Calls Tryz.prog 8 #[.agg (ints .u8 32 z)] W fun e w' => e = .returned (.agg (ints .u8 32 L)) ∧ Below W.heap.size W w') (aw : ∀ W : World, Tabs W → Calls Tryz.prog 19 #[] W fun e w' => e = .returned (.bool true) ∧ Below W.heap.size W w') :
    Calls Tryz.prog 5 #[] w fun e w' => e = .returned (.bool true) ∧ Below w.heap.size w w' := by
  subst hz
  have hTT : Hid (Tabs w) := hT
  clear hT
  have hG := Grew.refl w
  go_enter Tryz.func5, Tryz.ntmps5
  go_wp2_with fail
  (refine (aw _ (hTT.out.later hG)).mono ?_; rintro e w1 ⟨rfl, hb⟩; replace hG : Below w.heap.size w w1 := Grew.trans (by (repeat (first | assumption | exact Grew.refl _ | refine Grew.more ?_ _ | refine Grew.alloc ?_ _ | refine Grew.drewN ?_ _ | refine Grew.setRow ?_ _ _ (by omega) | refine Grew.setRow ?_ _ _ (by simp; omega) | refine Grew.setRow ?_ _ _ (by simp)))) hb; clear hb)
  go_wp2_with fail
  (refine (c1 _ (hTT.out.later hG)).mono ?_; rintro e w2 ⟨rfl, hb⟩; replace hG : Below w.heap.size w w2 := Grew.trans (by (repeat (first | assumption | exact Grew.refl _ | refine Grew.more ?_ _ | refine Grew.alloc ?_ _ | refine Grew.drewN ?_ _ | refine Grew.setRow ?_ _ _ (by omega) | refine Grew.setRow ?_ _ _ (by simp; omega) | refine Grew.setRow ?_ _ _ (by simp)))) hb; clear hb)
  go_wp2_with fail
  (refine (c2 _ (hTT.out.later hG)).mono ?_; rintro e w3 ⟨rfl, hb⟩; replace hG : Below w.heap.size w w3 := Grew.trans (by (repeat (first | assumption | exact Grew.refl _ | refine Grew.more ?_ _ | refine Grew.alloc ?_ _ | refine Grew.drewN ?_ _ | refine Grew.setRow ?_ _ _ (by omega) | refine Grew.setRow ?_ _ _ (by simp; omega) | refine Grew.setRow ?_ _ _ (by simp)))) hb; clear hb)
  go_wp2
  go_ret
  exact ⟨rfl, by (repeat (first | assumption | exact Grew.refl _ | refine Grew.more ?_ _ | refine Grew.alloc ?_ _ | refine Grew.drewN ?_ _ | refine Grew.setRow ?_ _ _ (by omega) | refine Grew.setRow ?_ _ _ (by simp; omega) | refine Grew.setRow ?_ _ _ (by simp)))⟩
theorem awake10_any (hN : NodeC) (hL : LeafC) (aw : ∀ W : World, Tabs W → Calls Tryz.prog 19 #[] W fun e w' => e = .returned (.bool true) ∧ Below W.heap.size W w') (w : World) (hT : Tabs w) :
    Calls Tryz.prog 5 #[] w fun e w' => e = .returned (.bool true) ∧ Below w.heap.size w w' := awake10_walk _ _ _ w hT rfl node_leaf (fun W h => hN _ W (fun i hi => by unfold upd nought; split <;> omega) h) (fun W h => hL _ W (fun i hi => by unfold upd nought; split <;> omega) h) aw
set_option maxRecDepth 100000 in
set_option maxHeartbeats 4000000 in
theorem makes10_walk (a b c N1 L1 G1 S1 P1 : Nat → Int) (m : ByteArray) (w : World) (hT : Tabs w) (hm1 : m.size ≤ 1000)
    (pNode : ∀ W : World, Tabs W → Calls Tryz.prog 6 #[.agg (ints .u8 32 a)] W fun e w' => e = .returned (.agg (ints .u8 32 N1)) ∧ Below W.heap.size W w')
    (rNode : ∀ W : World, Calls Tryz.prog 7 #[.agg (ints .u8 32 a)] W fun e w' => e = .returned (.agg (ints .u8 32 N1)) ∧ Below W.heap.size W w')
    (pLeaf : ∀ W : World, Tabs W → Calls Tryz.prog 8 #[.agg (ints .u8 32 a)] W fun e w' => e = .returned (.agg (ints .u8 32 L1)) ∧ Below W.heap.size W w')
    (rLeaf : ∀ W : World, Calls Tryz.prog 9 #[.agg (ints .u8 32 a)] W fun e w' => e = .returned (.agg (ints .u8 32 L1)) ∧ Below W.heap.size W w')
    (pTag : ∀ W : World, Tabs W → Calls Tryz.prog 12 #[.agg (ints .u8 32 a)] W fun e w' => e = .returned (.agg (ints .u8 32 G1)) ∧ Below W.heap.size W w')
    (rTag : ∀ W : World, Calls Tryz.prog 13 #[.agg (ints .u8 32 a)] W fun e w' => e = .returned (.agg (ints .u8 32 G1)) ∧ Below W.heap.size W w')
    (pStage : ∀ W : World, Tabs W → Calls Tryz.prog 10 #[.agg (ints .u8 32 a), .agg (ints .u8 32 b), .agg (ints .u8 32 c)] W fun e w' => e = .returned (.agg (ints .u8 32 S1)) ∧ Below W.heap.size W w')
    (rStage : ∀ W : World, Calls Tryz.prog 11 #[.agg (ints .u8 32 a), .agg (ints .u8 32 b), .agg (ints .u8 32 c)] W fun e w' => e = .returned (.agg (ints .u8 32 S1)) ∧ Below W.heap.size W w')
    (pPast : ∀ W : World, Tabs W → Calls Tryz.prog 14 #[.agg (ints .u8 32 a), .string m] W fun e w' => e = .returned (.agg (ints .u8 32 P1)) ∧ Below W.heap.size W w')
    (rPast : ∀ W : World, Calls Tryz.prog 15 #[.agg (ints .u8 32 a), .string m] W fun e w' => e = .returned (.agg (ints .u8 32 P1)) ∧ Below W.heap.size W w')
    (aw : ∀ W : World, Tabs W → Calls Tryz.prog 5 #[] W fun e w' => e = .returned (.bool true) ∧ Below W.heap.size W w') :
    Calls Tryz.prog 3 #[.agg (ints .u8 32 a), .agg (ints .u8 32 b), .agg (ints .u8 32 c), .string m] w fun e w' => e = .returned (.bool true) ∧ Below w.heap.size w w' := by
  have hTT : Hid (Tabs w) := hT
  clear hT
  have hN1 := same_refl 32 N1
  have hL1 := same_refl 32 L1
  have hG1 := same_refl 32 G1
  have hS1 := same_refl 32 S1
  have hP1 := same_refl 32 P1
  have hG := Grew.refl w
  have fa : True := trivial
  have fb : True := trivial
  have fc : True := trivial
  go_enter Tryz.func3, Tryz.ntmps3
  go_wp2_with fail
  replace fa : objAt (((w.alloc (.cells (ints .u8 32 (a)) 23)).alloc (.cells (ints .u8 32 (b)) 23)).alloc (.cells (ints .u8 32 (c)) 23)) (w.heap.size) = some (.cells (ints .u8 32 (a)) 23) := by (repeat (first | assumption | exact objAt_alloc_at _ _ _ rfl | (refine objAt_alloc_at _ _ _ ?_; (simp; done)) | refine keep_alloc _ ?_ | refine keep_drewN _ ?_ | refine keep_more _ ?_ | exact keep_row _ (by assumption) | apply keep_row | refine keep_setRow _ _ ?_ (by first | omega | (simp; omega) | simp)))
  replace fb : objAt (((w.alloc (.cells (ints .u8 32 (a)) 23)).alloc (.cells (ints .u8 32 (b)) 23)).alloc (.cells (ints .u8 32 (c)) 23)) (w.heap.size + 1) = some (.cells (ints .u8 32 (b)) 23) := by (repeat (first | assumption | exact objAt_alloc_at _ _ _ rfl | (refine objAt_alloc_at _ _ _ ?_; (simp; done)) | refine keep_alloc _ ?_ | refine keep_drewN _ ?_ | refine keep_more _ ?_ | exact keep_row _ (by assumption) | apply keep_row | refine keep_setRow _ _ ?_ (by first | omega | (simp; omega) | simp)))
  replace fc : objAt (((w.alloc (.cells (ints .u8 32 (a)) 23)).alloc (.cells (ints .u8 32 (b)) 23)).alloc (.cells (ints .u8 32 (c)) 23)) (w.heap.size + 1 + 1) = some (.cells (ints .u8 32 (c)) 23) := by (repeat (first | assumption | exact objAt_alloc_at _ _ _ rfl | (refine objAt_alloc_at _ _ _ ?_; (simp; done)) | refine keep_alloc _ ?_ | refine keep_drewN _ ?_ | refine keep_more _ ?_ | exact keep_row _ (by assumption) | apply keep_row | refine keep_setRow _ _ ?_ (by first | omega | (simp; omega) | simp)))
  replace hG : Below w.heap.size w (((w.alloc (.cells (ints .u8 32 (a)) 23)).alloc (.cells (ints .u8 32 (b)) 23)).alloc (.cells (ints .u8 32 (c)) 23)) := by (repeat (first | assumption | exact Grew.refl _ | refine Grew.more ?_ _ | refine Grew.alloc ?_ _ | refine Grew.drewN ?_ _ | refine Grew.setRow ?_ _ _ (by omega) | refine Grew.setRow ?_ _ _ (by simp; omega) | refine Grew.setRow ?_ _ _ (by simp)))
  generalize ((w.alloc (.cells (ints .u8 32 (a)) 23)).alloc (.cells (ints .u8 32 (b)) 23)).alloc (.cells (ints .u8 32 (c)) 23) = w1 at *
  have lfa := lt_of_objAt fa
  have lfb := lt_of_objAt fb
  have lfc := lt_of_objAt fc
  go_wp2_with fail
  (refine (aw _ (hTT.out.later hG)).mono ?_; rintro e w2 ⟨rfl, hb⟩; replace fa : objAt w2 (w.heap.size) = some (.cells (ints .u8 32 (a)) 23) := keep_below hb (by (repeat (first | assumption | exact objAt_alloc_at _ _ _ rfl | (refine objAt_alloc_at _ _ _ ?_; (simp; done)) | refine keep_alloc _ ?_ | refine keep_drewN _ ?_ | refine keep_more _ ?_ | exact keep_row _ (by assumption) | apply keep_row | refine keep_setRow _ _ ?_ (by first | omega | (simp; omega) | simp)))); have lfa := lt_of_objAt fa; replace fb : objAt w2 (w.heap.size + 1) = some (.cells (ints .u8 32 (b)) 23) := keep_below hb (by (repeat (first | assumption | exact objAt_alloc_at _ _ _ rfl | (refine objAt_alloc_at _ _ _ ?_; (simp; done)) | refine keep_alloc _ ?_ | refine keep_drewN _ ?_ | refine keep_more _ ?_ | exact keep_row _ (by assumption) | apply keep_row | refine keep_setRow _ _ ?_ (by first | omega | (simp; omega) | simp)))); have lfb := lt_of_objAt fb; replace fc : objAt w2 (w.heap.size + 1 + 1) = some (.cells (ints .u8 32 (c)) 23) := keep_below hb (by (repeat (first | assumption | exact objAt_alloc_at _ _ _ rfl | (refine objAt_alloc_at _ _ _ ?_; (simp; done)) | refine keep_alloc _ ?_ | refine keep_drewN _ ?_ | refine keep_more _ ?_ | exact keep_row _ (by assumption) | apply keep_row | refine keep_setRow _ _ ?_ (by first | omega | (simp; omega) | simp)))); have lfc := lt_of_objAt fc; replace hG : Below w.heap.size w w2 := Grew.trans (by (repeat (first | assumption | exact Grew.refl _ | refine Grew.more ?_ _ | refine Grew.alloc ?_ _ | refine Grew.drewN ?_ _ | refine Grew.setRow ?_ _ _ (by omega) | refine Grew.setRow ?_ _ _ (by simp; omega) | refine Grew.setRow ?_ _ _ (by simp)))) hb; clear hb)
  have qNode := fun q => pNode (more w2 q) (hTT.out.later (Grew.more hG q))
  have qLeaf := fun q => pLeaf (more w2 q) (hTT.out.later (Grew.more hG q))
  have qTag := fun q => pTag (more w2 q) (hTT.out.later (Grew.more hG q))
  have qStage := fun q => pStage (more w2 q) (hTT.out.later (Grew.more hG q))
  have qPast := fun q => pPast (more w2 q) (hTT.out.later (Grew.more hG q))
  clear pNode pLeaf pTag pStage pPast
  go_wp2_with fail
  ((first | (with_reducible refine wp_region_on (by kernel_rfl) (by kernel_rfl) ?_) | refine wp_region_more (by kernel_rfl) (by kernel_rfl) ?_); (repeat (first | go_big_quiet_skip | (go_big_quiet_want; go_big_quiet_op; first | go_big_quiet_on | (apply Exists.intro; refine ⟨fun _ => ?_, ?_⟩; (focus (first | (with_reducible exact Calls.of_more (qNode _)) | (with_reducible exact Calls.of_more (rNode _)) | (with_reducible exact Calls.of_more (qLeaf _)) | (with_reducible exact Calls.of_more (rLeaf _)) | (with_reducible exact Calls.of_more (qTag _)) | (with_reducible exact Calls.of_more (rTag _)) | (with_reducible exact Calls.of_more (qStage _)) | (with_reducible exact Calls.of_more (rStage _)) | (with_reducible exact Calls.of_more (qPast _)) | (with_reducible exact Calls.of_more (rPast _)))); go_big_quiet_on)))); refine wpQuiet_nil ?_; rintro _ ⟨mq, rfl⟩)
  go_wp2
  go_ret
  exact ⟨rfl, by (repeat (first | assumption | exact Grew.refl _ | refine Grew.more ?_ _ | refine Grew.alloc ?_ _ | refine Grew.drewN ?_ _ | refine Grew.setRow ?_ _ _ (by omega) | refine Grew.setRow ?_ _ _ (by simp; omega) | refine Grew.setRow ?_ _ _ (by simp)))⟩
set_option maxRecDepth 100000 in
set_option maxHeartbeats 4000000 in
theorem makes10_any (hN : NodeC) (hL : LeafC) (hG : TagC) (hS : StageC) (hP : PastC) (aw9 : ∀ W : World, Tabs W → Calls Tryz.prog 19 #[] W fun e w' => e = .returned (.bool true) ∧ Below W.heap.size W w') (a b c : Nat → Int) (m : ByteArray) (w : World) (ha : Bytes 32 a) (hb : Bytes 32 b) (hc : Bytes 32 c) (h1 : m.size ≤ 9223372036854775807) (hT : Tabs w) :
    Calls Tryz.prog 3 #[.agg (ints .u8 32 a), .agg (ints .u8 32 b), .agg (ints .u8 32 c), .string m] w fun e w' => e = .returned (.bool true) ∧ Below w.heap.size w w' := by
  have hTT : Hid (Tabs w) := hT
  have aw := fun (W : World) (h : Tabs W) => awake10_any hN hL aw9 W h
  by_cases hm1 : m.size ≤ 1000
  case neg =>
    have hm2 : 1000 < m.size := by omega
    clear hG
    have hG := Grew.refl w
    have fa : True := trivial
    have fb : True := trivial
    have fc : True := trivial
    go_enter Tryz.func3, Tryz.ntmps3
    go_wp2_with fail
    replace fa : objAt (((w.alloc (.cells (ints .u8 32 (a)) 23)).alloc (.cells (ints .u8 32 (b)) 23)).alloc (.cells (ints .u8 32 (c)) 23)) (w.heap.size) = some (.cells (ints .u8 32 (a)) 23) := by (repeat (first | assumption | exact objAt_alloc_at _ _ _ rfl | (refine objAt_alloc_at _ _ _ ?_; (simp; done)) | refine keep_alloc _ ?_ | refine keep_drewN _ ?_ | refine keep_more _ ?_ | exact keep_row _ (by assumption) | apply keep_row | refine keep_setRow _ _ ?_ (by first | omega | (simp; omega) | simp)))
    replace fb : objAt (((w.alloc (.cells (ints .u8 32 (a)) 23)).alloc (.cells (ints .u8 32 (b)) 23)).alloc (.cells (ints .u8 32 (c)) 23)) (w.heap.size + 1) = some (.cells (ints .u8 32 (b)) 23) := by (repeat (first | assumption | exact objAt_alloc_at _ _ _ rfl | (refine objAt_alloc_at _ _ _ ?_; (simp; done)) | refine keep_alloc _ ?_ | refine keep_drewN _ ?_ | refine keep_more _ ?_ | exact keep_row _ (by assumption) | apply keep_row | refine keep_setRow _ _ ?_ (by first | omega | (simp; omega) | simp)))
    replace fc : objAt (((w.alloc (.cells (ints .u8 32 (a)) 23)).alloc (.cells (ints .u8 32 (b)) 23)).alloc (.cells (ints .u8 32 (c)) 23)) (w.heap.size + 1 + 1) = some (.cells (ints .u8 32 (c)) 23) := by (repeat (first | assumption | exact objAt_alloc_at _ _ _ rfl | (refine objAt_alloc_at _ _ _ ?_; (simp; done)) | refine keep_alloc _ ?_ | refine keep_drewN _ ?_ | refine keep_more _ ?_ | exact keep_row _ (by assumption) | apply keep_row | refine keep_setRow _ _ ?_ (by first | omega | (simp; omega) | simp)))
    replace hG : Below w.heap.size w (((w.alloc (.cells (ints .u8 32 (a)) 23)).alloc (.cells (ints .u8 32 (b)) 23)).alloc (.cells (ints .u8 32 (c)) 23)) := by (repeat (first | assumption | exact Grew.refl _ | refine Grew.more ?_ _ | refine Grew.alloc ?_ _ | refine Grew.drewN ?_ _ | refine Grew.setRow ?_ _ _ (by omega) | refine Grew.setRow ?_ _ _ (by simp; omega) | refine Grew.setRow ?_ _ _ (by simp)))
    generalize ((w.alloc (.cells (ints .u8 32 (a)) 23)).alloc (.cells (ints .u8 32 (b)) 23)).alloc (.cells (ints .u8 32 (c)) 23) = w1 at *
    have lfa := lt_of_objAt fa
    have lfb := lt_of_objAt fb
    have lfc := lt_of_objAt fc
    go_wp2_with fail
    (refine (aw _ (hTT.out.later hG)).mono ?_; rintro e w2 ⟨rfl, hb⟩; replace fa : objAt w2 (w.heap.size) = some (.cells (ints .u8 32 (a)) 23) := keep_below hb (by (repeat (first | assumption | exact objAt_alloc_at _ _ _ rfl | (refine objAt_alloc_at _ _ _ ?_; (simp; done)) | refine keep_alloc _ ?_ | refine keep_drewN _ ?_ | refine keep_more _ ?_ | exact keep_row _ (by assumption) | apply keep_row | refine keep_setRow _ _ ?_ (by first | omega | (simp; omega) | simp)))); have lfa := lt_of_objAt fa; replace fb : objAt w2 (w.heap.size + 1) = some (.cells (ints .u8 32 (b)) 23) := keep_below hb (by (repeat (first | assumption | exact objAt_alloc_at _ _ _ rfl | (refine objAt_alloc_at _ _ _ ?_; (simp; done)) | refine keep_alloc _ ?_ | refine keep_drewN _ ?_ | refine keep_more _ ?_ | exact keep_row _ (by assumption) | apply keep_row | refine keep_setRow _ _ ?_ (by first | omega | (simp; omega) | simp)))); have lfb := lt_of_objAt fb; replace fc : objAt w2 (w.heap.size + 1 + 1) = some (.cells (ints .u8 32 (c)) 23) := keep_below hb (by (repeat (first | assumption | exact objAt_alloc_at _ _ _ rfl | (refine objAt_alloc_at _ _ _ ?_; (simp; done)) | refine keep_alloc _ ?_ | refine keep_drewN _ ?_ | refine keep_more _ ?_ | exact keep_row _ (by assumption) | apply keep_row | refine keep_setRow _ _ ?_ (by first | omega | (simp; omega) | simp)))); have lfc := lt_of_objAt fc; replace hG : Below w.heap.size w w2 := Grew.trans (by (repeat (first | assumption | exact Grew.refl _ | refine Grew.more ?_ _ | refine Grew.alloc ?_ _ | refine Grew.drewN ?_ _ | refine Grew.setRow ?_ _ _ (by omega) | refine Grew.setRow ?_ _ _ (by simp; omega) | refine Grew.setRow ?_ _ _ (by simp)))) hb; clear hb)
    go_wp2
    go_ret
    exact ⟨rfl, by (repeat (first | assumption | exact Grew.refl _ | refine Grew.more ?_ _ | refine Grew.alloc ?_ _ | refine Grew.drewN ?_ _ | refine Grew.setRow ?_ _ _ (by omega) | refine Grew.setRow ?_ _ _ (by simp; omega) | refine Grew.setRow ?_ _ _ (by simp)))⟩
  exact makes10_walk a b c _ _ _ _ _ m w hT hm1 (fun W h => hN a W ha h) (fun W => rnode_any a W) (fun W h => hL a W ha h) (fun W => rleaf_any a W) (fun W h => hG a W ha h) (fun W => rtag_any a W) (fun W h => hS a b c W ha hb hc h) (fun W => rstage_any a b c W) (fun W h => hP a m W ha (by omega) h) (fun W => rpast_any a m W (by omega)) aw
attribute [local irreducible] catS
set_option maxRecDepth 100000 in
set_option maxHeartbeats 4000000 in
theorem labels10_walk (name secret S : ByteArray) (oa : Option Addr) (n c : Nat) (L1 : Nat → Int) (w : World) (hT : Tabs w) (h1 : name.size ≤ 500) (h2 : secret.size ≤ 500) (h3 : n ≤ 20) (h4 : S.size ≤ 500)
    (cj : ∀ W : World, Below w.heap.size w W → Calls Tryz.prog 16 #[.slice oa n c, .string ⟨#[]⟩] W fun e w' => e = .returned (.string S) ∧ Below W.heap.size W w')
    (cL : ∀ W : World, Below w.heap.size w W → Calls Tryz.prog 17 #[.string name, .string secret, .slice oa n c] W fun e w' => e = .returned (.agg (ints .u8 32 L1)) ∧ Below W.heap.size W w')
    (cR : ∀ W : World, Calls Tryz.prog 18 #[.string name, .string secret, .string S] W fun e w' => e = .returned (.agg (ints .u8 32 L1)) ∧ Below W.heap.size W w')
    (cO : ∀ (g : Nat) (W : World), StrsAt W (some ⟨g, 0, none⟩) 1 (oneS S) → Tabs W → Calls Tryz.prog 17 #[.string name, .string secret, .slice (some ⟨g, 0, none⟩) 1 1] W fun e w' => e = .returned (.agg (ints .u8 32 L1)) ∧ Below W.heap.size W w')
    (aw : ∀ W : World, Tabs W → Calls Tryz.prog 5 #[] W fun e w' => e = .returned (.bool true) ∧ Below W.heap.size W w') :
    Calls Tryz.prog 4 #[.string name, .string secret, .slice oa n c] w fun e w' => e = .returned (.bool true) ∧ Below w.heap.size w w' := by
  have hTT : Hid (Tabs w) := hT
  clear hT
  have hm := same_refl 32 L1
  have hG := Grew.refl w
  go_enter Tryz.func4, Tryz.ntmps4
  go_wp2_with fail
  (refine (aw _ (hTT.out.later hG)).mono ?_; rintro e w1 ⟨rfl, hb⟩; replace hG : Below w.heap.size w w1 := Grew.trans (by (repeat (first | assumption | exact Grew.refl _ | refine Grew.more ?_ _ | refine Grew.alloc ?_ _ | refine Grew.drewN ?_ _ | refine Grew.setRow ?_ _ _ (by omega) | refine Grew.setRow ?_ _ _ (by simp; omega) | refine Grew.setRow ?_ _ _ (by simp)))) hb; clear hb)
  go_wp2_with fail
  (refine (cj _ hG).mono ?_; rintro e w2 ⟨rfl, hb⟩; replace hG : Below w.heap.size w w2 := Grew.trans (by (repeat (first | assumption | exact Grew.refl _ | refine Grew.more ?_ _ | refine Grew.alloc ?_ _ | refine Grew.drewN ?_ _ | refine Grew.setRow ?_ _ _ (by omega) | refine Grew.setRow ?_ _ _ (by simp; omega) | refine Grew.setRow ?_ _ _ (by simp)))) hb; clear hb)
  go_wp2_with fail
  (refine (cL _ hG).mono ?_; rintro e w3 ⟨rfl, hb⟩; replace hG : Below w.heap.size w w3 := Grew.trans (by (repeat (first | assumption | exact Grew.refl _ | refine Grew.more ?_ _ | refine Grew.alloc ?_ _ | refine Grew.drewN ?_ _ | refine Grew.setRow ?_ _ _ (by omega) | refine Grew.setRow ?_ _ _ (by simp; omega) | refine Grew.setRow ?_ _ _ (by simp)))) hb; clear hb)
  go_wp2_with fail
  have fk : objAt (w3.alloc (.cells (ints .u8 32 (L1)) 23)) w3.heap.size = some (.cells (ints .u8 32 (L1)) 23) := objAt_alloc_at _ _ _ rfl
  replace hG : Below w.heap.size w (w3.alloc (.cells (ints .u8 32 (L1)) 23)) := Grew.alloc hG _
  generalize w3.alloc (.cells (ints .u8 32 (L1)) 23) = w4 at *
  generalize w3.heap.size = gk at *
  have lfk := lt_of_objAt fk
  clear cj cL
  go_wp2_with fail
  (refine wp_rel (by kernel_rfl) (by kernel_rfl) ?_; (repeat (first | refine exv_skip rfl ?_ | (refine exv_call rfl ?_; apply Exists.intro))); refine exv_nil ?_; intro γ hinj hbase; (repeat (first | (refine rel_quiet rfl ?_; ((first | go_big_quiet_skip | (go_big_quiet_want; go_big_quiet_op; go_big_quiet_on)); refine wpQuiet_nil ?_)) | (first | (refine rel_skip_some rfl (fun _ => rfl) ?_; ((first | go_big_quiet_skip | (go_big_quiet_want; go_big_quiet_op; go_big_quiet_on)); refine wpQuiet_nil ?_)) | refine rel_skip_none rfl (fun _ => rfl) ?_) | ((try simp only [Nat.zero_add, Nat.reduceAdd]); apply rel_box alloc_cls; (focus rfl); (focus (first | exact cells_agg _ | exact cells_int _ _ | exact cells_bool _ | rfl)); (focus ((repeat (refine fits_cons ⟨by (first | exact stab_full _ _ _ | exact stab_hdr _ _ _ | exact stab_hdr_at _ _ _ _ | exact stab_full_at _ _ _ _ (hinj _ _ (by decide))), by (first | exact stab_full _ _ _ | exact stab_hdr _ _ _ | exact stab_hdr_at _ _ _ _ | exact stab_full_at _ _ _ _ (hinj _ _ (by decide)))⟩ ?_)); exact fits_nil (by (first | exact stab_full _ _ _ | exact stab_hdr _ _ _ | exact stab_hdr_at _ _ _ _ | exact stab_full_at _ _ _ _ (hinj _ _ (by decide)))))); ((first | go_big_quiet_skip | (go_big_quiet_want; go_big_quiet_op; go_big_quiet_on)); refine wpQuiet_nil ?_)) | ((try simp only [Nat.zero_add, Nat.reduceAdd]); apply rel_alloc _ _ alloc_cls; (focus rfl); (focus (intro W; (first | exact zero_key _ | exact zero_elem _ | exact zero_num _ | exact zero_pair _ | exact zero_rnode _))); (focus (first | exact cells_ints _ _ _ | exact cells_two _ _ | rfl)); (focus ((repeat (refine fits_cons ⟨by (first | exact stab_full _ _ _ | exact stab_hdr _ _ _ | exact stab_hdr_at _ _ _ _ | exact stab_full_at _ _ _ _ (hinj _ _ (by decide))), by (first | exact stab_full _ _ _ | exact stab_hdr _ _ _ | exact stab_hdr_at _ _ _ _ | exact stab_full_at _ _ _ _ (hinj _ _ (by decide)))⟩ ?_)); exact fits_nil (by (first | exact stab_full _ _ _ | exact stab_hdr _ _ _ | exact stab_hdr_at _ _ _ _ | exact stab_full_at _ _ _ _ (hinj _ _ (by decide)))))); ((first | go_big_quiet_skip | (go_big_quiet_want; go_big_quiet_op; go_big_quiet_on)); refine wpQuiet_nil ?_)) | ((try simp only [Nat.zero_add, Nat.reduceAdd]); apply rel_slice alloc_cls; (focus rfl); (focus (intro W; simp only [List.map_toArray, List.map_cons, List.map_nil]; first | (with_reducible exact build1s _ W) | exact build1s _ W)); (focus ((repeat (refine fits_cons ⟨by (first | exact stab_full _ _ _ | exact stab_hdr _ _ _ | exact stab_hdr_at _ _ _ _ | exact stab_full_at _ _ _ _ (hinj _ _ (by decide))), by (first | exact stab_full _ _ _ | exact stab_hdr _ _ _ | exact stab_hdr_at _ _ _ _ | exact stab_full_at _ _ _ _ (hinj _ _ (by decide)))⟩ ?_)); exact fits_nil (by (first | exact stab_full _ _ _ | exact stab_hdr _ _ _ | exact stab_hdr_at _ _ _ _ | exact stab_full_at _ _ _ _ (hinj _ _ (by decide)))))); ((first | go_big_quiet_skip | (go_big_quiet_want; go_big_quiet_op; go_big_quiet_on)); refine wpQuiet_nil ?_)) | ((try simp only [Nat.zero_add, Nat.reduceAdd]); apply rel_store (setRow_cls (hbase _)); (focus rfl); (focus rfl); (focus rfl); (focus (first | exact cells_agg _ | exact cells_int _ _ | exact cells_bool _ | rfl)); rotate_left 3; (focus (first | exact List.mem_cons_self .. | exact List.mem_cons_of_mem _ (List.mem_cons_self ..) | exact List.mem_cons_of_mem _ (List.mem_cons_of_mem _ (List.mem_cons_self ..)) | exact List.mem_cons_of_mem _ (List.mem_cons_of_mem _ (List.mem_cons_of_mem _ (List.mem_cons_self ..))) | exact List.mem_cons_of_mem _ (List.mem_cons_of_mem _ (List.mem_cons_of_mem _ (List.mem_cons_of_mem _ (List.mem_cons_self ..)))))); rotate_right 3; (focus kernel_rfl); (focus (first | exact ints_size _ _ _ | rfl)); (focus (first | exact ints_ones _ _ _ | exact ones_two _ _ _ _ | kernel_rfl)); (focus (decide +kernel)); (focus ((repeat (refine fits_cons ⟨by (first | exact stab_full _ _ _ | exact stab_hdr _ _ _ | exact stab_hdr_at _ _ _ _ | exact stab_full_at _ _ _ _ (hinj _ _ (by decide))), by (first | exact stab_full _ _ _ | exact stab_hdr _ _ _ | exact stab_hdr_at _ _ _ _ | exact stab_full_at _ _ _ _ (hinj _ _ (by decide)))⟩ ?_)); exact fits_nil (by (first | exact stab_full _ _ _ | exact stab_hdr _ _ _ | exact stab_hdr_at _ _ _ _ | exact stab_full_at _ _ _ _ (hinj _ _ (by decide))))))) | (apply rel_fact; (focus rfl); (focus rfl); (focus rfl); (focus (intro W hC hF; (have hGW : Below w.heap.size w W := (by obtain ⟨mm, rfl⟩ := hC; exact Grew.more hG mm); (try (have hE : StrsAt W (some ⟨γ 11, 0, none⟩) 1 (oneS S) := strs_one (known hF (List.mem_cons_self ..) (by decide +kernel))))); go_big_quiet_want; go_big_quiet_op; (first | go_big_quiet_on | (apply Exists.intro; refine ⟨fun _ => ?_, ?_⟩; (focus (first | (with_reducible exact Calls.of_more (cR _)) | (with_reducible exact Calls.of_more (cO _ _ (hE.later (below_more W _)) (hTT.out.later (Grew.trans hGW (below_more W _))))))); go_big_quiet_on)); exact wpQuiet_nil rfl)); (focus (first | exact fun _ => rfl | exact fun h => absurd h (by decide))); ((first | go_big_quiet_skip | (go_big_quiet_want; go_big_quiet_op; go_big_quiet_on)); refine wpQuiet_nil ?_)))))
  (refine rel_nil ?_; rintro _ ⟨mq, rfl⟩ hF; simp only [List.forall_mem_cons] at hF; obtain - := hF)
  go_wp2
  go_ret
  exact ⟨rfl, by (repeat (first | assumption | exact Grew.refl _ | refine Grew.more ?_ _ | refine Grew.alloc ?_ _ | refine Grew.drewN ?_ _ | refine Grew.setRow ?_ _ _ (by omega) | refine Grew.setRow ?_ _ _ (by simp; omega) | refine Grew.setRow ?_ _ _ (by simp)))⟩
set_option maxRecDepth 100000 in
set_option maxHeartbeats 4000000 in
theorem labels10_any (hN : NodeC) (hL : LeafC) (hB : LabelC) (aw9 : ∀ W : World, Tabs W → Calls Tryz.prog 19 #[] W fun e w' => e = .returned (.bool true) ∧ Below W.heap.size W w') (name secret : ByteArray) (oa : Option Addr) (n c : Nat) (F : Nat → ByteArray) (w : World) (h1 : name.size ≤ 9223372036854775807) (h2 : secret.size ≤ 9223372036854775807) (hnc : n ≤ c) (hl : (catS F n).size + n ≤ 1048576) (hS : StrsAt w oa n F) (hT : Tabs w) :
    Calls Tryz.prog 4 #[.string name, .string secret, .slice oa n c] w fun e w' => e = .returned (.bool true) ∧ Below w.heap.size w w' := by
  have hTT : Hid (Tabs w) := hT
  have aw := fun (W : World) (h : Tabs W) => awake10_any hN hL aw9 W h
  have cj : ∀ W : World, Below w.heap.size w W → Calls Tryz.prog 16 #[.slice oa n c, .string ⟨#[]⟩] W fun e w' => e = .returned (.string (catS F n)) ∧ Below W.heap.size W w' := fun W hW => join_any oa n c F W (hS.later hW) hnc (by omega)
  have hn20 : n ≤ 1048576 := by omega
  have hsz : (catS F n).size ≤ 1048576 := by omega
  have hSS : Hid (StrsAt w oa n F) := hS
  clear hS hl
  obtain ⟨S, hSe⟩ : ∃ S, Hid (catS F n = S) := ⟨_, rfl⟩
  rw [hSe.out] at cj hsz
  by_cases g1 : name.size ≤ 500
  case neg =>
    have g2 : 500 < name.size := by omega
    have hG := Grew.refl w
    go_enter Tryz.func4, Tryz.ntmps4
    go_wp2_with fail
    (refine (aw _ (hTT.out.later hG)).mono ?_; rintro e w1 ⟨rfl, hb⟩; replace hG : Below w.heap.size w w1 := Grew.trans (by (repeat (first | assumption | exact Grew.refl _ | refine Grew.more ?_ _ | refine Grew.alloc ?_ _ | refine Grew.drewN ?_ _ | refine Grew.setRow ?_ _ _ (by omega) | refine Grew.setRow ?_ _ _ (by simp; omega) | refine Grew.setRow ?_ _ _ (by simp)))) hb; clear hb)
    go_wp2_with fail
    (refine (cj _ hG).mono ?_; rintro e w2 ⟨rfl, hb⟩; replace hG : Below w.heap.size w w2 := Grew.trans (by (repeat (first | assumption | exact Grew.refl _ | refine Grew.more ?_ _ | refine Grew.alloc ?_ _ | refine Grew.drewN ?_ _ | refine Grew.setRow ?_ _ _ (by omega) | refine Grew.setRow ?_ _ _ (by simp; omega) | refine Grew.setRow ?_ _ _ (by simp)))) hb; clear hb)
    go_wp2
    go_ret
    exact ⟨rfl, by (repeat (first | assumption | exact Grew.refl _ | refine Grew.more ?_ _ | refine Grew.alloc ?_ _ | refine Grew.drewN ?_ _ | refine Grew.setRow ?_ _ _ (by omega) | refine Grew.setRow ?_ _ _ (by simp; omega) | refine Grew.setRow ?_ _ _ (by simp)))⟩
  by_cases g3 : secret.size ≤ 500
  case neg =>
    have g4 : 500 < secret.size := by omega
    have hG := Grew.refl w
    go_enter Tryz.func4, Tryz.ntmps4
    go_wp2_with fail
    (refine (aw _ (hTT.out.later hG)).mono ?_; rintro e w1 ⟨rfl, hb⟩; replace hG : Below w.heap.size w w1 := Grew.trans (by (repeat (first | assumption | exact Grew.refl _ | refine Grew.more ?_ _ | refine Grew.alloc ?_ _ | refine Grew.drewN ?_ _ | refine Grew.setRow ?_ _ _ (by omega) | refine Grew.setRow ?_ _ _ (by simp; omega) | refine Grew.setRow ?_ _ _ (by simp)))) hb; clear hb)
    go_wp2_with fail
    (refine (cj _ hG).mono ?_; rintro e w2 ⟨rfl, hb⟩; replace hG : Below w.heap.size w w2 := Grew.trans (by (repeat (first | assumption | exact Grew.refl _ | refine Grew.more ?_ _ | refine Grew.alloc ?_ _ | refine Grew.drewN ?_ _ | refine Grew.setRow ?_ _ _ (by omega) | refine Grew.setRow ?_ _ _ (by simp; omega) | refine Grew.setRow ?_ _ _ (by simp)))) hb; clear hb)
    go_wp2
    go_ret
    exact ⟨rfl, by (repeat (first | assumption | exact Grew.refl _ | refine Grew.more ?_ _ | refine Grew.alloc ?_ _ | refine Grew.drewN ?_ _ | refine Grew.setRow ?_ _ _ (by omega) | refine Grew.setRow ?_ _ _ (by simp; omega) | refine Grew.setRow ?_ _ _ (by simp)))⟩
  by_cases g5 : n ≤ 20
  case neg =>
    have g6 : 20 < n := by omega
    have hG := Grew.refl w
    go_enter Tryz.func4, Tryz.ntmps4
    go_wp2_with fail
    (refine (aw _ (hTT.out.later hG)).mono ?_; rintro e w1 ⟨rfl, hb⟩; replace hG : Below w.heap.size w w1 := Grew.trans (by (repeat (first | assumption | exact Grew.refl _ | refine Grew.more ?_ _ | refine Grew.alloc ?_ _ | refine Grew.drewN ?_ _ | refine Grew.setRow ?_ _ _ (by omega) | refine Grew.setRow ?_ _ _ (by simp; omega) | refine Grew.setRow ?_ _ _ (by simp)))) hb; clear hb)
    go_wp2_with fail
    (refine (cj _ hG).mono ?_; rintro e w2 ⟨rfl, hb⟩; replace hG : Below w.heap.size w w2 := Grew.trans (by (repeat (first | assumption | exact Grew.refl _ | refine Grew.more ?_ _ | refine Grew.alloc ?_ _ | refine Grew.drewN ?_ _ | refine Grew.setRow ?_ _ _ (by omega) | refine Grew.setRow ?_ _ _ (by simp; omega) | refine Grew.setRow ?_ _ _ (by simp)))) hb; clear hb)
    go_wp2
    go_ret
    exact ⟨rfl, by (repeat (first | assumption | exact Grew.refl _ | refine Grew.more ?_ _ | refine Grew.alloc ?_ _ | refine Grew.drewN ?_ _ | refine Grew.setRow ?_ _ _ (by omega) | refine Grew.setRow ?_ _ _ (by simp; omega) | refine Grew.setRow ?_ _ _ (by simp)))⟩
  by_cases g7 : S.size ≤ 500
  case neg =>
    have g8 : 500 < S.size := by omega
    have hG := Grew.refl w
    go_enter Tryz.func4, Tryz.ntmps4
    go_wp2_with fail
    (refine (aw _ (hTT.out.later hG)).mono ?_; rintro e w1 ⟨rfl, hb⟩; replace hG : Below w.heap.size w w1 := Grew.trans (by (repeat (first | assumption | exact Grew.refl _ | refine Grew.more ?_ _ | refine Grew.alloc ?_ _ | refine Grew.drewN ?_ _ | refine Grew.setRow ?_ _ _ (by omega) | refine Grew.setRow ?_ _ _ (by simp; omega) | refine Grew.setRow ?_ _ _ (by simp)))) hb; clear hb)
    go_wp2_with fail
    (refine (cj _ hG).mono ?_; rintro e w2 ⟨rfl, hb⟩; replace hG : Below w.heap.size w w2 := Grew.trans (by (repeat (first | assumption | exact Grew.refl _ | refine Grew.more ?_ _ | refine Grew.alloc ?_ _ | refine Grew.drewN ?_ _ | refine Grew.setRow ?_ _ _ (by omega) | refine Grew.setRow ?_ _ _ (by simp; omega) | refine Grew.setRow ?_ _ _ (by simp)))) hb; clear hb)
    go_wp2
    go_ret
    exact ⟨rfl, by (repeat (first | assumption | exact Grew.refl _ | refine Grew.more ?_ _ | refine Grew.alloc ?_ _ | refine Grew.drewN ?_ _ | refine Grew.setRow ?_ _ _ (by omega) | refine Grew.setRow ?_ _ _ (by simp; omega) | refine Grew.setRow ?_ _ _ (by simp)))⟩
  exact labels10_walk name secret S oa n c _ w hT g1 g3 g5 g7 cj (fun W hW => by
      have := hB name secret oa n c F W (by omega) (by omega) (by rw [hSe.out]; omega) (by omega) hnc (hSS.out.later hW) (hTT.out.later hW)
      rw [hSe.out] at this
      exact this) (fun W => rlabel_any name secret S W (by omega) (by omega) (by omega))
    (fun g W hE hT => by
      have := hB name secret (some ⟨g, 0, none⟩) 1 1 (oneS S) W (by omega) (by omega) (by rw [cat_one]; omega) (by omega) (by omega) hE hT
      rw [cat_one] at this
      exact this) aw
end Go.Proofs.YtomoccbljclhlaaGreatDoor
