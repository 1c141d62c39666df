/- R10 -/
import Derived.Test.YtconieddcjpbjaaGreatDoorR9
import Derived.Test.YtconieddcjpbjaaGreatDoorMa
import Derived.Test.YtconieddcjpbjaaGreatDoorJn
set_option maxRecDepth 100000
set_option maxHeartbeats 4000000
namespace Go.Proofs.YtconieddcjpbjaaGreatDoor
open Go.RowKit
set_option linter.unusedVariables false
set_option linter.unusedSimpArgs false
attribute [local irreducible] strOf shaF zqat padB fullB hashT
attribute [local irreducible] macF
def nodeF (z : Nat → Int) : Nat → Int := zqce ⟨#[115, 97, 112, 119, 111, 111, 100, 32, 110, 111, 100, 101]⟩ (strOf 32 z) ByteArray.empty
def leafF (z : Nat → Int) : Nat → Int := zqce ⟨#[115, 97, 112, 119, 111, 111, 100, 32, 108, 101, 97, 102]⟩ (strOf 32 z) ByteArray.empty
theorem zqw3 (z : Nat → Int) : Bytes 32 (nodeF z) := zqsm _ _ _
theorem zqw2 (name secret info : ByteArray) (w : World) (h1 : name.size ≤ 100000) (h2 : secret.size ≤ 100000) (h3 : info.size ≤ 100000) :
  Calls Tryz.prog 103 #[.string name, .string secret, .string info] w fun e w' => e = .returned (.agg (ints .u8 32 (zqce name secret info))) ∧ Below w.heap.size w w' := by
 have c1 := fun W : World => zqq8 name secret W (by omega) (by omega)
 have c2 := fun W : World => rone_any (macF name secret) info W h3
 have e : oneF (strOf 32 (macF name secret)) info = zqce name secret info := rfl
 rw [e] at c2
 clear e
 generalize zqce name secret info = L at *
 generalize macF name secret = M at *
 have hG := Grew.refl w
 have fr : True := trivial
 go_enter Tryz.func103, Tryz.ntmps103
 go_wp2_with fail
 replace fr : objAt (w.alloc (.cells (ints .u8 32 (zqd)) 23)) (w.heap.size) = some (.cells (ints .u8 32 (zqd)) 23) := by exact zqc
 replace hG : Below w.heap.size w (w.alloc (.cells (ints .u8 32 (zqd)) 23)) := by exact zqe
 generalize w.alloc (.cells (ints .u8 32 (zqd)) 23) = w1 at *
 have lfr := zqa fr
 go_wp2_with fail
 (refine (c1 _).mono ?_; rintro e w2 ⟨rfl, hb⟩; replace fr : objAt w2 (w.heap.size) = some (.cells (ints .u8 32 (zqd)) 23) := zqb hb (by exact zqc); have lfr := zqa fr; replace hG : Below w.heap.size w w2 := Grew.trans (by exact zqe) hb; clear hb)
 go_wp2_with fail
 (refine (c2 _).mono ?_; rintro e w3 ⟨rfl, hb⟩; replace fr : objAt w3 (w.heap.size) = some (.cells (ints .u8 32 (zqd)) 23) := zqb hb (by exact zqc); have lfr := zqa fr; replace hG : Below w.heap.size w w3 := Grew.trans (by exact zqe) hb; clear hb)
 go_wp2
 refine zqai rfl _ 23 _ (0, 0) _ rfl (zqt _ fr) Tryz.underlying23 rfl (by rw [zqf]; kernel_rfl) rfl ⟨rfl, by exact zqe⟩
theorem rnode_any (z : Nat → Int) (w : World) :
  Calls Tryz.prog 92 #[.agg (ints .u8 32 z)] w fun e w' => e = .returned (.agg (ints .u8 32 (nodeF z))) ∧ Below w.heap.size w w' := by
 have c1 := fun W : World => zqix z W
 have c2 : ∀ W : World, Calls Tryz.prog 103 #[.string ⟨#[115, 97, 112, 119, 111, 111, 100, 32, 110, 111, 100, 101]⟩, .string (strOf 32 z), .string ⟨#[]⟩] W fun e w' => e = .returned (.agg (ints .u8 32 (nodeF z))) ∧ Below W.heap.size W w' := fun W => zqw2 ⟨#[115, 97, 112, 119, 111, 111, 100, 32, 110, 111, 100, 101]⟩ (strOf 32 z) ByteArray.empty W (by decide) (by rw [zqak]; decide) (by decide)
 generalize nodeF z = L at *
 generalize strOf 32 z = Z at *
 have hG := Grew.refl w
 have fk : True := trivial
 have fr : True := trivial
 go_enter Tryz.func92, Tryz.ntmps92
 go_wp2_with fail
 replace fk : objAt ((w.alloc (.cells (ints .u8 32 (z)) 23)).alloc (.cells (ints .u8 32 (zqd)) 23)) (w.heap.size) = some (.cells (ints .u8 32 (z)) 23) := by exact zqc
 replace fr : objAt ((w.alloc (.cells (ints .u8 32 (z)) 23)).alloc (.cells (ints .u8 32 (zqd)) 23)) (w.heap.size + 1) = some (.cells (ints .u8 32 (zqd)) 23) := by exact zqc
 replace hG : Below w.heap.size w ((w.alloc (.cells (ints .u8 32 (z)) 23)).alloc (.cells (ints .u8 32 (zqd)) 23)) := by exact zqe
 generalize (w.alloc (.cells (ints .u8 32 (z)) 23)).alloc (.cells (ints .u8 32 (zqd)) 23) = w1 at *
 have lfk := zqa fk
 have lfr := zqa fr
 go_wp2_with fail
 (refine (c1 _).mono ?_; rintro e w2 ⟨rfl, hb⟩; replace fk : objAt w2 (w.heap.size) = some (.cells (ints .u8 32 (z)) 23) := zqb hb (by exact zqc); have lfk := zqa fk; replace fr : objAt w2 (w.heap.size + 1) = some (.cells (ints .u8 32 (zqd)) 23) := zqb hb (by exact zqc); have lfr := zqa fr; replace hG : Below w.heap.size w w2 := Grew.trans (by exact zqe) hb; clear hb)
 go_wp2_with fail
 (refine (c2 _).mono ?_; rintro e w3 ⟨rfl, hb⟩; replace fk : objAt w3 (w.heap.size) = some (.cells (ints .u8 32 (z)) 23) := zqb hb (by exact zqc); have lfk := zqa fk; replace fr : objAt w3 (w.heap.size + 1) = some (.cells (ints .u8 32 (zqd)) 23) := zqb hb (by exact zqc); have lfr := zqa fr; replace hG : Below w.heap.size w w3 := Grew.trans (by exact zqe) hb; clear hb)
 go_wp2
 refine zqai rfl _ 23 _ (0, 0) _ rfl (zqt _ fr) Tryz.underlying23 rfl (by rw [zqf]; kernel_rfl) rfl ⟨rfl, by exact zqe⟩
end Go.Proofs.YtconieddcjpbjaaGreatDoor
namespace Go.Proofs.YtconieddcjpbjaaGreatDoor
open Go.RowKit
set_option linter.unusedVariables false
set_option linter.unusedSimpArgs false
theorem node_leaf : same 32 (nodeF (upd zqd 0 1)) (leafF (upd zqd 0 1)) = false := by
 have h : (nodeF (upd zqd 0 1) 0 == leafF (upd zqd 0 1) 0) = false := by decide +kernel
 cases e : same 32 (nodeF (upd zqd 0 1)) (leafF (upd zqd 0 1)) with
 | false => rfl
 | true =>
  have := (same_iff _ _ _).1 e 0 (by decide)
  rw [this] at h
  simp at h
attribute [local irreducible] strOf shaF zqat padB fullB hashT
attribute [local irreducible] macF
attribute [local irreducible] zqce oneF nodeF leafF
def NodeC : Prop := ∀ (z : Nat → Int) (W : World), Bytes 32 z → Tabs W → Calls Tryz.prog 85 #[.agg (ints .u8 32 z)] W fun e w' => e = .returned (.agg (ints .u8 32 (nodeF z))) ∧ Below W.heap.size W w'
def LeafC : Prop := ∀ (z : Nat → Int) (W : World), Bytes 32 z → Tabs W → Calls Tryz.prog 160 #[.agg (ints .u8 32 z)] W fun e w' => e = .returned (.agg (ints .u8 32 (leafF z))) ∧ Below W.heap.size W w'
def zqdl (v : Value) : Sem Next := do pure (.value (← Instr.build 24 #[(0, v)]))
@[go_sem ↓ high] theorem op_oneKey (ρ : Operand → Value) (dd : Option Tmp) (x : Operand) (t : TypeId) (pos : String) (af : Array Edge) (gg : Option (Nat × Bool)) :
  execOp ρ ⟨dd, .build 24 #[(0, x)], t, pos, af, gg⟩ = zqdl (ρ x) := by simp [execOp, zqdl]
@[go_sem high] theorem op_oneKey' (ρ : Operand → Value) (dd : Option Tmp) (x : Operand) (t : TypeId) (pos : String) (af : Array Edge) (gg : Option (Nat × Bool)) :
  execOp ρ ⟨dd, .build 24 #[(0, x)], t, pos, af, gg⟩ = zqdl (ρ x) := by simp [execOp, zqdl]
@[go_sem] theorem one_key1 (w : World) : (zqdl (.int .u8 1)).run Tryz.prog w = .ok (.value (.agg (ints .u8 32 (upd zqd 0 1)))) w := by kernel_rfl
attribute [irreducible] zqdl
theorem zqp3 (z M L : Nat → Int) (w : World) (hT : Tabs w) (hz : z = upd zqd 0 1) (hs : same 32 M L = false) (c1 : ∀ W : World, Tabs W → Calls Tryz.prog 85 #[.agg (ints .u8 32 z)] W fun e w' => e = .returned (.agg (ints .u8 32 M)) ∧ Below W.heap.size W w') (c2 : ∀ W : World, Tabs W → Calls Tryz.prog 160 #[.agg (ints .u8 32 z)] W fun e w' => e = .returned (.agg (ints .u8 32 L)) ∧ Below W.heap.size W w') (aw : ∀ W : World, Tabs W → Calls Tryz.prog 159 #[] W fun e w' => e = .returned (.bool true) ∧ Below W.heap.size W w') :
  Calls Tryz.prog 144 #[] w fun e w' => e = .returned (.bool true) ∧ Below w.heap.size w w' := by
 subst hz
 have hTT : Hid (Tabs w) := hT
 clear hT
 have hG := Grew.refl w
 go_enter Tryz.func144, Tryz.ntmps144
 go_wp2_with fail
 (refine (aw _ (hTT.out.later hG)).mono ?_; rintro e w1 ⟨rfl, hb⟩; replace hG : Below w.heap.size w w1 := Grew.trans (by exact zqe) hb; clear hb)
 go_wp2_with fail
 (refine (c1 _ (hTT.out.later hG)).mono ?_; rintro e w2 ⟨rfl, hb⟩; replace hG : Below w.heap.size w w2 := Grew.trans (by exact zqe) hb; clear hb)
 go_wp2_with fail
 (refine (c2 _ (hTT.out.later hG)).mono ?_; rintro e w3 ⟨rfl, hb⟩; replace hG : Below w.heap.size w w3 := Grew.trans (by exact zqe) hb; clear hb)
 go_wp2
 go_ret
 exact ⟨rfl, by exact zqe⟩
theorem zqs5 (hN : NodeC) (hL : LeafC) (aw : ∀ W : World, Tabs W → Calls Tryz.prog 159 #[] W fun e w' => e = .returned (.bool true) ∧ Below W.heap.size W w') (w : World) (hT : Tabs w) :
  Calls Tryz.prog 144 #[] w fun e w' => e = .returned (.bool true) ∧ Below w.heap.size w w' := zqp3 _ _ _ w hT rfl node_leaf (fun W h => hN _ W (fun i hi => by unfold upd zqd; split <;> omega) h) (fun W h => hL _ W (fun i hi => by unfold upd zqd; split <;> omega) h) aw
attribute [local irreducible] catS
end Go.Proofs.YtconieddcjpbjaaGreatDoor
