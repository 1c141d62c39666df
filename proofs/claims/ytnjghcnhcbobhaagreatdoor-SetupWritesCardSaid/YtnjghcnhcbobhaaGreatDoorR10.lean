/- R10 -/
import Derived.Test.YtnjghcnhcbobhaaGreatDoorR9
import Derived.Test.YtnjghcnhcbobhaaGreatDoorMa
set_option linter.unusedVariables false
set_option linter.unusedSimpArgs false
set_option maxRecDepth 100000
set_option maxHeartbeats 4000000
namespace Go.Proofs.YtnjghcnhcbobhaaGreatDoor
open Go.RowKit
attribute [local irreducible] strOf shaF zqcl padB zqc2 zqb3
attribute [local irreducible] macF
def zqdj (z : Nat -> Int) : Nat -> Int := zqck ⟨#[115, 97, 112, 119, 111, 111, 100, 32, 110, 111, 100, 101]⟩ (strOf 32 z) ByteArray.empty
def zqm4 (z : Nat -> Int) : Nat -> Int := zqck ⟨#[115, 97, 112, 119, 111, 111, 100, 32, 108, 101, 97, 102]⟩ (strOf 32 z) ByteArray.empty
theorem zqy1 (z : Nat -> Int) : Bytes 32 (zqdj z) := zqsp _ _ _
end Go.Proofs.YtnjghcnhcbobhaaGreatDoor
namespace Go.Proofs.YtnjghcnhcbobhaaGreatDoor
open Go.RowKit
theorem zq1k : same 32 (zqdj (upd zqg 0 1)) (zqm4 (upd zqg 0 1)) = false := by
 have h : (zqdj (upd zqg 0 1) 0 == zqm4 (upd zqg 0 1) 0) = false := by decide +kernel
 cases e : same 32 (zqdj (upd zqg 0 1)) (zqm4 (upd zqg 0 1)) with
 | false => rfl
 | true =>
  have := (same_iff _ _ _).1 e 0 (by decide);rw [this] at h
  simp at h
attribute [local irreducible] strOf shaF zqcl padB zqc2 zqb3
attribute [local irreducible] macF
attribute [local irreducible] zqck oneF zqdj zqm4
def zrij : Prop := ∀ (z : Nat -> Int) (W : World), Bytes 32 z -> Tabs W -> Calls Tryz.prog 207 #[.agg (ints .u8 32 z)] W (Rt W (.agg (ints .u8 32 (zqdj z))))
def zrgl : Prop := ∀ (z : Nat -> Int) (W : World), Bytes 32 z -> Tabs W -> Calls Tryz.prog 240 #[.agg (ints .u8 32 z)] W (Rt W (.agg (ints .u8 32 (zqm4 z))))
def zqdc (v : Value) : Sem Next := do pure (.value (<- Instr.build 44 #[(0, v)]))
@[go_sem ↓ high] theorem zrg9 (ρ : Operand -> Value) (dd : Option Tmp) (x : Operand) (t : TypeId) (pos : String) (af : Array Edge) (gg : Option (Nat × Bool)) :
  execOp ρ ⟨dd, .build 44 #[(0, x)], t, pos, af, gg⟩ = zqdc (ρ x) := by simp [execOp, zqdc]
@[go_sem high] theorem zrfc (ρ : Operand -> Value) (dd : Option Tmp) (x : Operand) (t : TypeId) (pos : String) (af : Array Edge) (gg : Option (Nat × Bool)) :
  execOp ρ ⟨dd, .build 44 #[(0, x)], t, pos, af, gg⟩ = zqdc (ρ x) := by simp [execOp, zqdc]
@[go_sem] theorem zrkd (w : World) : (zqdc (.int .u8 1)).run Tryz.prog w = .ok (.value (.agg (ints .u8 32 (upd zqg 0 1)))) w := by kernel_rfl
attribute [irreducible] zqdc
theorem zqr1 (z M L : Nat -> Int) (w : World) (hT : Tabs w) (hz : z = upd zqg 0 1) (hs : same 32 M L = false) (c1 : ∀ W : World, Tabs W -> Calls Tryz.prog 207 #[.agg (ints .u8 32 z)] W (Rt W (.agg (ints .u8 32 M)))) (c2 : ∀ W : World, Tabs W -> Calls Tryz.prog 240 #[.agg (ints .u8 32 z)] W (Rt W (.agg (ints .u8 32 L)))) (aw : ∀ W : World, Tabs W -> Calls Tryz.prog 239 #[] W (Rt W (.bool true))) :
  Calls Tryz.prog 238 #[] w (Rt w (.bool true)) := by
 subst hz;have hTT : Hid (Tabs w) := hT;clear hT;have hG := Grew.refl w
 go_enter Tryz.func238, Tryz.ntmps238
 go_wp2_with fail
 (refine (aw _ (hTT.out.later hG)).mono ?_; rintro e w1 ⟨rfl, hb⟩; replace hG : Below w.heap.size w w1 := Grew.trans (by exact zqe) hb; clear hb)
 go_wp2_with fail
 (refine (c1 _ (hTT.out.later hG)).mono ?_; rintro e w2 ⟨rfl, hb⟩; replace hG : Below w.heap.size w w2 := Grew.trans (by exact zqe) hb; clear hb)
 go_wp2_with fail
 (refine (c2 _ (hTT.out.later hG)).mono ?_; rintro e w3 ⟨rfl, hb⟩; replace hG : Below w.heap.size w w3 := Grew.trans (by exact zqe) hb; clear hb)
 go_wp2;go_ret;exact ⟨rfl, by exact zqe⟩
theorem zqud (hN : zrij) (hL : zrgl) (aw : ∀ W : World, Tabs W -> Calls Tryz.prog 239 #[] W (Rt W (.bool true))) (w : World) (hT : Tabs w) :
  Calls Tryz.prog 238 #[] w (Rt w (.bool true)) := zqr1 _ _ _ w hT rfl zq1k (fun W h => hN _ W (fun i hi => by unfold upd zqg; split <;> omega) h) (fun W h => hL _ W (fun i hi => by unfold upd zqg; split <;> omega) h) aw
attribute [local irreducible] catS
end Go.Proofs.YtnjghcnhcbobhaaGreatDoor
