/- R10 -/
import Derived.Test.YtpefpiobcpdeoaaGreatDoorR9
import Derived.Test.YtpefpiobcpdeoaaGreatDoorMa
set_option linter.unusedVariables false
set_option linter.unusedSimpArgs false
set_option maxRecDepth 100000
set_option maxHeartbeats 4000000
namespace Go.Proofs.YtpefpiobcpdeoaaGreatDoor
open Go.RowKit
attribute [local irreducible] strOf shaF zqcq padB zqda zqb6
attribute [local irreducible] macF
def zqdl (z : Nat -> Int) : Nat -> Int := zqci ⟨#[115, 97, 112, 119, 111, 111, 100, 32, 110, 111, 100, 101]⟩ (strOf 32 z) ByteArray.empty
def zqm1 (z : Nat -> Int) : Nat -> Int := zqci ⟨#[115, 97, 112, 119, 111, 111, 100, 32, 108, 101, 97, 102]⟩ (strOf 32 z) ByteArray.empty
theorem zqu6 (z : Nat -> Int) : Bytes 32 (zqdl z) := zqsi _ _ _
end Go.Proofs.YtpefpiobcpdeoaaGreatDoor
namespace Go.Proofs.YtpefpiobcpdeoaaGreatDoor
open Go.RowKit
theorem zq0e : same 32 (zqdl (upd zqc 0 1)) (zqm1 (upd zqc 0 1)) = false := by
 have h : (zqdl (upd zqc 0 1) 0 == zqm1 (upd zqc 0 1) 0) = false := by decide +kernel
 cases e : same 32 (zqdl (upd zqc 0 1)) (zqm1 (upd zqc 0 1)) with
 | false => rfl
 | true =>
  have := (same_iff _ _ _).1 e 0 (by decide);rw [this] at h
  simp at h
attribute [local irreducible] strOf shaF zqcq padB zqda zqb6
attribute [local irreducible] macF
attribute [local irreducible] zqci oneF zqdl zqm1
def zrfd : Prop := ∀ (z : Nat -> Int) (W : World), Bytes 32 z -> Tabs W -> Calls Tryz.prog 227 #[.agg (ints .u8 32 z)] W (Rt W (.agg (ints .u8 32 (zqdl z))))
def zrc2 : Prop := ∀ (z : Nat -> Int) (W : World), Bytes 32 z -> Tabs W -> Calls Tryz.prog 260 #[.agg (ints .u8 32 z)] W (Rt W (.agg (ints .u8 32 (zqm1 z))))
def zqdi (v : Value) : Sem Next := do pure (.value (<- Instr.build 44 #[(0, v)]))
@[go_sem ↓ high] theorem zre4 (ρ : Operand -> Value) (dd : Option Tmp) (x : Operand) (t : TypeId) (pos : String) (af : Array Edge) (gg : Option (Nat × Bool)) :
  execOp ρ ⟨dd, .build 44 #[(0, x)], t, pos, af, gg⟩ = zqdi (ρ x) := by simp [execOp, zqdi]
@[go_sem high] theorem zrb7 (ρ : Operand -> Value) (dd : Option Tmp) (x : Operand) (t : TypeId) (pos : String) (af : Array Edge) (gg : Option (Nat × Bool)) :
  execOp ρ ⟨dd, .build 44 #[(0, x)], t, pos, af, gg⟩ = zqdi (ρ x) := by simp [execOp, zqdi]
@[go_sem] theorem zrg3 (w : World) : (zqdi (.int .u8 1)).run Tryz.prog w = .ok (.value (.agg (ints .u8 32 (upd zqc 0 1)))) w := by kernel_rfl
attribute [irreducible] zqdi
theorem zqqx (z M L : Nat -> Int) (w : World) (hT : Tabs w) (hz : z = upd zqc 0 1) (hs : same 32 M L = false) (c1 : ∀ W : World, Tabs W -> Calls Tryz.prog 227 #[.agg (ints .u8 32 z)] W (Rt W (.agg (ints .u8 32 M)))) (c2 : ∀ W : World, Tabs W -> Calls Tryz.prog 260 #[.agg (ints .u8 32 z)] W (Rt W (.agg (ints .u8 32 L)))) (aw : ∀ W : World, Tabs W -> Calls Tryz.prog 259 #[] W (Rt W (.bool true))) :
  Calls Tryz.prog 258 #[] w (Rt w (.bool true)) := by
 subst hz;have hTT : Hid (Tabs w) := hT;clear hT;have hG := Grew.refl w
 go_enter Tryz.func258, Tryz.ntmps258
 go_wp2_with fail
 (refine (aw _ (hTT.out.later hG)).mono ?_; rintro e w1 ⟨rfl, hb⟩; replace hG : Below w.heap.size w w1 := Grew.trans (by exact zqf) hb; clear hb)
 go_wp2_with fail
 (refine (c1 _ (hTT.out.later hG)).mono ?_; rintro e w2 ⟨rfl, hb⟩; replace hG : Below w.heap.size w w2 := Grew.trans (by exact zqf) hb; clear hb)
 go_wp2_with fail
 (refine (c2 _ (hTT.out.later hG)).mono ?_; rintro e w3 ⟨rfl, hb⟩; replace hG : Below w.heap.size w w3 := Grew.trans (by exact zqf) hb; clear hb)
 go_wp2;go_ret;exact ⟨rfl, by exact zqf⟩
theorem zqrx (hN : zrfd) (hL : zrc2) (aw : ∀ W : World, Tabs W -> Calls Tryz.prog 259 #[] W (Rt W (.bool true))) (w : World) (hT : Tabs w) :
  Calls Tryz.prog 258 #[] w (Rt w (.bool true)) := zqqx _ _ _ w hT rfl zq0e (fun W h => hN _ W (fun i hi => by unfold upd zqc; split <;> omega) h) (fun W h => hL _ W (fun i hi => by unfold upd zqc; split <;> omega) h) aw
attribute [local irreducible] catS
end Go.Proofs.YtpefpiobcpdeoaaGreatDoor
