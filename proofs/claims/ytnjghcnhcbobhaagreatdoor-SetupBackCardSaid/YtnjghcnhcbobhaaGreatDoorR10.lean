/- R10 -/
import Derived.Test.YtnjghcnhcbobhaaGreatDoorR9
import Derived.Test.YtnjghcnhcbobhaaGreatDoorMa
set_option linter.unusedVariables false
set_option linter.unusedSimpArgs false
set_option maxRecDepth 100000
set_option maxHeartbeats 4000000
namespace Go.Proofs.YtnjghcnhcbobhaaGreatDoor
open Go.RowKit
attribute [local irreducible] strOf shaF zqcm padB zqc3 zqby
attribute [local irreducible] macF
def zqdj (z : Nat -> Int) : Nat -> Int := zqcf ⟨#[115, 97, 112, 119, 111, 111, 100, 32, 110, 111, 100, 101]⟩ (strOf 32 z) ByteArray.empty
def zqm0 (z : Nat -> Int) : Nat -> Int := zqcf ⟨#[115, 97, 112, 119, 111, 111, 100, 32, 108, 101, 97, 102]⟩ (strOf 32 z) ByteArray.empty
theorem zqyu (z : Nat -> Int) : Bytes 32 (zqdj z) := zqsq _ _ _
end Go.Proofs.YtnjghcnhcbobhaaGreatDoor
namespace Go.Proofs.YtnjghcnhcbobhaaGreatDoor
open Go.RowKit
theorem zq1p : same 32 (zqdj (upd zqe 0 1)) (zqm0 (upd zqe 0 1)) = false := by
 have h : (zqdj (upd zqe 0 1) 0 == zqm0 (upd zqe 0 1) 0) = false := by decide +kernel
 cases e : same 32 (zqdj (upd zqe 0 1)) (zqm0 (upd zqe 0 1)) with
 | false => rfl
 | true =>
  have := (same_iff _ _ _).1 e 0 (by decide);rw [this] at h
  simp at h
attribute [local irreducible] strOf shaF zqcm padB zqc3 zqby
attribute [local irreducible] macF
attribute [local irreducible] zqcf oneF zqdj zqm0
def zrih : Prop := ∀ (z : Nat -> Int) (W : World), Bytes 32 z -> Tabs W -> Calls Tryz.prog 207 #[.agg (ints .u8 32 z)] W (Rt W (.agg (ints .u8 32 (zqdj z))))
def zrf5 : Prop := ∀ (z : Nat -> Int) (W : World), Bytes 32 z -> Tabs W -> Calls Tryz.prog 240 #[.agg (ints .u8 32 z)] W (Rt W (.agg (ints .u8 32 (zqm0 z))))
def zqdh (v : Value) : Sem Next := do pure (.value (<- Instr.build 44 #[(0, v)]))
@[go_sem ↓ high] theorem zrgr (ρ : Operand -> Value) (dd : Option Tmp) (x : Operand) (t : TypeId) (pos : String) (af : Array Edge) (gg : Option (Nat × Bool)) :
  execOp ρ ⟨dd, .build 44 #[(0, x)], t, pos, af, gg⟩ = zqdh (ρ x) := by simp [execOp, zqdh]
@[go_sem high] theorem zre1 (ρ : Operand -> Value) (dd : Option Tmp) (x : Operand) (t : TypeId) (pos : String) (af : Array Edge) (gg : Option (Nat × Bool)) :
  execOp ρ ⟨dd, .build 44 #[(0, x)], t, pos, af, gg⟩ = zqdh (ρ x) := by simp [execOp, zqdh]
@[go_sem] theorem zrkh (w : World) : (zqdh (.int .u8 1)).run Tryz.prog w = .ok (.value (.agg (ints .u8 32 (upd zqe 0 1)))) w := by kernel_rfl
attribute [irreducible] zqdh
theorem zqqa (z M L : Nat -> Int) (w : World) (hT : Tabs w) (hz : z = upd zqe 0 1) (hs : same 32 M L = false) (c1 : ∀ W : World, Tabs W -> Calls Tryz.prog 207 #[.agg (ints .u8 32 z)] W (Rt W (.agg (ints .u8 32 M)))) (c2 : ∀ W : World, Tabs W -> Calls Tryz.prog 240 #[.agg (ints .u8 32 z)] W (Rt W (.agg (ints .u8 32 L)))) (aw : ∀ W : World, Tabs W -> Calls Tryz.prog 239 #[] W (Rt W (.bool true))) :
  Calls Tryz.prog 238 #[] w (Rt w (.bool true)) := by
 subst hz;have hTT : Hid (Tabs w) := hT;clear hT;have hG := Grew.refl w
 go_enter Tryz.func238, Tryz.ntmps238
 go_wp2_with fail
 (refine (aw _ (hTT.out.later hG)).mono ?_; rintro e w1 ⟨rfl, hb⟩; replace hG : Below w.heap.size w w1 := Grew.trans (by exact zqf) hb; clear hb)
 go_wp2_with fail
 (refine (c1 _ (hTT.out.later hG)).mono ?_; rintro e w2 ⟨rfl, hb⟩; replace hG : Below w.heap.size w w2 := Grew.trans (by exact zqf) hb; clear hb)
 go_wp2_with fail
 (refine (c2 _ (hTT.out.later hG)).mono ?_; rintro e w3 ⟨rfl, hb⟩; replace hG : Below w.heap.size w w3 := Grew.trans (by exact zqf) hb; clear hb)
 go_wp2;go_ret;exact ⟨rfl, by exact zqf⟩
theorem zqsz (hN : zrih) (hL : zrf5) (aw : ∀ W : World, Tabs W -> Calls Tryz.prog 239 #[] W (Rt W (.bool true))) (w : World) (hT : Tabs w) :
  Calls Tryz.prog 238 #[] w (Rt w (.bool true)) := zqqa _ _ _ w hT rfl zq1p (fun W h => hN _ W (fun i hi => by unfold upd zqe; split <;> omega) h) (fun W h => hL _ W (fun i hi => by unfold upd zqe; split <;> omega) h) aw
attribute [local irreducible] catS
end Go.Proofs.YtnjghcnhcbobhaaGreatDoor
