/- R10 -/
import Derived.Test.YtfglcifnjaknnaaGreatDoorR9
import Derived.Test.YtfglcifnjaknnaaGreatDoorMa
set_option linter.unusedVariables false
set_option linter.unusedSimpArgs false
set_option maxRecDepth 100000
set_option maxHeartbeats 4000000
namespace Go.Proofs.YtfglcifnjaknnaaGreatDoor
open Go.RowKit
attribute [local irreducible] strOf shaF zqcd padB zqc0 zqbv
attribute [local irreducible] macF
def zqda (z : Nat -> Int) : Nat -> Int := zqbw ⟨#[115, 97, 112, 119, 111, 111, 100, 32, 110, 111, 100, 101]⟩ (strOf 32 z) ByteArray.empty
def zqmo (z : Nat -> Int) : Nat -> Int := zqbw ⟨#[115, 97, 112, 119, 111, 111, 100, 32, 108, 101, 97, 102]⟩ (strOf 32 z) ByteArray.empty
def tagF (z : Nat -> Int) : Nat -> Int := zqbw ⟨#[115, 97, 112, 119, 111, 111, 100, 32, 116, 97, 103]⟩ (strOf 32 z) ByteArray.empty
def zqd9 (o t p : Nat -> Int) : Nat -> Int := zqbw ⟨#[115, 97, 112, 119, 111, 111, 100, 32, 115, 116, 97, 103, 101]⟩ (strOf 32 o ++ strOf 32 t) (strOf 32 p)
def zqf6 (o : Nat -> Int) (m : ByteArray) : Nat -> Int := shaF (strOf 32 o ++ m)
theorem zqyg (z : Nat -> Int) : Bytes 32 (zqda z) := zqtz _ _ _
end Go.Proofs.YtfglcifnjaknnaaGreatDoor
namespace Go.Proofs.YtfglcifnjaknnaaGreatDoor
open Go.RowKit
theorem zq1d : same 32 (zqda (upd zqd 0 1)) (zqmo (upd zqd 0 1)) = false := by
 have h : (zqda (upd zqd 0 1) 0 == zqmo (upd zqd 0 1) 0) = false := by decide +kernel
 cases e : same 32 (zqda (upd zqd 0 1)) (zqmo (upd zqd 0 1)) with
 | false => rfl
 | true =>
  have := (same_iff _ _ _).1 e 0 (by decide);rw [this] at h
  simp at h
attribute [local irreducible] strOf shaF zqcd padB zqc0 zqbv
attribute [local irreducible] macF
attribute [local irreducible] zqbw oneF zqda zqmo tagF zqd9 zqf6
def zrfb : Prop := ∀ (z : Nat -> Int) (W : World), Bytes 32 z -> Tabs W -> Calls Tryz.prog 235 #[.agg (ints .u8 32 z)] W (Rt W (.agg (ints .u8 32 (zqda z))))
def zrdj : Prop := ∀ (z : Nat -> Int) (W : World), Bytes 32 z -> Tabs W -> Calls Tryz.prog 246 #[.agg (ints .u8 32 z)] W (Rt W (.agg (ints .u8 32 (zqmo z))))
def zqcs (v : Value) : Sem Next := do pure (.value (<- Instr.build 29 #[(0, v)]))
@[go_sem ↓ high] theorem zrfm (ρ : Operand -> Value) (dd : Option Tmp) (x : Operand) (t : TypeId) (pos : String) (af : Array Edge) (gg : Option (Nat × Bool)) :
  execOp ρ ⟨dd, .build 29 #[(0, x)], t, pos, af, gg⟩ = zqcs (ρ x) := by simp [execOp, zqcs]
@[go_sem high] theorem zrdf (ρ : Operand -> Value) (dd : Option Tmp) (x : Operand) (t : TypeId) (pos : String) (af : Array Edge) (gg : Option (Nat × Bool)) :
  execOp ρ ⟨dd, .build 29 #[(0, x)], t, pos, af, gg⟩ = zqcs (ρ x) := by simp [execOp, zqcs]
@[go_sem] theorem zrhr (w : World) : (zqcs (.int .u8 1)).run Tryz.prog w = .ok (.value (.agg (ints .u8 32 (upd zqd 0 1)))) w := by kernel_rfl
attribute [irreducible] zqcs
theorem zqrg (z M L : Nat -> Int) (w : World) (hT : Tabs w) (hz : z = upd zqd 0 1) (hs : same 32 M L = false) (c1 : ∀ W : World, Tabs W -> Calls Tryz.prog 235 #[.agg (ints .u8 32 z)] W (Rt W (.agg (ints .u8 32 M)))) (c2 : ∀ W : World, Tabs W -> Calls Tryz.prog 246 #[.agg (ints .u8 32 z)] W (Rt W (.agg (ints .u8 32 L)))) (aw : ∀ W : World, Tabs W -> Calls Tryz.prog 245 #[] W (Rt W (.bool true))) :
  Calls Tryz.prog 244 #[] w (Rt w (.bool true)) := by
 subst hz;have hTT : Hid (Tabs w) := hT;clear hT;have hG := Grew.refl w
 go_enter Tryz.func244, Tryz.ntmps244
 go_wp2_with fail
 (refine (aw _ (hTT.out.later hG)).mono ?_; rintro e w1 ⟨rfl, hb⟩; replace hG : Below w.heap.size w w1 := Grew.trans (by exact zqf) hb; clear hb)
 go_wp2_with fail
 (refine (c1 _ (hTT.out.later hG)).mono ?_; rintro e w2 ⟨rfl, hb⟩; replace hG : Below w.heap.size w w2 := Grew.trans (by exact zqf) hb; clear hb)
 go_wp2_with fail
 (refine (c2 _ (hTT.out.later hG)).mono ?_; rintro e w3 ⟨rfl, hb⟩; replace hG : Below w.heap.size w w3 := Grew.trans (by exact zqf) hb; clear hb)
 go_wp2;go_ret;exact ⟨rfl, by exact zqf⟩
theorem zqr1 (hN : zrfb) (hL : zrdj) (aw : ∀ W : World, Tabs W -> Calls Tryz.prog 245 #[] W (Rt W (.bool true))) (w : World) (hT : Tabs w) :
  Calls Tryz.prog 244 #[] w (Rt w (.bool true)) := zqrg _ _ _ w hT rfl zq1d (fun W h => hN _ W (fun i hi => by unfold upd zqd; split <;> omega) h) (fun W h => hL _ W (fun i hi => by unfold upd zqd; split <;> omega) h) aw
attribute [local irreducible] catS
end Go.Proofs.YtfglcifnjaknnaaGreatDoor
