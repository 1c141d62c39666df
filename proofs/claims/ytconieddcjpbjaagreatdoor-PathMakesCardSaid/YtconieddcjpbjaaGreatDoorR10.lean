/- R10 -/
import Derived.Test.YtconieddcjpbjaaGreatDoorR9
import Derived.Test.YtconieddcjpbjaaGreatDoorMa
import Derived.Test.YtconieddcjpbjaaGreatDoorJn
set_option linter.unusedVariables false
set_option linter.unusedSimpArgs false
set_option maxRecDepth 100000
set_option maxHeartbeats 4000000
namespace Go.Proofs.YtconieddcjpbjaaGreatDoor
open Go.RowKit
attribute [local irreducible] strOf shaF zqay padB zqb8 zqcf
attribute [local irreducible] macF
def zqc4 (z : Nat -> Int) : Nat -> Int := zqb1 ⟨#[115, 97, 112, 119, 111, 111, 100, 32, 110, 111, 100, 101]⟩ (strOf 32 z) ByteArray.empty
def zqoy (z : Nat -> Int) : Nat -> Int := zqb1 ⟨#[115, 97, 112, 119, 111, 111, 100, 32, 108, 101, 97, 102]⟩ (strOf 32 z) ByteArray.empty
theorem zqzh (z : Nat -> Int) : Bytes 32 (zqc4 z) := zqug _ _ _
theorem zq1c (name secret info : ByteArray) (w : World) (h1 : name.size <= 100000) (h2 : secret.size <= 100000) (h3 : info.size <= 100000) :
  Calls Tryz.prog 103 #[.string name, .string secret, .string info] w (Rt w (.agg (ints .u8 32 (zqb1 name secret info)))) := by
 have c1 := fun W : World => zqtt name secret W (by omega) (by omega);have c2 := fun W : World => zq5x (macF name secret) info W h3;have e : oneF (strOf 32 (macF name secret)) info = zqb1 name secret info := rfl;rw [e] at c2;clear e;generalize zqb1 name secret info = L at *;generalize macF name secret = M at *;have hG := Grew.refl w;have fr : True := trivial
 go_enter Tryz.func103, Tryz.ntmps103
 go_wp2_with fail;generalize hW : w.alloc (.cells (ints .u8 32 (zqg)) 23) = w1;replace fr : zqd w1 (w.heap.size) = some (.cells (ints .u8 32 (zqg)) 23) := zqk hW;replace hG : Below w.heap.size w w1 := zq2 hW;clear hW;have lfr := zqa fr;go_wp2_with fail
 (refine (c1 _).mono ?_; rintro e w2 ⟨rfl, hb⟩; replace fr := zqb hb fr; have lfr := zqa fr; replace hG : Below w.heap.size w w2 := Grew.trans (by exact zqf) hb; clear hb)
 go_wp2_with fail
 (refine (c2 _).mono ?_; rintro e w3 ⟨rfl, hb⟩; replace fr := zqb hb fr; have lfr := zqa fr; replace hG : Below w.heap.size w w3 := Grew.trans (by exact zqf) hb; clear hb)
 go_wp2;refine zqaf rfl _ 23 _ (0, 0) _ rfl (zqs _ fr) Tryz.underlying23 rfl (by rw [zqh]; kernel_rfl) rfl ⟨rfl, by exact zqf⟩
theorem zq2i (z : Nat -> Int) (w : World) :
  Calls Tryz.prog 92 #[.agg (ints .u8 32 z)] w (Rt w (.agg (ints .u8 32 (zqc4 z)))) := by
 have c1 := fun W : World => zqki z W;have c2 : ∀ W : World, Calls Tryz.prog 103 #[.string ⟨#[115, 97, 112, 119, 111, 111, 100, 32, 110, 111, 100, 101]⟩, .string (strOf 32 z), .string ⟨#[]⟩] W (Rt W (.agg (ints .u8 32 (zqc4 z)))) := fun W => zq1c ⟨#[115, 97, 112, 119, 111, 111, 100, 32, 110, 111, 100, 101]⟩ (strOf 32 z) ByteArray.empty W (by decide) (by rw [zqal]; decide) (by decide);generalize zqc4 z = L at *;generalize strOf 32 z = Z at *;have hG := Grew.refl w;have fk : True := trivial;have fr : True := trivial
 go_enter Tryz.func92, Tryz.ntmps92
 go_wp2_with fail;generalize hW : (w.alloc (.cells (ints .u8 32 (z)) 23)).alloc (.cells (ints .u8 32 (zqg)) 23) = w1;replace fk : zqd w1 (w.heap.size) = some (.cells (ints .u8 32 (z)) 23) := zqk hW;replace fr : zqd w1 (w.heap.size + 1) = some (.cells (ints .u8 32 (zqg)) 23) := zqk hW;replace hG : Below w.heap.size w w1 := zq2 hW;clear hW;have lfk := zqa fk;have lfr := zqa fr;go_wp2_with fail
 (refine (c1 _).mono ?_; rintro e w2 ⟨rfl, hb⟩; replace fk : zqd w2 (w.heap.size) = some (.cells (ints .u8 32 (z)) 23) := zqb hb (by exact zqe); have lfk := zqa fk; replace fr : zqd w2 (w.heap.size + 1) = some (.cells (ints .u8 32 (zqg)) 23) := zqb hb (by exact zqe); have lfr := zqa fr; replace hG : Below w.heap.size w w2 := Grew.trans (by exact zqf) hb; clear hb)
 go_wp2_with fail
 (refine (c2 _).mono ?_; rintro e w3 ⟨rfl, hb⟩; replace fk : zqd w3 (w.heap.size) = some (.cells (ints .u8 32 (z)) 23) := zqb hb (by exact zqe); have lfk := zqa fk; replace fr : zqd w3 (w.heap.size + 1) = some (.cells (ints .u8 32 (zqg)) 23) := zqb hb (by exact zqe); have lfr := zqa fr; replace hG : Below w.heap.size w w3 := Grew.trans (by exact zqf) hb; clear hb)
 go_wp2;refine zqaf rfl _ 23 _ (0, 0) _ rfl (zqs _ fr) Tryz.underlying23 rfl (by rw [zqh]; kernel_rfl) rfl ⟨rfl, by exact zqf⟩
end Go.Proofs.YtconieddcjpbjaaGreatDoor
namespace Go.Proofs.YtconieddcjpbjaaGreatDoor
open Go.RowKit
theorem zq3h : same 32 (zqc4 (upd zqg 0 1)) (zqoy (upd zqg 0 1)) = false := by
 have h : (zqc4 (upd zqg 0 1) 0 == zqoy (upd zqg 0 1) 0) = false := by decide +kernel
 cases e : same 32 (zqc4 (upd zqg 0 1)) (zqoy (upd zqg 0 1)) with
 | false => rfl
 | true =>
  have := (same_iff _ _ _).1 e 0 (by decide);rw [this] at h
  simp at h
attribute [local irreducible] strOf shaF zqay padB zqb8 zqcf
attribute [local irreducible] macF
attribute [local irreducible] zqb1 oneF zqc4 zqoy
def zrhw : Prop := ∀ (z : Nat -> Int) (W : World), Bytes 32 z -> Tabs W -> Calls Tryz.prog 85 #[.agg (ints .u8 32 z)] W (Rt W (.agg (ints .u8 32 (zqc4 z))))
def zrf4 : Prop := ∀ (z : Nat -> Int) (W : World), Bytes 32 z -> Tabs W -> Calls Tryz.prog 160 #[.agg (ints .u8 32 z)] W (Rt W (.agg (ints .u8 32 (zqoy z))))
def zqdz (v : Value) : Sem Next := do pure (.value (<- Instr.build 24 #[(0, v)]))
@[go_sem ↓ high] theorem zrii (ρ : Operand -> Value) (dd : Option Tmp) (x : Operand) (t : TypeId) (pos : String) (af : Array Edge) (gg : Option (Nat × Bool)) :
  execOp ρ ⟨dd, .build 24 #[(0, x)], t, pos, af, gg⟩ = zqdz (ρ x) := by simp [execOp, zqdz]
@[go_sem high] theorem zrfh (ρ : Operand -> Value) (dd : Option Tmp) (x : Operand) (t : TypeId) (pos : String) (af : Array Edge) (gg : Option (Nat × Bool)) :
  execOp ρ ⟨dd, .build 24 #[(0, x)], t, pos, af, gg⟩ = zqdz (ρ x) := by simp [execOp, zqdz]
@[go_sem] theorem zrjx (w : World) : (zqdz (.int .u8 1)).run Tryz.prog w = .ok (.value (.agg (ints .u8 32 (upd zqg 0 1)))) w := by kernel_rfl
attribute [irreducible] zqdz
theorem zqr4 (z M L : Nat -> Int) (w : World) (hT : Tabs w) (hz : z = upd zqg 0 1) (hs : same 32 M L = false) (c1 : ∀ W : World, Tabs W -> Calls Tryz.prog 85 #[.agg (ints .u8 32 z)] W (Rt W (.agg (ints .u8 32 M)))) (c2 : ∀ W : World, Tabs W -> Calls Tryz.prog 160 #[.agg (ints .u8 32 z)] W (Rt W (.agg (ints .u8 32 L)))) (aw : ∀ W : World, Tabs W -> Calls Tryz.prog 159 #[] W (Rt W (.bool true))) :
  Calls Tryz.prog 144 #[] w (Rt w (.bool true)) := by
 subst hz;have hTT : Hid (Tabs w) := hT;clear hT;have hG := Grew.refl w
 go_enter Tryz.func144, Tryz.ntmps144
 go_wp2_with fail
 (refine (aw _ (hTT.out.later hG)).mono ?_; rintro e w1 ⟨rfl, hb⟩; replace hG : Below w.heap.size w w1 := Grew.trans (by exact zqf) hb; clear hb)
 go_wp2_with fail
 (refine (c1 _ (hTT.out.later hG)).mono ?_; rintro e w2 ⟨rfl, hb⟩; replace hG : Below w.heap.size w w2 := Grew.trans (by exact zqf) hb; clear hb)
 go_wp2_with fail
 (refine (c2 _ (hTT.out.later hG)).mono ?_; rintro e w3 ⟨rfl, hb⟩; replace hG : Below w.heap.size w w3 := Grew.trans (by exact zqf) hb; clear hb)
 go_wp2;go_ret;exact ⟨rfl, by exact zqf⟩
theorem zqvj (hN : zrhw) (hL : zrf4) (aw : ∀ W : World, Tabs W -> Calls Tryz.prog 159 #[] W (Rt W (.bool true))) (w : World) (hT : Tabs w) :
  Calls Tryz.prog 144 #[] w (Rt w (.bool true)) := zqr4 _ _ _ w hT rfl zq3h (fun W h => hN _ W (fun i hi => by unfold upd zqg; split <;> omega) h) (fun W h => hL _ W (fun i hi => by unfold upd zqg; split <;> omega) h) aw
attribute [local irreducible] catS
end Go.Proofs.YtconieddcjpbjaaGreatDoor
