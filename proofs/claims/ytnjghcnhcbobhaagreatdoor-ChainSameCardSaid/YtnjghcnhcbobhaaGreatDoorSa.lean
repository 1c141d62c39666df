/- Sa -/
import Derived.Test.YtnjghcnhcbobhaaGreatDoorSi
import Derived.Test.YtnjghcnhcbobhaaGreatDoorRel
import Derived.Test.YtnjghcnhcbobhaaGreatDoorDh
set_option linter.unusedVariables false
set_option linter.unusedSimpArgs false
set_option maxRecDepth 100000
set_option maxHeartbeats 4000000
namespace Go.Proofs.YtnjghcnhcbobhaaGreatDoor
open Go.RowKit
def oneS (a : ByteArray) : Nat -> ByteArray := fun _ => a
def twoS (a b : ByteArray) : Nat -> ByteArray := fun j => if j = 0 then a else b
theorem zqfs (a : ByteArray) : catS (oneS a) 1 = a := ByteArray.empty_append
theorem zq4u (a b : ByteArray) : catS (twoS a b) 2 = a ++ b := by
 show ByteArray.empty ++ a ++ b = _
 rw [ByteArray.empty_append]
theorem zqm7 (a : ByteArray) (W : World) : (Instr.buildSlice 155 1 #[(0, .string a)]).run Tryz.prog W = .ok (.slice (some ⟨W.heap.size, 0, none⟩) 1 1) (W.alloc (.cells #[.string a] 9)) := by kernel_rfl
theorem zre5 (a b : ByteArray) (W : World) : (Instr.buildSlice 155 2 #[(0, .string a), (1, .string b)]).run Tryz.prog W = .ok (.slice (some ⟨W.heap.size, 0, none⟩) 2 2) (W.alloc (.cells #[.string a, .string b] 9)) := by kernel_rfl
def zqkb (v : Value) : Sem Next := do pure (.value (<- Instr.buildSlice 155 1 #[(0, v)]))
@[go_sem ↓ high] theorem zqyu (ρ : Operand -> Value) (d : Option Tmp) (x : Operand) (t : TypeId) (pos : String) (af : Array Edge) (g : Option (Nat × Bool)) :
  execOp ρ ⟨d, .buildSlice 155 1 #[(0, x)], t, pos, af, g⟩ = zqkb (ρ x) := by
 unfold execOp zqkb
 simp
@[go_sem high] theorem zrdn (ρ : Operand -> Value) (d : Option Tmp) (x : Operand) (t : TypeId) (pos : String) (af : Array Edge) (g : Option (Nat × Bool)) :
  execOp ρ ⟨d, .buildSlice 155 1 #[(0, x)], t, pos, af, g⟩ = zqkb (ρ x) := zqyu ρ d x t pos af g
@[go_sem] theorem zre1 (a : ByteArray) (W : World) : (zqkb (.string a)).run Tryz.prog W = .ok (.value (.slice (some ⟨W.heap.size, 0, none⟩) 1 1)) (W.alloc (.cells #[.string a] 9)) := by
 unfold zqkb
 simp only [Sem.run_bind, zqm7, Result.andThen_ok, Sem.run_pure]
def zqj3 (u v : Value) : Sem Next := do pure (.value (<- Instr.buildSlice 155 2 #[(0, u), (1, v)]))
@[go_sem ↓ high] theorem zqyd (ρ : Operand -> Value) (d : Option Tmp) (x y : Operand) (t : TypeId) (pos : String) (af : Array Edge) (g : Option (Nat × Bool)) :
  execOp ρ ⟨d, .buildSlice 155 2 #[(0, x), (1, y)], t, pos, af, g⟩ = zqj3 (ρ x) (ρ y) := by
 unfold execOp zqj3
 simp
@[go_sem high] theorem zrdg (ρ : Operand -> Value) (d : Option Tmp) (x y : Operand) (t : TypeId) (pos : String) (af : Array Edge) (g : Option (Nat × Bool)) :
  execOp ρ ⟨d, .buildSlice 155 2 #[(0, x), (1, y)], t, pos, af, g⟩ = zqj3 (ρ x) (ρ y) := zqyd ρ d x y t pos af g
@[go_sem] theorem zrfz (a b : ByteArray) (W : World) : (zqj3 (.string a) (.string b)).run Tryz.prog W = .ok (.value (.slice (some ⟨W.heap.size, 0, none⟩) 2 2)) (W.alloc (.cells #[.string a, .string b] 9)) := by
 unfold zqj3
 simp only [Sem.run_bind, zre5, Result.andThen_ok, Sem.run_pure]
attribute [irreducible] zqkb zqj3
theorem zqh0 {W : World} {g : Nat} {a : ByteArray} {t : TypeId} {fr : Nat × Nat} (h : zqd W g = some (.cells #[.string a] t fr)) : StrsAt W (some ⟨g, 0, none⟩) 1 (oneS a) := by
 refine .inr ⟨_, rfl, fun w' hb j hj => ?_⟩;have h' := zqc hb h;unfold zqd at h';obtain rfl : j = 0 := by omega
 have e : (⟨g, 0, none⟩ : Addr).add 0 = ⟨g, 0, none⟩ := by unfold Addr.add; split <;> simp_all
 rw [e, cell_of_row w' g _ _ _ _ h']
 rfl
theorem zq9r {W : World} {g : Nat} {a b : ByteArray} {t : TypeId} {fr : Nat × Nat} (h : zqd W g = some (.cells #[.string a, .string b] t fr)) : StrsAt W (some ⟨g, 0, none⟩) 2 (twoS a b) := by
 refine .inr ⟨_, rfl, fun w' hb j hj => ?_⟩;have h' := zqc hb h;unfold zqd at h';have e : (⟨g, 0, none⟩ : Addr).add j = ⟨g, j, none⟩ := by unfold Addr.add; split <;> simp_all
 rw [e, cell_of_row w' g _ _ _ _ h']
 rcases (by omega : j = 0 \/ j = 1) with rfl | rfl <;> rfl
theorem zqhb (W : World) (F : Nat -> ByteArray) : StrsAt W none 0 F := .inl rfl
theorem zq3d (z : Nat) (hz : z <= 140737488355328) (W : World) : Calls Tryz.prog 139 #[.string ⟨#[0]⟩, .int .i64 z] W (Rt W (.string (zqap z))) :=
 Tryz.strings_Repeat ⟨#[0]⟩ z W (by omega) (by show 1 * z <= 140737488355328; omega)
theorem zq6q : ((List.range 64).map fun i => UInt8.ofNat (hexd (shaF ByteArray.empty) i).toNat) = [101, 51, 98, 48, 99, 52, 52, 50, 57, 56, 102, 99, 49, 99, 49, 52, 57, 97, 102, 98, 102, 52, 99, 56, 57, 57, 54, 102, 98, 57, 50, 52, 50, 55, 97, 101, 52, 49, 101, 52, 54, 52, 57, 98, 57, 51, 52, 99, 97, 52, 57, 53, 57, 57, 49, 98, 55, 56, 53, 50, 98, 56, 53, 53] := by decide +kernel
def zqj4 (s : ByteArray) : Array Value := zqb5 (byteAt s) s.size
@[go_sem] theorem zrh6 (s : ByteArray) : (zqj4 s).size = 73 := zqjs _ _
@[go_sem] theorem zrjw (s : ByteArray) : zqai (zqj4 s) = true := zq0i _ _
@[go_sem] theorem zrgi : zqa1 zqe zqe 0 = zqj4 ByteArray.empty := rfl
theorem zrn2 (w : World) : Calls Tryz.prog 112 #[] w (Rt w (.agg (zqj4 ByteArray.empty))) := zq3q w
theorem zq2d (s : ByteArray) (oa : Option Addr) (n c : Nat) (F : Nat -> ByteArray) (w : World) (hl : s.size + (catS F n).size < 1152921504606846976) (hn : n <= 9223372036854775807) (hS : StrsAt w oa n F) (hT : Tabs w) :
  Calls Tryz.prog 113 #[.agg (zqj4 s), .slice oa n c] w (Rt w (.agg (zqj4 (s ++ catS F n)))) := write_any s oa n c F w hl hn hS hT
theorem zrp0 (s : ByteArray) (w : World) (hs : s.size < 1152921504606846976) (hT : Tabs w) : Calls Tryz.prog 115 #[.agg (zqj4 s)] w (Rt w (.agg (ints .u8 32 (shaF s)))) := zqvs s w hs hT
attribute [irreducible] zqj4
set_option maxHeartbeats 1000000 in
theorem zqxo (w : World) :
  Calls Tryz.prog 247 #[] w (Rt w (.bool true)) := by
 have hG := Grew.refl w
 go_enter Tryz.func247, Tryz.ntmps247
 go_wp2_with fail
 (refine (zqxj _).mono ?_; rintro e w1 ⟨rfl, hb⟩; replace hG : Below w.heap.size w w1 := Grew.trans (by exact zqf) hb; clear hb)
 go_wp2;go_ret;exact ⟨rfl, by exact zqf⟩
theorem zqxd (w : World) (hT : Tabs w) :
  Calls Tryz.prog 246 #[] w (Rt w (.bool true)) := by
 have h2 : ((strOf 64 (hexd (shaF ByteArray.empty))).toList == [101, 51, 98, 48, 99, 52, 52, 50, 57, 56, 102, 99, 49, 99, 49, 52, 57, 97, 102, 98, 102, 52, 99, 56, 57, 57, 54, 102, 98, 57, 50, 52, 50, 55, 97, 101, 52, 49, 101, 52, 54, 52, 57, 98, 57, 51, 52, 99, 97, 52, 57, 53, 57, 57, 49, 98, 55, 56, 53, 50, 98, 56, 53, 53]) = true := by
  rw [zqe2, zq6q];exact beq_self_eq_true _
 have hs : Hid (∀ W : World, Below w.heap.size w W -> Calls Tryz.prog 116 #[.slice none 0 0] W (Rt W (.agg (ints .u8 32 (shaF ByteArray.empty))))) := fun W hW => zqqf none 0 0 (oneS ByteArray.empty) W (by decide) (by decide) (zqhb _ _) (hT.later hW);clear hT;have hb := zqri ByteArray.empty;generalize shaF ByteArray.empty = F at *;have hG := Grew.refl w
 go_enter Tryz.func246, Tryz.ntmps246
 go_wp2_with fail
 (refine (zqxo _).mono ?_; rintro e w1 ⟨rfl, hb⟩; replace hG : Below w.heap.size w w1 := Grew.trans (by exact zqf) hb; clear hb)
 go_wp2_with fail
 (refine (hs.out _ hG).mono ?_; rintro e w2 ⟨rfl, hb⟩; replace hG : Below w.heap.size w w2 := Grew.trans (by exact zqf) hb; clear hb)
 go_wp2_with fail
 (refine (zqud F _ hb).mono ?_; rintro e w3 ⟨rfl, hb⟩; replace hG : Below w.heap.size w w3 := Grew.trans (by exact zqf) hb; clear hb)
 go_wp2;go_ret;exact ⟨rfl, by exact zqf⟩
set_option maxHeartbeats 1000000 in
theorem zqyj (w : World) (hT : Tabs w) :
  Calls Tryz.prog 244 #[] w (Rt w (.bool true)) := by
 have hG := Grew.refl w
 go_enter Tryz.func244, Tryz.ntmps244
 go_wp2_with fail
 (refine (zqxd _ hT).mono ?_; rintro e w1 ⟨rfl, hb⟩; replace hG : Below w.heap.size w w1 := Grew.trans (by exact zqf) hb; clear hb)
 go_wp2;go_ret;exact ⟨rfl, by exact zqf⟩
attribute [go_sem] zq1 zqbu
end Go.Proofs.YtnjghcnhcbobhaaGreatDoor
