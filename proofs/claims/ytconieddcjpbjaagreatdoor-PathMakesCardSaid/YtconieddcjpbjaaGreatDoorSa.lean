/- Sa -/
import Derived.Test.YtconieddcjpbjaaGreatDoorSi
import Derived.Test.YtconieddcjpbjaaGreatDoorRel
import Derived.Test.YtconieddcjpbjaaGreatDoorDh
set_option linter.unusedVariables false
set_option linter.unusedSimpArgs false
set_option maxRecDepth 100000
set_option maxHeartbeats 4000000
namespace Go.Proofs.YtconieddcjpbjaaGreatDoor
open Go.RowKit
def oneS (a : ByteArray) : Nat -> ByteArray := fun _ => a
def twoS (a b : ByteArray) : Nat -> ByteArray := fun j => if j = 0 then a else b
theorem zqld (a : ByteArray) : catS (oneS a) 1 = a := ByteArray.empty_append
theorem zq38 (a b : ByteArray) : catS (twoS a b) 2 = a ++ b := by
 show ByteArray.empty ++ a ++ b = _
 rw [ByteArray.empty_append]
theorem zrbm (a : ByteArray) (W : World) : (Instr.buildSlice 156 1 #[(0, .string a)]).run Tryz.prog W = .ok (.slice (some ⟨W.heap.size, 0, none⟩) 1 1) (W.alloc (.cells #[.string a] 9)) := by kernel_rfl
theorem zrep (a b : ByteArray) (W : World) : (Instr.buildSlice 156 2 #[(0, .string a), (1, .string b)]).run Tryz.prog W = .ok (.slice (some ⟨W.heap.size, 0, none⟩) 2 2) (W.alloc (.cells #[.string a, .string b] 9)) := by kernel_rfl
def zqkm (v : Value) : Sem Next := do pure (.value (<- Instr.buildSlice 156 1 #[(0, v)]))
@[go_sem ↓ high] theorem zq0a (ρ : Operand -> Value) (d : Option Tmp) (x : Operand) (t : TypeId) (pos : String) (af : Array Edge) (g : Option (Nat × Bool)) :
  execOp ρ ⟨d, .buildSlice 156 1 #[(0, x)], t, pos, af, g⟩ = zqkm (ρ x) := by
 unfold execOp zqkm
 simp
@[go_sem high] theorem zrcy (ρ : Operand -> Value) (d : Option Tmp) (x : Operand) (t : TypeId) (pos : String) (af : Array Edge) (g : Option (Nat × Bool)) :
  execOp ρ ⟨d, .buildSlice 156 1 #[(0, x)], t, pos, af, g⟩ = zqkm (ρ x) := zq0a ρ d x t pos af g
@[go_sem] theorem zrbq (a : ByteArray) (W : World) : (zqkm (.string a)).run Tryz.prog W = .ok (.value (.slice (some ⟨W.heap.size, 0, none⟩) 1 1)) (W.alloc (.cells #[.string a] 9)) := by
 unfold zqkm
 simp only [Sem.run_bind, zrbm, Result.andThen_ok, Sem.run_pure]
def zqkj (u v : Value) : Sem Next := do pure (.value (<- Instr.buildSlice 156 2 #[(0, u), (1, v)]))
@[go_sem ↓ high] theorem zqy9 (ρ : Operand -> Value) (d : Option Tmp) (x y : Operand) (t : TypeId) (pos : String) (af : Array Edge) (g : Option (Nat × Bool)) :
  execOp ρ ⟨d, .buildSlice 156 2 #[(0, x), (1, y)], t, pos, af, g⟩ = zqkj (ρ x) (ρ y) := by
 unfold execOp zqkj
 simp
@[go_sem high] theorem zrce (ρ : Operand -> Value) (d : Option Tmp) (x y : Operand) (t : TypeId) (pos : String) (af : Array Edge) (g : Option (Nat × Bool)) :
  execOp ρ ⟨d, .buildSlice 156 2 #[(0, x), (1, y)], t, pos, af, g⟩ = zqkj (ρ x) (ρ y) := zqy9 ρ d x y t pos af g
@[go_sem] theorem zrb3 (a b : ByteArray) (W : World) : (zqkj (.string a) (.string b)).run Tryz.prog W = .ok (.value (.slice (some ⟨W.heap.size, 0, none⟩) 2 2)) (W.alloc (.cells #[.string a, .string b] 9)) := by
 unfold zqkj
 simp only [Sem.run_bind, zrep, Result.andThen_ok, Sem.run_pure]
attribute [irreducible] zqkm zqkj
theorem zqqr {W : World} {g : Nat} {a : ByteArray} {t : TypeId} {fr : Nat × Nat} (h : zqd W g = some (.cells #[.string a] t fr)) : StrsAt W (some ⟨g, 0, none⟩) 1 (oneS a) := by
 refine .inr ⟨_, rfl, fun w' hb j hj => ?_⟩;have h' := zqb hb h;unfold zqd at h';obtain rfl : j = 0 := by omega
 have e : (⟨g, 0, none⟩ : Addr).add 0 = ⟨g, 0, none⟩ := by unfold Addr.add; split <;> simp_all
 rw [e, cell_of_row w' g _ _ _ _ h']
 rfl
theorem zq6t {W : World} {g : Nat} {a b : ByteArray} {t : TypeId} {fr : Nat × Nat} (h : zqd W g = some (.cells #[.string a, .string b] t fr)) : StrsAt W (some ⟨g, 0, none⟩) 2 (twoS a b) := by
 refine .inr ⟨_, rfl, fun w' hb j hj => ?_⟩;have h' := zqb hb h;unfold zqd at h';have e : (⟨g, 0, none⟩ : Addr).add j = ⟨g, j, none⟩ := by unfold Addr.add; split <;> simp_all
 rw [e, cell_of_row w' g _ _ _ _ h']
 rcases (by omega : j = 0 \/ j = 1) with rfl | rfl <;> rfl
theorem zqkb (W : World) (F : Nat -> ByteArray) : StrsAt W none 0 F := .inl rfl
theorem zq31 (z : Nat) (hz : z <= 140737488355328) (W : World) : Calls Tryz.prog 168 #[.string ⟨#[0]⟩, .int .i64 z] W (Rt W (.string (zqay z))) :=
 Tryz.strings_Repeat ⟨#[0]⟩ z W (by omega) (by show 1 * z <= 140737488355328; omega)
theorem zq8g : ((List.range 64).map fun i => UInt8.ofNat (hexd (shaF ByteArray.empty) i).toNat) = [101, 51, 98, 48, 99, 52, 52, 50, 57, 56, 102, 99, 49, 99, 49, 52, 57, 97, 102, 98, 102, 52, 99, 56, 57, 57, 54, 102, 98, 57, 50, 52, 50, 55, 97, 101, 52, 49, 101, 52, 54, 52, 57, 98, 57, 51, 52, 99, 97, 52, 57, 53, 57, 57, 49, 98, 55, 56, 53, 50, 98, 56, 53, 53] := by decide +kernel
def zqkn (s : ByteArray) : Array Value := zqcf (byteAt s) s.size
@[go_sem] theorem zre5 (s : ByteArray) : (zqkn s).size = 73 := zqk3 _ _
@[go_sem] theorem zrib (s : ByteArray) : zqa5 (zqkn s) = true := zq1k _ _
@[go_sem] theorem zrer : zqa7 zqg zqg 0 = zqkn ByteArray.empty := rfl
theorem zrle (w : World) : Calls Tryz.prog 152 #[] w (Rt w (.agg (zqkn ByteArray.empty))) := zq2n w
theorem zq17 (s : ByteArray) (oa : Option Addr) (n c : Nat) (F : Nat -> ByteArray) (w : World) (hl : s.size + (catS F n).size < 1152921504606846976) (hn : n <= 9223372036854775807) (hS : StrsAt w oa n F) (hT : Tabs w) :
  Calls Tryz.prog 153 #[.agg (zqkn s), .slice oa n c] w (Rt w (.agg (zqkn (s ++ catS F n)))) := write_any s oa n c F w hl hn hS hT
theorem zrk0 (s : ByteArray) (w : World) (hs : s.size < 1152921504606846976) (hT : Tabs w) : Calls Tryz.prog 155 #[.agg (zqkn s)] w (Rt w (.agg (ints .u8 32 (shaF s)))) := zqwq s w hs hT
attribute [irreducible] zqkn
set_option maxHeartbeats 1000000 in
theorem zqx8 (w : World) :
  Calls Tryz.prog 197 #[] w (Rt w (.bool true)) := by
 have hG := Grew.refl w
 go_enter Tryz.func197, Tryz.ntmps197
 go_wp2_with fail
 (refine (zq1i _).mono ?_; rintro e w1 ⟨rfl, hb⟩; replace hG : Below w.heap.size w w1 := Grew.trans (by exact zqf) hb; clear hb)
 go_wp2;go_ret;exact ⟨rfl, by exact zqf⟩
theorem zqzo (w : World) (hT : Tabs w) :
  Calls Tryz.prog 196 #[] w (Rt w (.bool true)) := by
 have h2 : ((strOf 64 (hexd (shaF ByteArray.empty))).toList == [101, 51, 98, 48, 99, 52, 52, 50, 57, 56, 102, 99, 49, 99, 49, 52, 57, 97, 102, 98, 102, 52, 99, 56, 57, 57, 54, 102, 98, 57, 50, 52, 50, 55, 97, 101, 52, 49, 101, 52, 54, 52, 57, 98, 57, 51, 52, 99, 97, 52, 57, 53, 57, 57, 49, 98, 55, 56, 53, 50, 98, 56, 53, 53]) = true := by
  rw [zqgm, zq8g];exact beq_self_eq_true _
 have hs : Hid (∀ W : World, Below w.heap.size w W -> Calls Tryz.prog 156 #[.slice none 0 0] W (Rt W (.agg (ints .u8 32 (shaF ByteArray.empty))))) := fun W hW => zqrc none 0 0 (oneS ByteArray.empty) W (by decide) (by decide) (zqkb _ _) (hT.later hW);clear hT;have hb := zqsb ByteArray.empty;generalize shaF ByteArray.empty = F at *;have hG := Grew.refl w
 go_enter Tryz.func196, Tryz.ntmps196
 go_wp2_with fail
 (refine (zqx8 _).mono ?_; rintro e w1 ⟨rfl, hb⟩; replace hG : Below w.heap.size w w1 := Grew.trans (by exact zqf) hb; clear hb)
 go_wp2_with fail
 (refine (hs.out _ hG).mono ?_; rintro e w2 ⟨rfl, hb⟩; replace hG : Below w.heap.size w w2 := Grew.trans (by exact zqf) hb; clear hb)
 go_wp2_with fail
 (refine (zquy F _ hb).mono ?_; rintro e w3 ⟨rfl, hb⟩; replace hG : Below w.heap.size w w3 := Grew.trans (by exact zqf) hb; clear hb)
 go_wp2;go_ret;exact ⟨rfl, by exact zqf⟩
set_option maxHeartbeats 1000000 in
theorem zq07 (w : World) (hT : Tabs w) :
  Calls Tryz.prog 193 #[] w (Rt w (.bool true)) := by
 have hG := Grew.refl w
 go_enter Tryz.func193, Tryz.ntmps193
 go_wp2_with fail
 (refine (zqzo _ hT).mono ?_; rintro e w1 ⟨rfl, hb⟩; replace hG : Below w.heap.size w w1 := Grew.trans (by exact zqf) hb; clear hb)
 go_wp2;go_ret;exact ⟨rfl, by exact zqf⟩
attribute [go_sem] zqal zqb4
end Go.Proofs.YtconieddcjpbjaaGreatDoor
