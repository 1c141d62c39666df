/- Sa -/
import Derived.Test.YtfglcifnjaknnaaGreatDoorSi
import Derived.Test.YtfglcifnjaknnaaGreatDoorRel
import Derived.Test.YtfglcifnjaknnaaGreatDoorDh
set_option linter.unusedVariables false
set_option linter.unusedSimpArgs false
set_option maxRecDepth 100000
set_option maxHeartbeats 4000000
namespace Go.Proofs.YtfglcifnjaknnaaGreatDoor
open Go.RowKit
def oneS (a : ByteArray) : Nat -> ByteArray := fun _ => a
def twoS (a b : ByteArray) : Nat -> ByteArray := fun j => if j = 0 then a else b
theorem zqfc (a : ByteArray) : catS (oneS a) 1 = a := ByteArray.empty_append
theorem zq13 (a b : ByteArray) : catS (twoS a b) 2 = a ++ b := by
 show ByteArray.empty ++ a ++ b = _
 rw [ByteArray.empty_append]
theorem zqlp (a : ByteArray) (W : World) : (Instr.buildSlice 195 1 #[(0, .string a)]).run Tryz.prog W = .ok (.slice (some ⟨W.heap.size, 0, none⟩) 1 1) (W.alloc (.cells #[.string a] 9)) := by kernel_rfl
theorem zq9l (a b : ByteArray) (W : World) : (Instr.buildSlice 195 2 #[(0, .string a), (1, .string b)]).run Tryz.prog W = .ok (.slice (some ⟨W.heap.size, 0, none⟩) 2 2) (W.alloc (.cells #[.string a, .string b] 9)) := by kernel_rfl
def zqjn (v : Value) : Sem Next := do pure (.value (<- Instr.buildSlice 195 1 #[(0, v)]))
@[go_sem ↓ high] theorem zqyp (ρ : Operand -> Value) (d : Option Tmp) (x : Operand) (t : TypeId) (pos : String) (af : Array Edge) (g : Option (Nat × Bool)) :
  execOp ρ ⟨d, .buildSlice 195 1 #[(0, x)], t, pos, af, g⟩ = zqjn (ρ x) := by
 unfold execOp zqjn
 simp
@[go_sem high] theorem zrbn (ρ : Operand -> Value) (d : Option Tmp) (x : Operand) (t : TypeId) (pos : String) (af : Array Edge) (g : Option (Nat × Bool)) :
  execOp ρ ⟨d, .buildSlice 195 1 #[(0, x)], t, pos, af, g⟩ = zqjn (ρ x) := zqyp ρ d x t pos af g
@[go_sem] theorem zq9p (a : ByteArray) (W : World) : (zqjn (.string a)).run Tryz.prog W = .ok (.value (.slice (some ⟨W.heap.size, 0, none⟩) 1 1)) (W.alloc (.cells #[.string a] 9)) := by
 unfold zqjn
 simp only [Sem.run_bind, zqlp, Result.andThen_ok, Sem.run_pure]
def zqjh (u v : Value) : Sem Next := do pure (.value (<- Instr.buildSlice 195 2 #[(0, u), (1, v)]))
@[go_sem ↓ high] theorem zqv8 (ρ : Operand -> Value) (d : Option Tmp) (x y : Operand) (t : TypeId) (pos : String) (af : Array Edge) (g : Option (Nat × Bool)) :
  execOp ρ ⟨d, .buildSlice 195 2 #[(0, x), (1, y)], t, pos, af, g⟩ = zqjh (ρ x) (ρ y) := by
 unfold execOp zqjh
 simp
@[go_sem high] theorem zrbr (ρ : Operand -> Value) (d : Option Tmp) (x y : Operand) (t : TypeId) (pos : String) (af : Array Edge) (g : Option (Nat × Bool)) :
  execOp ρ ⟨d, .buildSlice 195 2 #[(0, x), (1, y)], t, pos, af, g⟩ = zqjh (ρ x) (ρ y) := zqv8 ρ d x y t pos af g
@[go_sem] theorem zrbl (a b : ByteArray) (W : World) : (zqjh (.string a) (.string b)).run Tryz.prog W = .ok (.value (.slice (some ⟨W.heap.size, 0, none⟩) 2 2)) (W.alloc (.cells #[.string a, .string b] 9)) := by
 unfold zqjh
 simp only [Sem.run_bind, zq9l, Result.andThen_ok, Sem.run_pure]
attribute [irreducible] zqjn zqjh
theorem zqg0 {W : World} {g : Nat} {a : ByteArray} {t : TypeId} {fr : Nat × Nat} (h : zqe W g = some (.cells #[.string a] t fr)) : StrsAt W (some ⟨g, 0, none⟩) 1 (oneS a) := by
 refine .inr ⟨_, rfl, fun w' hb j hj => ?_⟩;have h' := zqc hb h;unfold zqe at h';obtain rfl : j = 0 := by omega
 have e : (⟨g, 0, none⟩ : Addr).add 0 = ⟨g, 0, none⟩ := by unfold Addr.add; split <;> simp_all
 rw [e, cell_of_row w' g _ _ _ _ h']
 rfl
theorem zq4o {W : World} {g : Nat} {a b : ByteArray} {t : TypeId} {fr : Nat × Nat} (h : zqe W g = some (.cells #[.string a, .string b] t fr)) : StrsAt W (some ⟨g, 0, none⟩) 2 (twoS a b) := by
 refine .inr ⟨_, rfl, fun w' hb j hj => ?_⟩;have h' := zqc hb h;unfold zqe at h';have e : (⟨g, 0, none⟩ : Addr).add j = ⟨g, j, none⟩ := by unfold Addr.add; split <;> simp_all
 rw [e, cell_of_row w' g _ _ _ _ h']
 rcases (by omega : j = 0 \/ j = 1) with rfl | rfl <;> rfl
theorem zqgj (W : World) (F : Nat -> ByteArray) : StrsAt W none 0 F := .inl rfl
theorem zq12 (z : Nat) (hz : z <= 140737488355328) (W : World) : Calls Tryz.prog 141 #[.string ⟨#[0]⟩, .int .i64 z] W (Rt W (.string (zqcd z))) :=
 Tryz.strings_Repeat ⟨#[0]⟩ z W (by omega) (by show 1 * z <= 140737488355328; omega)
theorem zq6a : ((List.range 64).map fun i => UInt8.ofNat (hexd (shaF ByteArray.empty) i).toNat) = [101, 51, 98, 48, 99, 52, 52, 50, 57, 56, 102, 99, 49, 99, 49, 52, 57, 97, 102, 98, 102, 52, 99, 56, 57, 57, 54, 102, 98, 57, 50, 52, 50, 55, 97, 101, 52, 49, 101, 52, 54, 52, 57, 98, 57, 51, 52, 99, 97, 52, 57, 53, 57, 57, 49, 98, 55, 56, 53, 50, 98, 56, 53, 53] := by decide +kernel
def zqja (s : ByteArray) : Array Value := zqbv (byteAt s) s.size
@[go_sem] theorem zrc2 (s : ByteArray) : (zqja s).size = 73 := zqjv _ _
@[go_sem] theorem zre1 (s : ByteArray) : zqa0 (zqja s) = true := zq2m _ _
@[go_sem] theorem zrcw : zqap zqd zqd 0 = zqja ByteArray.empty := rfl
theorem zrlk (w : World) : Calls Tryz.prog 109 #[] w (Rt w (.agg (zqja ByteArray.empty))) := zq2s w
theorem zq14 (s : ByteArray) (oa : Option Addr) (n c : Nat) (F : Nat -> ByteArray) (w : World) (hl : s.size + (catS F n).size < 1152921504606846976) (hn : n <= 9223372036854775807) (hS : StrsAt w oa n F) (hT : Tabs w) :
  Calls Tryz.prog 110 #[.agg (zqja s), .slice oa n c] w (Rt w (.agg (zqja (s ++ catS F n)))) := write_any s oa n c F w hl hn hS hT
theorem zrkl (s : ByteArray) (w : World) (hs : s.size < 1152921504606846976) (hT : Tabs w) : Calls Tryz.prog 112 #[.agg (zqja s)] w (Rt w (.agg (ints .u8 32 (shaF s)))) := zque s w hs hT
attribute [irreducible] zqja
set_option maxHeartbeats 1000000 in
theorem zqw3 (w : World) :
  Calls Tryz.prog 253 #[] w (Rt w (.bool true)) := by
 have hG := Grew.refl w
 go_enter Tryz.func253, Tryz.ntmps253
 go_wp2_with fail
 (refine (zqxc _).mono ?_; rintro e w1 ⟨rfl, hb⟩; replace hG : Below w.heap.size w w1 := Grew.trans (by exact zqf) hb; clear hb)
 go_wp2;go_ret;exact ⟨rfl, by exact zqf⟩
theorem zqyi (w : World) (hT : Tabs w) :
  Calls Tryz.prog 252 #[] w (Rt w (.bool true)) := by
 have h2 : ((strOf 64 (hexd (shaF ByteArray.empty))).toList == [101, 51, 98, 48, 99, 52, 52, 50, 57, 56, 102, 99, 49, 99, 49, 52, 57, 97, 102, 98, 102, 52, 99, 56, 57, 57, 54, 102, 98, 57, 50, 52, 50, 55, 97, 101, 52, 49, 101, 52, 54, 52, 57, 98, 57, 51, 52, 99, 97, 52, 57, 53, 57, 57, 49, 98, 55, 56, 53, 50, 98, 56, 53, 53]) = true := by
  rw [zqen, zq6a];exact beq_self_eq_true _
 have hs : Hid (∀ W : World, Below w.heap.size w W -> Calls Tryz.prog 113 #[.slice none 0 0] W (Rt W (.agg (ints .u8 32 (shaF ByteArray.empty))))) := fun W hW => zqof none 0 0 (oneS ByteArray.empty) W (by decide) (by decide) (zqgj _ _) (hT.later hW);clear hT;have hb := zqpu ByteArray.empty;generalize shaF ByteArray.empty = F at *;have hG := Grew.refl w
 go_enter Tryz.func252, Tryz.ntmps252
 go_wp2_with fail
 (refine (zqw3 _).mono ?_; rintro e w1 ⟨rfl, hb⟩; replace hG : Below w.heap.size w w1 := Grew.trans (by exact zqf) hb; clear hb)
 go_wp2_with fail
 (refine (hs.out _ hG).mono ?_; rintro e w2 ⟨rfl, hb⟩; replace hG : Below w.heap.size w w2 := Grew.trans (by exact zqf) hb; clear hb)
 go_wp2_with fail
 (refine (zqtc F _ hb).mono ?_; rintro e w3 ⟨rfl, hb⟩; replace hG : Below w.heap.size w w3 := Grew.trans (by exact zqf) hb; clear hb)
 go_wp2;go_ret;exact ⟨rfl, by exact zqf⟩
set_option maxHeartbeats 1000000 in
theorem zqxk (w : World) (hT : Tabs w) :
  Calls Tryz.prog 250 #[] w (Rt w (.bool true)) := by
 have hG := Grew.refl w
 go_enter Tryz.func250, Tryz.ntmps250
 go_wp2_with fail
 (refine (zqyi _ hT).mono ?_; rintro e w1 ⟨rfl, hb⟩; replace hG : Below w.heap.size w w1 := Grew.trans (by exact zqf) hb; clear hb)
 go_wp2;go_ret;exact ⟨rfl, by exact zqf⟩
attribute [go_sem] zq5 zqdi
end Go.Proofs.YtfglcifnjaknnaaGreatDoor
