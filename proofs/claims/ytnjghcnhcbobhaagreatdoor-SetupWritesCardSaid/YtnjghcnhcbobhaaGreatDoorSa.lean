/- Sa -/
import Derived.Test.YtnjghcnhcbobhaaGreatDoorSi
import Derived.Test.YtnjghcnhcbobhaaGreatDoorRel
import Derived.Test.YtnjghcnhcbobhaaGreatDoorDh
set_option linter.unusedVariables false
set_option linter.unusedSimpArgs false
set_option maxRecDepth 100000
set_option maxHeartbeats 4000000
namespace Go.Proofs.YtnjghcnhcbobhaaGreatDoor
open Go.RowKit
def oneS (a : ByteArray) : Nat -> ByteArray := fun _ => a
def twoS (a b : ByteArray) : Nat -> ByteArray := fun j => if j = 0 then a else b
theorem zqjw (a : ByteArray) : catS (oneS a) 1 = a := ByteArray.empty_append
theorem zq2i (a b : ByteArray) : catS (twoS a b) 2 = a ++ b := by
 show ByteArray.empty ++ a ++ b = _
 rw [ByteArray.empty_append]
theorem zq96 (a : ByteArray) (W : World) : (Instr.buildSlice 155 1 #[(0, .string a)]).run Tryz.prog W = .ok (.slice (some ⟨W.heap.size, 0, none⟩) 1 1) (W.alloc (.cells #[.string a] 9)) := by kernel_rfl
theorem zrbb (a b : ByteArray) (W : World) : (Instr.buildSlice 155 2 #[(0, .string a), (1, .string b)]).run Tryz.prog W = .ok (.slice (some ⟨W.heap.size, 0, none⟩) 2 2) (W.alloc (.cells #[.string a, .string b] 9)) := by kernel_rfl
def zqji (v : Value) : Sem Next := do pure (.value (<- Instr.buildSlice 155 1 #[(0, v)]))
@[go_sem ↓ high] theorem zqw3 (ρ : Operand -> Value) (d : Option Tmp) (x : Operand) (t : TypeId) (pos : String) (af : Array Edge) (g : Option (Nat × Bool)) :
  execOp ρ ⟨d, .buildSlice 155 1 #[(0, x)], t, pos, af, g⟩ = zqji (ρ x) := by
 unfold execOp zqji
 simp
@[go_sem high] theorem zrdj (ρ : Operand -> Value) (d : Option Tmp) (x : Operand) (t : TypeId) (pos : String) (af : Array Edge) (g : Option (Nat × Bool)) :
  execOp ρ ⟨d, .buildSlice 155 1 #[(0, x)], t, pos, af, g⟩ = zqji (ρ x) := zqw3 ρ d x t pos af g
@[go_sem] theorem zrc1 (a : ByteArray) (W : World) : (zqji (.string a)).run Tryz.prog W = .ok (.value (.slice (some ⟨W.heap.size, 0, none⟩) 1 1)) (W.alloc (.cells #[.string a] 9)) := by
 unfold zqji
 simp only [Sem.run_bind, zq96, Result.andThen_ok, Sem.run_pure]
def zqj1 (u v : Value) : Sem Next := do pure (.value (<- Instr.buildSlice 155 2 #[(0, u), (1, v)]))
@[go_sem ↓ high] theorem zqxo (ρ : Operand -> Value) (d : Option Tmp) (x y : Operand) (t : TypeId) (pos : String) (af : Array Edge) (g : Option (Nat × Bool)) :
  execOp ρ ⟨d, .buildSlice 155 2 #[(0, x), (1, y)], t, pos, af, g⟩ = zqj1 (ρ x) (ρ y) := by
 unfold execOp zqj1
 simp
@[go_sem high] theorem zred (ρ : Operand -> Value) (d : Option Tmp) (x y : Operand) (t : TypeId) (pos : String) (af : Array Edge) (g : Option (Nat × Bool)) :
  execOp ρ ⟨d, .buildSlice 155 2 #[(0, x), (1, y)], t, pos, af, g⟩ = zqj1 (ρ x) (ρ y) := zqxo ρ d x y t pos af g
@[go_sem] theorem zrd6 (a b : ByteArray) (W : World) : (zqj1 (.string a) (.string b)).run Tryz.prog W = .ok (.value (.slice (some ⟨W.heap.size, 0, none⟩) 2 2)) (W.alloc (.cells #[.string a, .string b] 9)) := by
 unfold zqj1
 simp only [Sem.run_bind, zrbb, Result.andThen_ok, Sem.run_pure]
attribute [irreducible] zqji zqj1
theorem zqpa {W : World} {g : Nat} {a : ByteArray} {t : TypeId} {fr : Nat × Nat} (h : zqd W g = some (.cells #[.string a] t fr)) : StrsAt W (some ⟨g, 0, none⟩) 1 (oneS a) := by
 refine .inr ⟨_, rfl, fun w' hb j hj => ?_⟩;have h' := zqb hb h;unfold zqd at h';obtain rfl : j = 0 := by omega
 have e : (⟨g, 0, none⟩ : Addr).add 0 = ⟨g, 0, none⟩ := by unfold Addr.add; split <;> simp_all
 rw [e, cell_of_row w' g _ _ _ _ h']
 rfl
theorem zq7f {W : World} {g : Nat} {a b : ByteArray} {t : TypeId} {fr : Nat × Nat} (h : zqd W g = some (.cells #[.string a, .string b] t fr)) : StrsAt W (some ⟨g, 0, none⟩) 2 (twoS a b) := by
 refine .inr ⟨_, rfl, fun w' hb j hj => ?_⟩;have h' := zqb hb h;unfold zqd at h';have e : (⟨g, 0, none⟩ : Addr).add j = ⟨g, j, none⟩ := by unfold Addr.add; split <;> simp_all
 rw [e, cell_of_row w' g _ _ _ _ h']
 rcases (by omega : j = 0 \/ j = 1) with rfl | rfl <;> rfl
theorem zqii (W : World) (F : Nat -> ByteArray) : StrsAt W none 0 F := .inl rfl
theorem zq02 (z : Nat) (hz : z <= 140737488355328) (W : World) : Calls Tryz.prog 139 #[.string ⟨#[0]⟩, .int .i64 z] W (Rt W (.string (zqcl z))) :=
 Tryz.strings_Repeat ⟨#[0]⟩ z W (by omega) (by show 1 * z <= 140737488355328; omega)
theorem zq4p : ((List.range 64).map fun i => UInt8.ofNat (hexd (shaF ByteArray.empty) i).toNat) = [101, 51, 98, 48, 99, 52, 52, 50, 57, 56, 102, 99, 49, 99, 49, 52, 57, 97, 102, 98, 102, 52, 99, 56, 57, 57, 54, 102, 98, 57, 50, 52, 50, 55, 97, 101, 52, 49, 101, 52, 54, 52, 57, 98, 57, 51, 52, 99, 97, 52, 57, 53, 57, 57, 49, 98, 55, 56, 53, 50, 98, 56, 53, 53] := by decide +kernel
def zqka (s : ByteArray) : Array Value := zqb3 (byteAt s) s.size
@[go_sem] theorem zret (s : ByteArray) : (zqka s).size = 73 := zqi7 _ _
@[go_sem] theorem zrgk (s : ByteArray) : zqak (zqka s) = true := zq01 _ _
@[go_sem] theorem zrgf : zqav zqg zqg 0 = zqka ByteArray.empty := rfl
theorem zrm7 (w : World) : Calls Tryz.prog 112 #[] w (Rt w (.agg (zqka ByteArray.empty))) := zqzn w
theorem zqzl (s : ByteArray) (oa : Option Addr) (n c : Nat) (F : Nat -> ByteArray) (w : World) (hl : s.size + (catS F n).size < 1152921504606846976) (hn : n <= 9223372036854775807) (hS : StrsAt w oa n F) (hT : Tabs w) :
  Calls Tryz.prog 113 #[.agg (zqka s), .slice oa n c] w (Rt w (.agg (zqka (s ++ catS F n)))) := write_any s oa n c F w hl hn hS hT
theorem zrnr (s : ByteArray) (w : World) (hs : s.size < 1152921504606846976) (hT : Tabs w) : Calls Tryz.prog 115 #[.agg (zqka s)] w (Rt w (.agg (ints .u8 32 (shaF s)))) := zqvg s w hs hT
attribute [irreducible] zqka
set_option maxHeartbeats 1000000 in
theorem zqww (w : World) :
  Calls Tryz.prog 247 #[] w (Rt w (.bool true)) := by
 have hG := Grew.refl w
 go_enter Tryz.func247, Tryz.ntmps247
 go_wp2_with fail
 (refine (zqy5 _).mono ?_; rintro e w1 ⟨rfl, hb⟩; replace hG : Below w.heap.size w w1 := Grew.trans (by exact zqe) hb; clear hb)
 go_wp2;go_ret;exact ⟨rfl, by exact zqe⟩
theorem zqwr (w : World) (hT : Tabs w) :
  Calls Tryz.prog 246 #[] w (Rt w (.bool true)) := by
 have h2 : ((strOf 64 (hexd (shaF ByteArray.empty))).toList == [101, 51, 98, 48, 99, 52, 52, 50, 57, 56, 102, 99, 49, 99, 49, 52, 57, 97, 102, 98, 102, 52, 99, 56, 57, 57, 54, 102, 98, 57, 50, 52, 50, 55, 97, 101, 52, 49, 101, 52, 54, 52, 57, 98, 57, 51, 52, 99, 97, 52, 57, 53, 57, 57, 49, 98, 55, 56, 53, 50, 98, 56, 53, 53]) = true := by
  rw [zqew, zq4p];exact beq_self_eq_true _
 have hs : Hid (∀ W : World, Below w.heap.size w W -> Calls Tryz.prog 116 #[.slice none 0 0] W (Rt W (.agg (ints .u8 32 (shaF ByteArray.empty))))) := fun W hW => zqoo none 0 0 (oneS ByteArray.empty) W (by decide) (by decide) (zqii _ _) (hT.later hW);clear hT;have hb := zqrt ByteArray.empty;generalize shaF ByteArray.empty = F at *;have hG := Grew.refl w
 go_enter Tryz.func246, Tryz.ntmps246
 go_wp2_with fail
 (refine (zqww _).mono ?_; rintro e w1 ⟨rfl, hb⟩; replace hG : Below w.heap.size w w1 := Grew.trans (by exact zqe) hb; clear hb)
 go_wp2_with fail
 (refine (hs.out _ hG).mono ?_; rintro e w2 ⟨rfl, hb⟩; replace hG : Below w.heap.size w w2 := Grew.trans (by exact zqe) hb; clear hb)
 go_wp2_with fail
 (refine (zqs6 F _ hb).mono ?_; rintro e w3 ⟨rfl, hb⟩; replace hG : Below w.heap.size w w3 := Grew.trans (by exact zqe) hb; clear hb)
 go_wp2;go_ret;exact ⟨rfl, by exact zqe⟩
set_option maxHeartbeats 1000000 in
theorem zqwo (w : World) (hT : Tabs w) :
  Calls Tryz.prog 244 #[] w (Rt w (.bool true)) := by
 have hG := Grew.refl w
 go_enter Tryz.func244, Tryz.ntmps244
 go_wp2_with fail
 (refine (zqwr _ hT).mono ?_; rintro e w1 ⟨rfl, hb⟩; replace hG : Below w.heap.size w w1 := Grew.trans (by exact zqe) hb; clear hb)
 go_wp2;go_ret;exact ⟨rfl, by exact zqe⟩
attribute [go_sem] zqaf zqdu
end Go.Proofs.YtnjghcnhcbobhaaGreatDoor
