/- Sa -/
import Derived.Test.YtpefpiobcpdeoaaGreatDoorSi
import Derived.Test.YtpefpiobcpdeoaaGreatDoorRel
import Derived.Test.YtpefpiobcpdeoaaGreatDoorDh
set_option linter.unusedVariables false
set_option linter.unusedSimpArgs false
set_option maxRecDepth 100000
set_option maxHeartbeats 4000000
namespace Go.Proofs.YtpefpiobcpdeoaaGreatDoor
open Go.RowKit
def oneS (a : ByteArray) : Nat -> ByteArray := fun _ => a
def twoS (a b : ByteArray) : Nat -> ByteArray := fun j => if j = 0 then a else b
theorem zqkk (a : ByteArray) : catS (oneS a) 1 = a := ByteArray.empty_append
theorem zqyt (a b : ByteArray) : catS (twoS a b) 2 = a ++ b := by
 show ByteArray.empty ++ a ++ b = _
 rw [ByteArray.empty_append]
theorem zrbo (a : ByteArray) (W : World) : (Instr.buildSlice 178 1 #[(0, .string a)]).run Tryz.prog W = .ok (.slice (some ⟨W.heap.size, 0, none⟩) 1 1) (W.alloc (.cells #[.string a] 9)) := by kernel_rfl
theorem zq8n (a b : ByteArray) (W : World) : (Instr.buildSlice 178 2 #[(0, .string a), (1, .string b)]).run Tryz.prog W = .ok (.slice (some ⟨W.heap.size, 0, none⟩) 2 2) (W.alloc (.cells #[.string a, .string b] 9)) := by kernel_rfl
def zqj8 (v : Value) : Sem Next := do pure (.value (<- Instr.buildSlice 178 1 #[(0, v)]))
@[go_sem ↓ high] theorem zqwh (ρ : Operand -> Value) (d : Option Tmp) (x : Operand) (t : TypeId) (pos : String) (af : Array Edge) (g : Option (Nat × Bool)) :
  execOp ρ ⟨d, .buildSlice 178 1 #[(0, x)], t, pos, af, g⟩ = zqj8 (ρ x) := by
 unfold execOp zqj8
 simp
@[go_sem high] theorem zq9x (ρ : Operand -> Value) (d : Option Tmp) (x : Operand) (t : TypeId) (pos : String) (af : Array Edge) (g : Option (Nat × Bool)) :
  execOp ρ ⟨d, .buildSlice 178 1 #[(0, x)], t, pos, af, g⟩ = zqj8 (ρ x) := zqwh ρ d x t pos af g
@[go_sem] theorem zrao (a : ByteArray) (W : World) : (zqj8 (.string a)).run Tryz.prog W = .ok (.value (.slice (some ⟨W.heap.size, 0, none⟩) 1 1)) (W.alloc (.cells #[.string a] 9)) := by
 unfold zqj8
 simp only [Sem.run_bind, zrbo, Result.andThen_ok, Sem.run_pure]
def zqkc (u v : Value) : Sem Next := do pure (.value (<- Instr.buildSlice 178 2 #[(0, u), (1, v)]))
@[go_sem ↓ high] theorem zqv6 (ρ : Operand -> Value) (d : Option Tmp) (x y : Operand) (t : TypeId) (pos : String) (af : Array Edge) (g : Option (Nat × Bool)) :
  execOp ρ ⟨d, .buildSlice 178 2 #[(0, x), (1, y)], t, pos, af, g⟩ = zqkc (ρ x) (ρ y) := by
 unfold execOp zqkc
 simp
@[go_sem high] theorem zq8f (ρ : Operand -> Value) (d : Option Tmp) (x y : Operand) (t : TypeId) (pos : String) (af : Array Edge) (g : Option (Nat × Bool)) :
  execOp ρ ⟨d, .buildSlice 178 2 #[(0, x), (1, y)], t, pos, af, g⟩ = zqkc (ρ x) (ρ y) := zqv6 ρ d x y t pos af g
@[go_sem] theorem zq8t (a b : ByteArray) (W : World) : (zqkc (.string a) (.string b)).run Tryz.prog W = .ok (.value (.slice (some ⟨W.heap.size, 0, none⟩) 2 2)) (W.alloc (.cells #[.string a, .string b] 9)) := by
 unfold zqkc
 simp only [Sem.run_bind, zq8n, Result.andThen_ok, Sem.run_pure]
attribute [irreducible] zqj8 zqkc
theorem zqpj {W : World} {g : Nat} {a : ByteArray} {t : TypeId} {fr : Nat × Nat} (h : zqd W g = some (.cells #[.string a] t fr)) : StrsAt W (some ⟨g, 0, none⟩) 1 (oneS a) := by
 refine .inr ⟨_, rfl, fun w' hb j hj => ?_⟩;have h' := zqc hb h;unfold zqd at h';obtain rfl : j = 0 := by omega
 have e : (⟨g, 0, none⟩ : Addr).add 0 = ⟨g, 0, none⟩ := by unfold Addr.add; split <;> simp_all
 rw [e, cell_of_row w' g _ _ _ _ h']
 rfl
theorem zq45 {W : World} {g : Nat} {a b : ByteArray} {t : TypeId} {fr : Nat × Nat} (h : zqd W g = some (.cells #[.string a, .string b] t fr)) : StrsAt W (some ⟨g, 0, none⟩) 2 (twoS a b) := by
 refine .inr ⟨_, rfl, fun w' hb j hj => ?_⟩;have h' := zqc hb h;unfold zqd at h';have e : (⟨g, 0, none⟩ : Addr).add j = ⟨g, j, none⟩ := by unfold Addr.add; split <;> simp_all
 rw [e, cell_of_row w' g _ _ _ _ h']
 rcases (by omega : j = 0 \/ j = 1) with rfl | rfl <;> rfl
theorem zqjn (W : World) (F : Nat -> ByteArray) : StrsAt W none 0 F := .inl rfl
theorem zqzp (z : Nat) (hz : z <= 140737488355328) (W : World) : Calls Tryz.prog 164 #[.string ⟨#[0]⟩, .int .i64 z] W (Rt W (.string (zqcl z))) :=
 Tryz.strings_Repeat ⟨#[0]⟩ z W (by omega) (by show 1 * z <= 140737488355328; omega)
theorem zq4d : ((List.range 64).map fun i => UInt8.ofNat (hexd (shaF ByteArray.empty) i).toNat) = [101, 51, 98, 48, 99, 52, 52, 50, 57, 56, 102, 99, 49, 99, 49, 52, 57, 97, 102, 98, 102, 52, 99, 56, 57, 57, 54, 102, 98, 57, 50, 52, 50, 55, 97, 101, 52, 49, 101, 52, 54, 52, 57, 98, 57, 51, 52, 99, 97, 52, 57, 53, 57, 57, 49, 98, 55, 56, 53, 50, 98, 56, 53, 53] := by decide +kernel
def zqkm (s : ByteArray) : Array Value := zqb8 (byteAt s) s.size
@[go_sem] theorem zrby (s : ByteArray) : (zqkm s).size = 73 := zqjz _ _
@[go_sem] theorem zrfk (s : ByteArray) : zqam (zqkm s) = true := zqyg _ _
@[go_sem] theorem zrcr : zqay zqe zqe 0 = zqkm ByteArray.empty := rfl
theorem zrhq (w : World) : Calls Tryz.prog 139 #[] w (Rt w (.agg (zqkm ByteArray.empty))) := zq1d w
theorem zqzy (s : ByteArray) (oa : Option Addr) (n c : Nat) (F : Nat -> ByteArray) (w : World) (hl : s.size + (catS F n).size < 1152921504606846976) (hn : n <= 9223372036854775807) (hS : StrsAt w oa n F) (hT : Tabs w) :
  Calls Tryz.prog 140 #[.agg (zqkm s), .slice oa n c] w (Rt w (.agg (zqkm (s ++ catS F n)))) := write_any s oa n c F w hl hn hS hT
theorem zrhs (s : ByteArray) (w : World) (hs : s.size < 1152921504606846976) (hT : Tabs w) : Calls Tryz.prog 142 #[.agg (zqkm s)] w (Rt w (.agg (ints .u8 32 (shaF s)))) := zqtx s w hs hT
attribute [irreducible] zqkm
set_option maxHeartbeats 1000000 in
theorem zqv2 (w : World) :
  Calls Tryz.prog 267 #[] w (Rt w (.bool true)) := by
 have hG := Grew.refl w
 go_enter Tryz.func267, Tryz.ntmps267
 go_wp2_with fail
 (refine (zqxm _).mono ?_; rintro e w1 ⟨rfl, hb⟩; replace hG : Below w.heap.size w w1 := Grew.trans (by exact zqf) hb; clear hb)
 go_wp2;go_ret;exact ⟨rfl, by exact zqf⟩
theorem zqw3 (w : World) (hT : Tabs w) :
  Calls Tryz.prog 266 #[] w (Rt w (.bool true)) := by
 have h2 : ((strOf 64 (hexd (shaF ByteArray.empty))).toList == [101, 51, 98, 48, 99, 52, 52, 50, 57, 56, 102, 99, 49, 99, 49, 52, 57, 97, 102, 98, 102, 52, 99, 56, 57, 57, 54, 102, 98, 57, 50, 52, 50, 55, 97, 101, 52, 49, 101, 52, 54, 52, 57, 98, 57, 51, 52, 99, 97, 52, 57, 53, 57, 57, 49, 98, 55, 56, 53, 50, 98, 56, 53, 53]) = true := by
  rw [zqey, zq4d];exact beq_self_eq_true _
 have hs : Hid (∀ W : World, Below w.heap.size w W -> Calls Tryz.prog 143 #[.slice none 0 0] W (Rt W (.agg (ints .u8 32 (shaF ByteArray.empty))))) := fun W hW => zqpo none 0 0 (oneS ByteArray.empty) W (by decide) (by decide) (zqjn _ _) (hT.later hW);clear hT;have hb := zqqk ByteArray.empty;generalize shaF ByteArray.empty = F at *;have hG := Grew.refl w
 go_enter Tryz.func266, Tryz.ntmps266
 go_wp2_with fail
 (refine (zqv2 _).mono ?_; rintro e w1 ⟨rfl, hb⟩; replace hG : Below w.heap.size w w1 := Grew.trans (by exact zqf) hb; clear hb)
 go_wp2_with fail
 (refine (hs.out _ hG).mono ?_; rintro e w2 ⟨rfl, hb⟩; replace hG : Below w.heap.size w w2 := Grew.trans (by exact zqf) hb; clear hb)
 go_wp2_with fail
 (refine (zqsv F _ hb).mono ?_; rintro e w3 ⟨rfl, hb⟩; replace hG : Below w.heap.size w w3 := Grew.trans (by exact zqf) hb; clear hb)
 go_wp2;go_ret;exact ⟨rfl, by exact zqf⟩
set_option maxHeartbeats 1000000 in
theorem zqva (w : World) (hT : Tabs w) :
  Calls Tryz.prog 264 #[] w (Rt w (.bool true)) := by
 have hG := Grew.refl w
 go_enter Tryz.func264, Tryz.ntmps264
 go_wp2_with fail
 (refine (zqw3 _ hT).mono ?_; rintro e w1 ⟨rfl, hb⟩; replace hG : Below w.heap.size w w1 := Grew.trans (by exact zqf) hb; clear hb)
 go_wp2;go_ret;exact ⟨rfl, by exact zqf⟩
attribute [go_sem] zqad zqdz
end Go.Proofs.YtpefpiobcpdeoaaGreatDoor
