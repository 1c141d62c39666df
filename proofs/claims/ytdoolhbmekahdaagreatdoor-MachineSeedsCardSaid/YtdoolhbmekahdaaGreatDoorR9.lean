/- R9 -/
import Derived.Test.YtdoolhbmekahdaaGreatDoorOw
import Derived.Test.YtdoolhbmekahdaaGreatDoorSw
import Derived.Test.YtdoolhbmekahdaaGreatDoorMa
import Derived.Test.YtdoolhbmekahdaaGreatDoorShelf
set_option maxRecDepth 100000
set_option maxHeartbeats 4000000
namespace Go.Proofs.YtdoolhbmekahdaaGreatDoor
open Go.RowKit
set_option linter.unusedVariables false
set_option linter.unusedSimpArgs false
attribute [local irreducible] strOf shaF zerosB padB fullB hashT
theorem cell_same {w w' : World} {g i : Nat} {v : Value} (hb : Below w.heap.size w w') (hg : g < w.heap.size) (h : cellOf (objAt w g) i = some v) : cellOf (objAt w' g) i = some v := by
 rw [show objAt w' g = objAt w g from hb.block g hg]; exact h
def BytesAt (w : World) (g o n : Nat) (G : Nat → Int) : Prop := g < w.heap.size ∧ ∀ i, i < n → cellOf (objAt w g) (o + i) = some (.int .u8 (G i))
theorem BytesAt.later {w w' : World} {g o n : Nat} {G : Nat → Int} (h : BytesAt w g o n G) (hb : Below w.heap.size w w') : BytesAt w' g o n G :=
 ⟨Nat.lt_of_lt_of_le h.1 hb.size, fun i hi => cell_same hb h.1 (h.2 i hi)⟩
end Go.Proofs.YtdoolhbmekahdaaGreatDoor
namespace Go.Proofs.YtdoolhbmekahdaaGreatDoor
open Go.RowKit
set_option linter.unusedVariables false
set_option linter.unusedSimpArgs false
attribute [local irreducible] strOf shaF zerosB padB fullB hashT
def WordsSame (f g : Nat → Int) : Prop := ∀ i, i < 8 → f i = g i
theorem WordsAt.same {w : World} {g o : Nat} {G G' : Nat → Int} (h : WordsAt w g o 8 G) (e : WordsSame G' G) : WordsAt w g o 8 G' := ⟨h.1, fun i hi => by rw [e i hi]; exact h.2 i hi⟩
end Go.Proofs.YtdoolhbmekahdaaGreatDoor
namespace Go.Proofs.YtdoolhbmekahdaaGreatDoor
open Go.RowKit
set_option linter.unusedVariables false
set_option linter.unusedSimpArgs false
attribute [local irreducible] strOf shaF zerosB padB fullB hashT
@[go_sem high] theorem slice_row32 (w : World) (g : Nat) : (Instr.sliceAt 26 (.pointer (some ⟨g, 0, none⟩)) none none none).run Tryz.prog w = .ok (.slice (some ⟨g, 0, none⟩) 32 32) w := by kernel_rfl
end Go.Proofs.YtdoolhbmekahdaaGreatDoor
namespace Go.Proofs.YtdoolhbmekahdaaGreatDoor
open Go.RowKit
set_option linter.unusedVariables false
set_option linter.unusedSimpArgs false
def threeS (a b c : ByteArray) : Nat → ByteArray := fun j => if j = 0 then a else if j = 1 then b else c
theorem cat_three (a b c : ByteArray) : catS (threeS a b c) 3 = a ++ b ++ c := by
 show ByteArray.empty ++ a ++ b ++ c = _
 rw [ByteArray.empty_append]
theorem build3s (a b c : ByteArray) (W : World) : (Instr.buildSlice 29 3 #[(0, .string a), (1, .string b), (2, .string c)]).run Tryz.prog W = .ok (.slice (some ⟨W.heap.size, 0, none⟩) 3 3) (W.alloc (.cells #[.string a, .string b, .string c] 9)) := by kernel_rfl
def buildS3 (u v x : Value) : Sem Next := do pure (.value (← Instr.buildSlice 29 3 #[(0, u), (1, v), (2, x)]))
@[go_sem ↓ high] theorem op_buildS3 (ρ : Operand → Value) (d : Option Tmp) (x y z : Operand) (t : TypeId) (pos : String) (af : Array Edge) (g : Option (Nat × Bool)) :
  execOp ρ ⟨d, .buildSlice 29 3 #[(0, x), (1, y), (2, z)], t, pos, af, g⟩ = buildS3 (ρ x) (ρ y) (ρ z) := by
 unfold execOp buildS3
 simp
@[go_sem high] theorem op_buildS3' (ρ : Operand → Value) (d : Option Tmp) (x y z : Operand) (t : TypeId) (pos : String) (af : Array Edge) (g : Option (Nat × Bool)) :
  execOp ρ ⟨d, .buildSlice 29 3 #[(0, x), (1, y), (2, z)], t, pos, af, g⟩ = buildS3 (ρ x) (ρ y) (ρ z) := op_buildS3 ρ d x y z t pos af g
@[go_sem] theorem run_buildS3 (a b c : ByteArray) (W : World) : (buildS3 (.string a) (.string b) (.string c)).run Tryz.prog W = .ok (.value (.slice (some ⟨W.heap.size, 0, none⟩) 3 3)) (W.alloc (.cells #[.string a, .string b, .string c] 9)) := by
 unfold buildS3
 simp only [Sem.run_bind, build3s, Result.andThen_ok, Sem.run_pure]
attribute [irreducible] buildS3
theorem strs_three {W : World} {g : Nat} {a b c : ByteArray} {t : TypeId} {fr : Nat × Nat} (h : objAt W g = some (.cells #[.string a, .string b, .string c] t fr)) : StrsAt W (some ⟨g, 0, none⟩) 3 (threeS a b c) := by
 refine .inr ⟨_, rfl, fun w' hb j hj => ?_⟩
 have h' := keep_below hb h
 unfold objAt at h'
 have e : (⟨g, 0, none⟩ : Addr).add j = ⟨g, j, none⟩ := by unfold Addr.add; split <;> simp_all
 rw [e, cell_of_row w' g _ _ _ _ h']
 rcases (by omega : j = 0 ∨ j = 1 ∨ j = 2) with rfl | rfl | rfl <;> rfl
theorem mac_three (key a b c : ByteArray) (g : Nat) (W : World) (hk : key.size < 1152921504606846976) (hs : a.size + b.size + c.size < 1152921504606840000) (h : StrsAt W (some ⟨g, 0, none⟩) 3 (threeS a b c)) (hT : Tabs W) :
  Calls Tryz.prog 31 #[.string key, .slice (some ⟨g, 0, none⟩) 3 3] W fun e w' => e = .returned (.agg (ints .u8 32 (macF key (a ++ b ++ c)))) ∧ Below W.heap.size W w' := by
 have := macS_any key (some ⟨g, 0, none⟩) 3 3 (threeS a b c) W hk (by rw [cat_three, ByteArray.size_append, ByteArray.size_append]; exact hs) (by decide) h hT
 rw [cat_three] at this
 exact this
end Go.Proofs.YtdoolhbmekahdaaGreatDoor
namespace Go.Proofs.YtdoolhbmekahdaaGreatDoor
open Go.RowKit
set_option linter.unusedVariables false
set_option linter.unusedSimpArgs false
attribute [local irreducible] strOf shaF zerosB padB fullB hashT macF
theorem eq_of_byteAt {s t : ByteArray} (h : s.size = t.size) (h2 : ∀ i, i < s.size → byteAt s i = byteAt t i) : s = t := by
 apply ByteArray.ext
 apply Array.ext h
 intro i i1 i2
 have e := h2 i i1
 rw [← byteAt_lt s i i1, ← byteAt_lt t i i2] at e
 have e2 : (s[i]).toNat = (t[i]).toNat := by exact_mod_cast e
 exact UInt8.toNat_inj.1 e2
def byteB (i : Nat) : ByteArray := strOf 1 fun _ => ((i % 256 : Nat) : Int)
theorem byteB_size (i : Nat) : (byteB i).size = 1 := strOf_size _ _
def tB (K info : ByteArray) : Nat → ByteArray
 | 0 => ByteArray.empty
 | i + 1 => strOf 32 (macF K (tB K info i ++ info ++ byteB (i + 1)))
theorem tB_size (K info : ByteArray) (i : Nat) : (tB K info (i + 1)).size = 32 := strOf_size _ _
theorem tB_le (K info : ByteArray) (i : Nat) : (tB K info i).size ≤ 32 := by
 cases i with
 | zero => exact Nat.zero_le _
 | succ i => rw [tB_size]; omega
def strmF (K info : ByteArray) : Nat → Int := fun i => byteAt (tB K info (i / 32 + 1)) (i % 32)
theorem strm_bytes (K info : ByteArray) (i : Nat) : 0 ≤ strmF K info i ∧ strmF K info i ≤ 255 := byteAt_bd _ _
theorem strm_next (K info : ByteArray) (m : Nat) : strOf (32 * m) (strmF K info) ++ tB K info (m + 1) = strOf (32 * (m + 1)) (strmF K info) := by
 have hs : (strOf (32 * m) (strmF K info)).size = 32 * m := strOf_size _ _
 refine eq_of_byteAt (by rw [ByteArray.size_append, strOf_size, strOf_size, tB_size]; omega) fun i hi => ?_
 rw [ByteArray.size_append, strOf_size, tB_size] at hi
 rw [byteAt_strOf _ _ _ (by omega) (strm_bytes _ _ _)]
 by_cases h : i < 32 * m
 ·rw [byteAt_left _ _ _ (by rw [strOf_size]; exact h), byteAt_strOf _ _ _ h (strm_bytes _ _ _)]
 ·obtain ⟨k, rfl⟩ : ∃ k, i = 32 * m + k := ⟨i - 32 * m, by omega⟩
  have := byteAt_right (strOf (32 * m) (strmF K info)) (tB K info (m + 1)) k (by rw [tB_size]; omega)
  rw [hs] at this
  rw [this]
  unfold strmF
  rw [show (32 * m + k) / 32 = m by omega, show (32 * m + k) % 32 = k by omega]
theorem strOf_zero (f : Nat → Int) : strOf 0 f = ByteArray.empty := eq_of_byteAt (by rw [strOf_size]; rfl) fun i hi => by rw [strOf_size] at hi; omega
theorem byteAt_ext (s : ByteArray) (a b i : Nat) (h : a + i < b) (hb : b ≤ s.size) : byteAt (s.extract a b) i = byteAt s (a + i) := by
 have h1 : i < (s.extract a b).size := by rw [ByteArray.size_extract]; omega
 rw [← byteAt_lt _ _ h1, ← byteAt_lt _ _ (show a + i < s.size by omega), ByteArray.getElem_extract]
theorem strOf_extract (N a n : Nat) (f : Nat → Int) (hf : ∀ i, 0 ≤ f i ∧ f i ≤ 255) (h : a + n ≤ N) : (strOf N f).extract a (a + n) = strOf n (fun i => f (a + i)) := by
 have hs : (strOf N f).size = N := strOf_size _ _
 refine eq_of_byteAt (by rw [ByteArray.size_extract, strOf_size, strOf_size]; omega) fun i hi => ?_
 rw [ByteArray.size_extract, strOf_size] at hi
 rw [byteAt_ext _ _ _ _ (by omega) (by omega), byteAt_strOf _ _ _ (by omega) (hf _), byteAt_strOf n (fun i => f (a + i)) _ (by omega) (hf _)]
theorem strOf_first (N n : Nat) (f : Nat → Int) (hf : ∀ i, 0 ≤ f i ∧ f i ≤ 255) (h : n ≤ N) : (strOf N f).extract 0 n = strOf n f := by
 have := strOf_extract N 0 n f hf (by omega)
 simpa using this
def oneF (K info : ByteArray) : Nat → Int := macF K (info ++ byteB 1)
theorem tB_one (K info : ByteArray) : tB K info 1 = strOf 32 (oneF K info) := by
 show strOf 32 (macF K (ByteArray.empty ++ info ++ byteB 1)) = _
 rw [ByteArray.empty_append]; rfl
theorem one_bytes (K info : ByteArray) : Bytes 32 (oneF K info) := mac_bytes _ _
theorem strm_one (K info : ByteArray) : strOf 32 (strmF K info) = strOf 32 (oneF K info) := by
 have := strm_next K info 0
 rw [strOf_zero, ByteArray.empty_append, tB_one] at this
 exact this.symm
def labelF (name secret info : ByteArray) : Nat → Int := oneF (strOf 32 (macF name secret)) info
theorem label_bytes (name secret info : ByteArray) : Bytes 32 (labelF name secret info) := one_bytes _ _
end Go.Proofs.YtdoolhbmekahdaaGreatDoor
namespace Go.Proofs.YtdoolhbmekahdaaGreatDoor
open Go.RowKit
set_option linter.unusedVariables false
set_option linter.unusedSimpArgs false
attribute [local irreducible] strOf shaF zerosB padB fullB hashT
attribute [local irreducible] macF
theorem one_byte_row (c : Int) : ints .u8 1 (fun _ => c) = #[.int .u8 c] := by unfold ints; rfl
theorem conv_is {W : World} {g i : Nat} {x : Int} {t : TypeId} (h : Full g #[.int .u8 x] t W) (e : x = ((i % 256 : Nat) : Int)) (m : More) : (convert 36 9 (.slice (some ⟨g, 0, none⟩) 1 1)).run Tryz.prog (more W m) = .ok (.string (byteB i)) (more W m) := by
 subst e
 exact run_str (P := Tryz.prog) Tryz.underlying36 Tryz.underlying5 Tryz.underlying9 g 1 1 1 (fun _ => ((i % 256 : Nat) : Int)) (more W m) (te := t) (fr := (0, 0)) (keep_more m (by rw [one_byte_row]; exact h)) (by decide)
end Go.Proofs.YtdoolhbmekahdaaGreatDoor
namespace Go.Proofs.YtdoolhbmekahdaaGreatDoor
open Go.RowKit
set_option linter.unusedVariables false
set_option linter.unusedSimpArgs false
attribute [local irreducible] strOf shaF zerosB padB fullB hashT
attribute [local irreducible] macF
def ExpandC : Prop := ∀ (k : Nat → Int) (info : ByteArray) (n : Int) (W : World), Bytes 32 k → info.size ≤ 100000 → Tabs W → Calls Tryz.prog 30 #[.agg (ints .u8 32 k), .string info, .int .i64 n] W fun e w' => e = .returned (.tuple #[.string (if 0 ≤ n ∧ n ≤ 8160 then strOf n.toNat (strmF (strOf 32 k) info) else ByteArray.empty), .bool (decide (0 ≤ n ∧ n ≤ 8160))]) ∧ Below W.heap.size W w'
def OneC : Prop := ∀ (k : Nat → Int) (info : ByteArray) (W : World), Bytes 32 k → info.size ≤ 100000 → Tabs W → Calls Tryz.prog 16 #[.agg (ints .u8 32 k), .string info] W fun e w' => e = .returned (.agg (ints .u8 32 (oneF (strOf 32 k) info))) ∧ Below W.heap.size W w'
theorem expand_some (hE : ExpandC) (k : Nat → Int) (info : ByteArray) (N : Nat) (W : World) (hk : Bytes 32 k) (hi : info.size ≤ 100000) (hN : N ≤ 8160) (hT : Tabs W) : Calls Tryz.prog 30 #[.agg (ints .u8 32 k), .string info, .int .i64 (N : Int)] W fun e w' => e = .returned (.tuple #[.string (strOf N (strmF (strOf 32 k) info)), .bool true]) ∧ Below W.heap.size W w' := by
 have h := hE k info N W hk hi hT
 have h0 : 0 ≤ (N : Int) ∧ (N : Int) ≤ 8160 := ⟨by omega, by omega⟩
 rw [if_pos h0, decide_eq_true h0, show ((N : Int)).toNat = N by omega] at h
 exact h
theorem Awake8_any (w : World) (hT : Tabs w) :
  Calls Tryz.prog 421 #[] w fun e w' => e = .returned (.bool true) ∧ Below w.heap.size w w' := by
 have hG := Grew.refl w
 go_enter Tryz.func421, Tryz.ntmps421
 go_wp2_with fail
 (refine (awake8_any _ hT).mono ?_; rintro e w1 ⟨rfl, hb⟩; replace hG : Below w.heap.size w w1 := Grew.trans (by exact grew_auto) hb; clear hb)
 go_wp2
 go_ret
 exact ⟨rfl, by exact grew_auto⟩
theorem awake9_any (hE : ExpandC) (w : World) (hT : Tabs w) :
  Calls Tryz.prog 420 #[] w fun e w' => e = .returned (.bool true) ∧ Below w.heap.size w w' := by
 have hTT : Hid (Tabs w) := hT
 clear hT
 have c0 : ∀ W : World, Below w.heap.size w W → Calls Tryz.prog 30 #[.agg (ints .u8 32 nought), .string ByteArray.empty, .int .i64 0] W fun e w' => e = .returned (.tuple #[.string ByteArray.empty, .bool true]) ∧ Below W.heap.size W w' := fun W hW => by
  have := expand_some hE nought ByteArray.empty 0 W (fun _ _ => ⟨Int.le_refl 0, by show (0 : Int) ≤ 255; decide⟩) (by decide) (by decide) (hTT.out.later hW)
  rw [strOf_zero] at this
  exact this
 have c1 : ∀ W : World, Below w.heap.size w W → Calls Tryz.prog 30 #[.agg (ints .u8 32 nought), .string ByteArray.empty, .int .i64 1] W fun e w' => e = .returned (.tuple #[.string (strOf 1 (strmF (strOf 32 nought) ByteArray.empty)), .bool true]) ∧ Below W.heap.size W w' := fun W hW => expand_some hE nought ByteArray.empty 1 W (fun _ _ => ⟨Int.le_refl 0, by show (0 : Int) ≤ 255; decide⟩) (by decide) (by decide) (hTT.out.later hW)
 have hz : (strOf 1 (strmF (strOf 32 nought) ByteArray.empty)).size = 1 := strOf_size _ _
 generalize strOf 1 (strmF (strOf 32 nought) ByteArray.empty) = S1 at *
 clear hE
 have hG := Grew.refl w
 go_enter Tryz.func420, Tryz.ntmps420
 go_wp2_with fail
 (refine (c0 _ hG).mono ?_; rintro e w1 ⟨rfl, hb⟩; replace hG : Below w.heap.size w w1 := Grew.trans (by exact grew_auto) hb; clear hb)
 go_wp2_with fail
 (refine (c1 _ hG).mono ?_; rintro e w2 ⟨rfl, hb⟩; replace hG : Below w.heap.size w w2 := Grew.trans (by exact grew_auto) hb; clear hb)
 go_wp2_with fail
 (refine (Awake8_any _ (hTT.out.later hG)).mono ?_; rintro e w3 ⟨rfl, hb⟩; replace hG : Below w.heap.size w w3 := Grew.trans (by exact grew_auto) hb; clear hb)
 go_wp2
 go_ret
 exact ⟨rfl, by exact grew_auto⟩
theorem Awake9_any (hE : ExpandC) (w : World) (hT : Tabs w) :
  Calls Tryz.prog 419 #[] w fun e w' => e = .returned (.bool true) ∧ Below w.heap.size w w' := by
 have hG := Grew.refl w
 go_enter Tryz.func419, Tryz.ntmps419
 go_wp2_with fail
 (refine (awake9_any hE _ hT).mono ?_; rintro e w1 ⟨rfl, hb⟩; replace hG : Below w.heap.size w w1 := Grew.trans (by exact grew_auto) hb; clear hb)
 go_wp2
 go_ret
 exact ⟨rfl, by exact grew_auto⟩
end Go.Proofs.YtdoolhbmekahdaaGreatDoor
namespace Go.Proofs.YtdoolhbmekahdaaGreatDoor
open Go.RowKit
set_option linter.unusedVariables false
set_option linter.unusedSimpArgs false
attribute [local irreducible] strOf shaF zerosB padB fullB hashT
attribute [local irreducible] macF
end Go.Proofs.YtdoolhbmekahdaaGreatDoor
namespace Go.Proofs.YtdoolhbmekahdaaGreatDoor
open Go.RowKit
set_option linter.unusedVariables false
set_option linter.unusedSimpArgs false
attribute [local irreducible] strOf shaF zerosB padB fullB hashT
attribute [local irreducible] macF
def nodeF (z : Nat → Int) : Nat → Int := labelF ⟨#[115, 97, 112, 119, 111, 111, 100, 32, 110, 111, 100, 101]⟩ (strOf 32 z) ByteArray.empty
def leafF (z : Nat → Int) : Nat → Int := labelF ⟨#[115, 97, 112, 119, 111, 111, 100, 32, 108, 101, 97, 102]⟩ (strOf 32 z) ByteArray.empty
def tagF (z : Nat → Int) : Nat → Int := labelF ⟨#[115, 97, 112, 119, 111, 111, 100, 32, 116, 97, 103]⟩ (strOf 32 z) ByteArray.empty
def stageF (o t p : Nat → Int) : Nat → Int := labelF ⟨#[115, 97, 112, 119, 111, 111, 100, 32, 115, 116, 97, 103, 101]⟩ (strOf 32 o ++ strOf 32 t) (strOf 32 p)
def pastF (o : Nat → Int) (m : ByteArray) : Nat → Int := shaF (strOf 32 o ++ m)
end Go.Proofs.YtdoolhbmekahdaaGreatDoor
namespace Go.Proofs.YtdoolhbmekahdaaGreatDoor
open Go.RowKit
set_option linter.unusedVariables false
set_option linter.unusedSimpArgs false
theorem node_leaf : same 32 (nodeF (upd nought 0 1)) (leafF (upd nought 0 1)) = false := by
 have h : (nodeF (upd nought 0 1) 0 == leafF (upd nought 0 1) 0) = false := by decide +kernel
 cases e : same 32 (nodeF (upd nought 0 1)) (leafF (upd nought 0 1)) with
 | false => rfl
 | true =>
  have := (same_iff _ _ _).1 e 0 (by decide)
  rw [this] at h
  simp at h
attribute [local irreducible] strOf shaF zerosB padB fullB hashT
attribute [local irreducible] macF
attribute [local irreducible] labelF oneF nodeF leafF tagF stageF pastF
def NodeC : Prop := ∀ (z : Nat → Int) (W : World), Bytes 32 z → Tabs W → Calls Tryz.prog 340 #[.agg (ints .u8 32 z)] W fun e w' => e = .returned (.agg (ints .u8 32 (nodeF z))) ∧ Below W.heap.size W w'
def LeafC : Prop := ∀ (z : Nat → Int) (W : World), Bytes 32 z → Tabs W → Calls Tryz.prog 252 #[.agg (ints .u8 32 z)] W fun e w' => e = .returned (.agg (ints .u8 32 (leafF z))) ∧ Below W.heap.size W w'
def TagC : Prop := ∀ (z : Nat → Int) (W : World), Bytes 32 z → Tabs W → Calls Tryz.prog 314 #[.agg (ints .u8 32 z)] W fun e w' => e = .returned (.agg (ints .u8 32 (tagF z))) ∧ Below W.heap.size W w'
def StageC : Prop := ∀ (o t p : Nat → Int) (W : World), Bytes 32 o → Bytes 32 t → Bytes 32 p → Tabs W → Calls Tryz.prog 313 #[.agg (ints .u8 32 o), .agg (ints .u8 32 t), .agg (ints .u8 32 p)] W fun e w' => e = .returned (.agg (ints .u8 32 (stageF o t p))) ∧ Below W.heap.size W w'
def PastC : Prop := ∀ (o : Nat → Int) (m : ByteArray) (W : World), Bytes 32 o → m.size ≤ 100000 → Tabs W → Calls Tryz.prog 312 #[.agg (ints .u8 32 o), .string m] W fun e w' => e = .returned (.agg (ints .u8 32 (pastF o m))) ∧ Below W.heap.size W w'
def oneKeyNext (v : Value) : Sem Next := do pure (.value (← Instr.build 27 #[(0, v)]))
@[go_sem ↓ high] theorem op_oneKey (ρ : Operand → Value) (dd : Option Tmp) (x : Operand) (t : TypeId) (pos : String) (af : Array Edge) (gg : Option (Nat × Bool)) :
  execOp ρ ⟨dd, .build 27 #[(0, x)], t, pos, af, gg⟩ = oneKeyNext (ρ x) := by simp [execOp, oneKeyNext]
@[go_sem high] theorem op_oneKey' (ρ : Operand → Value) (dd : Option Tmp) (x : Operand) (t : TypeId) (pos : String) (af : Array Edge) (gg : Option (Nat × Bool)) :
  execOp ρ ⟨dd, .build 27 #[(0, x)], t, pos, af, gg⟩ = oneKeyNext (ρ x) := by simp [execOp, oneKeyNext]
@[go_sem] theorem one_key1 (w : World) : (oneKeyNext (.int .u8 1)).run Tryz.prog w = .ok (.value (.agg (ints .u8 32 (upd nought 0 1)))) w := by kernel_rfl
attribute [irreducible] oneKeyNext
theorem awake10_walk (z M L : Nat → Int) (w : World) (hT : Tabs w) (hz : z = upd nought 0 1) (hs : same 32 M L = false) (c1 : ∀ W : World, Tabs W → Calls Tryz.prog 340 #[.agg (ints .u8 32 z)] W fun e w' => e = .returned (.agg (ints .u8 32 M)) ∧ Below W.heap.size W w') (c2 : ∀ W : World, Tabs W → Calls Tryz.prog 252 #[.agg (ints .u8 32 z)] W fun e w' => e = .returned (.agg (ints .u8 32 L)) ∧ Below W.heap.size W w') (aw : ∀ W : World, Tabs W → Calls Tryz.prog 419 #[] W fun e w' => e = .returned (.bool true) ∧ Below W.heap.size W w') :
  Calls Tryz.prog 418 #[] w fun e w' => e = .returned (.bool true) ∧ Below w.heap.size w w' := by
 subst hz
 have hTT : Hid (Tabs w) := hT
 clear hT
 have hG := Grew.refl w
 go_enter Tryz.func418, Tryz.ntmps418
 go_wp2_with fail
 (refine (aw _ (hTT.out.later hG)).mono ?_; rintro e w1 ⟨rfl, hb⟩; replace hG : Below w.heap.size w w1 := Grew.trans (by exact grew_auto) hb; clear hb)
 go_wp2_with fail
 (refine (c1 _ (hTT.out.later hG)).mono ?_; rintro e w2 ⟨rfl, hb⟩; replace hG : Below w.heap.size w w2 := Grew.trans (by exact grew_auto) hb; clear hb)
 go_wp2_with fail
 (refine (c2 _ (hTT.out.later hG)).mono ?_; rintro e w3 ⟨rfl, hb⟩; replace hG : Below w.heap.size w w3 := Grew.trans (by exact grew_auto) hb; clear hb)
 go_wp2
 go_ret
 exact ⟨rfl, by exact grew_auto⟩
theorem awake10_any (hN : NodeC) (hL : LeafC) (aw : ∀ W : World, Tabs W → Calls Tryz.prog 419 #[] W fun e w' => e = .returned (.bool true) ∧ Below W.heap.size W w') (w : World) (hT : Tabs w) :
  Calls Tryz.prog 418 #[] w fun e w' => e = .returned (.bool true) ∧ Below w.heap.size w w' := awake10_walk _ _ _ w hT rfl node_leaf (fun W h => hN _ W (fun i hi => by unfold upd nought; split <;> omega) h) (fun W h => hL _ W (fun i hi => by unfold upd nought; split <;> omega) h) aw
attribute [local irreducible] catS
end Go.Proofs.YtdoolhbmekahdaaGreatDoor
