/- Parts of arrays of bytes, and texts copied into them. -/
import Derived.Test.YtdihaffopfbnnaaDoorSm
namespace Go.Proofs.YtdihaffopfbnnaaDoor
open Go.RowKit
set_option linter.unusedVariables false
set_option linter.unusedSimpArgs false

attribute [go_sem] setRow_setRow
theorem slice_arr {t e : TypeId} {n : Nat} {k : IntKind} (w : World) (g o r : Nat) (ht : Tryd.prog.underlying t = some (.array (Tryd.prog.arrayLen t) (Tryd.prog.elem t))) (hn : Tryd.prog.arrayLen t = n) (hs : (sizeOf (Tryd.prog.elem t)).run Tryd.prog w = .ok 1 w) (hr : r < n) :
    (Instr.sliceAt t (.pointer (some ⟨g, o, none⟩)) (some (.int k r)) none none).run Tryd.prog w = .ok (.slice (some ⟨g, o + r, none⟩) (n - r) (n - r)) w := by
  rw [run_sliceAt_array_l w t _ ht k r (by omega) (by omega), hs, Result.andThen_ok, hn]
  unfold slicedAt
  have e : (⟨g, o, none⟩ : Addr).add (r * 1) = ⟨g, o + r, none⟩ := by unfold Addr.add; split <;> simp_all
  rw [if_neg (by omega), show ((r : Int)).toNat = r by omega, e]
@[go_sem high] theorem slice_b64 (w : World) (g o r : Nat) (hr : r < 64) :
    (Instr.sliceAt 30 (.pointer (some ⟨g, o, none⟩)) (some (.int .i64 r)) none none).run Tryd.prog w = .ok (.slice (some ⟨g, o + r, none⟩) (64 - r) (64 - r)) w :=
  slice_arr (t := 30) (e := 5) (n := 64) (k := .i64) w g o r (by kernel_rfl) (by kernel_rfl) (by kernel_rfl) hr
/-! bytes of a text, copied into the rest -/
theorem run_copy_text {P : Program} (w : World) (dT sT ty elem : TypeId) (g o dLen dCap m : Nat) (s : ByteArray) (cur : Array Value) (t : TypeId)
    (hu : P.underlying dT = some (.slice elem)) (hs : (P.info? elem).map (·.size) = some 1) (hg : w.heap[g]? = some (.cells cur t (0, 0))) (hm : Nat.min s.size dLen = m) (hfit : o + m ≤ cur.size) :
    (Builtin.copy_ #[dT, sT] ty #[.slice (some ⟨g, o, none⟩) dLen dCap, .string s]).run P w =
      .ok (goInt m) (w.setRow g (cur.toList.take o ++ (List.map (fun b : UInt8 => Value.int .u8 b.toNat) s.data.toList).take m ++ cur.toList.drop (o + m)).toArray) := by
  have hle : m ≤ s.size := by rw [← hm]; exact Nat.min_le_left _ _
  have hlen : ((List.map (fun b : UInt8 => Value.int .u8 b.toNat) s.data.toList).take m).length = m := by
    rw [List.length_take, List.length_map]
    exact Nat.min_eq_left hle
  have hst := run_storeCells_at P g o t ((List.map (fun b : UInt8 => Value.int .u8 b.toNat) s.data.toList).take m) 0 cur w hg (by rw [hlen]; simpa using hfit) (by
    intro v hv
    obtain ⟨b, _, rfl⟩ := List.mem_map.1 (List.mem_of_mem_take hv)
    rfl)
  rw [hlen] at hst
  simp only [Nat.add_zero] at hst
  cases hq : P.info? elem with
  | none => simp [hq] at hs
  | some i =>
    simp [Builtin.copy_, run_underlying hu, Builtin.lenOf, Builtin.firstCells, sizeOf, typeInfo, hq, hm]
    rw [hst]
    simp [Result.andThen]
/-- a row with a text's first bytes from a place on -/
def putT (R : Nat → Int) (r m : Nat) (s : ByteArray) : Nat → Int := fun i => if r ≤ i ∧ i < r + m then byteAt s (i - r) else R i
def copyNext (ats : Array TypeId) (ty : TypeId) (args : Array Value) : Sem Next := do pure (.value (← Builtin.copy_ ats ty args))
def copyOf (P : Program) (ty : TypeId) (g o L C : Nat) (s : ByteArray) (w : World) : Option Obj → Result Next
  | _ => (copyNext #[43, 9] ty #[.slice (some ⟨g, o, none⟩) L C, .string s]).run P w
@[go_sem ↓ high] theorem copy_bytes (ty : TypeId) (cs : Array Bool) (args : Array Value) : builtin .copy #[43, 9] ty cs args = copyNext #[43, 9] ty args := by unfold copyNext; rfl
@[go_sem] theorem copy_bytes_at (ty : TypeId) (g o L C : Nat) (s : ByteArray) (w : World) : (copyNext #[43, 9] ty #[.slice (some ⟨g, o, none⟩) L C, .string s]).run Tryd.prog w = copyOf Tryd.prog ty g o L C s w (objAt w g) := rfl
@[go_sem] theorem copyOf_hash (ty : TypeId) (g r C : Nat) (s : ByteArray) (w : World) (A R : Nat → Int) (n : Int) (t : TypeId) (h : objAt w g = some (.cells (hashC A R n) t (0, 0))) (hr : r < 64) :
    copyOf Tryd.prog ty g (8 + r) (64 - r) C s w (some (.cells (hashC A R n) t (0, 0))) = .ok (.value (.int .i64 (min s.size (64 - r) : Nat))) (w.setRow g (hashC A (putT R r (min s.size (64 - r)) s) n)) := by
  have hm : min s.size (64 - r) ≤ 64 - r := Nat.min_le_right _ _
  have hm' : min s.size (64 - r) ≤ s.size := Nat.min_le_left _ _
  generalize hq : min s.size (64 - r) = m at *
  show (copyNext #[43, 9] ty #[.slice (some ⟨g, 8 + r, none⟩) (64 - r) C, .string s]).run Tryd.prog w = _
  unfold copyNext objAt at *
  simp only [Sem.run_bind, run_copy_text w 43 9 ty 5 g (8 + r) (64 - r) C m s _ t Tryd.underlying43 (by kernel_rfl) h hq (by rw [hashC_size]; omega), Result.andThen_ok, Sem.run_pure]
  have e : ((hashC A R n).toList.take (8 + r) ++ (List.map (fun b : UInt8 => Value.int .u8 b.toNat) s.data.toList).take m ++ (hashC A R n).toList.drop (8 + r + m)).toArray = hashC A (putT R r m s) n := by
    have l1 : ((hashC A R n).toList.take (8 + r)).length = 8 + r := by rw [List.length_take, Array.length_toList, hashC_size]; omega
    have l2 : ((List.map (fun b : UInt8 => Value.int .u8 b.toNat) s.data.toList).take m).length = m := by
      rw [List.length_take, List.length_map]
      exact Nat.min_eq_left hm'
    have a1 : ∀ i, i < 8 + r → ((hashC A R n).toList.take (8 + r) ++ (List.map (fun b : UInt8 => Value.int .u8 b.toNat) s.data.toList).take m ++ (hashC A R n).toList.drop (8 + r + m))[i]? = (hashC A R n)[i]? := fun i hi => by
      rw [List.append_assoc, List.getElem?_append_left (by omega), List.getElem?_take_of_lt hi, Array.getElem?_toList]
    have a2 : ∀ i, i < m → ((hashC A R n).toList.take (8 + r) ++ (List.map (fun b : UInt8 => Value.int .u8 b.toNat) s.data.toList).take m ++ (hashC A R n).toList.drop (8 + r + m))[8 + r + i]? = some (.int .u8 (byteAt s i)) := fun i hi => by
      rw [List.append_assoc, List.getElem?_append_right (by omega), l1, List.getElem?_append_left (by omega), show 8 + r + i - (8 + r) = i by omega, List.getElem?_take_of_lt hi, List.getElem?_map]
      have hs : i < s.size := by omega
      have : s.data.toList[i]? = some s[i] := by
        rw [Array.getElem?_toList]
        exact Array.getElem?_eq_getElem hs
      rw [this, ← byteAt_lt s i hs]
      rfl
    have a3 : ∀ i, 8 + r + m ≤ i → ((hashC A R n).toList.take (8 + r) ++ (List.map (fun b : UInt8 => Value.int .u8 b.toNat) s.data.toList).take m ++ (hashC A R n).toList.drop (8 + r + m))[i]? = (hashC A R n)[i]? := fun i hi => by
      rw [List.getElem?_append_right (by rw [List.length_append]; omega), List.length_append, l1, l2, List.getElem?_drop, show 8 + r + m + (i - (8 + r + m)) = i by omega, Array.getElem?_toList]
    refine hashC_ext ?_ (fun i hi => ?_) (fun i hi => ?_) ?_
    · simp only [List.size_toArray, List.length_append, l1, l2, List.length_drop, Array.length_toList, hashC_size]; omega
    · rw [List.getElem?_toArray, a1 i (by omega), hashC_a _ _ _ _ hi]
    · rw [List.getElem?_toArray]
      unfold putT
      by_cases h1 : r ≤ i ∧ i < r + m
      · rw [if_pos h1, show 8 + i = 8 + r + (i - r) by omega, a2 _ (by omega)]
      · rw [if_neg h1]
        by_cases h2 : i < r
        · rw [a1 _ (by omega), hashC_r _ _ _ _ hi]
        · rw [a3 _ (by omega), hashC_r _ _ _ _ hi]
    · rw [List.getElem?_toArray, a3 _ (by omega), hashC_n]
  rw [e]
  rfl
attribute [irreducible] copyNext copyOf
end Go.Proofs.YtdihaffopfbnnaaDoor
