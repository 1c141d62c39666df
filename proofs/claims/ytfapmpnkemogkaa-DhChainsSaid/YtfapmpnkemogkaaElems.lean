/- Slices of elements of the call's own: what a variadic call is handed. -/
import Derived.Test.YtfapmpnkemogkaaFrameL
import Derived.Test.YtfapmpnkemogkaaRel
namespace Go.Proofs.Ytfapmpnkemogkaa
open Go.RowKit
set_option linter.unusedVariables false
set_option linter.unusedSimpArgs false

theorem ints5 (k : IntKind) (a : Nat → Int) : ints k 5 a = #[.int k (a 0), .int k (a 1), .int k (a 2), .int k (a 3), .int k (a 4)] := by
  apply Array.ext_getElem?
  intro i
  by_cases h : i < 5
  · rw [ints_get _ _ _ _ h]
    rcases (by omega : i = 0 ∨ i = 1 ∨ i = 2 ∨ i = 3 ∨ i = 4) with rfl | rfl | rfl | rfl | rfl <;> rfl
  · rw [Array.getElem?_eq_none (by rw [ints_size]; omega), Array.getElem?_eq_none (by simp; omega)]
def three (a b c : Nat → Int) : Nat → Nat → Int := fun j => if j = 0 then a else if j = 1 then b else c
def rowOf (F : Nat → Nat → Int) : Nat → Int := fun i => F (i / 5) (i % 5)
theorem put5 (k : IntKind) (N off : Nat) (a f : Nat → Int) : (ints k 5 a).zipIdx.foldl (fun cs (x : Value × Nat) => cs.setIfInBounds (off + x.2) x.1) (ints k N f) = ints k N (fun i => if off ≤ i ∧ i < off + 5 then a (i - off) else f i) := by
  rw [ints5]
  have e : (#[Value.int k (a 0), .int k (a 1), .int k (a 2), .int k (a 3), .int k (a 4)] : Array Value).zipIdx = #[(.int k (a 0), 0), (.int k (a 1), 1), (.int k (a 2), 2), (.int k (a 3), 3), (.int k (a 4), 4)] := by rfl
  rw [e]
  have e2 : ∀ (g : Array Value → Value × Nat → Array Value) (z : Array Value) (x0 x1 x2 x3 x4 : Value × Nat), (#[x0, x1, x2, x3, x4] : Array (Value × Nat)).foldl g z = g (g (g (g (g z x0) x1) x2) x3) x4 := fun g z x0 x1 x2 x3 x4 => by simp
  rw [e2]
  simp only [ints_set]
  refine ints_congr fun i _ => ?_
  unfold upd
  by_cases h : off ≤ i ∧ i < off + 5
  · rw [if_pos h]
    rcases (by omega : i = off ∨ i = off + 1 ∨ i = off + 2 ∨ i = off + 3 ∨ i = off + 4) with rfl | rfl | rfl | rfl | rfl <;> simp
  · rw [if_neg h, if_neg (by omega), if_neg (by omega), if_neg (by omega), if_neg (by omega), if_neg (by omega)]
theorem put5z (k : IntKind) (N : Nat) (a f : Nat → Int) : (ints k 5 a).zipIdx.foldl (fun cs (x : Value × Nat) => cs.setIfInBounds x.2 x.1) (ints k N f) = ints k N (fun i => if 0 ≤ i ∧ i < 0 + 5 then a (i - 0) else f i) := by
  rw [← put5]
  congr 1
  funext cs x
  rw [Nat.zero_add]
theorem elems_of_row {W : World} {g n N : Nat} {f : Nat → Int} {t : TypeId} {fr : Nat × Nat} {F : Nat → Nat → Int} (h : objAt W g = some (.cells (ints .u64 N f) t fr)) (hN : n * 5 ≤ N) (hf : ∀ j, j < n → ∀ i, i < 5 → f (j * 5 + i) = F j i) : ElemsAt W (some ⟨g, 0, none⟩) n F := by
  refine .inr ⟨_, rfl, fun w' hb j hj => ?_⟩
  refine run_load_row Try.underlying37 rfl (by kernel_rfl) w' _ (ints .u64 5 (F j)) (ints_size _ _ _) fun i hi => ?_
  have h' := keep_below hb h
  unfold objAt at h'
  have ha : ((⟨g, 0, none⟩ : Addr).add (j * 5)).add i = ⟨g, j * 5 + i, none⟩ := by
    rw [Go.Deep.add_add]
    unfold Addr.add
    split
    · simp_all
    · simp
  rw [ha, cell_of_row w' g _ _ _ _ h', ints_get _ _ _ _ (by omega), ints_get _ _ _ _ hi, hf j hj i hi]
theorem rowOf_at (F : Nat → Nat → Int) (n : Nat) : ∀ j, j < n → ∀ i, i < 5 → rowOf F (j * 5 + i) = F j i := fun j _ i hi => by
  unfold rowOf
  rw [show (j * 5 + i) / 5 = j by omega, show (j * 5 + i) % 5 = i by omega]
set_option maxRecDepth 100000 in
theorem build3 (a b c : Nat → Int) (W : World) : (Instr.buildSlice 49 3 #[(0, .agg (ints .u64 5 a)), (1, .agg (ints .u64 5 b)), (2, .agg (ints .u64 5 c))]).run Try.prog W =
    .ok (.slice (some ⟨W.heap.size, 0, none⟩) 3 3) (W.alloc (.cells (ints .u64 15 (rowOf (three a b c))) 37)) := by
  have hz : (Array.range 15).map (fun x => (Value.agg (ints .u64 5 nought)).cells[x % (Value.agg (ints .u64 5 nought)).cells.size]!) = ints .u64 15 nought := by
    apply Array.ext_getElem?
    intro i
    by_cases h : i < 15
    · rw [ints_get _ _ _ _ h]
      simp [h, cells_agg, ints_size]
      rw [getElem!_pos _ _ (by rw [ints_size]; omega), ints_at]; rfl
    · rw [Array.getElem?_eq_none (by simp; omega), Array.getElem?_eq_none (by rw [ints_size]; omega)]
  have hsz : (sizeOf 37).run Try.prog W = .ok 5 W := by kernel_rfl
  unfold Instr.buildSlice
  simp only [Sem.run_bind, run_underlying Try.underlying49, Result.andThen_ok, hsz, zero_elem, Nat.reduceMul, Nat.reducePow, Nat.reduceLT, Nat.reduceEqDiff, if_false, Sem.run_pure, gt_iff_lt, Bool.false_eq_true]
  rw [hz]
  have hfill : Instr.fill (fun i => some (i * 5, 5)) (ints .u64 15 nought) [(0, .agg (ints .u64 5 a)), (1, .agg (ints .u64 5 b)), (2, .agg (ints .u64 5 c))] = some (ints .u64 15 (rowOf (three a b c))) := by
    simp only [Instr.fill, cells_agg, ints_size, ne_eq, not_true_eq_false, Nat.reduceMul, Nat.zero_mul, Nat.zero_add, Nat.reduceAdd, gt_iff_lt, Nat.reduceLT, decide_false, Bool.or_self, Bool.false_eq_true, if_false, put5, put5z, or_self]
    congr 1
    refine ints_congr fun i hi => ?_
    unfold rowOf three
    rcases (by omega : i / 5 = 0 ∨ i / 5 = 1 ∨ i / 5 = 2) with h | h | h
    · rw [if_neg (by omega), if_neg (by omega), if_pos (by omega), h, if_pos rfl]; congr 1; omega
    · rw [if_neg (by omega), if_pos (by omega), h, if_neg (by decide), if_pos rfl]; congr 1; omega
    · rw [if_pos (by omega), h, if_neg (by decide), if_neg (by decide)]; congr 1; omega
  rw [hfill]
  rfl
end Go.Proofs.Ytfapmpnkemogkaa
