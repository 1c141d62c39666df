/- How an argument that is a slice of arrays of integers is opened. -/
import Derived.Test.YtfapmpnkemogkaaFrame
import Derived.Test.YtfapmpnkemogkaaSum
import Derived.Deep.Slices
namespace Go.Proofs.Ytfapmpnkemogkaa
open Go.ChangeShapes Go.WideShapes Go.ChangeAt Go.RowKit
set_option linter.unusedVariables false
set_option linter.unusedSimpArgs false

theorem trod_array_ints {H : Type} {enc : TypeId × Value → H} {P : Program} {W : World} {base : Nat} {sp : Nat → Bool} {held : Bool} {t e : TypeId} {n fuel : Nat} {k : IntKind} {cs : List Value} {x : DataW H × List MemPlace}
    (hu : P.underlying t = some (.array n e)) (he : P.underlying e = some (.int k)) (hc : P.cellsOf e = 1) (hlen : cs.length = n) (hd : DataW.trod enc P W base sp held fuel t cs = some x) :
    ∃ f : Nat → Int, ∀ i, i < n → cs[i]? = some (.int k (f i)) ∧ (Lit.int k (f i)).wf = true := by
  obtain ⟨xs, m, _, _, _, hl, hel⟩ := DataW.trod_array hu hd
  have hat : ∀ i, i < n → ∃ z, cs[i]? = some (.int k z) ∧ (Lit.int k z).wf = true := by
    intro i hi
    have h1 := hel i hi
    rw [hc, Nat.mul_one, List.getElem?_eq_getElem (by omega)] at h1
    obtain ⟨z, e1, _, wz⟩ := DataW.trod_int he h1
    refine ⟨z, ?_, wz⟩
    have h2 : ((cs.drop i).take 1)[0]? = some (.int k z) := by rw [e1]; rfl
    simpa using h2
  refine ⟨fun i => match cs[i]? with | some (.int _ z) => z | _ => 0, fun i hi => ?_⟩
  obtain ⟨z, hz, wz⟩ := hat i hi
  simp only [hz]
  exact ⟨trivial, wz⟩
theorem slice_of_okWide {P : Program} {W : World} {r : Reach} {b0 : Nat} {t e : TypeId} {v : Value} (ht : P.underlying t = some (.slice e)) (hval : Value.okWide P W r b0 t v) : ∃ o l c, v = .slice o l c := by
  unfold Value.okWide at hval
  rw [ht] at hval
  simp only [] at hval
  unfold Cell.okWide Cell.ok at hval
  rw [ht] at hval
  revert hval
  cases v <;> simp
theorem open_rows {H : Type} {enc : TypeId × Value → H} {P : Program} {W : World} {base : Nat} {sp : Nat → Bool} {held : Bool} {t e q : TypeId} {n : Nat} {k : IntKind} {v : Value} {d : DataW H} {ps : List MemPlace}
    (ht : P.underlying t = some (.slice e)) (hu : P.underlying e = some (.array n q)) (he : P.underlying q = some (.int k)) (hc : P.cellsOf q = 1) (hs : P.cellsOf e = n) (hn0 : 0 < n) (hsl : ∃ o l c, v = .slice o l c) (hd : DataW.Trod enc P W base sp held t v d ps) :
    ∃ (oa : Option Addr) (len cap : Nat) (F : Nat → Nat → Int), v = .slice oa len cap ∧ len ≤ maxLen ∧ (∀ i, i < len → ∀ j, j < n → (Lit.int k (F i j)).wf = true) ∧
      (len = 0 ∨ ∃ a : Addr, oa = some a ∧ ∀ i, i < len → ∀ j, j < n → W.cell? (a.add (i * n + j)) = some (.int k (F i j))) := by
  obtain ⟨o, l, c, rfl⟩ := hsl
  obtain ⟨fuel, hf⟩ := hd
  rcases Go.Deep.open_slice ht hf with ⟨h0, _⟩ | ⟨a, len, cap, m, n', D, Pl, hcs, hb, hl, hm, hmm, hx, hi⟩
  · have e0 : (Value.slice o l c).cells.toList = [.slice o l c] := rfl
    rw [e0] at h0
    cases h0
    exact ⟨none, 0, 0, fun _ _ => 0, rfl, by simp [maxLen], fun i hi => by omega, .inl rfl⟩
  · have e0 : (Value.slice o l c).cells.toList = [.slice o l c] := rfl
    rw [e0] at hcs
    cases hcs
    have hlm : l ≤ m := by subst hmm; split <;> omega
    have key : ∀ i, i < l → ∃ f : Nat → Int, ∀ j, j < n → W.cell? (a.add (i * n + j)) = some (.int k (f j)) ∧ (Lit.int k (f j)).wf = true := by
      intro i hil
      obtain ⟨cs', h1, h2⟩ := hi i (by omega)
      rw [hs] at h1
      obtain ⟨_, hcl, hat⟩ := World.cells?_some h1
      obtain ⟨f, hf⟩ := trod_array_ints hu he hc hcl h2
      refine ⟨f, fun j hj => ?_⟩
      obtain ⟨e1, e2⟩ := hf j hj
      refine ⟨?_, e2⟩
      rw [← Go.Deep.add_add, hat j hj, e1]
    refine ⟨some a, l, c, fun i => if h : i < l then Classical.choose (key i h) else fun _ => 0, rfl, by omega, fun i hi' j hj => ?_, .inr ⟨a, rfl, fun i hi' j hj => ?_⟩⟩
    · simp only [hi', dif_pos]
      exact (Classical.choose_spec (key i hi') j hj).2
    · simp only [hi', dif_pos]
      exact (Classical.choose_spec (key i hi') j hj).1
theorem cell_lt {W : World} {p : Addr} {v : Value} (h : W.cell? p = some v) : p.block < W.heap.size := by
  unfold World.cell? at h
  rcases Nat.lt_or_ge p.block W.heap.size with h' | h'
  · exact h'
  · rw [Array.getElem?_eq_none h'] at h; cases h
theorem run_load_row {P : Program} {t : TypeId} {n : Nat} {d : TypeDesc} (hu : P.underlying t = some d) (hd : (match d with | .struct _ | .array _ _ => true | _ => false) = true) (hi : (P.info? t).map (·.size) = some n)
    (w : World) (a : Addr) (cs : Array Value) (hcs : cs.size = n) (h : ∀ j, j < n → w.cell? (a.add j) = cs[j]?) : (loadNext t (.pointer (some a))).run P w = .ok (.value (.agg cs)) w := by
  have hl : (loadCells a cs.toList.length).run P w = .ok cs.toList.toArray w :=
    run_loadCells_list (P := P) w a cs.toList (fun j v hv => by
      have hj : j < cs.size := by
        rcases Nat.lt_or_ge j cs.size with h | h
        · exact h
        · rw [List.getElem?_eq_none (by simpa using h)] at hv; cases hv
      rw [h j (by omega)]
      simpa using hv)
  cases hq : P.info? t with
  | none => simp [hq] at hi
  | some i =>
    have hs : i.size = cs.size := by simp [hq] at hi; omega
    have hagg : (isAgg t).run P w = .ok true w := by
      unfold isAgg
      rw [Sem.run_bind, run_underlying hu w]
      cases d <;> simp_all
    simp only [Array.length_toList, Array.toArray_toList] at hl
    have e : loadRow P t (.pointer (some a)) w = .ok (.agg cs) w := by
      unfold loadRow
      simp [Instr.loadAt, Instr.sureAddr, loadVar, Sem.run_bind, hagg, sizeOf, typeInfo, hq, hs, hl]
    rw [run_loadNext, e]
    rfl
set_option maxRecDepth 100000 in
/-- an argument of elements -/
theorem open_elems {H : Type} {enc : TypeId × Value → H} {W : World} {base : Nat} {sp : Nat → Bool} {held : Bool} {r : Reach} {b0 : Nat} {v : Value} {d : DataW H} {ps : List MemPlace}
    (hval : Value.okWide Try.prog W r b0 49 v) (hd : DataW.Trod enc Try.prog W base sp held 49 v d ps) :
    ∃ (oa : Option Addr) (n c : Nat) (F : Nat → Nat → Int), v = .slice oa n c ∧ n ≤ 9223372036854775807 ∧ (∀ i, i < n → ∀ j, j < 5 → 0 ≤ F i j ∧ F i j ≤ 18446744073709551615) ∧ ElemsAt W oa n F := by
  obtain ⟨oa, n, c, F, hv, hm, hw, hF⟩ := open_rows (n := 5) (k := .u64) Try.underlying49 Try.underlying37 Try.underlying35 (by kernel_rfl) (by kernel_rfl) (Nat.zero_lt_succ 4) (slice_of_okWide Try.underlying49 hval) hd
  refine ⟨oa, n, c, F, hv, by unfold maxLen at hm; omega, fun i hi j hj => bounds_u64 (hw i hi j hj), ?_⟩
  rcases hF with h | ⟨a, ho, hc⟩
  · exact .inl h
  · refine .inr ⟨a, ho, fun w' hb j hj => ?_⟩
    refine run_load_row Try.underlying37 rfl (by kernel_rfl) w' (a.add (j * 5)) (ints .u64 5 (F j)) (ints_size _ _ _) fun i hi => ?_
    rw [Go.Deep.add_add, ints_get _ _ _ _ hi]
    have h1 := hc j hj i hi
    rw [hb.cell (cell_lt h1)]
    exact h1
end Go.Proofs.Ytfapmpnkemogkaa
