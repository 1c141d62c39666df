/- Rows of numbers that the call owns, and what is appended to them. -/
import Derived.Test.YtdihaffopfbnnaaDoorSi
import Derived.Lib.AppendStr
import Derived.Deep.AppendLies
namespace Go.Proofs.YtdihaffopfbnnaaDoor
open Go.RowKit Go.Lib
set_option linter.unusedVariables false
set_option linter.unusedSimpArgs false

def rowL (k : IntKind) (G : Nat → Int) (n : Nat) : List Value := (List.range n).map fun i => Value.int k (G i)
theorem rowL_len (k : IntKind) (G : Nat → Int) (n : Nat) : (rowL k G n).length = n := by simp [rowL]
theorem rowL_get (k : IntKind) (G : Nat → Int) (n i : Nat) (h : i < n) : (rowL k G n)[i]? = some (.int k (G i)) := by
  unfold rowL
  rw [List.getElem?_map, List.getElem?_range h]
  rfl
theorem rowL_succ (k : IntKind) (G : Nat → Int) (n : Nat) : rowL k G (n + 1) = rowL k G n ++ [.int k (G n)] := by
  unfold rowL
  rw [List.range_succ, List.map_append]
  rfl
theorem grown_of_below' {w w' : World} (hb : Below w.heap.size w w') : w.grownBy w' none := ⟨hb.os, hb.tape, hb.output, hb.size, fun k hk _ => hb.block k hk⟩
theorem own_later {w w' : World} {base : Nat} {e : TypeId} {size : Nat} {v : Value} {n : Nat} {xs : List Value} (h : w.ownsRow base e size v n xs) (hb : Below w.heap.size w w') : w'.ownsRow base e size v n xs :=
  h.kept (grown_of_below' hb) (by cases v.ownBlock <;> simp)
/-- behind an append: what lies below, what lies apart -/
theorem own_next {w W w' : World} {base : Nat} {e : TypeId} {v : Value} {n : Nat} {xs : List Value} (own : W.ownsRow base e 1 v n xs) (hg : W.grownBy w' v.ownBlock) (hG : Below w.heap.size w W) (hwb : w.heap.size ≤ base) :
    Below w.heap.size w w' ∧ ∀ m o, m < base → objAt W m = some o → objAt w' m = some o := by
  refine ⟨hG.grown hg hG.size (fun k hk => ?_), fun m o hm hob => ?_⟩
  · have := (own.lt k hk).1; omega
  · have hlt := lt_of_objAt hob
    refine (hg.block m hlt fun e => ?_).trans hob
    have := (own.lt m e.symm).1
    omega
theorem append_int {t e : TypeId} {i : TypeInfo} {z : Value} (k : IntKind) (bytes : Nat) (ht : Tryd.prog.underlying t = some (.slice e)) (hi : Tryd.prog.info? e = some i) (hz : i.zero = some z) (hsize : i.size = 1) (hby : i.bytes = bytes) (hzs : z.cells.size = 1) (hb8 : bytes ≤ 8)
    (w W : World) (base : Nat) (v : Value) (n : Nat) (G : Nat → Int) (g2 : Nat) (t2 ty : TypeId) (fr : Nat × Nat) (own : W.ownsRow base e 1 v n (rowL k G n)) (hn : n ≤ 1099511627776)
    (hg2 : objAt W g2 = some (.cells #[.int k (G n)] t2 fr)) (hG : Below w.heap.size w W) (hwb : w.heap.size ≤ base) (hbW : base ≤ W.heap.size) :
    ∃ g cap w', (appendNext #[t, t] ty #[v, .slice (some ⟨g2, 0, none⟩) 1 1]).run Tryd.prog W = .ok (.value (.slice (some ⟨g, 0, none⟩) (n + 1) cap)) w' ∧ w'.ownsRow base e 1 (.slice (some ⟨g, 0, none⟩) (n + 1) cap) (n + 1) (rowL k G (n + 1)) ∧
      Below w.heap.size w w' ∧ (∀ m o, m < base → objAt W m = some o → objAt w' m = some o) ∧ base ≤ g := by
  have hbn : (n + 1) * bytes ≤ 140737488355328 := Nat.le_trans (Nat.mul_le_mul_left (n + 1) hb8) (by omega)
  obtain ⟨g, cap, w', hr, ho, hg, _, _⟩ := run_append_lies (P := Tryd.prog) W t ty base e i z 1 bytes ht hi hz hsize hby hzs (by decide) v n (rowL k G n) own ⟨g2, 0, none⟩ 1 1 [.int k (G n)] rfl
    (fun j u hu => by
      unfold objAt at hg2
      have ha : ((⟨g2, 0, none⟩ : Addr).add j) = ⟨g2, j, none⟩ := by unfold Addr.add; split <;> simp_all
      rw [ha, cell_of_row W g2 j _ _ _ hg2]
      simpa using hu) (fun u hu => by
      rw [List.mem_singleton] at hu
      subst hu
      rfl) (by decide) (by unfold maxLen; omega) hbn hbW W.heap.size rfl
  rw [← rowL_succ] at ho
  obtain ⟨h1, h2⟩ := own_next own hg hG hwb
  exact ⟨g, cap, w', by unfold appendNext; simp only [Sem.run_bind, hr, Result.andThen_ok, Sem.run_pure], ho, h1, h2, (ho.lt g rfl).1⟩
theorem strCells_row (s : ByteArray) : strCells s = rowL .u8 (byteAt s) s.size := by
  apply List.ext_getElem?
  intro j
  by_cases h : j < s.size
  · rw [rowL_get _ _ _ _ h]
    unfold strCells
    have : s.data.toList[j]? = some s[j] := by
      rw [Array.getElem?_toList]
      exact Array.getElem?_eq_getElem h
    rw [List.getElem?_map, this, ← byteAt_lt s j h]
    rfl
  · rw [List.getElem?_eq_none (by rw [strCells_length]; omega), List.getElem?_eq_none (by rw [rowL_len]; omega)]
theorem rowL_congr {k : IntKind} {G G' : Nat → Int} {n : Nat} (h : ∀ i, i < n → G i = G' i) : rowL k G n = rowL k G' n := by
  unfold rowL
  exact List.map_congr_left fun i hi => by rw [h i (by simpa using hi)]
/-! the operations, opaque -/
@[go_sem ↓ high] theorem append_text (ty : TypeId) (cs : Array Bool) (args : Array Value) : builtin .append #[43, 9] ty cs args = appendNext #[43, 9] ty args := by unfold appendNext; rfl
@[go_sem ↓ high] theorem append_words (ty : TypeId) (cs : Array Bool) (args : Array Value) : builtin .append #[53, 53] ty cs args = appendNext #[53, 53] ty args := by unfold appendNext; rfl
theorem build1b (x : Int) (W : World) : (Instr.buildSlice 43 1 #[(0, .int .u8 x)]).run Tryd.prog W = .ok (.slice (some ⟨W.heap.size, 0, none⟩) 1 1) (W.alloc (.cells #[.int .u8 x] 5)) := by kernel_rfl
theorem build1w (x : Int) (W : World) : (Instr.buildSlice 53 1 #[(0, .int .u32 x)]).run Tryd.prog W = .ok (.slice (some ⟨W.heap.size, 0, none⟩) 1 1) (W.alloc (.cells #[.int .u32 x] 28)) := by kernel_rfl
def buildB1 (v : Value) : Sem Next := do pure (.value (← Instr.buildSlice 43 1 #[(0, v)]))
@[go_sem ↓ high] theorem op_buildB1 (ρ : Operand → Value) (d : Option Tmp) (x : Operand) (t : TypeId) (pos : String) (af : Array Edge) (g : Option (Nat × Bool)) :
    execOp ρ ⟨d, .buildSlice 43 1 #[(0, x)], t, pos, af, g⟩ = buildB1 (ρ x) := by
  unfold execOp buildB1
  simp
@[go_sem high] theorem op_buildB1' (ρ : Operand → Value) (d : Option Tmp) (x : Operand) (t : TypeId) (pos : String) (af : Array Edge) (g : Option (Nat × Bool)) :
    execOp ρ ⟨d, .buildSlice 43 1 #[(0, x)], t, pos, af, g⟩ = buildB1 (ρ x) := op_buildB1 ρ d x t pos af g
@[go_sem] theorem run_buildB1 (x : Int) (W : World) : (buildB1 (.int .u8 x)).run Tryd.prog W = .ok (.value (.slice (some ⟨W.heap.size, 0, none⟩) 1 1)) (W.alloc (.cells #[.int .u8 x] 5)) := by
  unfold buildB1
  simp only [Sem.run_bind, build1b, Result.andThen_ok, Sem.run_pure]
def buildW1 (v : Value) : Sem Next := do pure (.value (← Instr.buildSlice 53 1 #[(0, v)]))
@[go_sem ↓ high] theorem op_buildW1 (ρ : Operand → Value) (d : Option Tmp) (x : Operand) (t : TypeId) (pos : String) (af : Array Edge) (g : Option (Nat × Bool)) :
    execOp ρ ⟨d, .buildSlice 53 1 #[(0, x)], t, pos, af, g⟩ = buildW1 (ρ x) := by
  unfold execOp buildW1
  simp
@[go_sem high] theorem op_buildW1' (ρ : Operand → Value) (d : Option Tmp) (x : Operand) (t : TypeId) (pos : String) (af : Array Edge) (g : Option (Nat × Bool)) :
    execOp ρ ⟨d, .buildSlice 53 1 #[(0, x)], t, pos, af, g⟩ = buildW1 (ρ x) := op_buildW1 ρ d x t pos af g
@[go_sem] theorem run_buildW1 (x : Int) (W : World) : (buildW1 (.int .u32 x)).run Tryd.prog W = .ok (.value (.slice (some ⟨W.heap.size, 0, none⟩) 1 1)) (W.alloc (.cells #[.int .u32 x] 28)) := by
  unfold buildW1
  simp only [Sem.run_bind, build1w, Result.andThen_ok, Sem.run_pure]
attribute [irreducible] buildB1 buildW1
/-- a byte, a word more -/
theorem append_byte (w W : World) (base : Nat) (v : Value) (n : Nat) (G : Nat → Int) (g2 : Nat) (t2 ty : TypeId) (fr : Nat × Nat) (own : W.ownsRow base 5 1 v n (rowL .u8 G n)) (hn : n ≤ 1099511627776)
    (hg2 : objAt W g2 = some (.cells #[.int .u8 (G n)] t2 fr)) (hG : Below w.heap.size w W) (hwb : w.heap.size ≤ base) (hbW : base ≤ W.heap.size) :
    ∃ g cap w', (appendNext #[43, 43] ty #[v, .slice (some ⟨g2, 0, none⟩) 1 1]).run Tryd.prog W = .ok (.value (.slice (some ⟨g, 0, none⟩) (n + 1) cap)) w' ∧ w'.ownsRow base 5 1 (.slice (some ⟨g, 0, none⟩) (n + 1) cap) (n + 1) (rowL .u8 G (n + 1)) ∧
      Below w.heap.size w w' ∧ (∀ m o, m < base → objAt W m = some o → objAt w' m = some o) ∧ base ≤ g :=
  append_int (i := (Tryd.prog.info? 5).get (by kernel_rfl)) (z := ((Tryd.prog.info? 5).get (by kernel_rfl)).zero.get (by kernel_rfl)) .u8 1 Tryd.underlying43 (by kernel_rfl) (by kernel_rfl) (by kernel_rfl) (by kernel_rfl) (by kernel_rfl) (by decide) w W base v n G g2 t2 ty fr own hn hg2 hG hwb hbW
theorem append_word (w W : World) (base : Nat) (v : Value) (n : Nat) (G : Nat → Int) (g2 : Nat) (t2 ty : TypeId) (fr : Nat × Nat) (own : W.ownsRow base 28 1 v n (rowL .u32 G n)) (hn : n ≤ 1099511627776)
    (hg2 : objAt W g2 = some (.cells #[.int .u32 (G n)] t2 fr)) (hG : Below w.heap.size w W) (hwb : w.heap.size ≤ base) (hbW : base ≤ W.heap.size) :
    ∃ g cap w', (appendNext #[53, 53] ty #[v, .slice (some ⟨g2, 0, none⟩) 1 1]).run Tryd.prog W = .ok (.value (.slice (some ⟨g, 0, none⟩) (n + 1) cap)) w' ∧ w'.ownsRow base 28 1 (.slice (some ⟨g, 0, none⟩) (n + 1) cap) (n + 1) (rowL .u32 G (n + 1)) ∧
      Below w.heap.size w w' ∧ (∀ m o, m < base → objAt W m = some o → objAt w' m = some o) ∧ base ≤ g :=
  append_int (i := (Tryd.prog.info? 28).get (by kernel_rfl)) (z := ((Tryd.prog.info? 28).get (by kernel_rfl)).zero.get (by kernel_rfl)) .u32 4 Tryd.underlying53 (by kernel_rfl) (by kernel_rfl) (by kernel_rfl) (by kernel_rfl) (by kernel_rfl) (by decide) w W base v n G g2 t2 ty fr own hn hg2 hG hwb hbW
/-- a text's bytes, to nothing -/
theorem append_str0 (w : World) (s : ByteArray) (ty : TypeId) (hs : s.size ≤ 1099511627776) :
    ∃ v w', (appendNext #[43, 9] ty #[.slice none 0 0, .string s]).run Tryd.prog w = .ok (.value v) w' ∧ w'.ownsRow w.heap.size 5 1 v s.size (rowL .u8 (byteAt s) s.size) ∧ Below w.heap.size w w' := by
  obtain ⟨v, w', hr, ho, hg, _⟩ := run_append_own_string (P := Tryd.prog) w w.heap.size 43 9 ty 5 ((Tryd.prog.info? 5).get (by kernel_rfl)) Tryd.underlying43 Tryd.underlying9 (by kernel_rfl) (by kernel_rfl) (by kernel_rfl) (by kernel_rfl) (.slice none 0 0) 0 [] (World.ownsRow_nil _ _ _ _) s (by unfold maxLen; omega) (by omega) (Nat.le_refl _)
  rw [List.nil_append, strCells_row, Nat.zero_add] at ho
  exact ⟨v, w', by unfold appendNext; simp only [Sem.run_bind, hr, Result.andThen_ok, Sem.run_pure], ho, (own_next (World.ownsRow_nil w w.heap.size 5 1) hg (Grew.refl w) (Nat.le_refl _)).1⟩
end Go.Proofs.YtdihaffopfbnnaaDoor
