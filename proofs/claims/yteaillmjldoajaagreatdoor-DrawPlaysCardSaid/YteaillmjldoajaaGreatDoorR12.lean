/- R12 -/
import Derived.Test.YteaillmjldoajaaGreatDoorFrame
import Derived.Test.YteaillmjldoajaaGreatDoorR11
import Derived.Test.YteaillmjldoajaaGreatDoorR10
import Derived.Test.YteaillmjldoajaaGreatDoorDh
set_option maxRecDepth 100000
set_option maxHeartbeats 4000000
namespace Go.Proofs.YteaillmjldoajaaGreatDoor
open Go.ChangeShapes Go.WideShapes Go.ChangeAt Go.RowKit
set_option linter.unusedVariables false
set_option linter.unusedSimpArgs false
def k32L (F : Nat → Nat → Int) (n : Nat) : List Value := (List.range n).flatMap fun j => (ints .u8 32 (F j)).toList
theorem k32L_succ (F : Nat → Nat → Int) (n : Nat) : k32L F (n + 1) = k32L F n ++ (ints .u8 32 (F n)).toList := by
 unfold k32L
 rw [List.range_succ, List.flatMap_append]
 simp
theorem k32L_len (F : Nat → Nat → Int) : ∀ n, (k32L F n).length = n * 32
 | 0 => rfl
 | n + 1 => by rw [k32L_succ, List.length_append, k32L_len F n, Array.length_toList, ints_size]; omega
theorem k32L_get (F : Nat → Nat → Int) (j i : Nat) (hi : i < 32) : ∀ n, j < n → (k32L F n)[j * 32 + i]? = some (.int .u8 (F j i))
 | 0, h => by omega
 | n + 1, h => by
  rw [k32L_succ]
  rcases (by omega : j < n ∨ j = n) with h' | rfl
  ·rw [List.getElem?_append_left (by rw [k32L_len]; omega), k32L_get F j i hi n h']
  ·rw [List.getElem?_append_right (by rw [k32L_len]; omega), k32L_len, show j * 32 + i - j * 32 = i by omega, Array.getElem?_toList, ints_get _ _ _ _ hi]
def K32At (w : World) (oa : Option Addr) (n : Nat) (F : Nat → Nat → Int) : Prop :=
 n = 0 ∨ ∃ ad : Addr, oa = some ad ∧ ∀ w', Below w.heap.size w w' → ∀ j, j < n → ∀ i, i < 32 → w'.cell? (ad.add (j * 32 + i)) = some (.int .u8 (F j i))
theorem K32At.later {w w' : World} {oa : Option Addr} {n : Nat} {F : Nat → Nat → Int} (h : K32At w oa n F) (hb : Below w.heap.size w w') : K32At w' oa n F := by
 rcases h with h | ⟨ad, ho, hl⟩
 ·exact .inl h
 ·exact .inr ⟨ad, ho, fun w'' hb' => hl w'' (Grew.trans hb hb')⟩
theorem K32At.nil (w : World) (F : Nat → Nat → Int) : K32At w none 0 F := .inl rfl
theorem K32At.addr {w : World} {oa : Option Addr} {n : Nat} {F : Nat → Nat → Int} (h : K32At w oa n F) (hn : 0 < n) : ∃ ad, oa = some ad := by
 rcases h with h | ⟨ad, ho, _⟩
 ·omega
 ·exact ⟨ad, ho⟩
theorem K32At.at {w : World} {ad : Addr} {n : Nat} {F : Nat → Nat → Int} (h : K32At w (some ad) n F) {j : Nat} (hj : j < n) {w' : World} (hb : Below w.heap.size w w') : ∀ i, i < 32 → w'.cell? ((ad.add (j * 32)).add i) = (ints .u8 32 (F j))[i]? := fun i hi => by
 rcases h with h | ⟨ad', ho, hl⟩
 ·omega
 ·cases ho
  rw [Go.Deep.add_add, hl w' hb j hj i hi, ints_get _ _ _ _ hi]
theorem K32At.loadK {w : World} {ad : Addr} {n : Nat} {F : Nat → Nat → Int} (h : K32At w (some ad) n F) {j : Nat} (hj : j < n) {w' : World} (hb : Below w.heap.size w w') : (loadNext 32 (.pointer (some (ad.add (j * 32))))).run Tryz.prog w' = .ok (.value (.agg (ints .u8 32 (F j)))) w' :=
 run_load_row Tryz.underlying32 rfl (by kernel_rfl) w' _ (ints .u8 32 (F j)) (ints_size _ _ _) (h.at hj hb)
theorem K32At.loadB {w : World} {ad : Addr} {n : Nat} {F : Nat → Nat → Int} (h : K32At w (some ad) n F) {j : Nat} (hj : j < n) {w' : World} (hb : Below w.heap.size w w') : (loadNext 31 (.pointer (some (ad.add (j * 32))))).run Tryz.prog w' = .ok (.value (.agg (ints .u8 32 (F j)))) w' :=
 run_load_row Tryz.underlying31 rfl (by kernel_rfl) w' _ (ints .u8 32 (F j)) (ints_size _ _ _) (h.at hj hb)
theorem K32At.congr {w : World} {oa : Option Addr} {n : Nat} {F G : Nat → Nat → Int} (h : K32At w oa n F) (e : ∀ j, j < n → F j = G j) : K32At w oa n G := by
 rcases h with h | ⟨ad, ho, hl⟩
 ·exact .inl h
 ·exact .inr ⟨ad, ho, fun w' hb j hj i hi => by rw [← e j hj]; exact hl w' hb j hj i hi⟩
theorem k32_of_own {w : World} {base n : Nat} {v : Value} {F : Nat → Nat → Int} {t : TypeId} (h : w.ownsRow base t 32 v n (k32L F n)) : ∃ oa c, v = .slice oa n c ∧ n ≤ c ∧ K32At w oa n F := by
 have hh := h
 rcases h.2 with ⟨rfl, h0⟩ | ⟨g, cap, cur, rfl, hb, hg, hnc, hcm, hcs, htake⟩
 ·subst h0
  exact ⟨none, 0, rfl, Nat.le_refl _, .inl rfl⟩
 ·refine ⟨some ⟨g, 0, none⟩, cap, rfl, hnc, .inr ⟨_, rfl, fun w' hb j hj i hi => ?_⟩⟩
  rw [← addr_plain]
  exact (own_cell hh (j * 32 + i) _ (k32L_get F j i hi n hj)).2 w' hb
theorem k32_own_blk {w : World} {base n : Nat} {v : Value} {F : Nat → Nat → Int} {t : TypeId} (h : w.ownsRow base t 32 v n (k32L F n)) {oa : Option Addr} {m c : Nat} (e : v = .slice oa m c) : ∀ ad, oa = some ad → base ≤ ad.block := fun ad e1 => by
 subst e e1
 rcases h.2 with ⟨h1, _⟩ | ⟨g, cap, cur, h1, hb, hg, _⟩
 ·cases h1
 ·cases h1
  exact hb
theorem k32_of_row {W : World} {g n N : Nat} {f : Nat → Int} {t : TypeId} {fr : Nat × Nat} {F : Nat → Nat → Int} (h : objAt W g = some (.cells (ints .u8 N f) t fr)) (hN : n * 32 ≤ N) (hf : ∀ j, j < n → ∀ i, i < 32 → f (j * 32 + i) = F j i) : K32At W (some ⟨g, 0, none⟩) n F := by
 refine .inr ⟨_, rfl, fun w' hb j hj i hi => ?_⟩
 have h' := keep_below hb h
 unfold objAt at h'
 rw [← addr_plain, cell_of_row w' g _ _ _ _ h', ints_get _ _ _ _ (by omega), hf j hj i hi]
theorem open_k32 {H : Type} {enc : TypeId × Value → H} {W : World} {base : Nat} {sp : Nat → Bool} {held : Bool} {r : Reach} {b0 : Nat} {v : Value} {d : DataW H} {ps : List MemPlace}
  (hval : Value.okWide Tryz.prog W r b0 22 v) (hd : DataW.Trod enc Tryz.prog W base sp held 22 v d ps) :
  ∃ (oa : Option Addr) (n c : Nat) (F : Nat → Nat → Int), v = .slice oa n c ∧ n ≤ 9223372036854775807 ∧ (∀ i, i < n → Bytes 32 (F i)) ∧ K32At W oa n F := by
 obtain ⟨oa, n, c, F, hv, hm, hw, hF⟩ := open_rows (n := 32) (k := .u8) Tryz.underlying22 Tryz.underlying32 Tryz.underlying5 (by kernel_rfl) (by kernel_rfl) (Nat.zero_lt_succ 31) (slice_of_okWide Tryz.underlying22 hval) hd
 refine ⟨oa, n, c, F, hv, by unfold maxLen at hm; omega, fun i hi j hj => bounds_u8 (hw i hi j hj), ?_⟩
 rcases hF with h | ⟨a, ho, hc⟩
 ·exact .inl h
 ·refine .inr ⟨a, ho, fun w' hb j hj i hi => ?_⟩
  have h1 := hc j hj i hi
  rw [hb.cell (cell_lt h1)]
  exact h1
theorem rowK_one (a : Nat → Int) : ∀ j, j < 1 → ∀ i, i < 32 → a (j * 32 + i) = (fun _ => a) j i := fun j hj i _ => by
 obtain rfl : j = 0 := by omega
 show a (0 * 32 + i) = a i
 rw [Nat.zero_mul, Nat.zero_add]
theorem build1k (a : Nat → Int) (W : World) : (Instr.buildSlice 22 1 #[(0, .agg (ints .u8 32 a))]).run Tryz.prog W = .ok (.slice (some ⟨W.heap.size, 0, none⟩) 1 1) (W.alloc (.cells (ints .u8 32 a) 32)) := by kernel_rfl
theorem build1r (a : Nat → Int) (W : World) : (Instr.buildSlice 27 1 #[(0, .agg (ints .u8 32 a))]).run Tryz.prog W = .ok (.slice (some ⟨W.heap.size, 0, none⟩) 1 1) (W.alloc (.cells (ints .u8 32 a) 31)) := by kernel_rfl
def buildK1 (v : Value) : Sem Next := do pure (.value (← Instr.buildSlice 22 1 #[(0, v)]))
def buildK2 (u v : Value) : Sem Next := do pure (.value (← Instr.buildSlice 22 2 #[(0, u), (1, v)]))
def buildR1 (v : Value) : Sem Next := do pure (.value (← Instr.buildSlice 27 1 #[(0, v)]))
@[go_sem ↓ high] theorem op_buildK1 (ρ : Operand → Value) (d : Option Tmp) (x : Operand) (t : TypeId) (pos : String) (af : Array Edge) (g : Option (Nat × Bool)) :
  execOp ρ ⟨d, .buildSlice 22 1 #[(0, x)], t, pos, af, g⟩ = buildK1 (ρ x) := by
 unfold execOp buildK1
 simp
@[go_sem high] theorem op_buildK1' (ρ : Operand → Value) (d : Option Tmp) (x : Operand) (t : TypeId) (pos : String) (af : Array Edge) (g : Option (Nat × Bool)) :
  execOp ρ ⟨d, .buildSlice 22 1 #[(0, x)], t, pos, af, g⟩ = buildK1 (ρ x) := op_buildK1 ρ d x t pos af g
@[go_sem ↓ high] theorem op_buildK2 (ρ : Operand → Value) (d : Option Tmp) (x y : Operand) (t : TypeId) (pos : String) (af : Array Edge) (g : Option (Nat × Bool)) :
  execOp ρ ⟨d, .buildSlice 22 2 #[(0, x), (1, y)], t, pos, af, g⟩ = buildK2 (ρ x) (ρ y) := by
 unfold execOp buildK2
 simp
@[go_sem high] theorem op_buildK2' (ρ : Operand → Value) (d : Option Tmp) (x y : Operand) (t : TypeId) (pos : String) (af : Array Edge) (g : Option (Nat × Bool)) :
  execOp ρ ⟨d, .buildSlice 22 2 #[(0, x), (1, y)], t, pos, af, g⟩ = buildK2 (ρ x) (ρ y) := op_buildK2 ρ d x y t pos af g
@[go_sem ↓ high] theorem op_buildR1 (ρ : Operand → Value) (d : Option Tmp) (x : Operand) (t : TypeId) (pos : String) (af : Array Edge) (g : Option (Nat × Bool)) :
  execOp ρ ⟨d, .buildSlice 27 1 #[(0, x)], t, pos, af, g⟩ = buildR1 (ρ x) := by
 unfold execOp buildR1
 simp
@[go_sem high] theorem op_buildR1' (ρ : Operand → Value) (d : Option Tmp) (x : Operand) (t : TypeId) (pos : String) (af : Array Edge) (g : Option (Nat × Bool)) :
  execOp ρ ⟨d, .buildSlice 27 1 #[(0, x)], t, pos, af, g⟩ = buildR1 (ρ x) := op_buildR1 ρ d x t pos af g
@[go_sem] theorem run_buildK1 (a : Nat → Int) (W : World) : (buildK1 (.agg (ints .u8 32 a))).run Tryz.prog W = .ok (.value (.slice (some ⟨W.heap.size, 0, none⟩) 1 1)) (W.alloc (.cells (ints .u8 32 a) 32)) := by
 unfold buildK1
 simp only [Sem.run_bind, build1k, Result.andThen_ok, Sem.run_pure]
@[go_sem] theorem run_buildK2 (a b : Nat → Int) (W : World) : (buildK2 (.agg (ints .u8 32 a)) (.agg (ints .u8 32 b))).run Tryz.prog W = .ok (.value (.slice (some ⟨W.heap.size, 0, none⟩) 2 2)) (W.alloc (.cells (ints .u8 64 (rowK (two a b))) 32)) := by
 unfold buildK2
 simp only [Sem.run_bind, build2k, Result.andThen_ok, Sem.run_pure]
@[go_sem] theorem run_buildR1 (a : Nat → Int) (W : World) : (buildR1 (.agg (ints .u8 32 a))).run Tryz.prog W = .ok (.value (.slice (some ⟨W.heap.size, 0, none⟩) 1 1)) (W.alloc (.cells (ints .u8 32 a) 31)) := by
 unfold buildR1
 simp only [Sem.run_bind, build1r, Result.andThen_ok, Sem.run_pure]
attribute [irreducible] buildK1 buildK2 buildR1
@[go_sem ↓ high] theorem append_keys (ty : TypeId) (cs : Array Bool) (args : Array Value) : builtin .append #[22, 22] ty cs args = appendNext #[22, 22] ty args := by unfold appendNext; rfl
@[go_sem ↓ high] theorem append_rows (ty : TypeId) (cs : Array Bool) (args : Array Value) : builtin .append #[27, 27] ty cs args = appendNext #[27, 27] ty args := by unfold appendNext; rfl
theorem append_k32 {t e : TypeId} {i : TypeInfo} {z : Value} (ht : Tryz.prog.underlying t = some (.slice e)) (hi : Tryz.prog.info? e = some i) (hz : i.zero = some z) (hsize : i.size = 32) (hby : i.bytes = 32) (hzs : z.cells.size = 32)
  (w W : World) (base : Nat) (v : Value) (n : Nat) (F : Nat → Nat → Int) (g2 : Nat) (t2 : TypeId) (fr : Nat × Nat) (own : W.ownsRow base e 32 v n (k32L F n)) (hn : n ≤ 1048576)
  (hg2 : objAt W g2 = some (.cells (ints .u8 32 (F n)) t2 fr)) (hG : Below w.heap.size w W) (hwb : w.heap.size ≤ base) (hbW : base ≤ W.heap.size) :
  ∃ g cap w', (appendNext #[t, t] t #[v, .slice (some ⟨g2, 0, none⟩) 1 1]).run Tryz.prog W = .ok (.value (.slice (some ⟨g, 0, none⟩) (n + 1) cap)) w' ∧ w'.ownsRow base e 32 (.slice (some ⟨g, 0, none⟩) (n + 1) cap) (n + 1) (k32L F (n + 1)) ∧
   Below w.heap.size w w' ∧ (∀ m o, m < base → objAt W m = some o → objAt w' m = some o) := by
 obtain ⟨g, cap, w', hr, ho, hb, hk, _⟩ := append_part 32 32 ht hi hz hsize hby hzs (by decide) (by decide) t w W base v n (k32L F n) ⟨g2, 0, none⟩ 1 1 (ints .u8 32 (F n)).toList own (by omega) (by decide) (by rw [Array.length_toList, ints_size])
  (fun j x hx => by
   rw [← addr_plain g2 j]
   unfold objAt at hg2
   rw [cell_of_row W g2 j _ _ _ hg2]
   rw [Array.getElem?_toList] at hx
   exact hx) (fun x hx => by
   have h1 := ints_ones .u8 32 (F n)
   rw [Array.all_eq_true'] at h1
   exact h1 x (by simpa using hx)) hG hwb hbW
 refine ⟨g, cap, w', hr, ?_, hb, hk⟩
 rw [k32L_succ]
 exact ho
theorem append_row (w W : World) (base : Nat) (v : Value) (n : Nat) (F : Nat → Nat → Int) (g2 : Nat) (t2 : TypeId) (fr : Nat × Nat) (own : W.ownsRow base 31 32 v n (k32L F n)) (hn : n ≤ 1048576)
  (hg2 : objAt W g2 = some (.cells (ints .u8 32 (F n)) t2 fr)) (hG : Below w.heap.size w W) (hwb : w.heap.size ≤ base) (hbW : base ≤ W.heap.size) :
  ∃ g cap w', (appendNext #[27, 27] 27 #[v, .slice (some ⟨g2, 0, none⟩) 1 1]).run Tryz.prog W = .ok (.value (.slice (some ⟨g, 0, none⟩) (n + 1) cap)) w' ∧ w'.ownsRow base 31 32 (.slice (some ⟨g, 0, none⟩) (n + 1) cap) (n + 1) (k32L F (n + 1)) ∧
   Below w.heap.size w w' ∧ (∀ m o, m < base → objAt W m = some o → objAt w' m = some o) :=
 append_k32 (i := (Tryz.prog.info? 31).get (by kernel_rfl)) (z := ((Tryz.prog.info? 31).get (by kernel_rfl)).zero.get (by kernel_rfl)) Tryz.underlying27 (by kernel_rfl) (by kernel_rfl) (by kernel_rfl) (by kernel_rfl) (by kernel_rfl) w W base v n F g2 t2 fr own hn hg2 hG hwb hbW
end Go.Proofs.YteaillmjldoajaaGreatDoor
namespace Go.Proofs.YteaillmjldoajaaGreatDoor
open Go.RowKit
set_option linter.unusedVariables false
set_option linter.unusedSimpArgs false
@[go_sem] theorem none_row32 (w : World) : (noneNext 31).run Tryz.prog w = .ok (.value (.agg (ints .u8 32 nought))) w := by kernel_rfl
attribute [local irreducible] nodeF labelF oneF macF shaF strOf keyV shV
end Go.Proofs.YteaillmjldoajaaGreatDoor
