/-
For every input the law PathMeets of layer 14 returns true, and each argument reads afterwards as it read before; the listed tables of package sha are tied to the program's text.
-/
import Derived.Test.YtonmancgalencaaGreatDoorQ14
import Derived.Test.YtonmancgalencaaGreatDoorL13
import Derived.Test.YtonmancgalencaaGreatDoorTrk
import Derived.Test.YtonmancgalencaaGreatDoorQ11
import Derived.Test.YtonmancgalencaaGreatDoorV14
import Derived.Test.YtonmancgalencaaGreatDoorTb
import Derived.Test.YtonmancgalencaaGreatDoorAw
namespace Go.Proofs.YtonmancgalencaaGreatDoor
open Go.RowKit Go.Lib
set_option linter.unusedVariables false
set_option linter.unusedSimpArgs false

/-- where a path's secrets and its copath lie -/
structure Pth where
  oS : Option Addr
  kS : Nat
  gC : Nat
  kC : Nat
def dN (n i : Nat) : Nat := (copathN n i).length
def pthC (n i : Nat) (p : Pth) : Array Value := #[.int .i64 (n : Int), .int .i64 (i : Int), .slice p.oS (dN n i + 1) p.kS, .slice (some ⟨p.gC, 0, none⟩) (dN n i) p.kC]
@[go_sem] theorem pthC_size (n i : Nat) (p : Pth) : (pthC n i p).size = 4 := by simp [pthC]
@[go_sem] theorem pthC_one (n i : Nat) (p : Pth) : oneCells (pthC n i p) = true := by unfold oneCells pthC; simp [Value.oneCell']
theorem pthC_ones (n i : Nat) (p : Pth) : (pthC n i p).all (·.oneCell') = true := by unfold pthC; simp [Value.oneCell']
theorem pthC_lit (n i : Nat) (p : Pth) : #[Value.int .i64 (n : Int), .int .i64 (i : Int), .slice p.oS (dN n i + 1) p.kS, .slice (some ⟨p.gC, 0, none⟩) (dN n i) p.kC] = pthC n i p := rfl
def pth0 : Array Value := #[.int .i64 0, .int .i64 0, .slice none 0 0, .slice none 0 0]
@[go_sem] theorem pth0_size : pth0.size = 4 := by simp [pth0]
@[go_sem] theorem pth0_one : oneCells pth0 = true := by unfold oneCells pth0; simp [Value.oneCell']
@[go_sem high] theorem zero_pth' (w : World) : (zeroValue 33).run Tryz.prog w = .ok (.agg pth0) w := by kernel_rfl
@[go_sem ↓ high] theorem zero_pth (w : World) : (zeroValue 33).run Tryz.prog w = .ok (.agg pth0) w := by kernel_rfl
theorem zero_pth9 (w : World) : (zeroValue 33).run Tryz.prog w = .ok (.agg pth0) w := by kernel_rfl
@[go_sem] theorem none_pth (w : World) : (noneNext 33).run Tryz.prog w = .ok (.value (.agg pth0)) w := by kernel_rfl
@[go_sem ↓ high] theorem load_pth (ρ : Operand → Value) (d : Option Tmp) (x : Operand) (t : TypeId) (pos : String) (af : Array Edge) (g : Option (Nat × Bool)) :
    execOp ρ ⟨d, .load 33 x, t, pos, af, g⟩ = loadNext 33 (ρ x) := op_load _ ρ d x t pos af g
@[go_sem high] theorem load_pth' (ρ : Operand → Value) (d : Option Tmp) (x : Operand) (t : TypeId) (pos : String) (af : Array Edge) (g : Option (Nat × Bool)) :
    execOp ρ ⟨d, .load 33 x, t, pos, af, g⟩ = loadNext 33 (ρ x) := op_load _ ρ d x t pos af g
@[go_sem] theorem load_pth_at (g : Nat) (w : World) : (loadNext 33 (.pointer (some ⟨g, 0, none⟩))).run Tryz.prog w = (loadOf Tryz.prog 33 g 4 w (objAt w g)).andThen fun v w' => .ok (.value v) w' := by
  rw [run_loadNext, loadRow_eq Tryz.underlying33 rfl (by kernel_rfl) g w]
@[go_sem] theorem load_pth_of (g : Nat) (w : World) (cs : Array Value) (t' : TypeId) (fr : Nat × Nat) (h : cs.size = 4) : loadOf Tryz.prog 33 g 4 w (some (.cells cs t' fr)) = .ok (.agg cs) w := loadOf_cells cs t' fr h
@[go_sem ↓ high] theorem store_pth (ρ : Operand → Value) (d : Option Tmp) (x y : Operand) (t : TypeId) (pos : String) (af : Array Edge) (g : Option (Nat × Bool)) :
    execOp ρ ⟨d, .store 33 x y, t, pos, af, g⟩ = storeNext 33 (ρ x) (ρ y) := op_store _ ρ d x y t pos af g
@[go_sem high] theorem store_pth' (ρ : Operand → Value) (d : Option Tmp) (x y : Operand) (t : TypeId) (pos : String) (af : Array Edge) (g : Option (Nat × Bool)) :
    execOp ρ ⟨d, .store 33 x y, t, pos, af, g⟩ = storeNext 33 (ρ x) (ρ y) := op_store _ ρ d x y t pos af g
@[go_sem] theorem store_pth_at (g : Nat) (cs : Array Value) (w : World) : (storeNext 33 (.pointer (some ⟨g, 0, none⟩)) (.agg cs)).run Tryz.prog w = (storeOf Tryz.prog 33 g 4 (.agg cs) w (objAt w g)).andThen fun _ w' => .ok .skip w' := by
  rw [run_storeNext, storeRow_eq (by kernel_rfl) g cs w]
@[go_sem] theorem store_pth_of (g : Nat) (w : World) (old cs : Array Value) (t' : TypeId) (h1 : old.size = 4) (h2 : cs.size = 4) (h3 : oneCells cs = true) :
    storeOf Tryz.prog 33 g 4 (.agg cs) w (some (.cells old t' (0, 0))) = .ok () (w.setRow g cs) := storeOf_cells old cs t' h1 h2 h3
theorem build1p (n i : Nat) (p : Pth) (W : World) : (Instr.buildSlice 31 1 #[(0, .agg (pthC n i p))]).run Tryz.prog W = .ok (.slice (some ⟨W.heap.size, 0, none⟩) 1 1) (W.alloc (.cells (pthC n i p) 33)) := by kernel_rfl
def buildP1 (v : Value) : Sem Next := do pure (.value (← Instr.buildSlice 31 1 #[(0, v)]))
@[go_sem ↓ high] theorem op_buildP1 (ρ : Operand → Value) (d : Option Tmp) (x : Operand) (t : TypeId) (pos : String) (af : Array Edge) (g : Option (Nat × Bool)) :
    execOp ρ ⟨d, .buildSlice 31 1 #[(0, x)], t, pos, af, g⟩ = buildP1 (ρ x) := by
  unfold execOp buildP1
  simp
@[go_sem high] theorem op_buildP1' (ρ : Operand → Value) (d : Option Tmp) (x : Operand) (t : TypeId) (pos : String) (af : Array Edge) (g : Option (Nat × Bool)) :
    execOp ρ ⟨d, .buildSlice 31 1 #[(0, x)], t, pos, af, g⟩ = buildP1 (ρ x) := op_buildP1 ρ d x t pos af g
@[go_sem] theorem run_buildP1 (n i : Nat) (p : Pth) (W : World) : (buildP1 (.agg (pthC n i p))).run Tryz.prog W = .ok (.value (.slice (some ⟨W.heap.size, 0, none⟩) 1 1)) (W.alloc (.cells (pthC n i p) 33)) := by
  unfold buildP1
  simp only [Sem.run_bind, build1p, Result.andThen_ok, Sem.run_pure]
theorem pthC_inj {n i : Nat} {p q : Pth} (h : pthC n i p = pthC n i q) : p = q := by
  unfold pthC at h
  cases p; cases q
  simp at h
  simp [h]
/-- a block of no keys -/
def Off (w : World) (k : Nat) : Prop := ∃ cur T fr, objAt w k = some (.cells cur T fr) ∧ T ≠ 24
theorem K32At.grown {w w' : World} {oa : Option Addr} {n : Nat} {F : Nat → Nat → Int} (h : K32At w oa n F) {row : Option Nat} (hg : w.grownBy w' row) (hne : ∀ ad, oa = some ad → some ad.block ≠ row) : K32At w' oa n F := by
  rcases h with h | ⟨ad, e, hl⟩
  · exact .inl h
  · refine .inr ⟨ad, e, fun w2 hb j hj i hi => ?_⟩
    have h1 := hg.cell (hl w (Grew.refl _) j hj i hi) (by rw [add_block]; exact hne ad e)
    have h2 := World.block_lt_of_cell? w' _ h1
    exact (World.cell?_of_block (hb.block _ h2)).trans h1
theorem KeyRow.off {w : World} {oa : Option Addr} (h : KeyRow w oa) {row : Option Nat} (hr : ∀ k, row = some k → Off w k) : ∀ ad, oa = some ad → some ad.block ≠ row := fun ad e e1 => by
  obtain ⟨cur, f, h1⟩ := h ad e
  obtain ⟨c2, T, f2, h2, h3⟩ := hr _ e1.symm
  rw [h1] at h2
  cases h2
  exact h3 rfl
theorem SecAt.grown {w w' : World} {oa : Option Addr} {n : Nat} {F : Nat → Nat → Int} (h : SecAt w oa n F) {row : Option Nat} (hg : w.grownBy w' row) (hr : ∀ k, row = some k → Off w k) : SecAt w' oa n F :=
  ⟨h.1.grown hg (h.2.off hr), fun ad e => by
    obtain ⟨cur, f, h1⟩ := h.2 ad e
    exact ⟨cur, f, (hg.block _ (lt_of_objAt h1) (h.2.off hr ad e)).trans h1⟩⟩
theorem Row32.grown {w w' : World} {g m : Nat} {F : Nat → Nat → Int} (h : Row32 24 w g m F) {row : Option Nat} (hg : w.grownBy w' row) (hr : ∀ k, row = some k → Off w k) : Row32 24 w' g m F := h.by (hg.block _ h.lt fun e => by
  obtain ⟨cur, h1, _⟩ := h
  obtain ⟨c2, T, f2, h2, h3⟩ := hr _ e.symm
  rw [h1] at h2
  cases h2
  exact h3 rfl)
theorem grownBy_setRow (w : World) (g : Nat) (c : Array Value) : w.grownBy (w.setRow g c) (some g) :=
  ⟨rfl, rfl, rfl, Nat.le_of_eq (size_setRow' _ _ _).symm, fun k hk hne => objAt_setRow_ne _ _ _ _ fun e => hne (by rw [e])⟩
theorem off_path {w : World} {g : Nat} {cs : Array Value} {fr : Nat × Nat} (h : objAt w g = some (.cells cs 33 fr)) : ∀ k, some g = some k → Off w k := fun k e => by cases e; exact ⟨_, _, _, h, by decide⟩
theorem off_tree {w : World} {g : Nat} {cs : Array Value} {fr : Nat × Nat} (h : objAt w g = some (.cells cs 28 fr)) : ∀ k, some g = some k → Off w k := fun k e => by cases e; exact ⟨_, _, _, h, by decide⟩
theorem obj_ne {w : World} {a b : Nat} {ca cb : Array Value} {ta tb : TypeId} {fa fb : Nat × Nat} (h1 : objAt w a = some (.cells ca ta fa)) (h2 : objAt w b = some (.cells cb tb fb)) (hne : ta ≠ tb) : ¬ (a = b) := fun e => by
  subst e
  rw [h1] at h2
  injection h2 with h2
  injection h2 with _ h2 _
  exact hne h2
theorem row_tree {W : World} {b g m : Nat} {F : Nat → Nat → Int} {cs : Array Value} {fr : Nat × Nat} (hb : objAt W b = some (.cells cs 28 fr)) (h : Row64 W g m F) : ¬ (g = b) := fun e => by
  obtain ⟨cur, h2, _⟩ := h
  rw [e, hb] at h2
  cases h2
theorem row_path {W : World} {b g m : Nat} {F : Nat → Nat → Int} {cs : Array Value} {fr : Nat × Nat} (hb : objAt W b = some (.cells cs 33 fr)) (h : Row64 W g m F) : ¬ (g = b) := fun e => by
  obtain ⟨cur, h2, _⟩ := h
  rw [e, hb] at h2
  cases h2
/-- what is known of a path, of these leaves -/
def PthAt (w : World) (L : Nat → Nat → Int) (n i : Nat) (p : Pth) : Prop := SecAt w p.oS (dN n i + 1) (climbS (L i) (copF L n i)) ∧ Row32 24 w p.gC (dN n i) (copF L n i)
theorem PthAt.later {w w' : World} {L : Nat → Nat → Int} {n i : Nat} {p : Pth} (h : PthAt w L n i p) (hb : Below w.heap.size w w') : PthAt w' L n i p := ⟨h.1.later hb, h.2.later hb⟩
theorem PthAt.grown {w w' : World} {L : Nat → Nat → Int} {n i : Nat} {p : Pth} (h : PthAt w L n i p) {row : Option Nat} (hg : w.grownBy w' row) (hr : ∀ k, row = some k → Off w k) : PthAt w' L n i p := ⟨h.1.grown hg hr, h.2.grown hg hr⟩
/-- m paths lie in a block, from its beginning -/
def RowP (w : World) (g m n : Nat) (P : Nat → Pth) : Prop :=
  ∃ cur, objAt w g = some (.cells cur 33 (0, 0)) ∧ m * 4 ≤ cur.size ∧ ∀ j, j < m → ∀ i, i < 4 → cur[j * 4 + i]? = (pthC n j (P j))[i]?
theorem RowP.later {w w' : World} {g m n : Nat} {P : Nat → Pth} (h : RowP w g m n P) (hb : Below w.heap.size w w') : RowP w' g m n P := by
  obtain ⟨cur, h, r⟩ := h
  exact ⟨cur, keep_below hb h, r⟩
theorem RowP.load {w : World} {g m n : Nat} {P : Nat → Pth} (h : RowP w g m n P) {j : Nat} (hj : j < m) : (loadNext 33 (.pointer (some ⟨g, j * 4, none⟩))).run Tryz.prog w = .ok (.value (.agg (pthC n j (P j)))) w := by
  obtain ⟨cur, h, hs, hc⟩ := h
  refine run_load_row Tryz.underlying33 rfl (by kernel_rfl) w _ (pthC n j (P j)) rfl fun i hi => ?_
  unfold objAt at h
  rw [add_lit0, cell_of_row w g _ _ _ _ h, hc j hj i hi]
def updP (P : Nat → Pth) (j : Nat) (p : Pth) : Nat → Pth := fun i => if i = j then p else P i
theorem RowP.store {w : World} {g m n : Nat} {P : Nat → Pth} (h : RowP w g m n P) {j : Nat} (hj : j < m) (p : Pth) :
    ∃ cs, (storeNext 33 (.pointer (some ⟨g, j * 4, none⟩)) (.agg (pthC n j p))).run Tryz.prog w = .ok .skip (w.setRow g cs) ∧ RowP (w.setRow g cs) g m n (updP P j p) := by
  obtain ⟨cur, h, hs, hc⟩ := h
  have hl : (pthC n j p).toList.length = 4 := rfl
  refine ⟨putAll cur (j * 4) (pthC n j p).toList, ?_, putAll cur (j * 4) (pthC n j p).toList, objAt_setRow_eq _ h, by rw [putAll_size]; exact hs, fun i hi k hk => ?_⟩
  · rw [run_storeNext, storeMid_eq (n := 4) (by kernel_rfl) g _ _ w, h]
    unfold storeMid
    simp only
    rw [if_pos ⟨by omega, rfl, pthC_one _ _ _⟩]
    rfl
  · rw [putAll_get _ _ _ _ (by rw [hl]; omega), hl]
    unfold updP
    by_cases e : i = j
    · subst e
      rw [if_pos (by omega), if_pos rfl, Array.getElem?_toList, show i * 4 + k - i * 4 = k by omega]
    · rw [if_neg (by omega), if_neg e]
      exact hc i hi k hk
/-- one more -/
def pthL (n : Nat) (P : Nat → Pth) (m : Nat) : List Value := (List.range m).flatMap fun j => (pthC n j (P j)).toList
theorem pthL_succ (n : Nat) (P : Nat → Pth) (m : Nat) : pthL n P (m + 1) = pthL n P m ++ (pthC n m (P m)).toList := by
  unfold pthL
  rw [List.range_succ, List.flatMap_append]
  simp
theorem pthL_len (n : Nat) (P : Nat → Pth) : ∀ m, (pthL n P m).length = m * 4
  | 0 => rfl
  | m + 1 => by rw [pthL_succ, List.length_append, pthL_len n P m, Array.length_toList, pthC_size]; omega
theorem pthL_get (n : Nat) (P : Nat → Pth) (j i : Nat) (hi : i < 4) : ∀ m, j < m → (pthL n P m)[j * 4 + i]? = (pthC n j (P j))[i]?
  | 0, h => by omega
  | m + 1, h => by
    rw [pthL_succ]
    rcases (by omega : j < m ∨ j = m) with h' | rfl
    · rw [List.getElem?_append_left (by rw [pthL_len]; omega), pthL_get n P j i hi m h']
    · rw [List.getElem?_append_right (by rw [pthL_len]; omega), pthL_len, show j * 4 + i - j * 4 = i by omega, Array.getElem?_toList]
theorem pthL_congr (n : Nat) {P Q : Nat → Pth} : ∀ m, (∀ i, i < m → P i = Q i) → pthL n P m = pthL n Q m
  | 0, _ => rfl
  | m + 1, h => by rw [pthL_succ, pthL_succ, pthL_congr n m fun i hi => h i (by omega), h m (by omega)]
theorem rowP_of_own {w : World} {base m n : Nat} {v : Value} {P : Nat → Pth} (hm : 0 < m) (h : w.ownsRow base 33 4 v m (pthL n P m)) : ∃ g c, v = .slice (some ⟨g, 0, none⟩) m c ∧ base ≤ g ∧ RowP w g m n P := by
  rcases h.2 with ⟨rfl, h0⟩ | ⟨g, cap, cur, rfl, hb, hg, hnc, hcm, hcs, htake⟩
  · omega
  · refine ⟨g, cap, rfl, hb, cur, hg, by rw [hcs]; exact Nat.mul_le_mul_right _ hnc, fun j hj i hi => ?_⟩
    have h1 := pthL_get n P j i hi m hj
    rw [← htake, List.getElem?_take, if_pos (by omega), Array.getElem?_toList] at h1
    exact h1
@[go_sem ↓ high] theorem append_pths (ty : TypeId) (cs : Array Bool) (args : Array Value) : builtin .append #[31, 31] ty cs args = appendNext #[31, 31] ty args := by unfold appendNext; rfl
theorem append_pth (w W : World) (base : Nat) (v : Value) (m n : Nat) (P : Nat → Pth) (p : Pth) (g2 : Nat) (t2 : TypeId) (fr : Nat × Nat) (own : W.ownsRow base 33 4 v m (pthL n P m)) (hn : m ≤ 1048576)
    (hg2 : objAt W g2 = some (.cells (pthC n m p) t2 fr)) (hG : Below w.heap.size w W) (hwb : w.heap.size ≤ base) (hbW : base ≤ W.heap.size) :
    ∃ g cap w', (appendNext #[31, 31] 31 #[v, .slice (some ⟨g2, 0, none⟩) 1 1]).run Tryz.prog W = .ok (.value (.slice (some ⟨g, 0, none⟩) (m + 1) cap)) w' ∧ w'.ownsRow base 33 4 (.slice (some ⟨g, 0, none⟩) (m + 1) cap) (m + 1) (pthL n (updP P m p) (m + 1)) ∧
      Below w.heap.size w w' ∧ (∀ L i q, PthAt W L n i q → PthAt w' L n i q) := by
  obtain ⟨g, cap, w', hr, ho, hg, _, _⟩ := run_append_lies (P := Tryz.prog) W 31 31 base 33 ((Tryz.prog.info? 33).get (by kernel_rfl)) (((Tryz.prog.info? 33).get (by kernel_rfl)).zero.get (by kernel_rfl)) 4 64 Tryz.underlying31 (by kernel_rfl) (by kernel_rfl) (by kernel_rfl) (by kernel_rfl) (by kernel_rfl) (by decide) v m (pthL n P m) own ⟨g2, 0, none⟩ 1 1 (pthC n m p).toList rfl
    (fun j x hx => by
      unfold objAt at hg2
      rw [add_lit0, Nat.zero_add, cell_of_row W g2 j _ _ _ hg2]
      rw [Array.getElem?_toList] at hx
      exact hx) (fun x hx => by
      have h1 := pthC_ones n m p
      rw [Array.all_eq_true'] at h1
      exact h1 x (by simpa using hx)) (by decide) (by unfold maxLen; omega) (by omega) hbW W.heap.size rfl
  obtain ⟨h2, _⟩ := own_nextS own hg hG hwb
  refine ⟨g, cap, w', by unfold appendNext; simp only [Sem.run_bind, hr, Result.andThen_ok, Sem.run_pure], ?_, h2, fun L i q h => h.grown hg fun k e => ?_⟩
  · rw [pthL_succ]
    have e1 : pthL n (updP P m p) m = pthL n P m := pthL_congr n m fun i hi => if_neg (by omega)
    have e2 : updP P m p m = p := if_pos rfl
    rw [e1, e2]
    exact ho
  · rcases own.2 with ⟨rfl, _⟩ | ⟨g', cap', cur', rfl, _, hg', _⟩
    · simp [Value.ownBlock] at e
    · simp [Value.ownBlock] at e
      subst e
      exact ⟨_, _, _, hg', by decide⟩
/-- each leaf's path, of its own leaves -/
def AllAt (w : World) (g m n : Nat) (L : Nat → Nat → Nat → Int) : Prop := ∃ P, RowP w g m n P ∧ ∀ i, i < m → PthAt w (L i) n i (P i)
theorem AllAt.later {w w' : World} {g m n : Nat} {L : Nat → Nat → Nat → Int} (h : AllAt w g m n L) (hb : Below w.heap.size w w') : AllAt w' g m n L := by
  obtain ⟨P, h1, h2⟩ := h
  exact ⟨P, h1.later hb, fun i hi => (h2 i hi).later hb⟩
theorem AllAt.lt {w : World} {g m n : Nat} {L : Nat → Nat → Nat → Int} (h : AllAt w g m n L) : g < w.heap.size := by
  obtain ⟨P, ⟨cur, h, _⟩, _⟩ := h
  exact lt_of_objAt h
theorem AllAt.congr {w : World} {g m n : Nat} {L M : Nat → Nat → Nat → Int} (h : AllAt w g m n L) (e : ∀ i, i < m → L i = M i) : AllAt w g m n M := by
  obtain ⟨P, h1, h2⟩ := h
  exact ⟨P, h1, fun i hi => by rw [← e i hi]; exact h2 i hi⟩
theorem AllAt.load {w : World} {g m n : Nat} {L : Nat → Nat → Nat → Int} (h : AllAt w g m n L) {j : Nat} (hj : j < m) : ∃ p, (∀ w', Below w.heap.size w w' → (loadNext 33 (.pointer (some ⟨g, j * 4, none⟩))).run Tryz.prog w' = .ok (.value (.agg (pthC n j p))) w') ∧ PthAt w (L j) n j p := by
  obtain ⟨P, h1, h2⟩ := h
  exact ⟨P j, fun w' hb => (h1.later hb).load hj, h2 j hj⟩
theorem AllAt.store {w : World} {g m n : Nat} {L : Nat → Nat → Nat → Int} (h : AllAt w g m n L) {j : Nat} (hj : j < m) (p : Pth) (M : Nat → Nat → Int) (hp : PthAt w M n j p) :
    ∃ cs, (storeNext 33 (.pointer (some ⟨g, j * 4, none⟩)) (.agg (pthC n j p))).run Tryz.prog w = .ok .skip (w.setRow g cs) ∧ AllAt (w.setRow g cs) g m n (fun i => if i = j then M else L i) ∧
      (∃ cur, objAt w g = some (.cells cur 33 (0, 0))) := by
  obtain ⟨P, h1, h2⟩ := h
  obtain ⟨cs, hst, h3⟩ := h1.store hj p
  obtain ⟨cur, hg, _⟩ := h1
  refine ⟨cs, hst, ⟨_, h3, fun i hi => ?_⟩, cur, hg⟩
  show PthAt _ (if i = j then M else L i) n i (if i = j then p else P i)
  by_cases e : i = j
  · subst e
    rw [if_pos rfl, if_pos rfl]
    exact hp.grown (grownBy_setRow _ _ _) (off_path hg)
  · rw [if_neg e, if_neg e]
    exact (h2 i hi).grown (grownBy_setRow _ _ _) (off_path hg)
theorem AllAt.tree {w : World} {g m n : Nat} {L : Nat → Nat → Nat → Int} (h : AllAt w g m n L) {b : Nat} {cs : Array Value} {fr : Nat × Nat} (hb : objAt w b = some (.cells cs 28 fr)) (c : Array Value) : AllAt (w.setRow b c) g m n L := by
  obtain ⟨P, ⟨cur, h1, hs, hc⟩, h2⟩ := h
  exact ⟨P, ⟨cur, (objAt_setRow_ne _ _ _ _ fun e => by rw [e, hb] at h1; cases h1).trans h1, hs, hc⟩, fun i hi => (h2 i hi).grown (grownBy_setRow _ _ _) (off_tree hb)⟩
theorem allAt_of_own {w : World} {base m n : Nat} {v : Value} {P : Nat → Pth} {L : Nat → Nat → Nat → Int} (hm : 0 < m) (h : w.ownsRow base 33 4 v m (pthL n P m)) (hP : ∀ i, i < m → PthAt w (L i) n i (P i)) : ∃ g c, v = .slice (some ⟨g, 0, none⟩) m c ∧ base ≤ g ∧ AllAt w g m n L := by
  obtain ⟨g, c, e, hb, hR⟩ := rowP_of_own hm h
  exact ⟨g, c, e, hb, P, hR, hP⟩
def SAt (n : Nat) (F : Nat → Nat → Int) (u : Value) (w : World) : Prop := ∀ oa c, u = .slice oa n c → SecAt w oa n F
theorem stab_sat (n : Nat) (F : Nat → Nat → Int) (u : Value) : Stab (SAt n F u) none := fun w w' h e oa c hu => (h oa c hu).later e
theorem stab_sat_at (n : Nat) (F : Nat → Nat → Int) (u : Value) (g' : Nat) : Stab (SAt n F u) (some (g', 33)) := fun w w' h ⟨old, cs', t', h1, ⟨_, h2⟩, e⟩ oa c hu => by
  subst e
  subst h2
  exact (h oa c hu).grown (grownBy_setRow _ _ _) (off_path h1)
def PtS (n i : Nat) (u : Value) : Prop := ∃ p, u = .tuple #[.agg (pthC n i p), .bool true]
def PtAt (L : Nat → Nat → Int) (n i : Nat) (u : Value) (w : World) : Prop := ∀ p, u = .tuple #[.agg (pthC n i p), .bool true] → PthAt w L n i p
theorem stab_pt (L : Nat → Nat → Int) (n i : Nat) (u : Value) : Stab (PtAt L n i u) none := fun w w' h e p hu => (h p hu).later e
theorem stab_pt_at (L : Nat → Nat → Int) (n i : Nat) (u : Value) (g' : Nat) : Stab (PtAt L n i u) (some (g', 33)) := fun w w' h ⟨old, cs', t', h1, ⟨_, h2⟩, e⟩ p hu => by
  subst e
  subst h2
  exact (h p hu).grown (grownBy_setRow _ _ _) (off_path h1)
theorem pt_of {L : Nat → Nat → Int} {n i : Nat} {p : Pth} {w : World} (h : PthAt w L n i p) : PtAt L n i (.tuple #[.agg (pthC n i p), .bool true]) w := fun q e => by
  have e1 : pthC n i p = pthC n i q := by simpa using e
  cases pthC_inj e1
  exact h
theorem by_fitsM {P : Prop} (h : P := by first | exact by_fits | ((repeat (refine fits_cons ⟨by (first | exact stab_hdr_at _ _ _ _ | exact stab_sat_at _ _ _ _ | exact stab_sat _ _ _ | exact stab_pt_at _ _ _ _ _ | exact stab_pt _ _ _ _ | exact stab_hdr _ _ _ | exact stab_full _ _ _), by (first | exact stab_hdr_at _ _ _ _ | exact stab_sat_at _ _ _ _ | exact stab_sat _ _ _ | exact stab_pt_at _ _ _ _ _ | exact stab_pt _ _ _ _ | exact stab_hdr _ _ _ | exact stab_full _ _ _)⟩ ?_)); exact fits_nil (by (first | exact stab_hdr_at _ _ _ _ | exact stab_sat_at _ _ _ _ | exact stab_sat _ _ _ | exact stab_pt_at _ _ _ _ _ | exact stab_pt _ _ _ _ | exact stab_hdr _ _ _ | exact stab_full _ _ _)))) : P := h
/-! two turns -/
def turnC (who : Int) (k : Nat → Int) : Array Value := #[Value.int .i64 who] ++ ints .u8 32 k
def turnsC (a : Int) (s : Nat → Int) (b : Int) (t : Nat → Int) : Array Value := turnC a s ++ turnC b t
@[go_sem] theorem turnC_size (a : Int) (s : Nat → Int) : (turnC a s).size = 33 := by simp [turnC, ints_size]
@[go_sem] theorem turnsC_size (a : Int) (s : Nat → Int) (b : Int) (t : Nat → Int) : (turnsC a s b t).size = 66 := by simp [turnsC, turnC_size]
@[go_sem] theorem turnC_one (a : Int) (s : Nat → Int) : oneCells (turnC a s) = true := by
  have h2 := ints_one .u8 32 s
  unfold oneCells at *
  unfold turnC
  rw [Array.all_append, h2]
  simp [Value.oneCell']
@[go_sem] theorem turnC_0 (a : Int) (s : Nat → Int) : (turnC a s)[0]? = some (.int .i64 a) := by
  unfold turnC
  rw [Array.getElem?_append_left (by simp)]
  simp
@[go_sem] theorem turnC_0' (a : Int) (s : Nat → Int) (h : 0 < (turnC a s).size) : (turnC a s)[0] = .int .i64 a := by
  have := turnC_0 a s
  rw [Array.getElem?_eq_getElem h] at this
  exact Option.some.inj this
theorem turnC_ext (a : Int) (s : Nat → Int) : (turnC a s).extract 1 (1 + 32) = ints .u8 32 s := by
  apply Array.ext_getElem?
  intro i
  by_cases h : i < 32
  · rw [ints_get _ _ _ _ h, Array.getElem?_extract, if_pos (by rw [turnC_size]; omega)]
    unfold turnC
    rw [Array.getElem?_append_right (by simp), show 1 + i - (#[Value.int .i64 a] : Array Value).size = i by simp, ints_get _ _ _ _ h]
  · rw [Array.getElem?_eq_none (by simp [turnC_size]; omega), Array.getElem?_eq_none (by rw [ints_size]; omega)]
def turnNext (a b : Value) : Sem Next := do pure (.value (← Instr.build 38 #[(0, a), (1, b)]))
@[go_sem ↓ high] theorem op_turn (ρ : Operand → Value) (dd : Option Tmp) (a b : Operand) (t : TypeId) (pos : String) (af : Array Edge) (gg : Option (Nat × Bool)) :
    execOp ρ ⟨dd, .build 38 #[(0, a), (1, b)], t, pos, af, gg⟩ = turnNext (ρ a) (ρ b) := by simp [execOp, turnNext]
@[go_sem high] theorem op_turn' (ρ : Operand → Value) (dd : Option Tmp) (a b : Operand) (t : TypeId) (pos : String) (af : Array Edge) (gg : Option (Nat × Bool)) :
    execOp ρ ⟨dd, .build 38 #[(0, a), (1, b)], t, pos, af, gg⟩ = turnNext (ρ a) (ρ b) := by simp [execOp, turnNext]
theorem run_turn (a : Int) (k : Nat → Int) (w : World) : (Instr.build 38 #[(0, .int .i64 a), (1, .agg (ints .u8 32 k))]).run Tryz.prog w = .ok (.agg (turnC a k)) w := by kernel_rfl
@[go_sem] theorem run_turnNext (a : Int) (k : Nat → Int) (w : World) : (turnNext (.int .i64 a) (.agg (ints .u8 32 k))).run Tryz.prog w = .ok (.value (.agg (turnC a k))) w := by
  unfold turnNext
  rw [Sem.run_bind, run_turn]
  rfl
theorem build2t (a : Int) (s : Nat → Int) (b : Int) (t : Nat → Int) (W : World) : (Instr.buildSlice 39 2 #[(0, .agg (turnC a s)), (1, .agg (turnC b t))]).run Tryz.prog W = .ok (.slice (some ⟨W.heap.size, 0, none⟩) 2 2) (W.alloc (.cells (turnsC a s b t) 38)) := by kernel_rfl
@[go_sem ↓ high] theorem load_turn (ρ : Operand → Value) (d : Option Tmp) (x : Operand) (t : TypeId) (pos : String) (af : Array Edge) (g : Option (Nat × Bool)) :
    execOp ρ ⟨d, .load 38 x, t, pos, af, g⟩ = loadNext 38 (ρ x) := op_load _ ρ d x t pos af g
@[go_sem high] theorem load_turn' (ρ : Operand → Value) (d : Option Tmp) (x : Operand) (t : TypeId) (pos : String) (af : Array Edge) (g : Option (Nat × Bool)) :
    execOp ρ ⟨d, .load 38 x, t, pos, af, g⟩ = loadNext 38 (ρ x) := op_load _ ρ d x t pos af g
theorem turns_cut (a : Int) (s : Nat → Int) (b : Int) (t : Nat → Int) : (turnsC a s b t).extract 0 (0 + 33) = turnC a s ∧ (turnsC a s b t).extract 33 (33 + 33) = turnC b t := by
  have h1 := turnC_size a s
  have h2 := turnC_size b t
  unfold turnsC
  refine ⟨?_, ?_⟩
  · apply Array.ext_getElem?
    intro i
    by_cases h : i < 33
    · rw [Array.getElem?_extract, if_pos (by simp [h1, h2]; omega), Array.getElem?_append_left (by omega), Nat.zero_add]
    · rw [Array.getElem?_eq_none (by simp [h1, h2]; omega), Array.getElem?_eq_none (by omega)]
  · apply Array.ext_getElem?
    intro i
    by_cases h : i < 33
    · rw [Array.getElem?_extract, if_pos (by simp [h1, h2]; omega), Array.getElem?_append_right (by omega), show 33 + i - (turnC a s).size = i by omega]
    · rw [Array.getElem?_eq_none (by simp [h1, h2]; omega), Array.getElem?_eq_none (by omega)]
/-- the r-th turn, where both lie -/
theorem turn_load {w : World} {g : Nat} {a b : Int} {s t : Nat → Int} {ty : TypeId} {fr : Nat × Nat} (h : objAt w g = some (.cells (turnsC a s b t) ty fr)) (r : Nat) (hr : r < 2) :
    (loadNext 38 (.pointer (some ⟨g, r * 33, none⟩))).run Tryz.prog w = .ok (.value (.agg (turnC (if r = 0 then a else b) (if r = 0 then s else t)))) w := by
  obtain ⟨c1, c2⟩ := turns_cut a s b t
  have key : ∀ o : Nat, o + 33 ≤ 66 → (loadNext 38 (.pointer (some ⟨g, o, none⟩))).run Tryz.prog w = .ok (.value (.agg ((turnsC a s b t).extract o (o + 33)))) w := fun o ho => by
    rw [run_loadNext, loadMid_eq Tryz.underlying38 rfl (by kernel_rfl) g o w, h]
    unfold loadMid
    simp only [turnsC_size]
    rw [if_pos ho]
    rfl
  rcases (by omega : r = 0 ∨ r = 1) with rfl | rfl
  · rw [key _ (by decide), if_pos rfl, if_pos rfl]
    exact congrArg (fun x => Result.ok (Next.value (.agg x)) w) c1
  · rw [key _ (by decide), if_neg (by decide), if_neg (by decide)]
    exact congrArg (fun x => Result.ok (Next.value (.agg x)) w) c2
@[go_sem] theorem load_key_1 (g : Nat) (w : World) : (loadNext 24 (.pointer (some ⟨g, 1, none⟩))).run Tryz.prog w = (loadMid Tryz.prog 24 g 1 32 w (objAt w g)).andThen fun v w' => .ok (.value v) w' := by
  rw [run_loadNext, loadMid_eq Tryz.underlying24 rfl (by kernel_rfl) g 1 w]
@[go_sem] theorem load_turn_k (g : Nat) (w : World) (a : Int) (k : Nat → Int) (t' : TypeId) (fr : Nat × Nat) : loadMid Tryz.prog 24 g 1 32 w (some (.cells (turnC a k) t' fr)) = .ok (.agg (ints .u8 32 k)) w := by
  unfold loadMid
  simp only [turnC_size]
  rw [if_pos (by decide), turnC_ext]
@[go_sem ↓ high] theorem store_turn (ρ : Operand → Value) (d : Option Tmp) (x y : Operand) (t : TypeId) (pos : String) (af : Array Edge) (g : Option (Nat × Bool)) :
    execOp ρ ⟨d, .store 38 x y, t, pos, af, g⟩ = storeNext 38 (ρ x) (ρ y) := op_store _ ρ d x y t pos af g
@[go_sem high] theorem store_turn' (ρ : Operand → Value) (d : Option Tmp) (x y : Operand) (t : TypeId) (pos : String) (af : Array Edge) (g : Option (Nat × Bool)) :
    execOp ρ ⟨d, .store 38 x y, t, pos, af, g⟩ = storeNext 38 (ρ x) (ρ y) := op_store _ ρ d x y t pos af g
@[go_sem] theorem store_turn_at (g : Nat) (cs : Array Value) (w : World) : (storeNext 38 (.pointer (some ⟨g, 0, none⟩)) (.agg cs)).run Tryz.prog w = (storeOf Tryz.prog 38 g 33 (.agg cs) w (objAt w g)).andThen fun _ w' => .ok .skip w' := by
  rw [run_storeNext, storeRow_eq (by kernel_rfl) g cs w]
@[go_sem] theorem store_turn_of (g : Nat) (w : World) (old cs : Array Value) (t' : TypeId) (h1 : old.size = 33) (h2 : cs.size = 33) (h3 : oneCells cs = true) :
    storeOf Tryz.prog 38 g 33 (.agg cs) w (some (.cells old t' (0, 0))) = .ok () (w.setRow g cs) := storeOf_cells old cs t' h1 h2 h3
@[go_sem high] theorem zero_turn' (w : World) : (zeroValue 38).run Tryz.prog w = .ok (.agg (turnC 0 nought)) w := by kernel_rfl
@[go_sem ↓ high] theorem zero_turn (w : World) : (zeroValue 38).run Tryz.prog w = .ok (.agg (turnC 0 nought)) w := by kernel_rfl
attribute [irreducible] turnNext buildP1 turnC turnsC pthC pth0
end Go.Proofs.YtonmancgalencaaGreatDoor
namespace Go.Proofs.YtonmancgalencaaGreatDoor
open Go.RowKit
set_option linter.unusedVariables false
set_option linter.unusedSimpArgs false

/-- as it was, or with a block written, and more -/
def OneW {β : Type} (w : World) (g : Nat) (cs : β → Array Value) (w' : World) : Prop := ∃ m, w' = more w m ∨ ∃ b, w' = more (w.setRow g (cs b)) m
section
variable {P : Program} {md : Region.Mode} {ops : Array Oper} {V : Vals} {γ : Nat → Nat} {Q : Exit → Act → World → Prop} {β : Type} {w : World} {g : Nat} {cs : β → Array Value}
theorem OneW.below {W0 W : World} (h : OneW w g cs W) (hb : Below W0.heap.size W0 w) (hg : W0.heap.size ≤ g) : Below W0.heap.size W0 W := by
  obtain ⟨m, rfl | ⟨b, rfl⟩⟩ := h
  · exact Grew.more hb m
  · exact Grew.more (Grew.setRow hb _ _ hg) m
theorem wp_relv1 {id : Nat} {a : Act} {l : List Oper} (g : Nat) (cs : β → Array Value) (vary : Nat → Bool) (sh : Nat → Value → Prop) (fact : Nat → Value → World → Prop) (v0 : Nat → Value) (hsh : ∀ i, vary i = true → sh i (v0 i)) (hm : P.follows .mixedOrders = true) (hB : Region.lexB .any l.toArray = true)
    (h : exV l fun r => ∀ (γ : Nat → Nat) (gv : Nat → Value), (∀ i, vary i = true → sh i (gv i)) → (∀ i j, i ≠ j → γ i ≠ γ j) → (∀ i, w.heap.size ≤ γ i) → wpRel P .any l.toArray (OneW w g cs) ⟨fun k => bif vary k then gv k else r.getD k undef, vary, sh, fact⟩ γ Q 0 l [] a) : (Code.region id l.toArray true).wp P Q a w := by
  obtain ⟨r, hr⟩ := exV_some h
  refine wp_region_rel (V := ⟨fun k => bif vary k then v0 k else r.getD k undef, vary, sh, fact⟩) (OneW w g cs) w.heap.size hm hB (fun W W' ⟨m, h⟩ hb => ?_) (fun W ⟨m, h⟩ => ?_) ⟨⟨w.drawn + 1, #[]⟩, .inl (by simp [more])⟩ (fun i hi => by simp only at hi ⊢; rw [hi]; exact hsh i hi) fun γ gv hg hs h1 h2 => ?_
  · rcases h with rfl | ⟨b, rfl⟩
    · obtain ⟨m', e⟩ := more_on hb
      exact ⟨m', .inl e⟩
    · obtain ⟨m', e⟩ := more_on hb
      exact ⟨m', .inr ⟨b, e⟩⟩
  · rcases h with rfl | ⟨b, rfl⟩
    · exact size_more w m
    · have := size_more (w.setRow g (cs b)) m
      rw [size_setRow'] at this
      exact this
  · have e : gv = fun k => bif vary k then gv k else r.getD k undef := funext fun i => by
      cases hv : vary i with
      | true => simp [hv]
      | false => rw [hg i hv]; simp [hv]
    have := hr γ gv hs h1 h2
    rw [← e] at this
    exact this
theorem rel_quietW {k : Nat} {o : Oper} {rest : List Oper} {F : List Known} {a : Act} {old : Array Value} {t : TypeId} {fr : Nat × Nat} (hg : objAt w g = some (.cells old t fr)) (hp : plain o = true)
    (h : wpQuiet P ops (fun w' => ∃ z : OneZ, w' = more (w.setRow g z.c) z.m) (fun a' => wpRel P md ops (OneW w g cs) V γ Q (k + 1) rest F a') [o] a) : wpRel P md ops (OneW w g cs) V γ Q k (o :: rest) F a := by
  simp only [wpQuiet] at h
  by_cases hw : Region.wanted o (yielded ops a.tmps) = true
  · rw [if_pos hw] at h
    obtain ⟨v, h1, h2⟩ := h
    exact ⟨v, none, .inl ⟨hw, quiet_yields hp fun W hC _ => ⟨_, h1 W (by
      obtain ⟨m, rfl | ⟨b, rfl⟩⟩ := hC
      · exact ⟨⟨m, old⟩, by rw [setRow_self hg]⟩
      · exact ⟨⟨m, cs b⟩, rfl⟩)⟩⟩, h2⟩
  · rw [if_neg hw] at h
    exact ⟨undef, none, .inr ⟨by simpa using hw, rfl, rfl⟩, h⟩
theorem rel_storeW {k : Nat} {ty : TypeId} {x y : Operand} {t : TypeId} {pos : String} {af : Array Edge} {gd : Option (Nat × Bool)} {rest : List Oper} {F : List Known} {a : Act} {te : TypeId} {v : Value} {ad : Addr} {old : Array Value} (b : β)
    (hg : objAt w g = some (.cells old te)) (hs : ∀ b, (cs b).size = old.size) (hw : Region.wanted ⟨none, .store ty x y, t, pos, af, gd⟩ (yielded ops a.tmps) = true) (hx : a.eval x = .pointer (some ad)) (hy : a.eval y = v)
    (hst : ∀ W, OneW w g cs W → (storeNext ty (.pointer (some ad)) v).run P W = .ok .skip (W.setRow g (cs b)))
    (hf : Fits (some ⟨k, Full g (cs b) te, some (g, te)⟩) F)
    (next : wpRel P md ops (OneW w g cs) V γ Q (k + 1) rest (⟨k, Full g (cs b) te, some (g, te)⟩ :: F) a) : wpRel P md ops (OneW w g cs) V γ Q k (⟨none, .store ty x y, t, pos, af, gd⟩ :: rest) F a := by
  refine ⟨undef, some ⟨k, Full g (cs b) te, some (g, te)⟩, .inl ⟨hw, (fun h => by cases h), (fun x hx => by cases hx; rfl), hf, fun W hC hF _ => ?_⟩, next⟩
  have hrun : (execOp a.eval ⟨none, .store ty x y, t, pos, af, gd⟩).run P W = .ok .skip (W.setRow g (cs b)) := by
    rw [op_store, hx, hy]
    exact hst W hC
  have hlt := lt_of_objAt hg
  have hob : ∃ o2, objAt W g = some (.cells o2 te) ∧ o2.size = (cs b).size := by
    obtain ⟨m, rfl | ⟨b', rfl⟩⟩ := hC
    · exact ⟨old, keep_more m hg, (hs b).symm⟩
    · exact ⟨cs b', keep_more m (objAt_setRow_eq _ hg), by rw [hs, hs]⟩
  obtain ⟨o2, ho, hs2⟩ := hob
  rw [hrun]
  refine ⟨rfl, ?_, ⟨o2, cs b, te, ho, ⟨by omega, rfl⟩, rfl⟩, fun x hx => ?_, fun h => by cases h⟩
  · obtain ⟨m, rfl | ⟨b', rfl⟩⟩ := hC
    · exact ⟨m, .inr ⟨b, setRow_more _ _ _ _ hlt⟩⟩
    · exact ⟨m, .inr ⟨b, by rw [setRow_more _ _ _ _ (by rw [size_setRow']; exact hlt), setRow_setRow]⟩⟩
  · cases hx
    exact objAt_setRow_eq (cs b) ho
theorem rel_nilW {k : Nat} {F : List Known} {a : Act} {te : TypeId} {old : Array Value} (b : β) (hg : objAt w g = some (.cells old te)) {j : Nat} (hin : ⟨j, Full g (cs b) te, some (g, te)⟩ ∈ F)
    (h : ∀ m, (∀ x ∈ F, x.fact (more (w.setRow g (cs b)) m)) → Q .normal a (more (w.setRow g (cs b)) m)) : wpRel P md ops (OneW w g cs) V γ Q k [] F a := by
  refine rel_nil fun W hC hF => ?_
  have hlt := lt_of_objAt hg
  have e1 : objAt W g = some (.cells (cs b) te) := hF _ hin
  obtain ⟨m, rfl | ⟨b', rfl⟩⟩ := hC
  · rw [objAt_more _ _ _ hlt, hg] at e1
    have e2 : objAt w g = some (.cells (cs b) te) := hg.trans e1
    have e3 := setRow_self e2
    have := h m
    rw [e3] at this
    exact this hF
  · rw [objAt_more _ _ _ (by rw [size_setRow']; exact hlt), objAt_setRow_eq _ hg] at e1
    have e2 : cs b' = cs b := by
      injection e1 with e1
      injection e1
    rw [e2] at hF ⊢
    exact h m hF
end
/-! one path of a row -/
theorem putAll_twice (cur : Array Value) (o : Nat) (l l' : List Value) (hl : l.length = l'.length) (h : o + l.length ≤ cur.size) : putAll (putAll cur o l) o l' = putAll cur o l' := by
  apply Array.ext_getElem?
  intro i
  rw [putAll_get _ _ _ _ (by rw [putAll_size]; omega), putAll_get _ _ _ _ h, putAll_get _ _ _ _ (by omega)]
  by_cases hc : o ≤ i ∧ i < o + l'.length
  · rw [if_pos hc, if_pos hc]
  · rw [if_neg hc, if_neg hc, if_neg (by omega)]
theorem AllAt.storeW {w : World} {g m n : Nat} {L : Nat → Nat → Nat → Int} (h : AllAt w g m n L) {j : Nat} (hj : j < m) (M : Nat → Nat → Int) :
    ∃ (cs : Pth → Array Value) (old : Array Value), objAt w g = some (.cells old 33) ∧ (∀ p, (cs p).size = old.size) ∧
      (∀ p W, OneW w g cs W → (storeNext 33 (.pointer (some ⟨g, j * 4, none⟩)) (.agg (pthC n j p))).run Tryz.prog W = .ok .skip (W.setRow g (cs p))) ∧
      ∀ p q, PthAt (more (w.setRow g (cs p)) q) M n j p → AllAt (more (w.setRow g (cs p)) q) g m n (fun i => if i = j then M else L i) := by
  obtain ⟨P, hR, hP⟩ := h
  obtain ⟨cur, hg, hs, hc⟩ := hR
  have hl : ∀ p, (pthC n j p).toList.length = 4 := fun p => by rw [Array.length_toList, pthC_size]
  have key : ∀ (p : Pth) (W : World) (c2 : Array Value), objAt W g = some (.cells c2 33) → c2.size = cur.size → (storeNext 33 (.pointer (some ⟨g, j * 4, none⟩)) (.agg (pthC n j p))).run Tryz.prog W = .ok .skip (W.setRow g (putAll c2 (j * 4) (pthC n j p).toList)) := fun p W c2 h2 h3 => by
    rw [run_storeNext, storeMid_eq (n := 4) (by kernel_rfl) g _ _ W, h2]
    unfold storeMid
    simp only
    rw [if_pos ⟨by omega, pthC_size _ _ _, pthC_one _ _ _⟩]
    rfl
  refine ⟨fun p => putAll cur (j * 4) (pthC n j p).toList, cur, hg, fun p => putAll_size _ _ _, fun p W hW => ?_, fun p q hp => ?_⟩
  · obtain ⟨x, rfl | ⟨b, rfl⟩⟩ := hW
    · exact key p _ cur (keep_more x hg) rfl
    · rw [key p _ _ (keep_more x (objAt_setRow_eq _ hg)) (putAll_size _ _ _), putAll_twice _ _ _ _ (by rw [hl, hl]) (by rw [hl]; omega)]
  · obtain ⟨cs, h1, h2⟩ := RowP.store ⟨cur, hg, hs, hc⟩ hj p
    rw [key p w cur hg rfl] at h1
    have e : w.setRow g cs = w.setRow g (putAll cur (j * 4) (pthC n j p).toList) := by
      injection h1 with _ h1
      exact h1.symm
    rw [e] at h2
    have hb := below_more (w.setRow g (putAll cur (j * 4) (pthC n j p).toList)) q
    refine ⟨_, h2.later hb, fun i hi => ?_⟩
    show PthAt _ (if i = j then M else L i) n i (if i = j then p else P i)
    by_cases e : i = j
    · subst e
      rw [if_pos rfl, if_pos rfl]
      exact hp
    · rw [if_neg e, if_neg e]
      exact ((hP i hi).grown (grownBy_setRow _ _ _) (off_path hg)).later hb
theorem OneW.pth {β : Type} {w W : World} {g : Nat} {cs : β → Array Value} {old : Array Value} {fr : Nat × Nat} (h : OneW w g cs W) (hg : objAt w g = some (.cells old 33 fr)) {L : Nat → Nat → Int} {n i : Nat} {p : Pth} (hp : PthAt w L n i p) : PthAt W L n i p := by
  obtain ⟨m, rfl | ⟨b, rfl⟩⟩ := h
  · exact hp.later (below_more _ m)
  · exact (hp.grown (grownBy_setRow _ _ _) (off_path hg)).later (below_more _ m)
end Go.Proofs.YtonmancgalencaaGreatDoor
namespace Go.Proofs.YtonmancgalencaaGreatDoor
open Go.RowKit
set_option linter.unusedVariables false
set_option linter.unusedSimpArgs false

def GoodL (n : Nat) (L : Nat → Nat → Int) : Prop := ∀ i, i < n → Bytes 32 (L i)
theorem GoodL.upd {n : Nat} {L : Nat → Nat → Int} (h : GoodL n L) (J : Nat) {s : Nat → Int} (hs : Bytes 32 s) : GoodL n (updL L J s) := updL_bytes h hs
/-- the public keys that a path tells -/
def pbF (L : Nat → Nat → Int) (n J : Nat) : Nat → Nat → Int := fun k => pubF (climbS (L J) (copF L n J) k)
attribute [local irreducible] nodeF labelF oneF macF shaF strOf keyV shV pubV upF upOK pubF
attribute [local irreducible] dN prF PthAt AllAt GoodL pbF
set_option maxRecDepth 100000 in
set_option maxHeartbeats 4000000 in
theorem meets_core (ad : Addr) (n c m A B : Nat) (la lb : Int) (s t : Nat → Int) (L0 : Nat → Nat → Int) (R : (Nat → Nat → Int) → Nat → Int) (w : World) (hT : Tabs w) (hK0 : K32At w (some ad) n L0) (h2 : 2 ≤ n) (h9 : n ≤ 9) (hA : A < n) (hB : B < n) (hla : la.tmod (n : Int) = (A : Int)) (hlb : lb.tmod (n : Int) = (B : Int)) (hl0 : 0 ≤ la) (hl1 : la ≤ 255) (hm0 : 0 ≤ lb) (hm1 : lb ≤ 255) (hs : Bytes 32 s) (ht : Bytes 32 t) (gL : GoodL n L0) (hdn : ∀ i, dN n i ≤ 1000)
    (aw : Hid (∀ W : World, Tabs W → Calls Tryz.prog 9 #[] W fun e w' => e = .returned (.bool true) ∧ Below W.heap.size W w'))
    (cMk : Hid (∀ (W : World), K32At W (some ad) n L0 → Tabs W → Calls Tryz.prog 10 #[.slice (some ad) n c] W fun e w' => ∃ g c2, e = .returned (.tuple #[.agg #[.slice (some ⟨g, 0, none⟩) m c2], .bool true]) ∧ Row64 w' g m (prF L0 n) ∧ Below W.heap.size W w'))
    (cCp : Hid (∀ (L : Nat → Nat → Int) (i g c2 : Nat) (W : World), GoodL n L → i < n → Row64 W g m (prF L n) → Calls Tryz.prog 12 #[.agg #[.slice (some ⟨g, 0, none⟩) m c2], .int .i64 (i : Int)] W (RetSec W (dN n i) (copF L n i))))
    (cPm : Hid (∀ (i : Nat) (o : Option Addr) (cc : Nat) (W : World), i < n → K32At W o (dN n i) (copF L0 n i) → Tabs W → Calls Tryz.prog 11 #[.int .i64 (n : Int), .int .i64 (i : Int), .agg (ints .u8 32 (L0 i)), .slice o (dN n i) cc] W fun e w' => ∃ p, e = .returned (.tuple #[.agg (pthC n i p), .bool true]) ∧ PthAt w' L0 n i p ∧ Below W.heap.size W w'))
    (cRt : Hid (∀ (L : Nat → Nat → Int) (g c2 : Nat) (W : World), GoodL n L → Row64 W g m (prF L n) → Calls Tryz.prog 14 #[.agg #[.slice (some ⟨g, 0, none⟩) m c2]] W fun e w' => e = .returned (.agg (ints .u8 32 (R L))) ∧ Below W.heap.size W w'))
    (cPr : Hid (∀ (L : Nat → Nat → Int) (i : Nat) (p : Pth) (W : World), GoodL n L → i < n → PthAt W L n i p → Calls Tryz.prog 13 #[.agg (pthC n i p)] W fun e w' => e = .returned (.agg (ints .u8 32 (R L))) ∧ Below W.heap.size W w'))
    (cRn : Hid (∀ (L : Nat → Nat → Int) (J : Nat) (x : Nat → Int) (p : Pth) (W : World), GoodL n L → J < n → Bytes 32 x → PthAt W L n J p → Tabs W → Calls Tryz.prog 15 #[.agg (pthC n J p), .agg (ints .u8 32 x)] W fun e w' => ∃ p', e = .returned (.tuple #[.agg (pthC n J p'), .bool true]) ∧ PthAt w' (updL L J x) n J p' ∧ Below W.heap.size W w'))
    (cRe : Hid (∀ (L : Nat → Nat → Int) (J : Nat) (x : Nat → Int) (g c2 : Nat) (W : World), GoodL n L → J < n → Bytes 32 x → Row64 W g m (prF L n) → Tabs W → Calls Tryz.prog 16 #[.agg #[.slice (some ⟨g, 0, none⟩) m c2], .int .i64 (J : Int), .agg (ints .u8 32 x)] W fun e w' => ∃ g2 c3, e = .returned (.tuple #[.agg #[.slice (some ⟨g2, 0, none⟩) m c3], .bool true]) ∧ Row64 w' g2 m (prF (updL L J x) n) ∧ Below W.heap.size W w'))
    (cPb : Hid (∀ (L : Nat → Nat → Int) (J : Nat) (p : Pth) (W : World), GoodL n L → J < n → PthAt W L n J p → Calls Tryz.prog 18 #[.agg (pthC n J p)] W fun e w' => ∃ g c, e = .returned (.slice (some ⟨g, 0, none⟩) (dN n J) c) ∧ Row32 24 w' g (dN n J) (pbF L n J) ∧ Below W.heap.size W w'))
    (cTk : Hid (∀ (L : Nat → Nat → Int) (J i : Nat) (x : Nat → Int) (p : Pth) (o : Option Addr) (cc : Nat) (W : World), GoodL n L → J < n → i < n → i ≠ J → Bytes 32 x → PthAt W L n i p → K32At W o (dN n J) (pbF (updL L J x) n J) → Tabs W → Calls Tryz.prog 17 #[.agg (pthC n i p), .int .i64 (J : Int), .slice o (dN n J) cc] W fun e w' => ∃ p', e = .returned (.tuple #[.agg (pthC n i p'), .bool true]) ∧ PthAt w' (updL L J x) n i p' ∧ Below W.heap.size W w'))
    (cCo : Hid (∀ (L : Nat → Nat → Int) (i : Nat) (p : Pth) (W : World), i < n → PthAt W L n i p → Calls Tryz.prog 20 #[.agg (pthC n i p)] W (RetK32 W (dN n i) (copF L n i)))) :
    Calls Tryz.prog 3 #[.slice (some ad) n c, .int .u8 la, .int .u8 lb, .agg (ints .u8 32 s), .agg (ints .u8 32 t)] w fun e w' => e = .returned (.bool true) ∧ Below w.heap.size w w' := by
  have hTT : Hid (Tabs w) := hT
  have HK : Hid (K32At w (some ad) n L0) := hK0
  have HS : Hid (Bytes 32 s) := hs
  have HTb : Hid (Bytes 32 t) := ht
  have HDN : Hid (∀ i, dN n i ≤ 1000) := hdn
  have HGL : Hid (GoodL n L0) := gL
  clear hT hK0 hs ht hdn gL
  have hn2 : ¬ ((n : Int) < 2) := by omega
  have hn9 : ¬ ((9 : Int) < (n : Int)) := by omega
  have hn0 : ¬ ((n : Int) = 0) := by omega
  have hG := Grew.refl w
  have fs : True := trivial
  have ft : True := trivial
  go_enter Tryz.func3, Tryz.ntmps3
  go_wp2_with fail
  replace fs : objAt ((w.alloc (.cells (ints .u8 32 (s)) 24)).alloc (.cells (ints .u8 32 (t)) 24)) (w.heap.size) = some (.cells (ints .u8 32 (s)) 24) := by exact keep_auto
  replace ft : objAt ((w.alloc (.cells (ints .u8 32 (s)) 24)).alloc (.cells (ints .u8 32 (t)) 24)) (w.heap.size + 1) = some (.cells (ints .u8 32 (t)) 24) := by exact keep_auto
  replace hG : Below w.heap.size w ((w.alloc (.cells (ints .u8 32 (s)) 24)).alloc (.cells (ints .u8 32 (t)) 24)) := by exact grew_auto
  generalize (w.alloc (.cells (ints .u8 32 (s)) 24)).alloc (.cells (ints .u8 32 (t)) 24) = w1 at *
  have lfs := lt_of_objAt fs
  have lft := lt_of_objAt ft
  go_wp2_with fail
  refine (aw.out _ (hTT.out.later hG)).mono ?_
  rintro e w2 ⟨rfl, hb⟩
  replace fs := keep_below hb fs
  replace ft := keep_below hb ft
  replace lfs := lt_of_objAt fs
  replace lft := lt_of_objAt ft
  replace hG := Grew.trans hG hb
  clear hb
  go_wp2_with fail
  refine (cMk.out _ (HK.out.later hG) (hTT.out.later hG)).mono ?_
  rintro e w3 ⟨g, c2, rfl, hR, hb⟩
  replace fs := keep_below hb fs
  replace ft := keep_below hb ft
  replace lfs := lt_of_objAt fs
  replace lft := lt_of_objAt ft
  replace hG := Grew.trans hG hb
  have HR : Hid (Row64 w3 g m (prF L0 n)) := hR
  clear hb hR cMk aw
  have hzq : w.heap.size ≤ w3.heap.size := hG.size
  go_wp2_with fail
  have hb : Below w3.heap.size w3 (w3.alloc (.cells #[.slice (some ⟨g, 0, none⟩) m c2] 28)) := Grew.alloc (Grew.refl _) _
  have fq : objAt (w3.alloc (.cells #[.slice (some ⟨g, 0, none⟩) m c2] 28)) w3.heap.size = some (.cells #[.slice (some ⟨g, 0, none⟩) m c2] 28) := objAt_alloc_at _ _ _ rfl
  replace fs := keep_below hb fs
  replace ft := keep_below hb ft
  replace HR := hid1 (HR.out.later hb)
  replace lfs := lt_of_objAt fs
  replace lft := lt_of_objAt ft
  replace hG := Grew.trans hG hb
  clear hb
  generalize w3.alloc (.cells #[.slice (some ⟨g, 0, none⟩) m c2] 28) = w4 at *
  generalize w3.heap.size = gq at *
  have lfq := lt_of_objAt fq
  go_wp2_with fail
  go_loopw [44, 14, 15, 16, 17, 18] (fun i v _ _ _ _ wr => ∃ (kk : Nat) (v0 : Value) (P : Nat → Pth), v0 = v ∧ kk ≤ n ∧ i = .int .i64 kk ∧ Below w4.heap.size w4 wr ∧ Hid (wr.ownsRow w4.heap.size 33 4 v0 kk (pthL n P kk)) ∧ Hid (∀ i, i < kk → PthAt wr L0 n i (P i))) (fun i _ _ _ _ _ _ => n - (intOf i).toNat)
  case atStart => exact ⟨0, _, fun _ => ⟨none, 0, 0, 0⟩, rfl, by omega, rfl, Grew.refl _, World.ownsRow_nil _ _ _ _, hid1 fun i hi => absurd hi (Nat.not_lt_zero i)⟩
  case round =>
    obtain ⟨kk, v0, P, rfl, hk, rfl, hM, OWN, HPS⟩ := hrel
    by_cases hlt : kk < n
    · have l1 := HK.out.loadK hlt (Grew.trans hG hM)
      have hi1 : (kk : Int) < (n : Int) := by omega
      have hi0 : (0 : Int) ≤ (kk : Int) := by omega
      go_wp2_with fail
      have hb : Below wr.heap.size wr (wr.alloc (.cells (ints .u8 32 (L0 kk)) 24)) := Grew.alloc (Grew.refl _) _
      have fx : objAt (wr.alloc (.cells (ints .u8 32 (L0 kk)) 24)) wr.heap.size = some (.cells (ints .u8 32 (L0 kk)) 24) := objAt_alloc_at _ _ _ rfl
      have HR2 : Hid (Row64 (wr.alloc (.cells (ints .u8 32 (L0 kk)) 24)) g m (prF L0 n)) := hid1 ((HR.out.later hM).later hb)
      have fq2 : objAt (wr.alloc (.cells (ints .u8 32 (L0 kk)) 24)) gq = some (.cells #[.slice (some ⟨g, 0, none⟩) m c2] 28) := keep_below hb (keep_below hM fq)
      have OWN1 : Hid ((wr.alloc (.cells (ints .u8 32 (L0 kk)) 24)).ownsRow w4.heap.size 33 4 v0 kk (pthL n P kk)) := World.ownsRow.alloc OWN.out _
      have HPS1 : Hid (∀ i, i < kk → PthAt (wr.alloc (.cells (ints .u8 32 (L0 kk)) 24)) L0 n i (P i)) := fun i hi => (HPS.out i hi).later hb
      have hG1 : Below w.heap.size w (wr.alloc (.cells (ints .u8 32 (L0 kk)) 24)) := Grew.trans (Grew.trans hG hM) hb
      have hM1 : Below w4.heap.size w4 (wr.alloc (.cells (ints .u8 32 (L0 kk)) 24)) := Grew.trans hM hb
      clear l1 hb OWN HPS hM
      generalize wr.alloc (.cells (ints .u8 32 (L0 kk)) 24) = w40 at *
      generalize wr.heap.size = gx at *
      have lfx := lt_of_objAt fx
      have lfq2 := lt_of_objAt fq2
      have hG0 := hG
      have hGx := hG1
      clear hG hG1
      have hG := hGx
      clear hGx
      go_wp2_with fail
      refine wp_relv (fun k => k == 5 || k == 6) (fun k => match k with | 5 => fun u => KSl (dN n kk) u | 6 => fun u => PtS n kk u | _ => fun _ => True) (fun k => match k with | 5 => fun u w => SAt (dN n kk) (copF L0 n kk) u w | 6 => fun u w => PtAt L0 n kk u w | _ => fun _ _ => True) (fun k => match k with | 5 => .slice none (dN n kk) 0 | 6 => .tuple #[.agg (pthC n kk ⟨none, 0, 0, 0⟩), .bool true] | _ => undef) (fun i hi => ?_) (by kernel_rfl) (by kernel_rfl) ?_
      · simp only [Bool.or_eq_true, beq_iff_eq] at hi
        rcases hi with rfl | rfl
        · exact ⟨none, 0, rfl⟩
        · exact ⟨⟨none, 0, 0, 0⟩, rfl⟩
      iterate 5 (first | refine exv_skip rfl ?_ | (refine exv_call rfl ?_; apply Exists.intro))
      refine exv_call rfl ⟨undef, ?_⟩
      refine exv_call rfl ⟨undef, ?_⟩
      iterate 6 (first | refine exv_skip rfl ?_ | (refine exv_call rfl ?_; apply Exists.intro))
      refine exv_nil ?_
      intro γ gv hsv hinj hbase
      obtain ⟨o3, k3, e3⟩ := hsv 5 rfl
      obtain ⟨p6, e4⟩ := hsv 6 rfl
      (repeat (first | (refine rel_quiet rfl ?_; ((first | go_big_quiet_skip | (go_big_quiet_want; go_big_quiet_op; go_big_quiet_on)); refine wpQuiet_nil ?_)) | ((first | refine rel_skip_some rfl (fun _ => rfl) ?_); ((first | go_big_quiet_skip | (go_big_quiet_want; go_big_quiet_op; go_big_quiet_on)); refine wpQuiet_nil ?_)) | refine rel_skip_none rfl (fun _ => rfl) ?_))
      refine rel_callv #[.agg #[.slice (some ⟨g, 0, none⟩) m c2], .int .i64 (kk : Int)] (enters_of Tryz.func12 (by kernel_rfl) rfl) rfl e3 rfl rfl rfl rfl (fits_nil (stab_sat _ _ _)) (by first | kernel_rfl | simp [go_sem]) ?_ ?_
      · intro W hC hF
        obtain ⟨mm, rfl⟩ := hC
        refine (cCp.out L0 kk _ _ _ HGL.out hlt (HR2.out.later (below_more _ mm))).mono ?_
        rintro e w9 ⟨oa, cc, rfl, hK, hb9⟩
        exact ⟨_, rfl, ⟨oa, cc, rfl⟩, fun oa2 c2 e2 => by cases e2; exact hK, hb9⟩
      ((first | go_big_quiet_skip | (go_big_quiet_want; go_big_quiet_op; go_big_quiet_on)); refine wpQuiet_nil ?_)
      (repeat (first | (refine rel_quiet rfl ?_; ((first | go_big_quiet_skip | (go_big_quiet_want; go_big_quiet_op; go_big_quiet_on)); refine wpQuiet_nil ?_)) | ((first | refine rel_skip_some rfl (fun _ => rfl) ?_); ((first | go_big_quiet_skip | (go_big_quiet_want; go_big_quiet_op; go_big_quiet_on)); refine wpQuiet_nil ?_)) | refine rel_skip_none rfl (fun _ => rfl) ?_))
      refine rel_callv #[.int .i64 (n : Int), .int .i64 (kk : Int), .agg (ints .u8 32 (L0 kk)), .slice o3 (dN n kk) k3] (enters_of Tryz.func11 (by kernel_rfl) rfl) rfl e4 rfl rfl rfl rfl (fits_one (stab_pt _ _ _ _) (stab_sat _ _ _) rfl rfl (fits_nil (stab_pt _ _ _ _))) (by first | kernel_rfl | simp [go_sem]) ?_ ?_
      · intro W hC hF
        obtain ⟨mm, rfl⟩ := hC
        have hK3 : SecAt (more w40 mm) o3 (dN n kk) (copF L0 n kk) := known hF (List.mem_cons_self ..) (by decide +kernel) o3 k3 rfl
        refine (cPm.out kk o3 k3 _ hlt hK3.1 (hTT.out.later (Grew.more hG mm))).mono ?_
        rintro e w9 ⟨p9, rfl, hp9, hb9⟩
        exact ⟨_, rfl, ⟨p9, rfl⟩, pt_of hp9, hb9⟩
      ((first | go_big_quiet_skip | (go_big_quiet_want; go_big_quiet_op; go_big_quiet_on)); refine wpQuiet_nil ?_)
      (repeat (first | (refine rel_quiet rfl ?_; ((first | go_big_quiet_skip | (go_big_quiet_want; go_big_quiet_op; go_big_quiet_on)); refine wpQuiet_nil ?_)) | ((first | refine rel_skip_some rfl (fun _ => rfl) ?_ | ((try simp only [Nat.zero_add, Nat.reduceAdd]); apply rel_alloc _ _ alloc_cls; (focus rfl); (focus (intro W; (first | exact zero_key _ | exact zero_elem _ | exact zero_num _ | exact zero_pair _ | exact zero_rnode _ | exact zero_kpair _ | exact zero_pth9 _))); (focus (first | exact cells_ints _ _ _ | exact pthC_size _ _ _ | exact pth0_size | exact cells_two _ _ | rfl)); (focus (exact by_fitsM)))); ((first | go_big_quiet_skip | (go_big_quiet_want; go_big_quiet_op; go_big_quiet_on)); refine wpQuiet_nil ?_)) | refine rel_skip_none rfl (fun _ => rfl) ?_ | ((try simp only [Nat.zero_add, Nat.reduceAdd]); apply rel_store (setRow_cls (hbase _)); (focus rfl); (focus rfl); (focus rfl); (focus (first | exact cells_agg _ | exact cells_int _ _ | exact cells_bool _ | rfl)); rotate_left 3; (focus (exact by_mem)); rotate_right 3; (focus kernel_rfl); (focus (first | exact ints_size _ _ _ | exact pthC_size _ _ _ | exact pth0_size | rfl)); (focus (first | exact ints_ones _ _ _ | exact pthC_ones _ _ _ | exact ones_two _ _ _ _ | kernel_rfl)); (focus (decide +kernel)); (focus (exact by_fitsM)))))
      (refine rel_nil ?_; rintro _ ⟨mq, rfl⟩ hF; simp only [List.forall_mem_cons] at hF; obtain ⟨fp, -, f4, -, -⟩ := hF)
      have hb : Below w40.heap.size w40 (more w40 mq) := below_more _ mq
      have _f := fp
      replace fx := keep_below hb fx
      replace fq2 := keep_below hb fq2
      replace HR2 := hid1 (HR2.out.later hb)
      replace lfx := lt_of_objAt fx
      replace lfq2 := lt_of_objAt fq2
      replace hG := Grew.trans hG hb
      replace OWN1 := hid1 (own_later OWN1.out hb)
      replace HPS1 : Hid (∀ i, i < kk → PthAt (more w40 mq) L0 n i (P i)) := fun i hi => (HPS1.out i hi).later hb
      replace hM1 := Grew.trans hM1 hb
      have HP : Hid (PthAt (more w40 mq) L0 n kk p6) := f4 p6 rfl
      replace fp : objAt (more w40 mq) (γ 10) = some (.cells (pthC n kk p6) 33) := _f
      clear f4 _f hb hinj hbase hsv e4 e3
      generalize γ 10 = gp at *
      generalize more w40 mq = w61 at *
      clear γ gv
      have lfp := lt_of_objAt fp
      have hsm := same_refl 32 (R L0)
      have cA1 := fun y : More => cPr.out L0 kk p6 (more w61 y) HGL.out hlt (HP.out.later (below_more _ y))
      have cA2 := fun y : More => cRt.out L0 g c2 (more w61 y) HGL.out (HR2.out.later (below_more _ y))
      go_wp2_with fail
      ((first | (with_reducible refine wp_region_on (by kernel_rfl) (by kernel_rfl) ?_) | refine wp_region_more (by kernel_rfl) (by kernel_rfl) ?_); (repeat (first | go_big_quiet_skip | (go_big_quiet_want; go_big_quiet_op; first | go_big_quiet_on | (apply Exists.intro; refine ⟨fun _ => ?_, ?_⟩; (focus (first | (with_reducible exact Calls.of_more (cA1 _)) | (with_reducible exact Calls.of_more (cA2 _)))); go_big_quiet_on)))); refine wpQuiet_nil ?_; rintro _ ⟨mq, rfl⟩)
      have hb : Below w61.heap.size w61 (more w61 mq) := below_more _ mq
      replace OWN1 := hid1 (own_later OWN1.out hb)
      replace HPS1 : Hid (∀ i, i < kk → PthAt (more w61 mq) L0 n i (P i)) := fun i hi => (HPS1.out i hi).later hb
      replace HP := hid1 (HP.out.later hb)
      replace fp := keep_below hb fp
      replace hM1 := Grew.trans hM1 hb
      clear cA1 cA2 hb fx lfx fq2 lfq2 lfp hG HR2
      generalize more w61 mq = w90 at *
      have lfp := lt_of_objAt fp
      obtain ⟨g3, c3, w91, hr3, own3, hb3, hp3⟩ := append_pth w4 (w90.alloc (.cells (pthC n kk p6) 33)) w4.heap.size v0 kk n P p6 w90.heap.size _ _ (World.ownsRow.alloc OWN1.out _) (by omega) (objAt_alloc_at _ _ _ rfl) (Grew.alloc hM1 _) (Nat.le_refl _) (by simp; have := hM1.size; omega)
      have OWN3 : Hid (w91.ownsRow w4.heap.size 33 4 (.slice (some ⟨g3, 0, none⟩) (kk + 1) c3) (kk + 1) (pthL n (updP P kk p6) (kk + 1))) := own3
      have HPS3 : Hid (∀ i, i < kk + 1 → PthAt w91 L0 n i (updP P kk p6 i)) := fun i hi => by
        unfold updP
        by_cases e : i = kk
        · subst e
          rw [if_pos rfl]
          exact hp3 _ _ _ (HP.out.later (Grew.alloc (Grew.refl _) _))
        · rw [if_neg e]
          exact hp3 _ _ _ ((HPS1.out i (by omega)).later (Grew.alloc (Grew.refl _) _))
      clear own3 OWN1 HPS1 hp3 HP
      go_wp2
      go_roundw
      case rel => first | exact ⟨kk + 1, _, _, rfl, by omega, by go_num, hb3, OWN3, HPS3⟩ | ((repeat' apply Exists.intro) <;> first | exact ⟨⟨kk + 1, _, _, rfl, by omega, by go_num, hb3, OWN3, HPS3⟩, rfl⟩ | exact undef)
      case measure => (simp [intOf] <;> omega)
    · obtain rfl : n = kk := by omega
      obtain ⟨gA, cA, rfl, hgA, hAll⟩ := allAt_of_own (L := fun _ => L0) (by omega) OWN.out HPS.out
      have HA : Hid (AllAt wr gA n n (fun _ => L0)) := hAll
      have hzA : w.heap.size ≤ gA := Nat.le_trans hG.size hgA
      clear hAll OWN HPS hgA P
      obtain ⟨w100, rfl⟩ : ∃ w100, w100 = wr := ⟨_, rfl⟩
      replace fs := keep_below hM fs
      replace ft := keep_below hM ft
      replace fq := keep_below hM fq
      replace HR := hid1 (HR.out.later hM)
      replace lfs := lt_of_objAt fs
      replace lft := lt_of_objAt ft
      replace lfq := lt_of_objAt fq
      replace hG := Grew.trans hG hM
      clear hM cPm
      go_wp2_with fail
      (refine wp_rel (by kernel_rfl) (by kernel_rfl) ?_; (repeat (first | refine exv_skip rfl ?_ | (refine exv_call rfl ?_; apply Exists.intro))); refine exv_nil ?_; intro γ hinj hbase; (repeat (first | (refine rel_quiet rfl ?_; ((first | go_big_quiet_skip | (go_big_quiet_want; go_big_quiet_op; go_big_quiet_on)); refine wpQuiet_nil ?_)) | ((first | refine rel_skip_some rfl (fun _ => rfl) ?_ | ((try simp only [Nat.zero_add, Nat.reduceAdd]); apply rel_box alloc_cls; (focus rfl); (focus (first | exact cells_agg _ | exact cells_int _ _ | exact cells_bool _ | rfl)); (focus (exact by_fits))) | ((try simp only [Nat.zero_add, Nat.reduceAdd]); apply rel_alloc _ _ alloc_cls; (focus rfl); (focus (intro W; (first | exact zero_key _ | exact zero_elem _ | exact zero_num _ | exact zero_pair _ | exact zero_rnode _ | exact zero_kpair _))); (focus (first | exact cells_ints _ _ _ | exact cells_two _ _ | rfl)); (focus (exact by_fits))) | ((try simp only [Nat.zero_add, Nat.reduceAdd]); apply rel_slice alloc_cls; (focus rfl); (focus (intro W; simp only [List.map_toArray, List.map_cons, List.map_nil]; first | (with_reducible exact build2t _ _ _ _ W) | exact build2t _ _ _ _ W)); (focus (exact by_fits))) | (apply rel_fact; (focus rfl); (focus rfl); (focus rfl); (focus (intro W hC hF; go_big_quiet_want; go_big_quiet_op; (first | go_big_quiet_on | (apply Exists.intro; refine ⟨fun _ => ?_, ?_⟩; (focus (fail)); go_big_quiet_on)); exact wpQuiet_nil rfl)); (focus (first | exact fun _ => ⟨rfl, rfl⟩ | exact fun h => absurd h (by decide))))); ((first | go_big_quiet_skip | (go_big_quiet_want; go_big_quiet_op; go_big_quiet_on)); refine wpQuiet_nil ?_)) | refine rel_skip_none rfl (fun _ => rfl) ?_ | ((try simp only [Nat.zero_add, Nat.reduceAdd]); apply rel_store (setRow_cls (hbase _)); (focus rfl); (focus rfl); (focus rfl); (focus (first | exact cells_agg _ | exact cells_int _ _ | exact cells_bool _ | rfl)); rotate_left 3; (focus (exact by_mem)); rotate_right 3; (focus kernel_rfl); (focus (first | exact ints_size _ _ _ | rfl)); (focus (first | exact ints_ones _ _ _ | exact ones_two _ _ _ _ | kernel_rfl)); (focus (decide +kernel)); (focus (exact by_fits))))))
      (refine rel_nil ?_; rintro _ ⟨mq, rfl⟩ hF; simp only [List.forall_mem_cons] at hF; obtain ⟨fT, -⟩ := hF)
      have hb : Below w100.heap.size w100 (more w100 mq) := below_more _ mq
      have _f := fT
      replace fs := keep_below hb fs
      replace ft := keep_below hb ft
      replace fq := keep_below hb fq
      replace HR := hid1 (HR.out.later hb)
      replace HA := hid1 (HA.out.later hb)
      replace lfs := lt_of_objAt fs
      replace lft := lt_of_objAt ft
      replace lfq := lt_of_objAt fq
      replace hG := Grew.trans hG hb
      replace fT : objAt (more w100 mq) (γ 12) = some (.cells (turnsC (A : Int) s (B : Int) t) 38) := _f
      clear _f hb hinj hbase
      generalize γ 12 = gT at *
      generalize more w100 mq = w110 at *
      clear γ
      have lfT := lt_of_objAt fT
      clear fs lfs ft lft HK
      go_wp2_with fail
      go_loopw [87, 13, 20, 21, 22, 23, 24, 25, 26] (fun i ok _ _ _ _ _ _ _ wr => ∃ (r gN cN : Nat) (L : Nat → Nat → Int), r ≤ 2 ∧ i = .int .i64 r ∧ ok = .bool true ∧ Hid (GoodL n L) ∧ Below w.heap.size w wr ∧ objAt wr gq = some (.cells #[.slice (some ⟨gN, 0, none⟩) m cN] 28) ∧ Hid (Row64 wr gN m (prF L n)) ∧ Hid (AllAt wr gA n n (fun _ => L)) ∧ objAt wr gT = some (.cells (turnsC (A : Int) s (B : Int) t) 38)) (fun i _ _ _ _ _ _ _ _ _ => 2 - (intOf i).toNat)
      case atStart => exact ⟨0, g, c2, L0, by omega, rfl, rfl, HGL, hG, fq, HR, HA, fT⟩
      case round =>
        clear HGL hG fq HR HA fT lfq lfT
        obtain ⟨r, gN, cN, L, hr2, rfl, rfl, HL, hG, fq, HR, HA, fT⟩ := hrel
        have lfq := lt_of_objAt fq
        have lfT := lt_of_objAt fT
        obtain ⟨w120, rfl⟩ : ∃ w120, w120 = wr := ⟨_, rfl⟩
        by_cases hlt : r < 2
        · have l1 := turn_load fT r hlt
          have hi1 : (r : Int) < 2 := by omega
          have hi0 : (0 : Int) ≤ (r : Int) := by omega
          obtain ⟨J, hJe, hJ⟩ : ∃ J : Nat, (if r = 0 then (A : Int) else (B : Int)) = (J : Int) ∧ J < n := by
            by_cases h : r = 0
            · exact ⟨A, by rw [if_pos h], hA⟩
            · exact ⟨B, by rw [if_neg h], hB⟩
          obtain ⟨x, hxe, hx⟩ : ∃ x, (if r = 0 then s else t) = x ∧ Bytes 32 x := by
            by_cases h : r = 0
            · exact ⟨s, by rw [if_pos h], HS.out⟩
            · exact ⟨t, by rw [if_neg h], HTb.out⟩
          rw [hJe, hxe] at l1
          have HX : Hid (Bytes 32 x) := hx
          have hJ1 : (J : Int) < (n : Int) := by omega
          have hJ0 : (0 : Int) ≤ (J : Int) := by omega
          clear hJe hxe hx
          go_wp2_with fail
          have hb : Below w120.heap.size w120 (w120.alloc (.cells (turnC (J : Int) x) 38)) := Grew.alloc (Grew.refl _) _
          have fu : objAt (w120.alloc (.cells (turnC (J : Int) x) 38)) w120.heap.size = some (.cells (turnC (J : Int) x) 38) := objAt_alloc_at _ _ _ rfl
          replace fq := keep_below hb fq
          replace fT := keep_below hb fT
          replace HR := hid1 (HR.out.later hb)
          replace HA := hid1 (HA.out.later hb)
          replace lfq := lt_of_objAt fq
          replace lfT := lt_of_objAt fT
          replace hG := Grew.trans hG hb
          clear hb
          generalize w120.alloc (.cells (turnC (J : Int) x) 38) = w121 at *
          generalize w120.heap.size = gu at *
          have lfu := lt_of_objAt fu
          clear l1
          obtain ⟨p, lp, hp⟩ := HA.out.load hJ
          have HPq : Hid (PthAt w121 L n J p) := hp
          have l2 := fun y : More => lp (more w121 y) (below_more w121 y)
          have hAlt := HA.out.lt
          clear lp hp
          go_wp2_with fail
          refine wp_relv (fun k => k == 7) (fun k => match k with | 7 => fun u => PtS n J u | _ => fun _ => True) (fun k => match k with | 7 => fun u w => PtAt (updL L J x) n J u w | _ => fun _ _ => True) (fun k => match k with | 7 => .tuple #[.agg (pthC n J ⟨none, 0, 0, 0⟩), .bool true] | _ => undef) (fun i hi => ?_) (by kernel_rfl) (by kernel_rfl) ?_
          · simp only [Bool.or_eq_true, beq_iff_eq] at hi
            subst hi
            exact ⟨⟨none, 0, 0, 0⟩, rfl⟩
          iterate 7 (first | refine exv_skip rfl ?_ | (refine exv_call rfl ?_; apply Exists.intro))
          refine exv_call rfl ⟨undef, ?_⟩
          iterate 6 (first | refine exv_skip rfl ?_ | (refine exv_call rfl ?_; apply Exists.intro))
          refine exv_nil ?_
          intro γ gv hsv hinj hbase
          obtain ⟨p7, e4⟩ := hsv 7 rfl
          (repeat (first | (refine rel_quiet rfl ?_; ((first | go_big_quiet_skip | (go_big_quiet_want; go_big_quiet_op; go_big_quiet_on)); refine wpQuiet_nil ?_)) | ((first | refine rel_skip_some rfl (fun _ => rfl) ?_); ((first | go_big_quiet_skip | (go_big_quiet_want; go_big_quiet_op; go_big_quiet_on)); refine wpQuiet_nil ?_)) | refine rel_skip_none rfl (fun _ => rfl) ?_))
          refine rel_callv #[.agg (pthC n J p), .agg (ints .u8 32 x)] (enters_of Tryz.func15 (by kernel_rfl) rfl) rfl e4 rfl rfl rfl rfl (fits_nil (stab_pt _ _ _ _)) (by first | kernel_rfl | simp [go_sem]) ?_ ?_
          · intro W hC hF
            obtain ⟨mm, rfl⟩ := hC
            refine (cRn.out L J x p _ HL.out hJ HX.out (HPq.out.later (below_more _ mm)) (hTT.out.later (Grew.more hG mm))).mono ?_
            rintro e w9 ⟨p9, rfl, hp9, hb9⟩
            exact ⟨_, rfl, ⟨p9, rfl⟩, pt_of hp9, hb9⟩
          ((first | go_big_quiet_skip | (go_big_quiet_want; go_big_quiet_op; go_big_quiet_on)); refine wpQuiet_nil ?_)
          (repeat (first | (refine rel_quiet rfl ?_; ((first | go_big_quiet_skip | (go_big_quiet_want; go_big_quiet_op; go_big_quiet_on)); refine wpQuiet_nil ?_)) | ((first | refine rel_skip_some rfl (fun _ => rfl) ?_ | ((try simp only [Nat.zero_add, Nat.reduceAdd]); apply rel_alloc _ _ alloc_cls; (focus rfl); (focus (intro W; (first | exact zero_key _ | exact zero_elem _ | exact zero_num _ | exact zero_pair _ | exact zero_rnode _ | exact zero_kpair _ | exact zero_pth9 _))); (focus (first | exact cells_ints _ _ _ | exact pthC_size _ _ _ | exact pth0_size | exact cells_two _ _ | rfl)); (focus (exact by_fitsM)))); ((first | go_big_quiet_skip | (go_big_quiet_want; go_big_quiet_op; go_big_quiet_on)); refine wpQuiet_nil ?_)) | refine rel_skip_none rfl (fun _ => rfl) ?_ | ((try simp only [Nat.zero_add, Nat.reduceAdd]); apply rel_store (setRow_cls (hbase _)); (focus rfl); (focus rfl); (focus rfl); (focus (first | exact cells_agg _ | exact cells_int _ _ | exact cells_bool _ | rfl)); rotate_left 3; (focus (exact by_mem)); rotate_right 3; (focus kernel_rfl); (focus (first | exact ints_size _ _ _ | exact pthC_size _ _ _ | exact pth0_size | rfl)); (focus (first | exact ints_ones _ _ _ | exact pthC_ones _ _ _ | exact ones_two _ _ _ _ | kernel_rfl)); (focus (decide +kernel)); (focus (exact by_fitsM)))))
          (refine rel_nil ?_; rintro _ ⟨mq, rfl⟩ hF; simp only [List.forall_mem_cons] at hF; obtain ⟨fy, -, f4, -⟩ := hF)
          have hb : Below w121.heap.size w121 (more w121 mq) := below_more _ mq
          have _f := fy
          replace fq := keep_below hb fq
          replace fT := keep_below hb fT
          replace fu := keep_below hb fu
          replace HR := hid1 (HR.out.later hb)
          replace HA := hid1 (HA.out.later hb)
          replace lfq := lt_of_objAt fq
          replace lfT := lt_of_objAt fT
          replace lfu := lt_of_objAt fu
          replace hG := Grew.trans hG hb
          have hyA : ¬ (γ 11 = gA) := fun e => by have := hbase 11; omega
          have HP : Hid (PthAt (more w121 mq) (updL L J x) n J p7) := f4 p7 rfl
          replace fy : objAt (more w121 mq) (γ 11) = some (.cells (pthC n J p7) 33) := _f
          clear f4 _f hb hinj hbase hsv e4 l2 HPq hAlt
          generalize γ 11 = gy at *
          generalize more w121 mq = w142 at *
          clear γ gv
          have lfy := lt_of_objAt fy
          go_wp2_with fail
          refine (cRe.out L J x _ _ _ HL.out hJ HX.out HR.out (hTT.out.later hG)).mono ?_
          rintro e w143 ⟨gM, cM, rfl, hM, hb⟩
          replace fq := keep_below hb fq
          replace fT := keep_below hb fT
          replace fu := keep_below hb fu
          replace fy := keep_below hb fy
          replace HR := hid1 (HR.out.later hb)
          replace HA := hid1 (HA.out.later hb)
          replace HP := hid1 (HP.out.later hb)
          replace lfq := lt_of_objAt fq
          replace lfT := lt_of_objAt fT
          replace lfu := lt_of_objAt fu
          replace lfy := lt_of_objAt fy
          replace hG := Grew.trans hG hb
          have HM : Hid (Row64 w143 gM m (prF (updL L J x) n)) := hM
          clear hb hM HR
          go_wp2_with fail
          have eM : Hid (Row64 (w143.setRow gq #[.slice (some ⟨gM, 0, none⟩) m cM]) gM m (prF (updL L J x) n)) := hid1 (HM.out.by (objAt_setRow_ne _ _ _ _ (row_tree fq HM.out)))
          have eP : Hid (PthAt (w143.setRow gq #[.slice (some ⟨gM, 0, none⟩) m cM]) (updL L J x) n J p7) := hid1 (HP.out.grown (grownBy_setRow _ _ _) (off_tree fq))
          have eA : Hid (AllAt (w143.setRow gq #[.slice (some ⟨gM, 0, none⟩) m cM]) gA n n (fun _ => L)) := hid1 (HA.out.tree fq _)
          have nT : ¬ (gT = gq) := obj_ne fT fq (by decide)
          have nu : ¬ (gu = gq) := obj_ne fu fq (by decide)
          have ny : ¬ (gy = gq) := obj_ne fy fq (by decide)
          have eT : objAt (w143.setRow gq #[.slice (some ⟨gM, 0, none⟩) m cM]) gT = some (.cells (turnsC (A : Int) s (B : Int) t) 38) := keep_setRow _ _ fT nT
          have eu : objAt (w143.setRow gq #[.slice (some ⟨gM, 0, none⟩) m cM]) gu = some (.cells (turnC (J : Int) x) 38) := keep_setRow _ _ fu nu
          have ey : objAt (w143.setRow gq #[.slice (some ⟨gM, 0, none⟩) m cM]) gy = some (.cells (pthC n J p7) 33) := keep_setRow _ _ fy ny
          have hzq0 : w.heap.size ≤ gq := hzq
          replace hG : Below w.heap.size w (w143.setRow gq #[.slice (some ⟨gM, 0, none⟩) m cM]) := Grew.setRow hG _ _ hzq0
          replace fq := keep_row #[.slice (some ⟨gM, 0, none⟩) m cM] fq
          clear HM HP HA fT fu fy lfT lfu lfy lfq nT nu ny hzq0
          generalize w143.setRow gq #[.slice (some ⟨gM, 0, none⟩) m cM] = w150 at *
          have HM := eM
          have HP := eP
          have HA := eA
          have fT := eT
          have fu := eu
          have fy := ey
          clear eM eP eA eT eu ey
          have lfT := lt_of_objAt fT
          have lfu := lt_of_objAt fu
          have lfy := lt_of_objAt fy
          have lfq := lt_of_objAt fq
          have HGu : Hid (GoodL n (updL L J x)) := hid1 (HL.out.upd J HX.out)
          go_wp2_with fail
          go_loopw [115, 22, 23, 24] (fun i _ _ _ wr => ∃ kk : Nat, kk ≤ n ∧ i = .int .i64 kk ∧ Below w.heap.size w wr ∧ objAt wr gq = some (.cells #[.slice (some ⟨gM, 0, none⟩) m cM] 28) ∧ objAt wr gT = some (.cells (turnsC (A : Int) s (B : Int) t) 38) ∧ objAt wr gu = some (.cells (turnC (J : Int) x) 38) ∧ objAt wr gy = some (.cells (pthC n J p7) 33) ∧ Hid (Row64 wr gM m (prF (updL L J x) n)) ∧ Hid (PthAt wr (updL L J x) n J p7) ∧ Hid (AllAt wr gA n n (fun i => if i < kk then updL L J x else L))) (fun i _ _ _ _ => n - (intOf i).toNat)
          case atStart => exact ⟨0, by omega, rfl, hG, fq, fT, fu, fy, HM, HP, hid1 (HA.out.congr fun i _ => by rw [if_neg (by omega)])⟩
          case round =>
            clear hG fq fT fu fy HM HP HA lfq lfT lfu lfy
            obtain ⟨kk, hk, rfl, hG, fq, fT, fu, fy, HM, HP, HA⟩ := hrel
            have lfq := lt_of_objAt fq
            have lfT := lt_of_objAt fT
            have lfu := lt_of_objAt fu
            have lfy := lt_of_objAt fy
            obtain ⟨w160, rfl⟩ : ∃ w160, w160 = wr := ⟨_, rfl⟩
            by_cases hkn : kk < n
            · obtain ⟨p, lp, hp⟩ := HA.out.load hkn
              rw [if_neg (Nat.lt_irrefl kk)] at hp
              have l2 := lp w160 (Grew.refl _)
              have hk1 : (kk : Int) < (n : Int) := by omega
              have hk0 : (0 : Int) ≤ (kk : Int) := by omega
              have HPq : Hid (PthAt w160 L n kk p) := hp
              clear lp hp
              by_cases hkJ : kk = J
              case pos =>
                subst hkJ
                go_wp2_with fail
                have hb : Below w160.heap.size w160 (w160.alloc (.cells (pthC n kk p) 33)) := Grew.alloc (Grew.refl _) _
                have fc : objAt (w160.alloc (.cells (pthC n kk p) 33)) w160.heap.size = some (.cells (pthC n kk p) 33) := objAt_alloc_at _ _ _ rfl
                replace fq := keep_below hb fq
                replace fT := keep_below hb fT
                replace fu := keep_below hb fu
                replace fy := keep_below hb fy
                replace HM := hid1 (HM.out.later hb)
                replace HP := hid1 (HP.out.later hb)
                replace HA := hid1 (HA.out.later hb)
                replace HPq := hid1 (HPq.out.later hb)
                replace lfq := lt_of_objAt fq
                replace lfT := lt_of_objAt fT
                replace lfu := lt_of_objAt fu
                replace lfy := lt_of_objAt fy
                replace hG := Grew.trans hG hb
                clear hb
                generalize w160.alloc (.cells (pthC n kk p) 33) = w161 at *
                generalize w160.heap.size = gc at *
                have lfc := lt_of_objAt fc
                clear l2
                obtain ⟨cs, hst, hA2, cur, hcur⟩ := HA.out.store hkn p7 (updL L kk x) HP.out
                have eM : Hid (Row64 (w161.setRow gA cs) gM m (prF (updL L kk x) n)) := hid1 (HM.out.by (objAt_setRow_ne _ _ _ _ (row_path hcur HM.out)))
                have eP : Hid (PthAt (w161.setRow gA cs) (updL L kk x) n kk p7) := hid1 (HP.out.grown (grownBy_setRow _ _ _) (off_path hcur))
                have nT : ¬ (gT = gA) := obj_ne fT hcur (by decide)
                have nu : ¬ (gu = gA) := obj_ne fu hcur (by decide)
                have nq : ¬ (gq = gA) := obj_ne fq hcur (by decide)
                have ny : ¬ (gy = gA) := hyA
                have eT : objAt (w161.setRow gA cs) gT = some (.cells (turnsC (A : Int) s (B : Int) t) 38) := keep_setRow _ _ fT nT
                have eu : objAt (w161.setRow gA cs) gu = some (.cells (turnC (kk : Int) x) 38) := keep_setRow _ _ fu nu
                have ey : objAt (w161.setRow gA cs) gy = some (.cells (pthC n kk p7) 33) := keep_setRow _ _ fy ny
                have eq : objAt (w161.setRow gA cs) gq = some (.cells #[.slice (some ⟨gM, 0, none⟩) m cM] 28) := keep_setRow _ _ fq nq
                have eG : Below w.heap.size w (w161.setRow gA cs) := Grew.setRow hG _ _ hzA
                have eA : Hid (AllAt (w161.setRow gA cs) gA n n (fun i => if i < kk + 1 then updL L kk x else L)) := hid1 (hA2.congr fun i _ => by
                  show (if i = kk then updL L kk x else if i < kk then updL L kk x else L) = _
                  by_cases e1 : i = kk
                  · rw [if_pos e1, if_pos (by omega)]
                  · rw [if_neg e1]
                    by_cases e2 : i < kk
                    · rw [if_pos e2, if_pos (by omega)]
                    · rw [if_neg e2, if_neg (by omega)])
                clear hA2 HM HP HA hG fT fu fy fq lfT lfu lfy lfq nT nu nq ny
                go_wp2
                rw [hst]
                go_wp2
                go_roundw
                case rel => first | exact ⟨kk + 1, by omega, by go_num, eG, eq, eT, eu, ey, eM, eP, eA⟩ | ((repeat' apply Exists.intro) <;> first | exact ⟨⟨kk + 1, by omega, by go_num, eG, eq, eT, eu, ey, eM, eP, eA⟩, rfl⟩ | exact undef)
                case measure => (simp [intOf] <;> omega)
              case neg =>
                have hkJ1 : ¬ ((kk : Int) = (J : Int)) := by omega
                have hcA := HA.out.lt
                go_wp2_with fail
                have hb : Below w160.heap.size w160 (w160.alloc (.cells (pthC n kk p) 33)) := Grew.alloc (Grew.refl _) _
                have fc : objAt (w160.alloc (.cells (pthC n kk p) 33)) w160.heap.size = some (.cells (pthC n kk p) 33) := objAt_alloc_at _ _ _ rfl
                replace fq := keep_below hb fq
                replace fT := keep_below hb fT
                replace fu := keep_below hb fu
                replace fy := keep_below hb fy
                replace HM := hid1 (HM.out.later hb)
                replace HP := hid1 (HP.out.later hb)
                replace HA := hid1 (HA.out.later hb)
                replace HPq := hid1 (HPq.out.later hb)
                replace lfq := lt_of_objAt fq
                replace lfT := lt_of_objAt fT
                replace lfu := lt_of_objAt fu
                replace lfy := lt_of_objAt fy
                replace hG := Grew.trans hG hb
                clear hb
                generalize w160.alloc (.cells (pthC n kk p) 33) = w161 at *
                generalize w160.heap.size = gc at *
                have lfc := lt_of_objAt fc
                clear l2
                obtain ⟨cs, old, hcur, hcs, hst, hA2⟩ := HA.out.storeW hkn (updL L J x)
                have nT : ¬ (gT = gA) := obj_ne fT hcur (by decide)
                have nu : ¬ (gu = gA) := obj_ne fu hcur (by decide)
                have nq : ¬ (gq = gA) := obj_ne fq hcur (by decide)
                have ny : ¬ (gy = gA) := hyA
                have nc : ¬ (gc = gA) := fun e => by omega
                have lcur := lt_of_objAt hcur
                go_wp2_with fail
                refine wp_relv1 gA cs (fun k => k == 6 || k == 7) (fun k => match k with | 6 => fun u => KkS (dN n J) u | 7 => fun u => PtS n kk u | _ => fun _ => True) (fun k => match k with | 6 => fun u w => KkAt (dN n J) (pbF (updL L J x) n J) u w | 7 => fun u w => PtAt (updL L J x) n kk u w | _ => fun _ _ => True) (fun k => match k with | 6 => .slice (some ⟨0, 0, none⟩) (dN n J) 0 | 7 => .tuple #[.agg (pthC n kk ⟨none, 0, 0, 0⟩), .bool true] | _ => undef) (fun i hi => ?_) (by kernel_rfl) (by kernel_rfl) ?_
                · simp only [Bool.or_eq_true, beq_iff_eq] at hi
                  rcases hi with rfl | rfl
                  · exact ⟨0, 0, rfl⟩
                  · exact ⟨⟨none, 0, 0, 0⟩, rfl⟩
                iterate 6 (first | refine exv_skip rfl ?_ | (refine exv_call rfl ?_; apply Exists.intro))
                refine exv_call rfl ⟨undef, ?_⟩
                refine exv_call rfl ⟨undef, ?_⟩
                iterate 6 (first | refine exv_skip rfl ?_ | (refine exv_call rfl ?_; apply Exists.intro))
                refine exv_nil ?_
                intro γ gv hsv hinj hbase
                obtain ⟨g3, k3, e3⟩ := hsv 6 rfl
                obtain ⟨p8, e4⟩ := hsv 7 rfl
                (repeat (refine rel_quietW hcur rfl ?_; (first | go_big_quiet_skip | (go_big_quiet_want; go_big_quiet_op; go_big_quiet_on)); refine wpQuiet_nil ?_))
                refine rel_callv #[.agg (pthC n J p7)] (enters_of Tryz.func18 (by kernel_rfl) rfl) rfl e3 rfl rfl rfl rfl (fits_nil (stab_kk _ _ _)) (by first | kernel_rfl | simp [go_sem]) ?_ ?_
                · intro W hC hF
                  refine (cPb.out _ J p7 _ HGu.out hJ (hC.pth hcur HP.out)).mono ?_
                  rintro e w9 ⟨g9, c9, rfl, hK, hb9⟩
                  exact ⟨_, rfl, ⟨g9, c9, rfl⟩, fun g8 c8 e8 => by cases e8; exact hK, hb9⟩
                ((first | go_big_quiet_skip | (go_big_quiet_want; go_big_quiet_op; go_big_quiet_on)); refine wpQuiet_nil ?_)
                (repeat (refine rel_quietW hcur rfl ?_; (first | go_big_quiet_skip | (go_big_quiet_want; go_big_quiet_op; go_big_quiet_on)); refine wpQuiet_nil ?_))
                refine rel_callv #[.agg (pthC n kk p), .int .i64 (J : Int), .slice (some ⟨g3, 0, none⟩) (dN n J) k3] (enters_of Tryz.func17 (by kernel_rfl) rfl) rfl e4 rfl rfl rfl rfl (fits_one (stab_pt _ _ _ _) (stab_kk _ _ _) rfl rfl (fits_nil (stab_pt _ _ _ _))) (by first | kernel_rfl | simp [go_sem]) ?_ ?_
                · intro W hC hF
                  have hK3 : Row32 24 W g3 (dN n J) (pbF (updL L J x) n J) := known hF (List.mem_cons_self ..) (by decide +kernel) g3 k3 rfl
                  refine (cTk.out L J kk x p _ k3 _ HL.out hJ hkn hkJ HX.out (hC.pth hcur HPq.out) hK3.k32 (hTT.out.later (hC.below hG hzA))).mono ?_
                  rintro e w9 ⟨p9, rfl, hp9, hb9⟩
                  exact ⟨_, rfl, ⟨p9, rfl⟩, pt_of hp9, hb9⟩
                ((first | go_big_quiet_skip | (go_big_quiet_want; go_big_quiet_op; go_big_quiet_on)); refine wpQuiet_nil ?_)
                (repeat (refine rel_quietW hcur rfl ?_; (first | go_big_quiet_skip | (go_big_quiet_want; go_big_quiet_op; go_big_quiet_on)); refine wpQuiet_nil ?_))
                refine rel_storeW p8 hcur hcs rfl rfl rfl (hst p8) (fits_cons ⟨stab_pt_at _ _ _ _ _, stab_full _ _ _⟩ (fits_cons ⟨stab_kk_at _ _ _ _, stab_full _ _ _⟩ (fits_nil (stab_full _ _ _)))) ?_
                (repeat (refine rel_quietW hcur rfl ?_; (first | go_big_quiet_skip | (go_big_quiet_want; go_big_quiet_op; go_big_quiet_on)); refine wpQuiet_nil ?_))
                refine rel_nilW p8 hcur (List.mem_cons_self ..) fun mq hF => ?_
                simp only [List.forall_mem_cons] at hF
                obtain ⟨-, f4, -⟩ := hF
                have eA0 := hA2 p8 mq (f4 p8 rfl)
                have hbz : Below (w161.setRow gA (cs p8)).heap.size (w161.setRow gA (cs p8)) (more (w161.setRow gA (cs p8)) mq) := below_more _ mq
                have eM : Hid (Row64 (more (w161.setRow gA (cs p8)) mq) gM m (prF (updL L J x) n)) := hid1 ((HM.out.by (objAt_setRow_ne _ _ _ _ (row_path hcur HM.out))).later hbz)
                have eP : Hid (PthAt (more (w161.setRow gA (cs p8)) mq) (updL L J x) n J p7) := hid1 ((HP.out.grown (grownBy_setRow _ _ _) (off_path hcur)).later hbz)
                have eT : objAt (more (w161.setRow gA (cs p8)) mq) gT = some (.cells (turnsC (A : Int) s (B : Int) t) 38) := keep_more mq (keep_setRow _ _ fT nT)
                have eu : objAt (more (w161.setRow gA (cs p8)) mq) gu = some (.cells (turnC (J : Int) x) 38) := keep_more mq (keep_setRow _ _ fu nu)
                have ey : objAt (more (w161.setRow gA (cs p8)) mq) gy = some (.cells (pthC n J p7) 33) := keep_more mq (keep_setRow _ _ fy ny)
                have eq : objAt (more (w161.setRow gA (cs p8)) mq) gq = some (.cells #[.slice (some ⟨gM, 0, none⟩) m cM] 28) := keep_more mq (keep_setRow _ _ fq nq)
                have eG : Below w.heap.size w (more (w161.setRow gA (cs p8)) mq) := Grew.more (Grew.setRow hG _ _ hzA) mq
                have eA : Hid (AllAt (more (w161.setRow gA (cs p8)) mq) gA n n (fun i => if i < kk + 1 then updL L J x else L)) := hid1 (eA0.congr fun i _ => by
                  show (if i = kk then updL L J x else if i < kk then updL L J x else L) = _
                  by_cases e1 : i = kk
                  · rw [if_pos e1, if_pos (by omega)]
                  · rw [if_neg e1]
                    by_cases e2 : i < kk
                    · rw [if_pos e2, if_pos (by omega)]
                    · rw [if_neg e2, if_neg (by omega)])
                clear eA0 hA2 HM HP HA HPq hG fT fu fy fq fc lfT lfu lfy lfq lfc nT nu nq ny nc f4 hinj hbase hsv e3 e4 hst hcs hbz hcur lcur
                generalize more (w161.setRow gA (cs p8)) mq = w200 at *
                clear γ gv
                go_wp2
                go_roundw
                case rel => first | exact ⟨kk + 1, by omega, by go_num, eG, eq, eT, eu, ey, eM, eP, eA⟩ | ((repeat' apply Exists.intro) <;> first | exact ⟨⟨kk + 1, by omega, by go_num, eG, eq, eT, eu, ey, eM, eP, eA⟩, rfl⟩ | exact undef)
                case measure => (simp [intOf] <;> omega)
            · obtain rfl : n = kk := by omega
              have HA1 : Hid (AllAt w160 gA n n (fun _ => updL L J x)) := hid1 (HA.out.congr fun i hi => if_pos hi)
              clear HA HP hkn
              go_wp2_with fail
              go_loopw [145, 25, 26] (fun i _ _ wr => ∃ kk : Nat, kk ≤ n ∧ i = .int .i64 kk ∧ Below w160.heap.size w160 wr) (fun i _ _ _ => n - (intOf i).toNat)
              case atStart => exact ⟨0, by omega, rfl, Grew.refl _⟩
              case round =>
                obtain ⟨kk, hk2, rfl, hM2⟩ := hrel
                by_cases hkn : kk < n
                · have hG0 := hG
                  clear lfT lfu lfy
                  replace fq := keep_below hM2 fq
                  replace HM := hid1 (HM.out.later hM2)
                  replace HA1 := hid1 (HA1.out.later hM2)
                  replace lfq := lt_of_objAt fq
                  replace hG := Grew.trans hG hM2
                  obtain ⟨p, lp, hp⟩ := HA1.out.load hkn
                  have l2 := lp wr (Grew.refl _)
                  have hk1 : (kk : Int) < (n : Int) := by omega
                  have hk0 : (0 : Int) ≤ (kk : Int) := by omega
                  have HPq : Hid (PthAt wr (updL L J x) n kk p) := hp
                  clear lp hp
                  go_wp2_with fail
                  have hb : Below wr.heap.size wr (wr.alloc (.cells (pthC n kk p) 33)) := Grew.alloc (Grew.refl _) _
                  have hM4 := Grew.trans hM2 hb
                  have fc : objAt (wr.alloc (.cells (pthC n kk p) 33)) wr.heap.size = some (.cells (pthC n kk p) 33) := objAt_alloc_at _ _ _ rfl
                  replace fq := keep_below hb fq
                  replace HM := hid1 (HM.out.later hb)
                  replace HA1 := hid1 (HA1.out.later hb)
                  replace HPq := hid1 (HPq.out.later hb)
                  replace lfq := lt_of_objAt fq
                  replace hG := Grew.trans hG hb
                  clear hb
                  generalize wr.alloc (.cells (pthC n kk p) 33) = w301 at *
                  generalize wr.heap.size = gc at *
                  have lfc := lt_of_objAt fc
                  clear l2
                  have hsm := same_refl 32 (R (updL L J x))
                  go_wp2_with fail
                  refine wp_relv (fun k => k == 11 || k == 14) (fun k => match k with | 11 => fun u => KSl (dN n kk) u | 14 => fun u => KSl (dN n kk) u | _ => fun _ => True) (fun k => match k with | 11 => fun u w => KAt (dN n kk) (copF (updL L J x) n kk) u w | 14 => fun u w => KAt (dN n kk) (copF (updL L J x) n kk) u w | _ => fun _ _ => True) (fun k => match k with | 11 => .slice none (dN n kk) 0 | 14 => .slice none (dN n kk) 0 | _ => undef) (fun i hi => ?_) (by kernel_rfl) (by kernel_rfl) ?_
                  · simp only [Bool.or_eq_true, beq_iff_eq] at hi
                    rcases hi with rfl | rfl
                    · exact ⟨none, 0, rfl⟩
                    · exact ⟨none, 0, rfl⟩
                  iterate 11 (first | refine exv_skip rfl ?_ | (refine exv_call rfl ?_; apply Exists.intro))
                  refine exv_call rfl ⟨undef, ?_⟩
                  iterate 2 (first | refine exv_skip rfl ?_ | (refine exv_call rfl ?_; apply Exists.intro))
                  refine exv_call rfl ⟨undef, ?_⟩
                  iterate 3 (first | refine exv_skip rfl ?_ | (refine exv_call rfl ?_; apply Exists.intro))
                  refine exv_nil ?_
                  intro γ gv hsv hinj hbase
                  obtain ⟨o1, k1, e1⟩ := hsv 11 rfl
                  obtain ⟨o2, k2, e2⟩ := hsv 14 rfl
                  (repeat (first | (refine rel_quiet rfl ?_; ((first | go_big_quiet_skip | (go_big_quiet_want; go_big_quiet_op; go_big_quiet_on)); refine wpQuiet_nil ?_)) | ((first | refine rel_skip_some rfl (fun _ => rfl) ?_ | (apply rel_fact; (focus rfl); (focus rfl); (focus rfl); (focus (intro W hC hF; (have hbW : Below w301.heap.size w301 W := by obtain ⟨mm, rfl⟩ := hC; exact below_more w301 mm); go_big_quiet_want; go_big_quiet_op; (first | go_big_quiet_on | (apply Exists.intro; refine ⟨fun _ => ?_, ?_⟩; (focus (first | (with_reducible exact Calls.of_more (cPr.out _ kk p _ HGu.out hkn (HPq.out.later (Grew.more hbW _)))) | (with_reducible exact Calls.of_more (cRt.out _ gM cM _ HGu.out (HM.out.later (Grew.more hbW _)))))); go_big_quiet_on)); exact wpQuiet_nil rfl)); (focus (first | exact fun _ => ⟨rfl, rfl⟩ | exact fun h => absurd h (by decide))))); ((first | go_big_quiet_skip | (go_big_quiet_want; go_big_quiet_op; go_big_quiet_on)); refine wpQuiet_nil ?_)) | refine rel_skip_none rfl (fun _ => rfl) ?_))
                  refine rel_callv #[.agg (pthC n kk p)] (enters_of Tryz.func20 (by kernel_rfl) rfl) rfl e1 rfl rfl rfl rfl (fits_nil (stab_kat _ _ _)) (by first | kernel_rfl | simp [go_sem]) ?_ ?_
                  · intro W hC hF
                    obtain ⟨mm, rfl⟩ := hC
                    refine (cCo.out _ kk p _ hkn (HPq.out.later (below_more _ mm))).mono ?_
                    rintro e w9 ⟨oa, cc, rfl, hK, hb9⟩
                    exact ⟨_, rfl, ⟨oa, cc, rfl⟩, fun oa2 c2 e2 => by cases e2; exact hK, hb9⟩
                  ((first | go_big_quiet_skip | (go_big_quiet_want; go_big_quiet_op; go_big_quiet_on)); refine wpQuiet_nil ?_)
                  (repeat (first | (refine rel_quiet rfl ?_; ((first | go_big_quiet_skip | (go_big_quiet_want; go_big_quiet_op; go_big_quiet_on)); refine wpQuiet_nil ?_)) | ((first | refine rel_skip_some rfl (fun _ => rfl) ?_); ((first | go_big_quiet_skip | (go_big_quiet_want; go_big_quiet_op; go_big_quiet_on)); refine wpQuiet_nil ?_)) | refine rel_skip_none rfl (fun _ => rfl) ?_))
                  refine rel_callv #[.agg #[.slice (some ⟨gM, 0, none⟩) m cM], .int .i64 (kk : Int)] (enters_of Tryz.func12 (by kernel_rfl) rfl) rfl e2 rfl rfl rfl rfl (fits_one (stab_kat _ _ _) (stab_kat _ _ _) rfl rfl (fits_nil (stab_kat _ _ _))) (by first | kernel_rfl | simp [go_sem]) ?_ ?_
                  · intro W hC hF
                    obtain ⟨mm, rfl⟩ := hC
                    refine (cCp.out _ kk gM cM _ HGu.out hkn (HM.out.later (below_more _ mm))).mono ?_
                    rintro e w9 ⟨oa, cc, rfl, hK, hb9⟩
                    exact ⟨_, rfl, ⟨oa, cc, rfl⟩, fun oa2 c2 e2 => by cases e2; exact hK.1, hb9⟩
                  ((first | go_big_quiet_skip | (go_big_quiet_want; go_big_quiet_op; go_big_quiet_on)); refine wpQuiet_nil ?_)
                  (repeat (first | (refine rel_quiet rfl ?_; ((first | go_big_quiet_skip | (go_big_quiet_want; go_big_quiet_op; go_big_quiet_on)); refine wpQuiet_nil ?_)) | ((first | refine rel_skip_some rfl (fun _ => rfl) ?_ | (apply rel_fact; (focus rfl); (focus rfl); (focus rfl); (focus (intro W hC hF; (have hbW : Below w301.heap.size w301 W := by obtain ⟨mm, rfl⟩ := hC; exact below_more w301 mm); (try (have hE1 : K32At W o1 (dN n kk) (copF (updL L J x) n kk) := known hF (List.mem_cons_of_mem _ (List.mem_cons_self ..)) (by decide +kernel) o1 k1 rfl)); (try (have hE2 : K32At W o2 (dN n kk) (copF (updL L J x) n kk) := known hF (List.mem_cons_self ..) (by decide +kernel) o2 k2 rfl)); go_big_quiet_want; go_big_quiet_op; (first | go_big_quiet_on | (apply Exists.intro; refine ⟨fun _ => ?_, ?_⟩; (focus ((exact Calls.of_more (equalK_any _ _ (dN n kk) _ _ (copF (updL L J x) n kk) _ (Nat.le_trans (HDN.out kk) (by decide)) (hE1.later (below_more W _)) (hE2.later (below_more W _)))))); go_big_quiet_on)); exact wpQuiet_nil rfl)); (focus (first | exact fun _ => ⟨rfl, rfl⟩ | exact fun h => absurd h (by decide))))); ((first | go_big_quiet_skip | (go_big_quiet_want; go_big_quiet_op; go_big_quiet_on)); refine wpQuiet_nil ?_)) | refine rel_skip_none rfl (fun _ => rfl) ?_))
                  (refine rel_nil ?_; rintro _ ⟨mq, rfl⟩ hF; simp only [List.forall_mem_cons] at hF; obtain ⟨-, -⟩ := hF)
                  have hM5 : Below w160.heap.size w160 (more w301 mq) := Grew.more hM4 mq
                  clear hinj hbase hsv e1 e2 hM4 HPq fc lfc
                  generalize more w301 mq = w330 at *
                  clear γ gv
                  go_wp2
                  go_roundw
                  case rel => first | exact ⟨kk + 1, by omega, by go_num, hM5⟩ | ((repeat' apply Exists.intro) <;> first | exact ⟨⟨kk + 1, by omega, by go_num, hM5⟩, rfl⟩ | exact undef)
                  case measure => (simp [intOf] <;> omega)
                · obtain rfl : n = kk := by omega
                  have eA : Hid (AllAt wr gA n n (fun _ => updL L J x)) := HA1.out.later hM2
                  have eM : Hid (Row64 wr gM m (prF (updL L J x) n)) := HM.out.later hM2
                  have eq := keep_below hM2 fq
                  have eT := keep_below hM2 fT
                  have eG := Grew.trans hG hM2
                  clear HA1 HM fq fT fu fy hG lfq lfT lfu lfy
                  go_wp2
                  go_roundw
                  case rel => first | exact ⟨r + 1, gM, cM, _, by omega, by go_num, rfl, HGu, eG, eq, eM, eA, eT⟩ | ((repeat' apply Exists.intro) <;> first | exact ⟨⟨r + 1, gM, cM, _, by omega, by go_num, rfl, HGu, eG, eq, eM, eA, eT⟩, rfl⟩ | exact undef)
                  case measure => (simp [intOf] <;> omega)
        · obtain rfl : r = 2 := by omega
          go_wp2
          go_ret
          exact ⟨rfl, hG⟩
end Go.Proofs.YtonmancgalencaaGreatDoor
namespace Go.Proofs.YtonmancgalencaaGreatDoor
open Go.RowKit
set_option linter.unusedVariables false
set_option linter.unusedSimpArgs false

theorem mod_of' (A n : Nat) : ((A : Int)).tmod (n : Int) = ((A % n : Nat) : Int) := by first | rfl | simp [Int.tmod_eq_emod_of_nonneg]
theorem depth_pos (n J : Nat) (h2 : 2 ≤ n) (hJ : J < n) : 0 < dN n J := by
  unfold dN
  rcases Nat.eq_zero_or_pos (copathN n J).length with h | h
  · have e1 := path_last n J
    rw [h, path_first n J (by omega) hJ] at e1
    have e2 := congrArg (fun v : Option Nd => (v.map (·.s)).getD 0) e1
    simp at e2
    omega
  · exact h
theorem up_root (L : Nat → Nat → Int) (n i : Nat) (hL : GoodL n L) (h1 : 1 ≤ n) (hi : i < n) : climbOK (L i) (copF L n i) (dN n i) = true ∧ climbS (L i) (copF L n i) (dN n i) = treeF L n 0 := by
  obtain ⟨c, d⟩ := climb_tree L n i hL h1 hi _ (Nat.le_refl _)
  exact ⟨c, by rw [treeF_root]; exact d ⟨0, n⟩ (path_last n i)⟩
/-- whoever renews its leaf -/
theorem up_own (L : Nat → Nat → Int) (n J : Nat) (x : Nat → Int) (h1 : 1 ≤ n) (hJ : J < n) : ∀ k, k ≤ dN n J → climbS x (copF L n J) k = climbS (updL L J x J) (copF (updL L J x) n J) k ∧ climbOK x (copF L n J) k = climbOK (updL L J x J) (copF (updL L J x) n J) k := fun k hk => by
  rw [updL_at]
  exact climb_congr k fun i hi => (copF_own L n J x h1 hJ i (Nat.lt_of_lt_of_le hi hk)).symm
/-- whoever takes that -/
theorem up_take (L : Nat → Nat → Int) (n J i : Nat) (x : Nat → Int) (hL : GoodL n L) (hx : Bytes 32 x) (h1 : 1 ≤ n) (hJ : J < n) (hi : i < n) (hne : i ≠ J) (k : Nat) (hk : k < dN n i) : takeF (copF L n i) (pbF (updL L J x) n J) n i J k = copF (updL L J x) n i k := by
  obtain ⟨i0, k0, v, e1, e2, e3, e4, e5, e6, e7⟩ := take_one n i J h1 hi hJ (Ne.symm hne)
  rw [e7 _ _ k hk]
  exact take_tree L n i J x hL hx h1 hi hJ (Ne.symm hne) i0 k0 v e1 e2 e3 e5 (pbF (updL L J x) n J) (fun k hk => congrArg pubF (up_own L n J x h1 hJ k (Nat.le_of_lt hk)).1.symm) k hk
attribute [local irreducible] nodeF labelF oneF macF shaF strOf keyV shV pubV upF upOK pubF
set_option maxRecDepth 100000 in
set_option maxHeartbeats 4000000 in
theorem pathMeets_any (aw : ∀ W : World, Tabs W → Calls Tryz.prog 9 #[] W fun e w' => e = .returned (.bool true) ∧ Below W.heap.size W w') (L0 : Nat → Nat → Int) (oa : Option Addr) (n c : Nat) (la lb : Int) (s t : Nat → Int) (w : World) (gL : ∀ i, i < n → Bytes 32 (L0 i)) (hs : Bytes 32 s) (ht : Bytes 32 t) (hl0 : 0 ≤ la) (hl1 : la ≤ 255) (hm0 : 0 ≤ lb) (hm1 : lb ≤ 255) (hK : K32At w oa n L0) (hT : Tabs w) :
    Calls Tryz.prog 3 #[.slice oa n c, .int .u8 la, .int .u8 lb, .agg (ints .u8 32 s), .agg (ints .u8 32 t)] w fun e w' => e = .returned (.bool true) ∧ Below w.heap.size w w' := by
  by_cases h2 : 2 ≤ n
  case neg =>
    clear hK
    have hTT : Hid (Tabs w) := hT
    clear hT
    have hn2 : (n : Int) < 2 := by omega
    have hG := Grew.refl w
    have fs : True := trivial
    have ft : True := trivial
    go_enter Tryz.func3, Tryz.ntmps3
    go_wp2_with fail
    replace fs : objAt ((w.alloc (.cells (ints .u8 32 (s)) 24)).alloc (.cells (ints .u8 32 (t)) 24)) (w.heap.size) = some (.cells (ints .u8 32 (s)) 24) := by exact keep_auto
    replace ft : objAt ((w.alloc (.cells (ints .u8 32 (s)) 24)).alloc (.cells (ints .u8 32 (t)) 24)) (w.heap.size + 1) = some (.cells (ints .u8 32 (t)) 24) := by exact keep_auto
    replace hG : Below w.heap.size w ((w.alloc (.cells (ints .u8 32 (s)) 24)).alloc (.cells (ints .u8 32 (t)) 24)) := by exact grew_auto
    generalize (w.alloc (.cells (ints .u8 32 (s)) 24)).alloc (.cells (ints .u8 32 (t)) 24) = w1 at *
    have lfs := lt_of_objAt fs
    have lft := lt_of_objAt ft
    go_wp2_with fail
    refine (aw _ (hTT.out.later hG)).mono ?_
    rintro e w2 ⟨rfl, hb⟩
    replace fs := keep_below hb fs
    replace ft := keep_below hb ft
    replace lfs := lt_of_objAt fs
    replace lft := lt_of_objAt ft
    replace hG := Grew.trans hG hb
    clear hb
    go_wp2
    go_ret
    exact ⟨rfl, hG⟩
  by_cases h9 : n ≤ 9
  case neg =>
    clear hK
    have hTT : Hid (Tabs w) := hT
    clear hT
    have hn2 : ¬ ((n : Int) < 2) := by omega
    have hn9 : (9 : Int) < (n : Int) := by omega
    have hG := Grew.refl w
    have fs : True := trivial
    have ft : True := trivial
    go_enter Tryz.func3, Tryz.ntmps3
    go_wp2_with fail
    replace fs : objAt ((w.alloc (.cells (ints .u8 32 (s)) 24)).alloc (.cells (ints .u8 32 (t)) 24)) (w.heap.size) = some (.cells (ints .u8 32 (s)) 24) := by exact keep_auto
    replace ft : objAt ((w.alloc (.cells (ints .u8 32 (s)) 24)).alloc (.cells (ints .u8 32 (t)) 24)) (w.heap.size + 1) = some (.cells (ints .u8 32 (t)) 24) := by exact keep_auto
    replace hG : Below w.heap.size w ((w.alloc (.cells (ints .u8 32 (s)) 24)).alloc (.cells (ints .u8 32 (t)) 24)) := by exact grew_auto
    generalize (w.alloc (.cells (ints .u8 32 (s)) 24)).alloc (.cells (ints .u8 32 (t)) 24) = w1 at *
    have lfs := lt_of_objAt fs
    have lft := lt_of_objAt ft
    go_wp2_with fail
    refine (aw _ (hTT.out.later hG)).mono ?_
    rintro e w2 ⟨rfl, hb⟩
    replace fs := keep_below hb fs
    replace ft := keep_below hb ft
    replace lfs := lt_of_objAt fs
    replace lft := lt_of_objAt ft
    replace hG := Grew.trans hG hb
    clear hb
    go_wp2
    go_ret
    exact ⟨rfl, hG⟩
  obtain ⟨ad, rfl⟩ := hK.addr (by omega)
  obtain ⟨A, rfl⟩ : ∃ A : Nat, la = (A : Int) := ⟨la.toNat, by omega⟩
  obtain ⟨B, rfl⟩ : ∃ B : Nat, lb = (B : Int) := ⟨lb.toNat, by omega⟩
  have h1 : 1 ≤ n := by omega
  have hn : n ≤ 1024 := by omega
  have hm : 2 * n - 1 + 1 = 2 * n := by omega
  have hdn : ∀ i, dN n i ≤ 1000 := fun i => Nat.le_trans (copath_depth n i hn) (by decide)
  exact meets_core (ad := ad) (n := n) (c := c) (m := 2 * n - 1) (A := A % n) (B := B % n) (la := A) (lb := B) (s := s) (t := t) (L0 := L0) (R := fun L => treeF L n 0) (w := w) (hT := hT) (hK0 := hK) (h2 := h2) (h9 := h9) (hA := Nat.mod_lt _ (by omega)) (hB := Nat.mod_lt _ (by omega)) (hla := mod_of' A n) (hlb := mod_of' B n) (hl0 := hl0) (hl1 := hl1) (hm0 := hm0) (hm1 := hm1) (hs := hs) (ht := ht) (gL := gL) (hdn := hdn) (aw := aw)
    (cMk := fun W h hT => bMake_any L0 (some ad) n (2 * n - 1) c W hm h2 hn gL h hT)
    (cCp := fun L i g c2 W gL hi h => by
      have := bCopathK_any (treeF L n) (fun j => pubF (treeF L n j)) g (2 * n - 1) c2 n (i : Int) W hm h1 hn (by omega) (by omega) h
      rw [copathI_some h1 hn hi] at this
      exact this.mono fun e w' ⟨oa, c, a, b, hb⟩ => ⟨oa, c, a, ⟨b.1.congr fun k hk => cpF_tree L n i h1 hn k hk, b.2⟩, hb⟩)
    (cPm := fun i o cc W hi h hT => (pmakeK_yes (L0 i) (copF L0 n i) o n i (dN n i) cc W h2 hn hi rfl (gL i hi) (fun k _ => copF_bytes _ _ _ _) (up_root L0 n i gL h1 hi).1 h hT).mono fun e w' ⟨oS, cS, gC, cC, a, b, c, hb⟩ => ⟨⟨oS, cS, gC, cC⟩, by rw [a, ← pthC_lit], ⟨b, c⟩, hb⟩)
    (cRt := fun L g c2 W gL h => bRoot_any (treeF L n) (fun j => pubF (treeF L n j)) g (2 * n - 1) c2 W (by omega) (by omega) h)
    (cPr := fun L i p W gL hi hp => by
      have := pathRoot_any (n : Int) (i : Int) p.oS (some ⟨p.gC, 0, none⟩) (dN n i) p.kS (dN n i) p.kC _ W (hdn i) hp.1.1
      rw [(up_root L n i gL h1 hi).2] at this
      rw [← pthC_lit]
      exact this)
    (cRn := fun L J x p W gL hJ hx hp hT => by
      rw [← pthC_lit]
      refine (prenew_yes x n J p.oS (some ⟨p.gC, 0, none⟩) (dN n J + 1) p.kS (dN n J) p.kC (dN n J) (climbS x (copF L n J)) (copF L n J) W fun W' hb => pmakeK_yes x (copF L n J) _ n J (dN n J) p.kC W' h2 hn hJ rfl hx (fun k _ => copF_bytes _ _ _ _) ?_ (hp.2.k32.later hb) (hT.later hb)).mono fun e w' ⟨oS, cS, gC, cC, a, b, c, hb⟩ => ⟨⟨oS, cS, gC, cC⟩, by rw [a, ← pthC_lit], ⟨⟨b.1.congr fun k hk => (up_own L n J x h1 hJ k (by omega)).1, b.2⟩, c.congr fun k hk => (copF_own L n J x h1 hJ k hk).symm⟩, hb⟩
      rw [(up_own L n J x h1 hJ _ (Nat.le_refl _)).2]
      exact (up_root _ n J (gL.upd J hx) h1 hJ).1)
    (cRe := fun L J x g c2 W gL hJ hx h hT => bReplace_any L g (2 * n - 1) c2 n J x W hm h2 hn hJ gL hx h hT)
    (cPb := fun L J p W gL hJ hp => by
      rw [← pthC_lit]
      exact pathPublicsR_any n J p.oS (some ⟨p.gC, 0, none⟩) (dN n J) p.kS p.kC (climbS (L J) (copF L n J)) W (depth_pos n J h2 hJ) (hdn J) (fun i _ => climb_bytes (L J) _ (gL J hJ) i) hp.1.1)
    (cTk := fun L J i x p o cc W gL hJ hi hne hx hp hK hT => by
      have hT1 := fun k hk => up_take L n J i x gL hx h1 hJ hi hne k hk
      have e1 : updL L J x i = L i := updL_other L x hne
      rw [← pthC_lit]
      refine (ptakeT_yes n i J (dN n i) (dN n J) p.kS p.kC cc p.oS (some ⟨p.gC, 0, none⟩) o (climbS (L i) (copF L n i)) (copF L n i) (pbF (updL L J x) n J) W hT h2 hn hi hJ (Ne.symm hne) rfl rfl (gL i hi) (fun k _ => copF_bytes _ _ _ _) (fun k _ => pubF_bytes _) ?_ hp.1.1 hp.2.k32 hK).mono fun e w' ⟨oS, cS, gC, cC, a, b, c, hb⟩ => ⟨⟨oS, cS, gC, cC⟩, by rw [a, ← pthC_lit], ⟨⟨b.1.congr fun k hk => ?_, b.2⟩, c.congr hT1⟩, hb⟩
      · rw [(climb_congr (dN n i) hT1).2]
        have := (up_root _ n i (gL.upd J hx) h1 hi).1
        rw [e1] at this
        exact this
      · rw [e1]
        exact (climb_congr k fun q hq => hT1 q (by omega)).1)
    (cCo := fun L i p W hi hp => by
      rw [← pthC_lit]
      exact pathCopath_any n i p.oS (some ⟨p.gC, 0, none⟩) (dN n i + 1) p.kS (dN n i) p.kC (copF L n i) W (depth_pos n i h2 hi) (hdn i) hp.2.k32)
end Go.Proofs.YtonmancgalencaaGreatDoor
namespace Go.Proofs.YtonmancgalencaaGreatDoor
open Go.ChangeShapes Go.WideShapes Go.ChangeAt Go.RowKit
open Go.ChangeMaps (open_string shut_string)
set_option linter.unusedVariables false
set_option linter.unusedSimpArgs false

set_option maxRecDepth 100000 in
theorem pathMeets_lifted (os : Os) (started : os.Started) (H : Type) (enc : TypeId × Value → H) :
    ReturnsInHanded {} Tryz.checked os 3 .any (fun w args => (Rows.pathMeetsSpec.pre enc Tryz.prog Tryz.f3 [] false w args ∧ laidMetH Tryz.prog Rows.pathMeetsRow.laid w) ∧ sizedMet enc Tryz.prog Tryz.f3 (OpenSpec.ofChange Rows.pathMeetsSpec) false w args)
      (Rows.pathMeetsSpec.post enc Tryz.prog Tryz.f3 false true false false) := by
  refine returnsInHanded_of_change_and (C := Tryz.checked) (X := fun w _ => laidMetH Tryz.prog Rows.pathMeetsRow.laid w) (fun _ _ _ hh h => h.of_heap hh) own started (by kernel_rfl) Tryz.func3
    (ChangeSpec.witness_shaped (enc := enc) (C := Tryz.checked) (os := os) (X := fun w _ => laidMetH Tryz.prog Rows.pathMeetsRow.laid w) false (World.laidAll Tryz.prog os Rows.pathMeetsRow.laid) #[.slice none 0 0, .int .u8 0, .int .u8 0, .agg (Array.replicate 32 (.int .u8 0)), .agg (Array.replicate 32 (.int .u8 0))] 8 (World.laidAll_os _ _ _)
      (World.shaped_of_ZipB (by kernel_rfl) (by kernel_rfl)) (by kernel_rfl) (by kernel_rfl) (by kernel_rfl)
      (by rw [MakeChecks.laidMetH_plain _ _ _ (by kernel_rfl)]; exact laidMet_laidAll _ (by kernel_rfl) (by kernel_rfl))) ?_
  intro W base args ds gs before hval0 hW _ _ hL _
  have hval : ∀ (j : Nat) t v, Tryz.f3.params[j]? = some t → args[j]? = some v → Value.okWide Tryz.prog W .any base t v := hval0
  have hW' := hW
  obtain ⟨p, q, hA0, hV, rfl, hfz, hnd⟩ := hW
  have hA : DataW.TrodAll enc Tryz.prog W 0 (fun _ => true) true Tryz.f3.params.toList args.toList ds p := hA0
  rw [Tryz.params3] at hA hval
  obtain ⟨v0, vs0, d0, ds0, p0, q0, hargs, rfl, rfl, h0, r0⟩ := trodAll_cons hA
  obtain ⟨v1, vs1, d1, ds1, p1, q1, rfl, rfl, rfl, h1, r1⟩ := trodAll_cons r0
  obtain ⟨v2, vs2, d2, ds2, p2, q2, rfl, rfl, rfl, h2, r2⟩ := trodAll_cons r1
  obtain ⟨v3, vs3, d3, ds3, p3, q3, rfl, rfl, rfl, h3, r3⟩ := trodAll_cons r2
  obtain ⟨v4, vs4, d4, ds4, p4, q4, rfl, rfl, rfl, h4, r4⟩ := trodAll_cons r3
  obtain ⟨rfl, rfl, rfl⟩ := trodAll_nil r4
  obtain rfl : args = #[v0, v1, v2, v3, v4] := by cases args; simp_all
  obtain ⟨rfl, rfl⟩ := trodVars_none hV
  have k0 := h0
  have lt0 : ∀ x ∈ p0, x.block < W.heap.size := by obtain ⟨m, hm⟩ := k0; exact DataW.trod_lt m _ _ _ hm
  have k1 := h1
  have lt1 : ∀ x ∈ p1, x.block < W.heap.size := by obtain ⟨m, hm⟩ := k1; exact DataW.trod_lt m _ _ _ hm
  have k2 := h2
  have lt2 : ∀ x ∈ p2, x.block < W.heap.size := by obtain ⟨m, hm⟩ := k2; exact DataW.trod_lt m _ _ _ hm
  have k3 := h3
  have lt3 : ∀ x ∈ p3, x.block < W.heap.size := by obtain ⟨m, hm⟩ := k3; exact DataW.trod_lt m _ _ _ hm
  have k4 := h4
  have lt4 : ∀ x ∈ p4, x.block < W.heap.size := by obtain ⟨m, hm⟩ := k4; exact DataW.trod_lt m _ _ _ hm
  obtain ⟨oa0, n0, c0, a0, rfl, b0, m0, w0⟩ := open_k32 (hval 0 22 v0 rfl rfl) h0
  obtain ⟨a1, rfl, _, _, w1⟩ := open_int Tryz.underlying5 (hval 1 5 v1 rfl rfl) h1
  obtain ⟨a2, rfl, _, _, w2⟩ := open_int Tryz.underlying5 (hval 2 5 v2 rfl rfl) h2
  obtain ⟨a3, rfl, w3⟩ := open_array Tryz.underlying24 Tryz.underlying5 (by kernel_rfl) (by kernel_rfl) (hval 3 24 v3 rfl rfl) h3
  obtain ⟨a4, rfl, w4⟩ := open_array Tryz.underlying24 Tryz.underlying5 (by kernel_rfl) (by kernel_rfl) (hval 4 24 v4 rfl rfl) h4
  clear hA0 hval0
  have hT := tabs_of_laid hL
  refine (pathMeets_any (fun W h => awake14_any (fun W h => Awake13_any (fun W h => awake13_any (fun W h => Awake12_any aw12 W h) W h) W h) W h) a0 oa0 n0 c0 a1 a2 a3 a4 W m0 (bytes_of_wf w3) (bytes_of_wf w4) (bounds_u8 w1).1 (bounds_u8 w1).2 (bounds_u8 w2).1 (bounds_u8 w2).2 w0 hT).mono fun e W' ⟨he, bel⟩ => ?_
  subst he
  exact ⟨_, rfl, _, _, _, [], _, [], hW', trodAll_mk1 (shut_bool Tryz.underlying4 _), (trodAll_cons_mk (Below.trod laidOut (by kernel_rfl) (of_decide_eq_true (by kernel_rfl)) k0 bel lt0) (trodAll_cons_mk (Below.trod laidOut (by kernel_rfl) (of_decide_eq_true (by kernel_rfl)) k1 bel lt1) (trodAll_cons_mk (Below.trod laidOut (by kernel_rfl) (of_decide_eq_true (by kernel_rfl)) k2 bel lt2) (trodAll_cons_mk (Below.trod laidOut (by kernel_rfl) (of_decide_eq_true (by kernel_rfl)) k3 bel lt3) (trodAll_cons_mk (Below.trod laidOut (by kernel_rfl) (of_decide_eq_true (by kernel_rfl)) k4 bel lt4) trodAll_mk0))))), rfl, bel.frame _, fun h => by cases h⟩
set_option maxRecDepth 100000 in
theorem pathMeets_closed : joinedFacts Tryz.prog 3 Tryz.f3 (Rows.pathMeetsSpec) Rows.pathMeetsRow = true := by
  first
  | (unfold joinedFacts; rw [may_enter, make_is, lifts_is]; first | (rw [norec 3 (by decide)]; kernel_rfl) | kernel_rfl)
  | kernel_rfl
set_option maxRecDepth 100000 in
theorem pathMeets_said : Rows.PathMeetsSaid :=
  OpenClaim.holds_of_wide 3 Tryz.f3 rfl rfl rfl rfl rfl rfl rfl ⟨rfl, rfl, rfl, rfl, rfl⟩ rfl rfl rfl rfl rfl (by kernel_rfl) Tryz.func3 (by first | exact pathMeets_closed | kernel_rfl)
    (of_decide_eq_true (by kernel_rfl)) (by unfold Func.isWrapper; first | (rw [if_pos (by decide +kernel)]; kernel_rfl) | (rw [if_neg (by decide +kernel)]; exact ⟨rfl, rfl⟩))
    (fun os started H enc _ => pathMeets_lifted os started H enc)
theorem pathMeets_card : Rows.PathMeetsCardSaid :=
  Claim7.holds_tied_plain_at .later [] _ _ _ _ pathMeets_said (fun _ h => by cases h) (by kernel_rfl) (fun _ h => by cases h) pathMeets_row_tie rfl ⟨rfl, rfl⟩ (by kernel_rfl) rfl
    (fun f fn hf hfn => by
      obtain rfl : f = 3 := Option.some.inj ((show Tryz.prog.funcNamed "sapwood/sapwoodlaw14.PathMeets" = some 3 by kernel_rfl).symm.trans hf) |>.symm
      obtain rfl : fn = Tryz.f3 := (Option.some.inj (Tryz.func3.symm.trans hfn)).symm
      exact ⟨by kernel_rfl, fun j t ht => by
        rw [Tryz.params3] at ht
        have hm : t ∈ [22, 5, 5, 24, 24] := by simpa using Array.mem_of_getElem? ht
        have hall : ([22, 5, 5, 24, 24].all fun u => !Tryz.prog.wantsStandIn u) = true := by kernel_rfl
        exact (show Tryz.prog.wantsStandIn t = false by simpa using List.all_eq_true.1 hall t hm)⟩)
    (by kernel_rfl)
end Go.Proofs.YtonmancgalencaaGreatDoor
