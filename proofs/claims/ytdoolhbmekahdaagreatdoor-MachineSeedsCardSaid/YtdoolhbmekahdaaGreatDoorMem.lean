/- Mem -/
import Derived.Test.YtdoolhbmekahdaaGreatDoorProg
import Derived.Test.YtdoolhbmekahdaaGreatDoorBase
import Derived.Deep.MidRow
namespace Go.Proofs.YtdoolhbmekahdaaGreatDoor
open Go.RowKit
set_option linter.unusedVariables false
set_option linter.unusedSimpArgs false
theorem wp_region_more {P : Program} {id : Nat} {Q : Exit → Act → World → Prop} {a : Act} {w : World} {l : List Oper} (hm : P.follows .mixedOrders = true) (hB : Region.lexB .any l.toArray = true)
  (h : wpQuiet P l.toArray (fun w' => ∃ m, w' = more w m) (fun a' => ∀ w', (∃ m, w' = more w m) → Q .normal a' w') l a) : (Code.region id l.toArray true).wp P Q a w :=
 wp_region_quiet (C := fun w' => ∃ m, w' = more w m) hm hB ⟨⟨w.drawn + 1, #[]⟩, by simp [more]⟩ (by simpa using h)
theorem wp_region_on {P : Program} {id : Nat} {Q : Exit → Act → World → Prop} {a : Act} {w : World} {m0 : More} {l : List Oper} (hm : P.follows .mixedOrders = true) (hB : Region.lexB .any l.toArray = true)
  (h : wpQuiet P l.toArray (fun w' => ∃ m, w' = more w m) (fun a' => ∀ w', (∃ m, w' = more w m) → Q .normal a' w') l a) : (Code.region id l.toArray true).wp P Q a (more w m0) :=
 wp_region_quiet (C := fun w' => ∃ m, w' = more w m) hm hB ⟨⟨m0.d + 1, m0.os⟩, rfl⟩ (by simpa using h)
def loadRow (P : Program) (t : TypeId) (v : Value) (w : World) : Result Value := (Instr.loadAt t v).run P w
def loadOf (P : Program) (t : TypeId) (g n : Nat) (w : World) : Option Obj → Result Value
 | some (.cells cs _ _) => if cs.size = n then .ok (.agg cs) w else if n ≤ cs.size then .ok (.agg (cs.extract 0 n)) w else (Instr.loadAt t (.pointer (some ⟨g, 0, none⟩))).run P w
 | _ => (Instr.loadAt t (.pointer (some ⟨g, 0, none⟩))).run P w
theorem load_part {P : Program} {t : TypeId} {n : Nat} {d : TypeDesc} (hu : P.underlying t = some d) (hd : (match d with | .struct _ | .array _ _ => true | _ => false) = true) (hi : (P.info? t).map (·.size) = some n) (g o : Nat) (w : World) (cs : Array Value) (t' : TypeId) (fr : Nat × Nat) (hg : w.heap[g]? = some (.cells cs t' fr)) (hn : o + n ≤ cs.size) :
  (Instr.loadAt t (.pointer (some ⟨g, o, none⟩))).run P w = .ok (.agg (cs.extract o (o + n))) w := by
 have h := run_loadAt_mid (P := P) w g o t (cs.extract o (o + n)).toList d (World.rangeAt_of_block hg o n) hu (by cases d <;> simp_all [TypeDesc.isRow]) (by rw [hi]; simp; omega)
 rw [h]
theorem loadRow_eq {P : Program} {t : TypeId} {n : Nat} {d : TypeDesc} (hu : P.underlying t = some d) (hd : (match d with | .struct _ | .array _ _ => true | _ => false) = true) (hi : (P.info? t).map (·.size) = some n) (g : Nat) (w : World) :
  loadRow P t (.pointer (some ⟨g, 0, none⟩)) w = loadOf P t g n w (objAt w g) := by
 show _ = loadOf P t g n w w.heap[g]?
 cases hg : w.heap[g]? with
 | none => rfl
 | some o =>
  cases o with
  | cells cs t' fr =>
   simp only [loadOf]
   by_cases hc : cs.size = n
   ·rw [if_pos hc]
    subst hc
    exact run_loadVar_row w g t' t cs fr d hg hu hd hi
   ·rw [if_neg hc]
    by_cases hl : n ≤ cs.size
    ·rw [if_pos hl]
     have h := load_part hu hd hi g 0 w cs t' fr hg (by omega)
     rw [Nat.zero_add] at h
     exact h
    ·rw [if_neg hl]; rfl
  | _ => rfl
theorem loadOf_cells {P : Program} {t : TypeId} {g n : Nat} {w : World} (cs : Array Value) (t' : TypeId) (fr : Nat × Nat) (h : cs.size = n) : loadOf P t g n w (some (.cells cs t' fr)) = .ok (.agg cs) w := by
 simp [loadOf, h]
def loadNext (ty : TypeId) (v : Value) : Sem Next := do pure (.value (← Instr.loadAt ty v))
def storeNext (ty : TypeId) (v x : Value) : Sem Next := do Instr.storeAt ty v x; pure .skip
theorem run_loadNext {P : Program} (ty : TypeId) (v : Value) (w : World) : (loadNext ty v).run P w = (loadRow P ty v w).andThen fun v w' => .ok (.value v) w' := by
 simp [loadNext, loadRow, Sem.run_bind]
def storeRow (P : Program) (t : TypeId) (a v : Value) (w : World) : Result Unit := (Instr.storeAt t a v).run P w
theorem run_storeNext {P : Program} (ty : TypeId) (v x : Value) (w : World) : (storeNext ty v x).run P w = (storeRow P ty v x w).andThen fun _ w' => .ok .skip w' := by
 simp [storeNext, storeRow, Sem.run_bind]
theorem op_load (ty : TypeId) (ρ : Operand → Value) (d : Option Tmp) (x : Operand) (t : TypeId) (pos : String) (af : Array Edge) (g : Option (Nat × Bool)) : execOp ρ ⟨d, .load ty x, t, pos, af, g⟩ = loadNext ty (ρ x) := rfl
theorem op_store (ty : TypeId) (ρ : Operand → Value) (d : Option Tmp) (x y : Operand) (t : TypeId) (pos : String) (af : Array Edge) (g : Option (Nat × Bool)) : execOp ρ ⟨d, .store ty x y, t, pos, af, g⟩ = storeNext ty (ρ x) (ρ y) := rfl
def oneCells (cs : Array Value) : Bool := cs.all (·.oneCell')
def storeOf (P : Program) (t : TypeId) (g n : Nat) (v : Value) (w : World) : Option Obj → Result Unit
 | some (.cells old _ (0, 0)) => match v with
  | .agg cs => if old.size = n ∧ cs.size = n ∧ oneCells cs = true then .ok () (w.setRow g cs) else if n ≤ old.size ∧ cs.size = n ∧ oneCells cs = true then .ok () (w.setRow g (putAll old 0 cs.toList)) else (Instr.storeAt t (.pointer (some ⟨g, 0, none⟩)) v).run P w
  | _ => (Instr.storeAt t (.pointer (some ⟨g, 0, none⟩)) v).run P w
 | _ => (Instr.storeAt t (.pointer (some ⟨g, 0, none⟩)) v).run P w
theorem store_part {P : Program} {t : TypeId} {n : Nat} (hi : (P.info? t).map (·.size) = some n) (g o : Nat) (w : World) (old cs : Array Value) (t' : TypeId) (hg : w.heap[g]? = some (.cells old t' (0, 0))) (hc : cs.size = n) (hn : o + n ≤ old.size) (h1 : oneCells cs = true) :
  (Instr.storeAt t (.pointer (some ⟨g, o, none⟩)) (.agg cs)).run P w = .ok () (w.setRow g (putAll old o cs.toList)) := by
 have h := run_storeAt_mid (P := P) w g o t cs (fun j hj => ⟨by rw [cell_of_row w g (o + j) _ _ _ hg]; simp; omega, frozen_of_row w g _ _ _ hg⟩) (by rw [hi, hc]) (by unfold oneCells at h1; exact h1)
 rw [h, setCells_row g t' _ o old w hg]
theorem storeRow_eq {P : Program} {t : TypeId} {n : Nat} (hi : (P.info? t).map (·.size) = some n) (g : Nat) (cs : Array Value) (w : World) :
  storeRow P t (.pointer (some ⟨g, 0, none⟩)) (.agg cs) w = storeOf P t g n (.agg cs) w (objAt w g) := by
 show _ = storeOf P t g n (.agg cs) w w.heap[g]?
 unfold storeOf
 split
 ·rename_i old t' hg
  split
  ·rename_i cs' e
   cases e
   split
   ·rename_i h
    obtain ⟨h1, h2, h3⟩ := h
    exact run_storeVar_row w g t' t old cs hg (by rw [hi, h2]) (by rw [h1, h2]) h3
   ·split
    ·rename_i h
     obtain ⟨h1, h2, h3⟩ := h
     exact store_part hi g 0 w old cs t' hg h2 (by omega) h3
    ·rfl
  ·rename_i hx
   exact (hx _ rfl).elim
 ·rfl
theorem storeOf_cells {P : Program} {t : TypeId} {g n : Nat} {w : World} (old cs : Array Value) (t' : TypeId) (h1 : old.size = n) (h2 : cs.size = n) (h3 : oneCells cs = true) :
  storeOf P t g n (.agg cs) w (some (.cells old t' (0, 0))) = .ok () (w.setRow g cs) := by
 simp only [storeOf]
 rw [if_pos ⟨h1, h2, h3⟩]
@[go_sem] theorem ints_size' (k : IntKind) (n : Nat) (f : Nat → Int) : (ints k n f).size = n := ints_size k n f
@[go_sem] theorem ints_at (k : IntKind) (n : Nat) (f : Nat → Int) (i : Nat) (h : i < (ints k n f).size) : (ints k n f)[i] = .int k (f i) := by simp [ints]
@[go_sem] theorem ints_ne (k : IntKind) (n : Nat) (f : Nat → Int) (h : n ≠ 0) : (ints k n f = #[]) = False := by
 simp only [eq_iff_iff, iff_false]
 intro e
 have := ints_size k n f
 rw [e] at this
 exact h this.symm
@[go_sem] theorem ints_one (k : IntKind) (n : Nat) (f : Nat → Int) : oneCells (ints k n f) = true := by
 unfold oneCells; rw [Array.all_eq_true]; intro i hi; simp [ints, Value.oneCell']
@[go_sem] theorem setRow_alloc_at (w : World) (c c' : Array Value) (t : TypeId) (n : Nat) (hn : n = w.heap.size) : (w.alloc (.cells c t)).setRow n c' = w.alloc (.cells c' t) := by
 subst hn
 unfold World.setRow World.alloc
 congr 1
 apply Array.ext_getElem?
 intro k
 simp only [Array.getElem?_modify, Array.getElem?_push]
 by_cases hk : k = w.heap.size
 ·subst hk; simp
 ·have hk' : ¬ w.heap.size = k := fun e => hk e.symm
  simp [hk, hk']
@[go_sem] theorem setRow_alloc_past (w : World) (o : Obj) (c' : Array Value) (n : Nat) (hn : n < w.heap.size) : (w.alloc o).setRow n c' = (w.setRow n c').alloc o := by
 unfold World.setRow World.alloc
 congr 1
 apply Array.ext_getElem?
 intro k
 simp only [Array.getElem?_modify, Array.getElem?_push, Array.size_modify]
 by_cases hk : k = w.heap.size
 ·subst hk; simp [Nat.ne_of_lt hn]
 ·simp [hk]
@[go_sem] theorem objAt_setRow_same (w : World) (g : Nat) (cs : Array Value) : objAt (w.setRow g cs) g = (match objAt w g with | some (.cells _ t fr) => some (.cells cs t fr) | o => o) := by
 unfold objAt World.setRow
 simp only [Array.getElem?_modify, if_pos]
 cases w.heap[g]? with
 | none => rfl
 | some o => cases o <;> rfl
@[go_sem] theorem objAt_setRow_other (w : World) (g n : Nat) (cs : Array Value) (h : n ≠ g) : objAt (w.setRow g cs) n = objAt w n := by
 unfold objAt World.setRow
 simp only [Array.getElem?_modify]
 rw [if_neg (fun e => h e.symm)]
theorem Grew.setRow {w w' : World} (h : Below w.heap.size w w') (g : Nat) (cs : Array Value) (hg : w.heap.size ≤ g) : Below w.heap.size w (w'.setRow g cs) :=
 h.trans ⟨rfl, rfl, rfl, by simp [World.setRow], fun k hk => by
  show ((w'.setRow g cs).heap)[k]? = _
  unfold World.setRow
  simp only [Array.getElem?_modify]
  rw [if_neg (by omega)]⟩
theorem keep_setRow {w : World} {n : Nat} {o : Obj} (g : Nat) (cs : Array Value) (h : objAt w n = some o) (hn : n ≠ g) : objAt (w.setRow g cs) n = some o := (objAt_setRow_other w g n cs hn).trans h
theorem keep_row {w : World} {n : Nat} {c : Array Value} {t : TypeId} {fr : Nat × Nat} (cs : Array Value) (h : objAt w n = some (.cells c t fr)) : objAt (w.setRow n cs) n = some (.cells cs t fr) := by
 rw [objAt_setRow_same, h]
theorem keep_auto {W : World} {g : Nat} {o : Obj} (h : objAt W g = some o := by (repeat (first | assumption | exact objAt_alloc_at _ _ _ rfl | (refine objAt_alloc_at _ _ _ ?_; (simp; done)) | refine keep_alloc _ ?_ | refine keep_drewN _ ?_ | refine keep_more _ ?_ | exact keep_row _ (by assumption) | apply keep_row | refine keep_setRow _ _ ?_ (by first | omega | (simp; omega) | simp)))) : objAt W g = some o := h
theorem grew_auto {a : Nat} {W w : World} (h : Below a W w := by (repeat (first | assumption | exact Grew.refl _ | refine Grew.more ?_ _ | refine Grew.alloc ?_ _ | refine Grew.drewN ?_ _ | refine Grew.setRow ?_ _ _ (by omega) | refine Grew.setRow ?_ _ _ (by simp; omega) | refine Grew.setRow ?_ _ _ (by simp)))) : Below a W w := h
@[go_sem] theorem setRow_drew (w : World) (c' : Array Value) (n : Nat) : w.drew.setRow n c' = (w.setRow n c').drew := rfl
@[go_sem] theorem setRow_drewN (w : World) (c' : Array Value) (n m : Nat) : (w.drewN m).setRow n c' = (w.setRow n c').drewN m := rfl
@[go_sem] theorem setRow_more (w : World) (c' : Array Value) (n : Nat) (m : More) (hn : n < w.heap.size) : (more w m).setRow n c' = more (w.setRow n c') m := by
 unfold World.setRow more
 congr 1
 apply Array.ext_getElem?
 intro k
 simp only [Array.getElem?_modify, Array.getElem?_append, Array.size_modify]
 by_cases hk : n = k
 ·subst hk; simp [hn]
 ·simp [hk]
@[go_sem] theorem setCell_more (w : World) (v : Value) (n i : Nat) (m : More) (hn : n < w.heap.size) : (more w m).setCell ⟨n, i, none⟩ v = more (w.setCell ⟨n, i, none⟩ v) m := by
 unfold World.setCell more
 congr 1
 apply Array.ext_getElem?
 intro k
 simp only [Array.getElem?_modify, Array.getElem?_append, Array.size_modify]
 by_cases hk : n = k
 ·subst hk; simp [hn]
 ·simp [hk]
@[go_sem] theorem setCell_drewN (w : World) (a : Addr) (v : Value) (m : Nat) : (w.drewN m).setCell a v = (w.setCell a v).drewN m := rfl
@[go_sem] theorem size_setRow' (w : World) (g : Nat) (cs : Array Value) : (w.setRow g cs).heap.size = w.heap.size := size_setRow w g cs
def loadMid (P : Program) (t : TypeId) (g o n : Nat) (w : World) : Option Obj → Result Value
 | some (.cells cs _ _) => if o + n ≤ cs.size then .ok (.agg (cs.extract o (o + n))) w else (Instr.loadAt t (.pointer (some ⟨g, o, none⟩))).run P w
 | _ => (Instr.loadAt t (.pointer (some ⟨g, o, none⟩))).run P w
theorem loadMid_eq {P : Program} {t : TypeId} {n : Nat} {d : TypeDesc} (hu : P.underlying t = some d) (hd : (match d with | .struct _ | .array _ _ => true | _ => false) = true) (hi : (P.info? t).map (·.size) = some n) (g o : Nat) (w : World) :
  loadRow P t (.pointer (some ⟨g, o, none⟩)) w = loadMid P t g o n w (objAt w g) := by
 show _ = loadMid P t g o n w w.heap[g]?
 cases hg : w.heap[g]? with
 | none => rfl
 | some ob =>
  cases ob with
  | cells cs t' fr =>
   simp only [loadMid]
   by_cases hc : o + n ≤ cs.size
   ·rw [if_pos hc]
    exact load_part hu hd hi g o w cs t' fr hg hc
   ·rw [if_neg hc]; rfl
  | _ => rfl
def storeMid (P : Program) (t : TypeId) (g o n : Nat) (v : Value) (w : World) : Option Obj → Result Unit
 | some (.cells old _ (0, 0)) => match v with
  | .agg cs => if o + n ≤ old.size ∧ cs.size = n ∧ oneCells cs = true then .ok () (w.setRow g (putAll old o cs.toList)) else (Instr.storeAt t (.pointer (some ⟨g, o, none⟩)) v).run P w
  | _ => (Instr.storeAt t (.pointer (some ⟨g, o, none⟩)) v).run P w
 | _ => (Instr.storeAt t (.pointer (some ⟨g, o, none⟩)) v).run P w
theorem storeMid_eq {P : Program} {t : TypeId} {n : Nat} (hi : (P.info? t).map (·.size) = some n) (g o : Nat) (cs : Array Value) (w : World) :
  storeRow P t (.pointer (some ⟨g, o, none⟩)) (.agg cs) w = storeMid P t g o n (.agg cs) w (objAt w g) := by
 show _ = storeMid P t g o n (.agg cs) w w.heap[g]?
 unfold storeMid
 split
 ·rename_i old t' hg
  split
  ·rename_i cs' e
   cases e
   split
   ·rename_i h
    obtain ⟨h1, h2, h3⟩ := h
    exact store_part hi g o w old cs t' hg h2 h1 h3
   ·rfl
  ·rename_i hx
   exact (hx _ rfl).elim
 ·rfl
attribute [irreducible] loadMid storeMid
attribute [irreducible] oneCells loadOf storeOf loadRow storeRow loadNext storeNext
theorem ret_row {P : Program} {fn : Func} {R : Ending → World → Prop} {a : Act} {w : World} {p : Tmp} {ty : TypeId} (h : fn.results = #[.cell p ty]) (g : Nat) (t : TypeId) (cs : Array Value) (fr : Nat × Nat) (d : TypeDesc)
  (hp : a.tmps.getD p undef = .pointer (some ⟨g, 0, none⟩)) (hg : objAt w g = some (.cells cs t fr))
  (hu : P.underlying ty = some d) (hd : (match d with | .struct _ | .array _ _ => true | _ => false) = true) (hi : (P.info? ty).map (·.size) = some cs.size) (hD : a.defers = []) (hR : R (.returned (.agg cs)) w) : bodyPost P fn R .ret a w :=
 bodyPost_ret_by (results_cell_row h a.tmps w g t cs fr d hp (by unfold objAt at hg; exact hg) hu hd hi) hD hR
theorem ret_row2 {P : Program} {fn : Func} {R : Ending → World → Prop} {a : Act} {w : World} {p q : Tmp} {ty ty' : TypeId} (h : fn.results = #[.cell p ty, .cell q ty']) (g g' : Nat) (t t' : TypeId) (cs cs' : Array Value) (fr fr' : Nat × Nat) (d d' : TypeDesc)
  (hp : a.tmps.getD p undef = .pointer (some ⟨g, 0, none⟩)) (hq : a.tmps.getD q undef = .pointer (some ⟨g', 0, none⟩)) (hg : objAt w g = some (.cells cs t fr)) (hg' : objAt w g' = some (.cells cs' t' fr'))
  (hu : P.underlying ty = some d) (hd : (match d with | .struct _ | .array _ _ => true | _ => false) = true) (hi : (P.info? ty).map (·.size) = some cs.size)
  (hu' : P.underlying ty' = some d') (hd' : (match d' with | .struct _ | .array _ _ => true | _ => false) = true) (hi' : (P.info? ty').map (·.size) = some cs'.size)
  (hD : a.defers = []) (hR : R (.returned (.tuple #[.agg cs, .agg cs'])) w) : bodyPost P fn R .ret a w := by
 refine bodyPost_ret_by ?_ hD hR
 have hp' : a.tmps[p]?.getD undef = .pointer (some ⟨g, 0, none⟩) := by simpa using hp
 have hq' : a.tmps[q]?.getD undef = .pointer (some ⟨g', 0, none⟩) := by simpa using hq
 unfold objAt at hg hg'
 simp [results, h, hp', hq', asAddr, run_loadVar_row w g t ty cs fr d hg hu hd hi, run_loadVar_row w g' t' ty' cs' fr' d' hg' hu' hd' hi']
def cellOf (o : Option Obj) (i : Nat) : Option Value := match o with | some (.cells c _ _) => c[i]? | _ => none
def frozenOf (o : Option Obj) (i : Nat) : Bool := match o with | some (.cells _ _ (lo, hi)) => lo ≤ i && i < hi | _ => false
def setCellOf (w : World) (n i : Nat) (v : Value) (o : Option Obj) : World := match o with | some (.cells c _ (0, 0)) => w.setRow n (c.setIfInBounds i v) | _ => w.setCell ⟨n, i, none⟩ v
theorem cellOf_cells (c : Array Value) (t : TypeId) (fr : Nat × Nat) (i : Nat) : cellOf (some (.cells c t fr)) i = c[i]? := rfl
theorem frozenOf_cells (c : Array Value) (t : TypeId) (i : Nat) : frozenOf (some (.cells c t (0, 0))) i = false := by simp [frozenOf]
theorem setCellOf_cells (w : World) (n i : Nat) (v : Value) (c : Array Value) (t : TypeId) : setCellOf w n i v (some (.cells c t (0, 0))) = w.setRow n (c.setIfInBounds i v) := rfl
theorem cell_obj (w : World) (n i : Nat) : w.cell? ⟨n, i, none⟩ = cellOf (objAt w n) i := by
 unfold World.cell? cellOf objAt
 cases h : w.heap[n]? with
 | none => simp
 | some o => cases o <;> simp
theorem frozen_obj (w : World) (n i : Nat) : w.frozen? ⟨n, i, none⟩ = frozenOf (objAt w n) i := by
 unfold World.frozen? frozenOf objAt
 cases h : w.heap[n]? with
 | none => simp
 | some o => cases o <;> simp
theorem setCell_obj (w : World) (n i : Nat) (v : Value) : w.setCell ⟨n, i, none⟩ v = setCellOf w n i v (objAt w n) := by
 unfold setCellOf
 split
 ·rename_i c t h
  unfold objAt at h
  exact setCell_eq_setRow w n i c t (0, 0) v h
 ·rfl
attribute [go_sem] cellOf_cells frozenOf_cells setCellOf_cells
attribute [go_sem low] cell_obj frozen_obj setCell_obj
attribute [irreducible] cellOf frozenOf setCellOf
@[go_sem ↓ high] theorem load_key (ρ : Operand → Value) (d : Option Tmp) (x : Operand) (t : TypeId) (pos : String) (af : Array Edge) (g : Option (Nat × Bool)) :
  execOp ρ ⟨d, .load 27 x, t, pos, af, g⟩ = loadNext 27 (ρ x) := op_load _ ρ d x t pos af g
@[go_sem high] theorem load_key' (ρ : Operand → Value) (d : Option Tmp) (x : Operand) (t : TypeId) (pos : String) (af : Array Edge) (g : Option (Nat × Bool)) :
  execOp ρ ⟨d, .load 27 x, t, pos, af, g⟩ = loadNext 27 (ρ x) := op_load _ ρ d x t pos af g
@[go_sem] theorem load_key_at (g : Nat) (w : World) : (loadNext 27 (.pointer (some ⟨g, 0, none⟩))).run Tryz.prog w = (loadOf Tryz.prog 27 g 32 w (objAt w g)).andThen fun v w' => .ok (.value v) w' := by
 rw [run_loadNext, loadRow_eq Tryz.underlying27 rfl (by kernel_rfl) g w]
@[go_sem] theorem load_key_of (g : Nat) (w : World) (cs : Array Value) (t' : TypeId) (fr : Nat × Nat) (h : cs.size = 32) : loadOf Tryz.prog 27 g 32 w (some (.cells cs t' fr)) = .ok (.agg cs) w := loadOf_cells cs t' fr h
@[go_sem ↓ high] theorem store_key (ρ : Operand → Value) (d : Option Tmp) (x y : Operand) (t : TypeId) (pos : String) (af : Array Edge) (g : Option (Nat × Bool)) :
  execOp ρ ⟨d, .store 27 x y, t, pos, af, g⟩ = storeNext 27 (ρ x) (ρ y) := op_store _ ρ d x y t pos af g
@[go_sem high] theorem store_key' (ρ : Operand → Value) (d : Option Tmp) (x y : Operand) (t : TypeId) (pos : String) (af : Array Edge) (g : Option (Nat × Bool)) :
  execOp ρ ⟨d, .store 27 x y, t, pos, af, g⟩ = storeNext 27 (ρ x) (ρ y) := op_store _ ρ d x y t pos af g
@[go_sem] theorem store_key_at (g : Nat) (cs : Array Value) (w : World) : (storeNext 27 (.pointer (some ⟨g, 0, none⟩)) (.agg cs)).run Tryz.prog w = (storeOf Tryz.prog 27 g 32 (.agg cs) w (objAt w g)).andThen fun _ w' => .ok .skip w' := by
 rw [run_storeNext, storeRow_eq (by kernel_rfl) g cs w]
@[go_sem] theorem store_key_of (g : Nat) (w : World) (old cs : Array Value) (t' : TypeId) (h1 : old.size = 32) (h2 : cs.size = 32) (h3 : oneCells cs = true) :
  storeOf Tryz.prog 27 g 32 (.agg cs) w (some (.cells old t' (0, 0))) = .ok () (w.setRow g cs) := storeOf_cells old cs t' h1 h2 h3
@[go_sem high] theorem zero_key' (w : World) : (zeroValue 27).run Tryz.prog w = .ok (.agg (ints .u8 32 nought)) w := by kernel_rfl
@[go_sem ↓ high] theorem zero_key (w : World) : (zeroValue 27).run Tryz.prog w = .ok (.agg (ints .u8 32 nought)) w := by kernel_rfl
@[go_sem high] theorem eql_key (f g : Nat → Int) (w : World) : (binOp .eql 27 (.agg (ints .u8 32 f)) (.agg (ints .u8 32 g))).run Tryz.prog w = .ok (.bool (same 32 f g)) w :=
 run_eql_ints w .u8 f g Tryz.underlying27 Tryz.underlying5 (i := (Tryz.prog.info? 5).get (by kernel_rfl)) (by kernel_rfl) (by kernel_rfl)
@[go_sem high] theorem neq_key (f g : Nat → Int) (w : World) : (binOp .neq 27 (.agg (ints .u8 32 f)) (.agg (ints .u8 32 g))).run Tryz.prog w = .ok (.bool (!same 32 f g)) w :=
 run_neq_ints w .u8 f g Tryz.underlying27 Tryz.underlying5 (i := (Tryz.prog.info? 5).get (by kernel_rfl)) (by kernel_rfl) (by kernel_rfl)
@[go_sem] theorem index_key (k' : IntKind) (f : Nat → Int) (j : Int) (w : World) (h0 : 0 ≤ j) (h1 : j < 32) : (Instr.index 27 (.agg (ints .u8 32 f)) (.int k' j)).run Tryz.prog w = .ok (.int .u8 (f j.toNat)) w :=
 run_index_ints w .u8 k' f j Tryz.underlying27 Tryz.underlying5 (i := (Tryz.prog.info? 5).get (by kernel_rfl)) (by kernel_rfl) (by kernel_rfl) h0 h1
@[go_sem ↓ high] theorem append_bytes (ty : TypeId) (cs : Array Bool) (args : Array Value) : builtin .append #[36, 36] ty cs args = appendNext #[36, 36] ty args := by unfold appendNext; rfl
@[go_sem] theorem append_bytes_at (ty : TypeId) (b n cap b2 m c : Nat) (w : World) : (appendNext #[36, 36] ty #[.slice (some ⟨b, 0, none⟩) n cap, .slice (some ⟨b2, 0, none⟩) m c]).run Tryz.prog w =
  appendOf Tryz.prog #[36, 36] ty b n cap b2 m c w (objAt w b) (objAt w b2) := append_eq Tryz.underlying36 (ie := (Tryz.prog.info? 5).get (by kernel_rfl)) (by kernel_rfl) (by kernel_rfl) ty b n cap b2 m c w
attribute [go_sem] appendOf_two
end Go.Proofs.YtdoolhbmekahdaaGreatDoor
namespace Go.Proofs.YtdoolhbmekahdaaGreatDoor
open Go.RowKit
set_option linter.unusedVariables false
set_option linter.unusedSimpArgs false
@[go_sem ↓ high] theorem load_elem (ρ : Operand → Value) (d : Option Tmp) (x : Operand) (t : TypeId) (pos : String) (af : Array Edge) (g : Option (Nat × Bool)) :
  execOp ρ ⟨d, .load 386 x, t, pos, af, g⟩ = loadNext 386 (ρ x) := op_load _ ρ d x t pos af g
@[go_sem high] theorem load_elem' (ρ : Operand → Value) (d : Option Tmp) (x : Operand) (t : TypeId) (pos : String) (af : Array Edge) (g : Option (Nat × Bool)) :
  execOp ρ ⟨d, .load 386 x, t, pos, af, g⟩ = loadNext 386 (ρ x) := op_load _ ρ d x t pos af g
@[go_sem] theorem load_elem_at (g : Nat) (w : World) : (loadNext 386 (.pointer (some ⟨g, 0, none⟩))).run Tryz.prog w = (loadOf Tryz.prog 386 g 5 w (objAt w g)).andThen fun v w' => .ok (.value v) w' := by
 rw [run_loadNext, loadRow_eq Tryz.underlying386 rfl (by kernel_rfl) g w]
@[go_sem] theorem load_elem_of (g : Nat) (w : World) (cs : Array Value) (t' : TypeId) (fr : Nat × Nat) (h : cs.size = 5) : loadOf Tryz.prog 386 g 5 w (some (.cells cs t' fr)) = .ok (.agg cs) w := loadOf_cells cs t' fr h
@[go_sem ↓ high] theorem store_elem (ρ : Operand → Value) (d : Option Tmp) (x y : Operand) (t : TypeId) (pos : String) (af : Array Edge) (g : Option (Nat × Bool)) :
  execOp ρ ⟨d, .store 386 x y, t, pos, af, g⟩ = storeNext 386 (ρ x) (ρ y) := op_store _ ρ d x y t pos af g
@[go_sem high] theorem store_elem' (ρ : Operand → Value) (d : Option Tmp) (x y : Operand) (t : TypeId) (pos : String) (af : Array Edge) (g : Option (Nat × Bool)) :
  execOp ρ ⟨d, .store 386 x y, t, pos, af, g⟩ = storeNext 386 (ρ x) (ρ y) := op_store _ ρ d x y t pos af g
@[go_sem] theorem store_elem_at (g : Nat) (cs : Array Value) (w : World) : (storeNext 386 (.pointer (some ⟨g, 0, none⟩)) (.agg cs)).run Tryz.prog w = (storeOf Tryz.prog 386 g 5 (.agg cs) w (objAt w g)).andThen fun _ w' => .ok .skip w' := by
 rw [run_storeNext, storeRow_eq (by kernel_rfl) g cs w]
@[go_sem] theorem store_elem_of (g : Nat) (w : World) (old cs : Array Value) (t' : TypeId) (h1 : old.size = 5) (h2 : cs.size = 5) (h3 : oneCells cs = true) :
  storeOf Tryz.prog 386 g 5 (.agg cs) w (some (.cells old t' (0, 0))) = .ok () (w.setRow g cs) := storeOf_cells old cs t' h1 h2 h3
@[go_sem high] theorem zero_elem' (w : World) : (zeroValue 386).run Tryz.prog w = .ok (.agg (ints .u64 5 nought)) w := by kernel_rfl
@[go_sem ↓ high] theorem zero_elem (w : World) : (zeroValue 386).run Tryz.prog w = .ok (.agg (ints .u64 5 nought)) w := by kernel_rfl
@[go_sem high] theorem eql_elem (f g : Nat → Int) (w : World) : (binOp .eql 386 (.agg (ints .u64 5 f)) (.agg (ints .u64 5 g))).run Tryz.prog w = .ok (.bool (same 5 f g)) w :=
 run_eql_ints w .u64 f g Tryz.underlying386 Tryz.underlying116 (i := (Tryz.prog.info? 116).get (by kernel_rfl)) (by kernel_rfl) (by kernel_rfl)
@[go_sem high] theorem neq_elem (f g : Nat → Int) (w : World) : (binOp .neq 386 (.agg (ints .u64 5 f)) (.agg (ints .u64 5 g))).run Tryz.prog w = .ok (.bool (!same 5 f g)) w :=
 run_neq_ints w .u64 f g Tryz.underlying386 Tryz.underlying116 (i := (Tryz.prog.info? 116).get (by kernel_rfl)) (by kernel_rfl) (by kernel_rfl)
@[go_sem] theorem index_elem (k' : IntKind) (f : Nat → Int) (j : Int) (w : World) (h0 : 0 ≤ j) (h1 : j < 5) : (Instr.index 386 (.agg (ints .u64 5 f)) (.int k' j)).run Tryz.prog w = .ok (.int .u64 (f j.toNat)) w :=
 run_index_ints w .u64 k' f j Tryz.underlying386 Tryz.underlying116 (i := (Tryz.prog.info? 116).get (by kernel_rfl)) (by kernel_rfl) (by kernel_rfl) h0 h1
@[go_sem ↓ high] theorem load_words (ρ : Operand → Value) (d : Option Tmp) (x : Operand) (t : TypeId) (pos : String) (af : Array Edge) (g : Option (Nat × Bool)) :
  execOp ρ ⟨d, .load 419 x, t, pos, af, g⟩ = loadNext 419 (ρ x) := op_load _ ρ d x t pos af g
@[go_sem high] theorem load_words' (ρ : Operand → Value) (d : Option Tmp) (x : Operand) (t : TypeId) (pos : String) (af : Array Edge) (g : Option (Nat × Bool)) :
  execOp ρ ⟨d, .load 419 x, t, pos, af, g⟩ = loadNext 419 (ρ x) := op_load _ ρ d x t pos af g
@[go_sem] theorem load_words_at (g : Nat) (w : World) : (loadNext 419 (.pointer (some ⟨g, 0, none⟩))).run Tryz.prog w = (loadOf Tryz.prog 419 g 4 w (objAt w g)).andThen fun v w' => .ok (.value v) w' := by
 rw [run_loadNext, loadRow_eq Tryz.underlying419 rfl (by kernel_rfl) g w]
@[go_sem] theorem load_words_of (g : Nat) (w : World) (cs : Array Value) (t' : TypeId) (fr : Nat × Nat) (h : cs.size = 4) : loadOf Tryz.prog 419 g 4 w (some (.cells cs t' fr)) = .ok (.agg cs) w := loadOf_cells cs t' fr h
@[go_sem ↓ high] theorem store_words (ρ : Operand → Value) (d : Option Tmp) (x y : Operand) (t : TypeId) (pos : String) (af : Array Edge) (g : Option (Nat × Bool)) :
  execOp ρ ⟨d, .store 419 x y, t, pos, af, g⟩ = storeNext 419 (ρ x) (ρ y) := op_store _ ρ d x y t pos af g
@[go_sem high] theorem store_words' (ρ : Operand → Value) (d : Option Tmp) (x y : Operand) (t : TypeId) (pos : String) (af : Array Edge) (g : Option (Nat × Bool)) :
  execOp ρ ⟨d, .store 419 x y, t, pos, af, g⟩ = storeNext 419 (ρ x) (ρ y) := op_store _ ρ d x y t pos af g
@[go_sem] theorem store_words_at (g : Nat) (cs : Array Value) (w : World) : (storeNext 419 (.pointer (some ⟨g, 0, none⟩)) (.agg cs)).run Tryz.prog w = (storeOf Tryz.prog 419 g 4 (.agg cs) w (objAt w g)).andThen fun _ w' => .ok .skip w' := by
 rw [run_storeNext, storeRow_eq (by kernel_rfl) g cs w]
@[go_sem] theorem store_words_of (g : Nat) (w : World) (old cs : Array Value) (t' : TypeId) (h1 : old.size = 4) (h2 : cs.size = 4) (h3 : oneCells cs = true) :
  storeOf Tryz.prog 419 g 4 (.agg cs) w (some (.cells old t' (0, 0))) = .ok () (w.setRow g cs) := storeOf_cells old cs t' h1 h2 h3
@[go_sem high] theorem zero_words' (w : World) : (zeroValue 419).run Tryz.prog w = .ok (.agg (ints .u64 4 nought)) w := by kernel_rfl
@[go_sem ↓ high] theorem zero_words (w : World) : (zeroValue 419).run Tryz.prog w = .ok (.agg (ints .u64 4 nought)) w := by kernel_rfl
@[go_sem high] theorem eql_words (f g : Nat → Int) (w : World) : (binOp .eql 419 (.agg (ints .u64 4 f)) (.agg (ints .u64 4 g))).run Tryz.prog w = .ok (.bool (same 4 f g)) w :=
 run_eql_ints w .u64 f g Tryz.underlying419 Tryz.underlying116 (i := (Tryz.prog.info? 116).get (by kernel_rfl)) (by kernel_rfl) (by kernel_rfl)
@[go_sem high] theorem neq_words (f g : Nat → Int) (w : World) : (binOp .neq 419 (.agg (ints .u64 4 f)) (.agg (ints .u64 4 g))).run Tryz.prog w = .ok (.bool (!same 4 f g)) w :=
 run_neq_ints w .u64 f g Tryz.underlying419 Tryz.underlying116 (i := (Tryz.prog.info? 116).get (by kernel_rfl)) (by kernel_rfl) (by kernel_rfl)
@[go_sem] theorem index_words (k' : IntKind) (f : Nat → Int) (j : Int) (w : World) (h0 : 0 ≤ j) (h1 : j < 4) : (Instr.index 419 (.agg (ints .u64 4 f)) (.int k' j)).run Tryz.prog w = .ok (.int .u64 (f j.toNat)) w :=
 run_index_ints w .u64 k' f j Tryz.underlying419 Tryz.underlying116 (i := (Tryz.prog.info? 116).get (by kernel_rfl)) (by kernel_rfl) (by kernel_rfl) h0 h1
end Go.Proofs.YtdoolhbmekahdaaGreatDoor
namespace Go.Proofs.YtdoolhbmekahdaaGreatDoor
open Go.RowKit
set_option linter.unusedVariables false
set_option linter.unusedSimpArgs false
@[go_sem ↓ high] theorem load_bytes (ρ : Operand → Value) (d : Option Tmp) (x : Operand) (t : TypeId) (pos : String) (af : Array Edge) (g : Option (Nat × Bool)) :
  execOp ρ ⟨d, .load 26 x, t, pos, af, g⟩ = loadNext 26 (ρ x) := op_load _ ρ d x t pos af g
@[go_sem high] theorem load_bytes' (ρ : Operand → Value) (d : Option Tmp) (x : Operand) (t : TypeId) (pos : String) (af : Array Edge) (g : Option (Nat × Bool)) :
  execOp ρ ⟨d, .load 26 x, t, pos, af, g⟩ = loadNext 26 (ρ x) := op_load _ ρ d x t pos af g
@[go_sem] theorem load_bytes_at (g : Nat) (w : World) : (loadNext 26 (.pointer (some ⟨g, 0, none⟩))).run Tryz.prog w = (loadOf Tryz.prog 26 g 32 w (objAt w g)).andThen fun v w' => .ok (.value v) w' := by
 rw [run_loadNext, loadRow_eq Tryz.underlying26 rfl (by kernel_rfl) g w]
@[go_sem] theorem load_bytes_of (g : Nat) (w : World) (cs : Array Value) (t' : TypeId) (fr : Nat × Nat) (h : cs.size = 32) : loadOf Tryz.prog 26 g 32 w (some (.cells cs t' fr)) = .ok (.agg cs) w := loadOf_cells cs t' fr h
@[go_sem ↓ high] theorem store_bytes (ρ : Operand → Value) (d : Option Tmp) (x y : Operand) (t : TypeId) (pos : String) (af : Array Edge) (g : Option (Nat × Bool)) :
  execOp ρ ⟨d, .store 26 x y, t, pos, af, g⟩ = storeNext 26 (ρ x) (ρ y) := op_store _ ρ d x y t pos af g
@[go_sem high] theorem store_bytes' (ρ : Operand → Value) (d : Option Tmp) (x y : Operand) (t : TypeId) (pos : String) (af : Array Edge) (g : Option (Nat × Bool)) :
  execOp ρ ⟨d, .store 26 x y, t, pos, af, g⟩ = storeNext 26 (ρ x) (ρ y) := op_store _ ρ d x y t pos af g
@[go_sem] theorem store_bytes_at (g : Nat) (cs : Array Value) (w : World) : (storeNext 26 (.pointer (some ⟨g, 0, none⟩)) (.agg cs)).run Tryz.prog w = (storeOf Tryz.prog 26 g 32 (.agg cs) w (objAt w g)).andThen fun _ w' => .ok .skip w' := by
 rw [run_storeNext, storeRow_eq (by kernel_rfl) g cs w]
@[go_sem] theorem store_bytes_of (g : Nat) (w : World) (old cs : Array Value) (t' : TypeId) (h1 : old.size = 32) (h2 : cs.size = 32) (h3 : oneCells cs = true) :
  storeOf Tryz.prog 26 g 32 (.agg cs) w (some (.cells old t' (0, 0))) = .ok () (w.setRow g cs) := storeOf_cells old cs t' h1 h2 h3
@[go_sem high] theorem zero_bytes' (w : World) : (zeroValue 26).run Tryz.prog w = .ok (.agg (ints .u8 32 nought)) w := by kernel_rfl
@[go_sem ↓ high] theorem zero_bytes (w : World) : (zeroValue 26).run Tryz.prog w = .ok (.agg (ints .u8 32 nought)) w := by kernel_rfl
@[go_sem high] theorem eql_bytes (f g : Nat → Int) (w : World) : (binOp .eql 26 (.agg (ints .u8 32 f)) (.agg (ints .u8 32 g))).run Tryz.prog w = .ok (.bool (same 32 f g)) w :=
 run_eql_ints w .u8 f g Tryz.underlying26 Tryz.underlying5 (i := (Tryz.prog.info? 5).get (by kernel_rfl)) (by kernel_rfl) (by kernel_rfl)
@[go_sem high] theorem neq_bytes (f g : Nat → Int) (w : World) : (binOp .neq 26 (.agg (ints .u8 32 f)) (.agg (ints .u8 32 g))).run Tryz.prog w = .ok (.bool (!same 32 f g)) w :=
 run_neq_ints w .u8 f g Tryz.underlying26 Tryz.underlying5 (i := (Tryz.prog.info? 5).get (by kernel_rfl)) (by kernel_rfl) (by kernel_rfl)
@[go_sem] theorem index_bytes (k' : IntKind) (f : Nat → Int) (j : Int) (w : World) (h0 : 0 ≤ j) (h1 : j < 32) : (Instr.index 26 (.agg (ints .u8 32 f)) (.int k' j)).run Tryz.prog w = .ok (.int .u8 (f j.toNat)) w :=
 run_index_ints w .u8 k' f j Tryz.underlying26 Tryz.underlying5 (i := (Tryz.prog.info? 5).get (by kernel_rfl)) (by kernel_rfl) (by kernel_rfl) h0 h1
@[go_sem ↓ high] theorem load_five (ρ : Operand → Value) (d : Option Tmp) (x : Operand) (t : TypeId) (pos : String) (af : Array Edge) (g : Option (Nat × Bool)) :
  execOp ρ ⟨d, .load 385 x, t, pos, af, g⟩ = loadNext 385 (ρ x) := op_load _ ρ d x t pos af g
@[go_sem high] theorem load_five' (ρ : Operand → Value) (d : Option Tmp) (x : Operand) (t : TypeId) (pos : String) (af : Array Edge) (g : Option (Nat × Bool)) :
  execOp ρ ⟨d, .load 385 x, t, pos, af, g⟩ = loadNext 385 (ρ x) := op_load _ ρ d x t pos af g
@[go_sem] theorem load_five_at (g : Nat) (w : World) : (loadNext 385 (.pointer (some ⟨g, 0, none⟩))).run Tryz.prog w = (loadOf Tryz.prog 385 g 5 w (objAt w g)).andThen fun v w' => .ok (.value v) w' := by
 rw [run_loadNext, loadRow_eq Tryz.underlying385 rfl (by kernel_rfl) g w]
@[go_sem] theorem load_five_of (g : Nat) (w : World) (cs : Array Value) (t' : TypeId) (fr : Nat × Nat) (h : cs.size = 5) : loadOf Tryz.prog 385 g 5 w (some (.cells cs t' fr)) = .ok (.agg cs) w := loadOf_cells cs t' fr h
@[go_sem ↓ high] theorem store_five (ρ : Operand → Value) (d : Option Tmp) (x y : Operand) (t : TypeId) (pos : String) (af : Array Edge) (g : Option (Nat × Bool)) :
  execOp ρ ⟨d, .store 385 x y, t, pos, af, g⟩ = storeNext 385 (ρ x) (ρ y) := op_store _ ρ d x y t pos af g
@[go_sem high] theorem store_five' (ρ : Operand → Value) (d : Option Tmp) (x y : Operand) (t : TypeId) (pos : String) (af : Array Edge) (g : Option (Nat × Bool)) :
  execOp ρ ⟨d, .store 385 x y, t, pos, af, g⟩ = storeNext 385 (ρ x) (ρ y) := op_store _ ρ d x y t pos af g
@[go_sem] theorem store_five_at (g : Nat) (cs : Array Value) (w : World) : (storeNext 385 (.pointer (some ⟨g, 0, none⟩)) (.agg cs)).run Tryz.prog w = (storeOf Tryz.prog 385 g 5 (.agg cs) w (objAt w g)).andThen fun _ w' => .ok .skip w' := by
 rw [run_storeNext, storeRow_eq (by kernel_rfl) g cs w]
@[go_sem] theorem store_five_of (g : Nat) (w : World) (old cs : Array Value) (t' : TypeId) (h1 : old.size = 5) (h2 : cs.size = 5) (h3 : oneCells cs = true) :
  storeOf Tryz.prog 385 g 5 (.agg cs) w (some (.cells old t' (0, 0))) = .ok () (w.setRow g cs) := storeOf_cells old cs t' h1 h2 h3
@[go_sem high] theorem zero_five' (w : World) : (zeroValue 385).run Tryz.prog w = .ok (.agg (ints .u64 5 nought)) w := by kernel_rfl
@[go_sem ↓ high] theorem zero_five (w : World) : (zeroValue 385).run Tryz.prog w = .ok (.agg (ints .u64 5 nought)) w := by kernel_rfl
@[go_sem high] theorem eql_five (f g : Nat → Int) (w : World) : (binOp .eql 385 (.agg (ints .u64 5 f)) (.agg (ints .u64 5 g))).run Tryz.prog w = .ok (.bool (same 5 f g)) w :=
 run_eql_ints w .u64 f g Tryz.underlying385 Tryz.underlying116 (i := (Tryz.prog.info? 116).get (by kernel_rfl)) (by kernel_rfl) (by kernel_rfl)
@[go_sem high] theorem neq_five (f g : Nat → Int) (w : World) : (binOp .neq 385 (.agg (ints .u64 5 f)) (.agg (ints .u64 5 g))).run Tryz.prog w = .ok (.bool (!same 5 f g)) w :=
 run_neq_ints w .u64 f g Tryz.underlying385 Tryz.underlying116 (i := (Tryz.prog.info? 116).get (by kernel_rfl)) (by kernel_rfl) (by kernel_rfl)
@[go_sem] theorem index_five (k' : IntKind) (f : Nat → Int) (j : Int) (w : World) (h0 : 0 ≤ j) (h1 : j < 5) : (Instr.index 385 (.agg (ints .u64 5 f)) (.int k' j)).run Tryz.prog w = .ok (.int .u64 (f j.toNat)) w :=
 run_index_ints w .u64 k' f j Tryz.underlying385 Tryz.underlying116 (i := (Tryz.prog.info? 116).get (by kernel_rfl)) (by kernel_rfl) (by kernel_rfl) h0 h1
end Go.Proofs.YtdoolhbmekahdaaGreatDoor
namespace Go.Proofs.YtdoolhbmekahdaaGreatDoor
open Go.RowKit
set_option linter.unusedVariables false
set_option linter.unusedSimpArgs false
def pairF (x z : Nat → Int) : Nat → Int := fun i => if i < 5 then x i else z (i - 5)
@[go_sem ↓ high] theorem load_pair (ρ : Operand → Value) (d : Option Tmp) (x : Operand) (t : TypeId) (pos : String) (af : Array Edge) (g : Option (Nat × Bool)) :
  execOp ρ ⟨d, .load 412 x, t, pos, af, g⟩ = loadNext 412 (ρ x) := op_load _ ρ d x t pos af g
@[go_sem high] theorem load_pair' (ρ : Operand → Value) (d : Option Tmp) (x : Operand) (t : TypeId) (pos : String) (af : Array Edge) (g : Option (Nat × Bool)) :
  execOp ρ ⟨d, .load 412 x, t, pos, af, g⟩ = loadNext 412 (ρ x) := op_load _ ρ d x t pos af g
@[go_sem] theorem load_pair_at (g : Nat) (w : World) : (loadNext 412 (.pointer (some ⟨g, 0, none⟩))).run Tryz.prog w = (loadOf Tryz.prog 412 g 10 w (objAt w g)).andThen fun v w' => .ok (.value v) w' := by
 rw [run_loadNext, loadRow_eq Tryz.underlying412 rfl (by kernel_rfl) g w]
@[go_sem] theorem load_pair_of (g : Nat) (w : World) (cs : Array Value) (t' : TypeId) (fr : Nat × Nat) (h : cs.size = 10) : loadOf Tryz.prog 412 g 10 w (some (.cells cs t' fr)) = .ok (.agg cs) w := loadOf_cells cs t' fr h
@[go_sem ↓ high] theorem store_pair (ρ : Operand → Value) (d : Option Tmp) (x y : Operand) (t : TypeId) (pos : String) (af : Array Edge) (g : Option (Nat × Bool)) :
  execOp ρ ⟨d, .store 412 x y, t, pos, af, g⟩ = storeNext 412 (ρ x) (ρ y) := op_store _ ρ d x y t pos af g
@[go_sem high] theorem store_pair' (ρ : Operand → Value) (d : Option Tmp) (x y : Operand) (t : TypeId) (pos : String) (af : Array Edge) (g : Option (Nat × Bool)) :
  execOp ρ ⟨d, .store 412 x y, t, pos, af, g⟩ = storeNext 412 (ρ x) (ρ y) := op_store _ ρ d x y t pos af g
@[go_sem] theorem store_pair_at (g : Nat) (cs : Array Value) (w : World) : (storeNext 412 (.pointer (some ⟨g, 0, none⟩)) (.agg cs)).run Tryz.prog w = (storeOf Tryz.prog 412 g 10 (.agg cs) w (objAt w g)).andThen fun _ w' => .ok .skip w' := by
 rw [run_storeNext, storeRow_eq (by kernel_rfl) g cs w]
@[go_sem] theorem store_pair_of (g : Nat) (w : World) (old cs : Array Value) (t' : TypeId) (h1 : old.size = 10) (h2 : cs.size = 10) (h3 : oneCells cs = true) :
  storeOf Tryz.prog 412 g 10 (.agg cs) w (some (.cells old t' (0, 0))) = .ok () (w.setRow g cs) := storeOf_cells old cs t' h1 h2 h3
@[go_sem high] theorem zero_pair' (w : World) : (zeroValue 412).run Tryz.prog w = .ok (.agg (ints .u64 10 (pairF nought nought))) w := by kernel_rfl
@[go_sem ↓ high] theorem zero_pair (w : World) : (zeroValue 412).run Tryz.prog w = .ok (.agg (ints .u64 10 (pairF nought nought))) w := by kernel_rfl
theorem extract_0 (x z : Nat → Int) : (ints .u64 10 (pairF x z)).extract 0 5 = ints .u64 5 x := by kernel_rfl
theorem extract_5 (x z : Nat → Int) : (ints .u64 10 (pairF x z)).extract 5 (5 + 5) = ints .u64 5 z := by kernel_rfl
theorem put_0 (x z a : Nat → Int) : putAll (ints .u64 10 (pairF x z)) 0 (ints .u64 5 a).toList = ints .u64 10 (pairF a z) := by kernel_rfl
theorem put_5 (x z a : Nat → Int) : putAll (ints .u64 10 (pairF x z)) 5 (ints .u64 5 a).toList = ints .u64 10 (pairF x a) := by kernel_rfl
@[go_sem] theorem load_part0 (g : Nat) (w : World) (x z : Nat → Int) (t' : TypeId) (fr : Nat × Nat) : loadOf Tryz.prog 386 g 5 w (some (.cells (ints .u64 10 (pairF x z)) t' fr)) = .ok (.agg (ints .u64 5 x)) w := by
 unfold loadOf
 simp only [ints_size]
 rw [if_neg (by decide), if_pos (by decide), extract_0]
@[go_sem] theorem store_part0 (g : Nat) (w : World) (x z a : Nat → Int) (t' : TypeId) : storeOf Tryz.prog 386 g 5 (.agg (ints .u64 5 a)) w (some (.cells (ints .u64 10 (pairF x z)) t' (0, 0))) = .ok () (w.setRow g (ints .u64 10 (pairF a z))) := by
 unfold storeOf
 simp only [ints_size]
 rw [if_neg (fun h => absurd h.1 (by decide)), if_pos ⟨by decide, by trivial, ints_one _ _ _⟩, put_0]
@[go_sem] theorem load_elem_mid (g : Nat) (w : World) : (loadNext 386 (.pointer (some ⟨g, 5, none⟩))).run Tryz.prog w = (loadMid Tryz.prog 386 g 5 5 w (objAt w g)).andThen fun v w' => .ok (.value v) w' := by
 rw [run_loadNext, loadMid_eq Tryz.underlying386 rfl (by kernel_rfl) g 5 w]
@[go_sem] theorem load_part5 (g : Nat) (w : World) (x z : Nat → Int) (t' : TypeId) (fr : Nat × Nat) : loadMid Tryz.prog 386 g 5 5 w (some (.cells (ints .u64 10 (pairF x z)) t' fr)) = .ok (.agg (ints .u64 5 z)) w := by
 unfold loadMid
 simp only [ints_size]
 rw [if_pos (by decide), extract_5]
@[go_sem] theorem store_elem_mid (g : Nat) (cs : Array Value) (w : World) : (storeNext 386 (.pointer (some ⟨g, 5, none⟩)) (.agg cs)).run Tryz.prog w = (storeMid Tryz.prog 386 g 5 5 (.agg cs) w (objAt w g)).andThen fun _ w' => .ok .skip w' := by
 rw [run_storeNext, storeMid_eq (by kernel_rfl) g 5 cs w]
@[go_sem] theorem store_part5 (g : Nat) (w : World) (x z a : Nat → Int) (t' : TypeId) : storeMid Tryz.prog 386 g 5 5 (.agg (ints .u64 5 a)) w (some (.cells (ints .u64 10 (pairF x z)) t' (0, 0))) = .ok () (w.setRow g (ints .u64 10 (pairF x a))) := by
 unfold storeMid
 simp only [ints_size]
 rw [if_pos ⟨by decide, by trivial, ints_one _ _ _⟩, put_5]
@[go_sem] theorem field_pair0 (x z : Nat → Int) (w : World) : (Instr.field 412 (.agg (ints .u64 10 (pairF x z))) 0).run Tryz.prog w = .ok (.agg (ints .u64 5 x)) w := by kernel_rfl
@[go_sem] theorem field_pair1 (x z : Nat → Int) (w : World) : (Instr.field 412 (.agg (ints .u64 10 (pairF x z))) 1).run Tryz.prog w = .ok (.agg (ints .u64 5 z)) w := by kernel_rfl
def pairNext (x z : Value) : Sem Next := do pure (.value (← Instr.build 412 #[(0, x), (1, z)]))
def pairOne (x : Value) : Sem Next := do pure (.value (← Instr.build 412 #[(0, x)]))
@[go_sem ↓ high] theorem op_pair (ρ : Operand → Value) (d : Option Tmp) (x y : Operand) (t : TypeId) (pos : String) (af : Array Edge) (g : Option (Nat × Bool)) :
  execOp ρ ⟨d, .build 412 #[(0, x), (1, y)], t, pos, af, g⟩ = pairNext (ρ x) (ρ y) := by simp [execOp, pairNext]
@[go_sem high] theorem op_pair' (ρ : Operand → Value) (d : Option Tmp) (x y : Operand) (t : TypeId) (pos : String) (af : Array Edge) (g : Option (Nat × Bool)) :
  execOp ρ ⟨d, .build 412 #[(0, x), (1, y)], t, pos, af, g⟩ = pairNext (ρ x) (ρ y) := by simp [execOp, pairNext]
@[go_sem ↓ high] theorem op_pair1 (ρ : Operand → Value) (d : Option Tmp) (x : Operand) (t : TypeId) (pos : String) (af : Array Edge) (g : Option (Nat × Bool)) :
  execOp ρ ⟨d, .build 412 #[(0, x)], t, pos, af, g⟩ = pairOne (ρ x) := by simp [execOp, pairOne]
@[go_sem high] theorem op_pair1' (ρ : Operand → Value) (d : Option Tmp) (x : Operand) (t : TypeId) (pos : String) (af : Array Edge) (g : Option (Nat × Bool)) :
  execOp ρ ⟨d, .build 412 #[(0, x)], t, pos, af, g⟩ = pairOne (ρ x) := by simp [execOp, pairOne]
@[go_sem] theorem run_pair (x z : Nat → Int) (w : World) : (pairNext (.agg (ints .u64 5 x)) (.agg (ints .u64 5 z))).run Tryz.prog w = .ok (.value (.agg (ints .u64 10 (pairF x z)))) w := by kernel_rfl
@[go_sem] theorem run_pair1 (x : Nat → Int) (w : World) : (pairOne (.agg (ints .u64 5 x))).run Tryz.prog w = .ok (.value (.agg (ints .u64 10 (pairF x nought)))) w := by kernel_rfl
attribute [irreducible] pairNext pairOne
end Go.Proofs.YtdoolhbmekahdaaGreatDoor
