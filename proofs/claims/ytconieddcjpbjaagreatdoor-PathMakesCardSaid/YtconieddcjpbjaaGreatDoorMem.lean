/- Mem -/
import Derived.Test.YtconieddcjpbjaaGreatDoorProg
import Derived.Test.YtconieddcjpbjaaGreatDoorBase
import Derived.Deep.MidRow
set_option linter.unusedVariables false
set_option linter.unusedSimpArgs false
namespace Go.Proofs.YtconieddcjpbjaaGreatDoor
open Go.RowKit
theorem zqt {P : Program} {id : Nat} {Q : Exit -> Act -> World -> Prop} {a : Act} {w : World} {l : List Oper} (hm : P.follows .mixedOrders = true) (hB : Region.lexB .any l.toArray = true)
  (h : wpQuiet P l.toArray (fun w' => ∃ m, w' = more w m) (fun a' => ∀ w', (∃ m, w' = more w m) -> Q .normal a' w') l a) : (Code.region id l.toArray true).wp P Q a w :=
 wp_region_quiet (C := fun w' => ∃ m, w' = more w m) hm hB ⟨⟨w.drawn + 1, #[]⟩, by simp [more]⟩ (by simpa using h)
theorem zq5 {P : Program} {id : Nat} {Q : Exit -> Act -> World -> Prop} {a : Act} {w : World} {m0 : More} {l : List Oper} (hm : P.follows .mixedOrders = true) (hB : Region.lexB .any l.toArray = true)
  (h : wpQuiet P l.toArray (fun w' => ∃ m, w' = more w m) (fun a' => ∀ w', (∃ m, w' = more w m) -> Q .normal a' w') l a) : (Code.region id l.toArray true).wp P Q a (more w m0) :=
 wp_region_quiet (C := fun w' => ∃ m, w' = more w m) hm hB ⟨⟨m0.d + 1, m0.os⟩, rfl⟩ (by simpa using h)
def loadRow (P : Program) (t : TypeId) (v : Value) (w : World) : Result Value := (Instr.loadAt t v).run P w
def zqbv (P : Program) (t : TypeId) (g n : Nat) (w : World) : Option Obj -> Result Value
 | some (.cells cs _ _) => if cs.size = n then .ok (.agg cs) w else if n <= cs.size then .ok (.agg (cs.extract 0 n)) w else (Instr.loadAt t (.pointer (some ⟨g, 0, none⟩))).run P w
 | _ => (Instr.loadAt t (.pointer (some ⟨g, 0, none⟩))).run P w
theorem zqsr {P : Program} {t : TypeId} {n : Nat} {d : TypeDesc} (hu : P.underlying t = some d) (hd : (match d with | .struct _ | .array _ _ => true | _ => false) = true) (hi : (P.info? t).map (·.size) = some n) (g o : Nat) (w : World) (cs : Array Value) (t' : TypeId) (fr : Nat × Nat) (hg : w.heap[g]? = some (.cells cs t' fr)) (hn : o + n <= cs.size) :
  (Instr.loadAt t (.pointer (some ⟨g, o, none⟩))).run P w = .ok (.agg (cs.extract o (o + n))) w := by
 have h := run_loadAt_mid (P := P) w g o t (cs.extract o (o + n)).toList d (World.rangeAt_of_block hg o n) hu (by cases d <;> simp_all [TypeDesc.isRow]) (by rw [hi]; simp; omega);rw [h]
theorem zqb9 {P : Program} {t : TypeId} {n : Nat} {d : TypeDesc} (hu : P.underlying t = some d) (hd : (match d with | .struct _ | .array _ _ => true | _ => false) = true) (hi : (P.info? t).map (·.size) = some n) (g : Nat) (w : World) :
  loadRow P t (.pointer (some ⟨g, 0, none⟩)) w = zqbv P t g n w (zqd w g) := by
 show _ = zqbv P t g n w w.heap[g]?
 cases hg : w.heap[g]? with
 | none => rfl
 | some o =>
  cases o with
  | cells cs t' fr =>
   simp only [zqbv]
   by_cases hc : cs.size = n
   ·rw [if_pos hc]
    subst hc;exact run_loadVar_row w g t' t cs fr d hg hu hd hi
   ·rw [if_neg hc]
    by_cases hl : n <= cs.size
    ·rw [if_pos hl]
     have h := zqsr hu hd hi g 0 w cs t' fr hg (by omega);rw [Nat.zero_add] at h;exact h
    ·rw [if_neg hl]; rfl
  | _ => rfl
theorem zqbo {P : Program} {t : TypeId} {g n : Nat} {w : World} (cs : Array Value) (t' : TypeId) (fr : Nat × Nat) (h : cs.size = n) : zqbv P t g n w (some (.cells cs t' fr)) = .ok (.agg cs) w := by
 simp [zqbv, h]
def zq6 (ty : TypeId) (v : Value) : Sem Next := do pure (.value (<- Instr.loadAt ty v))
def zq7 (ty : TypeId) (v x : Value) : Sem Next := do Instr.storeAt ty v x; pure .skip
theorem zqa2 {P : Program} (ty : TypeId) (v : Value) (w : World) : (zq6 ty v).run P w = (loadRow P ty v w).andThen fun v w' => .ok (.value v) w' := by
 simp [zq6, loadRow, Sem.run_bind]
def zqju (P : Program) (t : TypeId) (a v : Value) (w : World) : Result Unit := (Instr.storeAt t a v).run P w
theorem zqax {P : Program} (ty : TypeId) (v x : Value) (w : World) : (zq7 ty v x).run P w = (zqju P ty v x w).andThen fun _ w' => .ok .skip w' := by
 simp [zq7, zqju, Sem.run_bind]
theorem zqb0 (ty : TypeId) (ρ : Operand -> Value) (d : Option Tmp) (x : Operand) (t : TypeId) (pos : String) (af : Array Edge) (g : Option (Nat × Bool)) : execOp ρ ⟨d, .load ty x, t, pos, af, g⟩ = zq6 ty (ρ x) := rfl
theorem zqbj (ty : TypeId) (ρ : Operand -> Value) (d : Option Tmp) (x y : Operand) (t : TypeId) (pos : String) (af : Array Edge) (g : Option (Nat × Bool)) : execOp ρ ⟨d, .store ty x y, t, pos, af, g⟩ = zq7 ty (ρ x) (ρ y) := rfl
def zqa5 (cs : Array Value) : Bool := cs.all (·.oneCell')
def zqbb (P : Program) (t : TypeId) (g n : Nat) (v : Value) (w : World) : Option Obj -> Result Unit
 | some (.cells old _ (0, 0)) => match v with
  | .agg cs => if old.size = n /\ cs.size = n /\ zqa5 cs = true then .ok () (w.setRow g cs) else if n <= old.size /\ cs.size = n /\ zqa5 cs = true then .ok () (w.setRow g (zqcp old 0 cs.toList)) else (Instr.storeAt t (.pointer (some ⟨g, 0, none⟩)) v).run P w
  | _ => (Instr.storeAt t (.pointer (some ⟨g, 0, none⟩)) v).run P w
 | _ => (Instr.storeAt t (.pointer (some ⟨g, 0, none⟩)) v).run P w
theorem zqp7 {P : Program} {t : TypeId} {n : Nat} (hi : (P.info? t).map (·.size) = some n) (g o : Nat) (w : World) (old cs : Array Value) (t' : TypeId) (hg : w.heap[g]? = some (.cells old t' (0, 0))) (hc : cs.size = n) (hn : o + n <= old.size) (h1 : zqa5 cs = true) :
  (Instr.storeAt t (.pointer (some ⟨g, o, none⟩)) (.agg cs)).run P w = .ok () (w.setRow g (zqcp old o cs.toList)) := by
 have h := run_storeAt_mid (P := P) w g o t cs (fun j hj => ⟨by rw [cell_of_row w g (o + j) _ _ _ hg]; simp; omega, frozen_of_row w g _ _ _ hg⟩) (by rw [hi, hc]) (by unfold zqa5 at h1; exact h1);rw [h, zqf7 g t' _ o old w hg]
theorem zqb3 {P : Program} {t : TypeId} {n : Nat} (hi : (P.info? t).map (·.size) = some n) (g : Nat) (cs : Array Value) (w : World) :
  zqju P t (.pointer (some ⟨g, 0, none⟩)) (.agg cs) w = zqbb P t g n (.agg cs) w (zqd w g) := by
 show _ = zqbb P t g n (.agg cs) w w.heap[g]?
 unfold zqbb
 split
 ·rename_i old t' hg
  split
  ·rename_i cs' e
   cases e
   split
   ·rename_i h
    obtain ⟨h1, h2, h3⟩ := h;exact run_storeVar_row w g t' t old cs hg (by rw [hi, h2]) (by rw [h1, h2]) h3
   ·split
    ·rename_i h
     obtain ⟨h1, h2, h3⟩ := h;exact zqp7 hi g 0 w old cs t' hg h2 (by omega) h3
    ·rfl
  ·rename_i hx
   exact (hx _ rfl).elim
 ·rfl
theorem zqbg {P : Program} {t : TypeId} {g n : Nat} {w : World} (old cs : Array Value) (t' : TypeId) (h1 : old.size = n) (h2 : cs.size = n) (h3 : zqa5 cs = true) :
  zqbb P t g n (.agg cs) w (some (.cells old t' (0, 0))) = .ok () (w.setRow g cs) := by
 simp only [zqbb]
 rw [if_pos ⟨h1, h2, h3⟩]
@[go_sem] theorem zrfd (k : IntKind) (n : Nat) (f : Nat -> Int) : (ints k n f).size = n := zqh k n f
@[go_sem] theorem ints_at (k : IntKind) (n : Nat) (f : Nat -> Int) (i : Nat) (h : i < (ints k n f).size) : (ints k n f)[i] = .int k (f i) := by simp [ints]
@[go_sem] theorem zrks (k : IntKind) (n : Nat) (f : Nat -> Int) (h : n ≠ 0) : (ints k n f = #[]) = False := by
 simp only [eq_iff_iff, iff_false]
 intro e;have := zqh k n f;rw [e] at this;exact h this.symm
@[go_sem] theorem zqed (k : IntKind) (n : Nat) (f : Nat -> Int) : zqa5 (ints k n f) = true := by
 unfold zqa5; rw [Array.all_eq_true]; intro i hi; simp [ints, Value.oneCell']
@[go_sem] theorem zq2s (w : World) (c c' : Array Value) (t : TypeId) (n : Nat) (hn : n = w.heap.size) : (w.alloc (.cells c t)).setRow n c' = w.alloc (.cells c' t) := by
 subst hn;unfold World.setRow World.alloc
 congr 1
 apply Array.ext_getElem?
 intro k
 simp only [Array.getElem?_modify, Array.getElem?_push]
 by_cases hk : k = w.heap.size
 ·subst hk; simp
 ·have hk' : ¬ w.heap.size = k := fun e => hk e.symm
  simp [hk, hk']
@[go_sem] theorem zqzc (w : World) (o : Obj) (c' : Array Value) (n : Nat) (hn : n < w.heap.size) : (w.alloc o).setRow n c' = (w.setRow n c').alloc o := by
 unfold World.setRow World.alloc
 congr 1
 apply Array.ext_getElem?
 intro k
 simp only [Array.getElem?_modify, Array.getElem?_push, Array.size_modify]
 by_cases hk : k = w.heap.size
 ·subst hk; simp [Nat.ne_of_lt hn]
 ·simp [hk]
@[go_sem] theorem zqk2 (w : World) (g : Nat) (cs : Array Value) : zqd (w.setRow g cs) g = (match zqd w g with | some (.cells _ t fr) => some (.cells cs t fr) | o => o) := by
 unfold zqd World.setRow
 simp only [Array.getElem?_modify, if_pos]
 cases w.heap[g]? with
 | none => rfl
 | some o => cases o <;> rfl
@[go_sem] theorem zqjo (w : World) (g n : Nat) (cs : Array Value) (h : n ≠ g) : zqd (w.setRow g cs) n = zqd w n := by
 unfold zqd World.setRow
 simp only [Array.getElem?_modify]
 rw [if_neg (fun e => h e.symm)]
theorem Grew.setRow {w w' : World} (h : Below w.heap.size w w') (g : Nat) (cs : Array Value) (hg : w.heap.size <= g) : Below w.heap.size w (w'.setRow g cs) :=
 h.trans ⟨rfl, rfl, rfl, by simp [World.setRow], fun k hk => by
  show ((w'.setRow g cs).heap)[k]? = _
  unfold World.setRow
  simp only [Array.getElem?_modify]
  rw [if_neg (by omega)]⟩
theorem zqi {w : World} {n : Nat} {o : Obj} (g : Nat) (cs : Array Value) (h : zqd w n = some o) (hn : n ≠ g) : zqd (w.setRow g cs) n = some o := (zqjo w g n cs hn).trans h
theorem zqs {w : World} {n : Nat} {c : Array Value} {t : TypeId} {fr : Nat × Nat} (cs : Array Value) (h : zqd w n = some (.cells c t fr)) : zqd (w.setRow n cs) n = some (.cells cs t fr) := by
 rw [zqk2, h]
theorem zqe {W : World} {g : Nat} {o : Obj} (h : zqd W g = some o := by (repeat (first | assumption | exact zqj _ _ _ rfl | (refine zqj _ _ _ ?_; (simp; done)) | refine zqm _ ?_ | refine zq0x _ ?_ | refine zql _ ?_ | exact zqs _ (by assumption) | apply zqs | refine zqi _ _ ?_ (by first | omega | (simp; omega) | simp)))) : zqd W g = some o := h
theorem zqf {a : Nat} {W w : World} (h : Below a W w := by (repeat (first | assumption | exact Grew.refl _ | refine Grew.more ?_ _ | refine Grew.alloc ?_ _ | refine Grew.drewN ?_ _ | refine Grew.setRow ?_ _ _ (by omega) | refine Grew.setRow ?_ _ _ (by simp; omega) | refine Grew.setRow ?_ _ _ (by simp)))) : Below a W w := h
@[go_sem] theorem zrc1 (w : World) (c' : Array Value) (n : Nat) : w.drew.setRow n c' = (w.setRow n c').drew := rfl
@[go_sem] theorem zras (w : World) (c' : Array Value) (n m : Nat) : (w.drewN m).setRow n c' = (w.setRow n c').drewN m := rfl
@[go_sem] theorem zqg2 (w : World) (c' : Array Value) (n : Nat) (m : More) (hn : n < w.heap.size) : (more w m).setRow n c' = more (w.setRow n c') m := by
 unfold World.setRow more
 congr 1
 apply Array.ext_getElem?
 intro k
 simp only [Array.getElem?_modify, Array.getElem?_append, Array.size_modify]
 by_cases hk : n = k
 ·subst hk; simp [hn]
 ·simp [hk]
@[go_sem] theorem zq93 (w : World) (v : Value) (n i : Nat) (m : More) (hn : n < w.heap.size) : (more w m).setCell ⟨n, i, none⟩ v = more (w.setCell ⟨n, i, none⟩ v) m := by
 unfold World.setCell more
 congr 1
 apply Array.ext_getElem?
 intro k
 simp only [Array.getElem?_modify, Array.getElem?_append, Array.size_modify]
 by_cases hk : n = k
 ·subst hk; simp [hn]
 ·simp [hk]
@[go_sem] theorem zq8j (w : World) (a : Addr) (v : Value) (m : Nat) : (w.drewN m).setCell a v = (w.setCell a v).drewN m := rfl
@[go_sem] theorem zqap (w : World) (g : Nat) (cs : Array Value) : (w.setRow g cs).heap.size = w.heap.size := size_setRow w g cs
def zqd2 (P : Program) (t : TypeId) (g o n : Nat) (w : World) : Option Obj -> Result Value
 | some (.cells cs _ _) => if o + n <= cs.size then .ok (.agg (cs.extract o (o + n))) w else (Instr.loadAt t (.pointer (some ⟨g, o, none⟩))).run P w
 | _ => (Instr.loadAt t (.pointer (some ⟨g, o, none⟩))).run P w
theorem zqh3 {P : Program} {t : TypeId} {n : Nat} {d : TypeDesc} (hu : P.underlying t = some d) (hd : (match d with | .struct _ | .array _ _ => true | _ => false) = true) (hi : (P.info? t).map (·.size) = some n) (g o : Nat) (w : World) :
  loadRow P t (.pointer (some ⟨g, o, none⟩)) w = zqd2 P t g o n w (zqd w g) := by
 show _ = zqd2 P t g o n w w.heap[g]?
 cases hg : w.heap[g]? with
 | none => rfl
 | some ob =>
  cases ob with
  | cells cs t' fr =>
   simp only [zqd2]
   by_cases hc : o + n <= cs.size
   ·rw [if_pos hc]
    exact zqsr hu hd hi g o w cs t' fr hg hc
   ·rw [if_neg hc]; rfl
  | _ => rfl
def zqde (P : Program) (t : TypeId) (g o n : Nat) (v : Value) (w : World) : Option Obj -> Result Unit
 | some (.cells old _ (0, 0)) => match v with
  | .agg cs => if o + n <= old.size /\ cs.size = n /\ zqa5 cs = true then .ok () (w.setRow g (zqcp old o cs.toList)) else (Instr.storeAt t (.pointer (some ⟨g, o, none⟩)) v).run P w
  | _ => (Instr.storeAt t (.pointer (some ⟨g, o, none⟩)) v).run P w
 | _ => (Instr.storeAt t (.pointer (some ⟨g, o, none⟩)) v).run P w
theorem zqfn {P : Program} {t : TypeId} {n : Nat} (hi : (P.info? t).map (·.size) = some n) (g o : Nat) (cs : Array Value) (w : World) :
  zqju P t (.pointer (some ⟨g, o, none⟩)) (.agg cs) w = zqde P t g o n (.agg cs) w (zqd w g) := by
 show _ = zqde P t g o n (.agg cs) w w.heap[g]?
 unfold zqde
 split
 ·rename_i old t' hg
  split
  ·rename_i cs' e
   cases e
   split
   ·rename_i h
    obtain ⟨h1, h2, h3⟩ := h;exact zqp7 hi g o w old cs t' hg h2 h1 h3
   ·rfl
  ·rename_i hx
   exact (hx _ rfl).elim
 ·rfl
attribute [irreducible] zqd2 zqde
attribute [irreducible] zqa5 zqbv zqbb loadRow zqju zq6 zq7
theorem zqaf {P : Program} {fn : Func} {R : Ending -> World -> Prop} {a : Act} {w : World} {p : Tmp} {ty : TypeId} (h : fn.results = #[.cell p ty]) (g : Nat) (t : TypeId) (cs : Array Value) (fr : Nat × Nat) (d : TypeDesc)
  (hp : a.tmps.getD p undef = .pointer (some ⟨g, 0, none⟩)) (hg : zqd w g = some (.cells cs t fr))
  (hu : P.underlying ty = some d) (hd : (match d with | .struct _ | .array _ _ => true | _ => false) = true) (hi : (P.info? ty).map (·.size) = some cs.size) (hD : a.defers = []) (hR : R (.returned (.agg cs)) w) : bodyPost P fn R .ret a w :=
 bodyPost_ret_by (results_cell_row h a.tmps w g t cs fr d hp (by unfold zqd at hg; exact hg) hu hd hi) hD hR
theorem zqmk {P : Program} {fn : Func} {R : Ending -> World -> Prop} {a : Act} {w : World} {p q : Tmp} {ty ty' : TypeId} (h : fn.results = #[.cell p ty, .cell q ty']) (g g' : Nat) (t t' : TypeId) (cs cs' : Array Value) (fr fr' : Nat × Nat) (d d' : TypeDesc)
  (hp : a.tmps.getD p undef = .pointer (some ⟨g, 0, none⟩)) (hq : a.tmps.getD q undef = .pointer (some ⟨g', 0, none⟩)) (hg : zqd w g = some (.cells cs t fr)) (hg' : zqd w g' = some (.cells cs' t' fr'))
  (hu : P.underlying ty = some d) (hd : (match d with | .struct _ | .array _ _ => true | _ => false) = true) (hi : (P.info? ty).map (·.size) = some cs.size)
  (hu' : P.underlying ty' = some d') (hd' : (match d' with | .struct _ | .array _ _ => true | _ => false) = true) (hi' : (P.info? ty').map (·.size) = some cs'.size)
  (hD : a.defers = []) (hR : R (.returned (.tuple #[.agg cs, .agg cs'])) w) : bodyPost P fn R .ret a w := by
 refine bodyPost_ret_by ?_ hD hR
 have hp' : a.tmps[p]?.getD undef = .pointer (some ⟨g, 0, none⟩) := by simpa using hp
 have hq' : a.tmps[q]?.getD undef = .pointer (some ⟨g', 0, none⟩) := by simpa using hq
 unfold zqd at hg hg'
 simp [results, h, hp', hq', asAddr, run_loadVar_row w g t ty cs fr d hg hu hd hi, run_loadVar_row w g' t' ty' cs' fr' d' hg' hu' hd' hi']
def cellOf (o : Option Obj) (i : Nat) : Option Value := match o with | some (.cells c _ _) => c[i]? | _ => none
def zqgz (o : Option Obj) (i : Nat) : Bool := match o with | some (.cells _ _ (lo, hi)) => lo <= i && i < hi | _ => false
def zqho (w : World) (n i : Nat) (v : Value) (o : Option Obj) : World := match o with | some (.cells c _ (0, 0)) => w.setRow n (c.setIfInBounds i v) | _ => w.setCell ⟨n, i, none⟩ v
theorem zqb7 (c : Array Value) (t : TypeId) (fr : Nat × Nat) (i : Nat) : cellOf (some (.cells c t fr)) i = c[i]? := rfl
theorem zqou (c : Array Value) (t : TypeId) (i : Nat) : zqgz (some (.cells c t (0, 0))) i = false := by simp [zqgz]
theorem zqm7 (w : World) (n i : Nat) (v : Value) (c : Array Value) (t : TypeId) : zqho w n i v (some (.cells c t (0, 0))) = w.setRow n (c.setIfInBounds i v) := rfl
theorem zqrk (w : World) (n i : Nat) : w.cell? ⟨n, i, none⟩ = cellOf (zqd w n) i := by
 unfold World.cell? cellOf zqd
 cases h : w.heap[n]? with
 | none => simp
 | some o => cases o <;> simp
theorem zq0d (w : World) (n i : Nat) : w.frozen? ⟨n, i, none⟩ = zqgz (zqd w n) i := by
 unfold World.frozen? zqgz zqd
 cases h : w.heap[n]? with
 | none => simp
 | some o => cases o <;> simp
theorem zqnb (w : World) (n i : Nat) (v : Value) : w.setCell ⟨n, i, none⟩ v = zqho w n i v (zqd w n) := by
 unfold zqho
 split
 ·rename_i c t h
  unfold zqd at h;exact setCell_eq_setRow w n i c t (0, 0) v h
 ·rfl
attribute [go_sem] zqb7 zqou zqm7
attribute [go_sem low] zqrk zq0d zqnb
attribute [irreducible] cellOf zqgz zqho
@[go_sem ↓ high] theorem zrjs (ρ : Operand -> Value) (d : Option Tmp) (x : Operand) (t : TypeId) (pos : String) (af : Array Edge) (g : Option (Nat × Bool)) :
  execOp ρ ⟨d, .load 24 x, t, pos, af, g⟩ = zq6 24 (ρ x) := zqb0 _ ρ d x t pos af g
@[go_sem high] theorem zriz (ρ : Operand -> Value) (d : Option Tmp) (x : Operand) (t : TypeId) (pos : String) (af : Array Edge) (g : Option (Nat × Bool)) :
  execOp ρ ⟨d, .load 24 x, t, pos, af, g⟩ = zq6 24 (ρ x) := zqb0 _ ρ d x t pos af g
@[go_sem] theorem zred (g : Nat) (w : World) : (zq6 24 (.pointer (some ⟨g, 0, none⟩))).run Tryz.prog w = (zqbv Tryz.prog 24 g 32 w (zqd w g)).andThen fun v w' => .ok (.value v) w' := by
 rw [zqa2, zqb9 Tryz.underlying24 rfl zqc g w]
@[go_sem] theorem zrdd (g : Nat) (w : World) (cs : Array Value) (t' : TypeId) (fr : Nat × Nat) (h : cs.size = 32) : zqbv Tryz.prog 24 g 32 w (some (.cells cs t' fr)) = .ok (.agg cs) w := zqbo cs t' fr h
@[go_sem ↓ high] theorem zri4 (ρ : Operand -> Value) (d : Option Tmp) (x y : Operand) (t : TypeId) (pos : String) (af : Array Edge) (g : Option (Nat × Bool)) :
  execOp ρ ⟨d, .store 24 x y, t, pos, af, g⟩ = zq7 24 (ρ x) (ρ y) := zqbj _ ρ d x y t pos af g
@[go_sem high] theorem zre1 (ρ : Operand -> Value) (d : Option Tmp) (x y : Operand) (t : TypeId) (pos : String) (af : Array Edge) (g : Option (Nat × Bool)) :
  execOp ρ ⟨d, .store 24 x y, t, pos, af, g⟩ = zq7 24 (ρ x) (ρ y) := zqbj _ ρ d x y t pos af g
@[go_sem] theorem zq9o (g : Nat) (cs : Array Value) (w : World) : (zq7 24 (.pointer (some ⟨g, 0, none⟩)) (.agg cs)).run Tryz.prog w = (zqbb Tryz.prog 24 g 32 (.agg cs) w (zqd w g)).andThen fun _ w' => .ok .skip w' := by
 rw [zqax, zqb3 zqc g cs w]
@[go_sem] theorem zq99 (g : Nat) (w : World) (old cs : Array Value) (t' : TypeId) (h1 : old.size = 32) (h2 : cs.size = 32) (h3 : zqa5 cs = true) :
  zqbb Tryz.prog 24 g 32 (.agg cs) w (some (.cells old t' (0, 0))) = .ok () (w.setRow g cs) := zqbg old cs t' h1 h2 h3
@[go_sem high] theorem zrh0 (w : World) : (zeroValue 24).run Tryz.prog w = .ok (.agg (ints .u8 32 zqg)) w := by kernel_rfl
@[go_sem ↓ high] theorem zqa8 (w : World) : (zeroValue 24).run Tryz.prog w = .ok (.agg (ints .u8 32 zqg)) w := by kernel_rfl
@[go_sem high] theorem zrkj (f g : Nat -> Int) (w : World) : (binOp .eql 24 (.agg (ints .u8 32 f)) (.agg (ints .u8 32 g))).run Tryz.prog w = .ok (.bool (same 32 f g)) w :=
 zqcu w .u8 f g Tryz.underlying24 Tryz.underlying5 (i := (Tryz.prog.info? 5).get zqc) zqc zqc
@[go_sem high] theorem zrkg (f g : Nat -> Int) (w : World) : (binOp .neq 24 (.agg (ints .u8 32 f)) (.agg (ints .u8 32 g))).run Tryz.prog w = .ok (.bool (!same 32 f g)) w :=
 zqcs w .u8 f g Tryz.underlying24 Tryz.underlying5 (i := (Tryz.prog.info? 5).get zqc) zqc zqc
@[go_sem] theorem zrgh (k' : IntKind) (f : Nat -> Int) (j : Int) (w : World) (h0 : 0 <= j) (h1 : j < 32) : (Instr.index 24 (.agg (ints .u8 32 f)) (.int k' j)).run Tryz.prog w = .ok (.int .u8 (f j.toNat)) w :=
 zqb2 w .u8 k' f j Tryz.underlying24 Tryz.underlying5 (i := (Tryz.prog.info? 5).get zqc) zqc zqc h0 h1
@[go_sem ↓ high] theorem zq9s (ty : TypeId) (cs : Array Bool) (args : Array Value) : builtin .append #[135, 135] ty cs args = zqx #[135, 135] ty args := by unfold zqx; rfl
@[go_sem] theorem zq30 (ty : TypeId) (b n cap b2 m c : Nat) (w : World) : (zqx #[135, 135] ty #[.slice (some ⟨b, 0, none⟩) n cap, .slice (some ⟨b2, 0, none⟩) m c]).run Tryz.prog w =
  zqh9 Tryz.prog #[135, 135] ty b n cap b2 m c w (zqd w b) (zqd w b2) := zq20 Tryz.underlying135 (ie := (Tryz.prog.info? 5).get zqc) zqc zqc ty b n cap b2 m c w
attribute [go_sem] zqt7
theorem zqk {W w1 : World} {n : Nat} {v : Option Obj} (e : W = w1) (h : zqd W n = v := by exact zqe) : zqd w1 n = v := e ▸ h
theorem zq2 {a W w1 : World} (e : W = w1) (h : Below a.heap.size a W := by exact zqf) : Below a.heap.size a w1 := e ▸ h
end Go.Proofs.YtconieddcjpbjaaGreatDoor
namespace Go.Proofs.YtconieddcjpbjaaGreatDoor
open Go.RowKit
@[go_sem ↓ high] theorem zrgs (ρ : Operand -> Value) (d : Option Tmp) (x : Operand) (t : TypeId) (pos : String) (af : Array Edge) (g : Option (Nat × Bool)) :
  execOp ρ ⟨d, .load 124 x, t, pos, af, g⟩ = zq6 124 (ρ x) := zqb0 _ ρ d x t pos af g
@[go_sem high] theorem zrfs (ρ : Operand -> Value) (d : Option Tmp) (x : Operand) (t : TypeId) (pos : String) (af : Array Edge) (g : Option (Nat × Bool)) :
  execOp ρ ⟨d, .load 124 x, t, pos, af, g⟩ = zq6 124 (ρ x) := zqb0 _ ρ d x t pos af g
@[go_sem] theorem zq9h (g : Nat) (w : World) : (zq6 124 (.pointer (some ⟨g, 0, none⟩))).run Tryz.prog w = (zqbv Tryz.prog 124 g 5 w (zqd w g)).andThen fun v w' => .ok (.value v) w' := by
 rw [zqa2, zqb9 Tryz.underlying124 rfl zqc g w]
@[go_sem] theorem zq98 (g : Nat) (w : World) (cs : Array Value) (t' : TypeId) (fr : Nat × Nat) (h : cs.size = 5) : zqbv Tryz.prog 124 g 5 w (some (.cells cs t' fr)) = .ok (.agg cs) w := zqbo cs t' fr h
@[go_sem ↓ high] theorem zrfe (ρ : Operand -> Value) (d : Option Tmp) (x y : Operand) (t : TypeId) (pos : String) (af : Array Edge) (g : Option (Nat × Bool)) :
  execOp ρ ⟨d, .store 124 x y, t, pos, af, g⟩ = zq7 124 (ρ x) (ρ y) := zqbj _ ρ d x y t pos af g
@[go_sem high] theorem zrbl (ρ : Operand -> Value) (d : Option Tmp) (x y : Operand) (t : TypeId) (pos : String) (af : Array Edge) (g : Option (Nat × Bool)) :
  execOp ρ ⟨d, .store 124 x y, t, pos, af, g⟩ = zq7 124 (ρ x) (ρ y) := zqbj _ ρ d x y t pos af g
@[go_sem] theorem zq6g (g : Nat) (cs : Array Value) (w : World) : (zq7 124 (.pointer (some ⟨g, 0, none⟩)) (.agg cs)).run Tryz.prog w = (zqbb Tryz.prog 124 g 5 (.agg cs) w (zqd w g)).andThen fun _ w' => .ok .skip w' := by
 rw [zqax, zqb3 zqc g cs w]
@[go_sem] theorem zq7f (g : Nat) (w : World) (old cs : Array Value) (t' : TypeId) (h1 : old.size = 5) (h2 : cs.size = 5) (h3 : zqa5 cs = true) :
  zqbb Tryz.prog 124 g 5 (.agg cs) w (some (.cells old t' (0, 0))) = .ok () (w.setRow g cs) := zqbg old cs t' h1 h2 h3
@[go_sem high] theorem zres (w : World) : (zeroValue 124).run Tryz.prog w = .ok (.agg (ints .u64 5 zqg)) w := by kernel_rfl
@[go_sem ↓ high] theorem zqas (w : World) : (zeroValue 124).run Tryz.prog w = .ok (.agg (ints .u64 5 zqg)) w := by kernel_rfl
@[go_sem high] theorem zrjr (f g : Nat -> Int) (w : World) : (binOp .eql 124 (.agg (ints .u64 5 f)) (.agg (ints .u64 5 g))).run Tryz.prog w = .ok (.bool (same 5 f g)) w :=
 zqcu w .u64 f g Tryz.underlying124 Tryz.underlying122 (i := (Tryz.prog.info? 122).get zqc) zqc zqc
@[go_sem high] theorem zrjv (f g : Nat -> Int) (w : World) : (binOp .neq 124 (.agg (ints .u64 5 f)) (.agg (ints .u64 5 g))).run Tryz.prog w = .ok (.bool (!same 5 f g)) w :=
 zqcs w .u64 f g Tryz.underlying124 Tryz.underlying122 (i := (Tryz.prog.info? 122).get zqc) zqc zqc
@[go_sem] theorem zrfr (k' : IntKind) (f : Nat -> Int) (j : Int) (w : World) (h0 : 0 <= j) (h1 : j < 5) : (Instr.index 124 (.agg (ints .u64 5 f)) (.int k' j)).run Tryz.prog w = .ok (.int .u64 (f j.toNat)) w :=
 zqb2 w .u64 k' f j Tryz.underlying124 Tryz.underlying122 (i := (Tryz.prog.info? 122).get zqc) zqc zqc h0 h1
@[go_sem ↓ high] theorem zre2 (ρ : Operand -> Value) (d : Option Tmp) (x : Operand) (t : TypeId) (pos : String) (af : Array Edge) (g : Option (Nat × Bool)) :
  execOp ρ ⟨d, .load 147 x, t, pos, af, g⟩ = zq6 147 (ρ x) := zqb0 _ ρ d x t pos af g
@[go_sem high] theorem zrbf (ρ : Operand -> Value) (d : Option Tmp) (x : Operand) (t : TypeId) (pos : String) (af : Array Edge) (g : Option (Nat × Bool)) :
  execOp ρ ⟨d, .load 147 x, t, pos, af, g⟩ = zq6 147 (ρ x) := zqb0 _ ρ d x t pos af g
@[go_sem] theorem zq84 (g : Nat) (w : World) : (zq6 147 (.pointer (some ⟨g, 0, none⟩))).run Tryz.prog w = (zqbv Tryz.prog 147 g 4 w (zqd w g)).andThen fun v w' => .ok (.value v) w' := by
 rw [zqa2, zqb9 Tryz.underlying147 rfl zqc g w]
@[go_sem] theorem zq7r (g : Nat) (w : World) (cs : Array Value) (t' : TypeId) (fr : Nat × Nat) (h : cs.size = 4) : zqbv Tryz.prog 147 g 4 w (some (.cells cs t' fr)) = .ok (.agg cs) w := zqbo cs t' fr h
@[go_sem ↓ high] theorem zrc0 (ρ : Operand -> Value) (d : Option Tmp) (x y : Operand) (t : TypeId) (pos : String) (af : Array Edge) (g : Option (Nat × Bool)) :
  execOp ρ ⟨d, .store 147 x y, t, pos, af, g⟩ = zq7 147 (ρ x) (ρ y) := zqbj _ ρ d x y t pos af g
@[go_sem high] theorem zrar (ρ : Operand -> Value) (d : Option Tmp) (x y : Operand) (t : TypeId) (pos : String) (af : Array Edge) (g : Option (Nat × Bool)) :
  execOp ρ ⟨d, .store 147 x y, t, pos, af, g⟩ = zq7 147 (ρ x) (ρ y) := zqbj _ ρ d x y t pos af g
@[go_sem] theorem zq5p (g : Nat) (cs : Array Value) (w : World) : (zq7 147 (.pointer (some ⟨g, 0, none⟩)) (.agg cs)).run Tryz.prog w = (zqbb Tryz.prog 147 g 4 (.agg cs) w (zqd w g)).andThen fun _ w' => .ok .skip w' := by
 rw [zqax, zqb3 zqc g cs w]
@[go_sem] theorem zq5v (g : Nat) (w : World) (old cs : Array Value) (t' : TypeId) (h1 : old.size = 4) (h2 : cs.size = 4) (h3 : zqa5 cs = true) :
  zqbb Tryz.prog 147 g 4 (.agg cs) w (some (.cells old t' (0, 0))) = .ok () (w.setRow g cs) := zqbg old cs t' h1 h2 h3
@[go_sem high] theorem zrc6 (w : World) : (zeroValue 147).run Tryz.prog w = .ok (.agg (ints .u64 4 zqg)) w := by kernel_rfl
@[go_sem ↓ high] theorem zrfc (w : World) : (zeroValue 147).run Tryz.prog w = .ok (.agg (ints .u64 4 zqg)) w := by kernel_rfl
@[go_sem high] theorem zri2 (f g : Nat -> Int) (w : World) : (binOp .eql 147 (.agg (ints .u64 4 f)) (.agg (ints .u64 4 g))).run Tryz.prog w = .ok (.bool (same 4 f g)) w :=
 zqcu w .u64 f g Tryz.underlying147 Tryz.underlying122 (i := (Tryz.prog.info? 122).get zqc) zqc zqc
@[go_sem high] theorem zrho (f g : Nat -> Int) (w : World) : (binOp .neq 147 (.agg (ints .u64 4 f)) (.agg (ints .u64 4 g))).run Tryz.prog w = .ok (.bool (!same 4 f g)) w :=
 zqcs w .u64 f g Tryz.underlying147 Tryz.underlying122 (i := (Tryz.prog.info? 122).get zqc) zqc zqc
@[go_sem] theorem zra8 (k' : IntKind) (f : Nat -> Int) (j : Int) (w : World) (h0 : 0 <= j) (h1 : j < 4) : (Instr.index 147 (.agg (ints .u64 4 f)) (.int k' j)).run Tryz.prog w = .ok (.int .u64 (f j.toNat)) w :=
 zqb2 w .u64 k' f j Tryz.underlying147 Tryz.underlying122 (i := (Tryz.prog.info? 122).get zqc) zqc zqc h0 h1
end Go.Proofs.YtconieddcjpbjaaGreatDoor
namespace Go.Proofs.YtconieddcjpbjaaGreatDoor
open Go.RowKit
@[go_sem ↓ high] theorem zrjw (ρ : Operand -> Value) (d : Option Tmp) (x : Operand) (t : TypeId) (pos : String) (af : Array Edge) (g : Option (Nat × Bool)) :
  execOp ρ ⟨d, .load 129 x, t, pos, af, g⟩ = zq6 129 (ρ x) := zqb0 _ ρ d x t pos af g
@[go_sem high] theorem zrf9 (ρ : Operand -> Value) (d : Option Tmp) (x : Operand) (t : TypeId) (pos : String) (af : Array Edge) (g : Option (Nat × Bool)) :
  execOp ρ ⟨d, .load 129 x, t, pos, af, g⟩ = zq6 129 (ρ x) := zqb0 _ ρ d x t pos af g
@[go_sem] theorem zreb (g : Nat) (w : World) : (zq6 129 (.pointer (some ⟨g, 0, none⟩))).run Tryz.prog w = (zqbv Tryz.prog 129 g 16 w (zqd w g)).andThen fun v w' => .ok (.value v) w' := by
 rw [zqa2, zqb9 Tryz.underlying129 rfl zqc g w]
@[go_sem] theorem zrel (g : Nat) (w : World) (cs : Array Value) (t' : TypeId) (fr : Nat × Nat) (h : cs.size = 16) : zqbv Tryz.prog 129 g 16 w (some (.cells cs t' fr)) = .ok (.agg cs) w := zqbo cs t' fr h
@[go_sem ↓ high] theorem zrhk (ρ : Operand -> Value) (d : Option Tmp) (x y : Operand) (t : TypeId) (pos : String) (af : Array Edge) (g : Option (Nat × Bool)) :
  execOp ρ ⟨d, .store 129 x y, t, pos, af, g⟩ = zq7 129 (ρ x) (ρ y) := zqbj _ ρ d x y t pos af g
@[go_sem high] theorem zreq (ρ : Operand -> Value) (d : Option Tmp) (x y : Operand) (t : TypeId) (pos : String) (af : Array Edge) (g : Option (Nat × Bool)) :
  execOp ρ ⟨d, .store 129 x y, t, pos, af, g⟩ = zq7 129 (ρ x) (ρ y) := zqbj _ ρ d x y t pos af g
@[go_sem] theorem zq97 (g : Nat) (cs : Array Value) (w : World) : (zq7 129 (.pointer (some ⟨g, 0, none⟩)) (.agg cs)).run Tryz.prog w = (zqbb Tryz.prog 129 g 16 (.agg cs) w (zqd w g)).andThen fun _ w' => .ok .skip w' := by
 rw [zqax, zqb3 zqc g cs w]
@[go_sem] theorem zra0 (g : Nat) (w : World) (old cs : Array Value) (t' : TypeId) (h1 : old.size = 16) (h2 : cs.size = 16) (h3 : zqa5 cs = true) :
  zqbb Tryz.prog 129 g 16 (.agg cs) w (some (.cells old t' (0, 0))) = .ok () (w.setRow g cs) := zqbg old cs t' h1 h2 h3
@[go_sem high] theorem zrgj (w : World) : (zeroValue 129).run Tryz.prog w = .ok (.agg (ints .i64 16 zqg)) w := by kernel_rfl
@[go_sem ↓ high] theorem zqa6 (w : World) : (zeroValue 129).run Tryz.prog w = .ok (.agg (ints .i64 16 zqg)) w := by kernel_rfl
@[go_sem high] theorem zrkm (f g : Nat -> Int) (w : World) : (binOp .eql 129 (.agg (ints .i64 16 f)) (.agg (ints .i64 16 g))).run Tryz.prog w = .ok (.bool (same 16 f g)) w :=
 zqcu w .i64 f g Tryz.underlying129 Tryz.underlying3 (i := (Tryz.prog.info? 3).get zqc) zqc zqc
@[go_sem high] theorem zrki (f g : Nat -> Int) (w : World) : (binOp .neq 129 (.agg (ints .i64 16 f)) (.agg (ints .i64 16 g))).run Tryz.prog w = .ok (.bool (!same 16 f g)) w :=
 zqcs w .i64 f g Tryz.underlying129 Tryz.underlying3 (i := (Tryz.prog.info? 3).get zqc) zqc zqc
@[go_sem] theorem zril (k' : IntKind) (f : Nat -> Int) (j : Int) (w : World) (h0 : 0 <= j) (h1 : j < 16) : (Instr.index 129 (.agg (ints .i64 16 f)) (.int k' j)).run Tryz.prog w = .ok (.int .i64 (f j.toNat)) w :=
 zqb2 w .i64 k' f j Tryz.underlying129 Tryz.underlying3 (i := (Tryz.prog.info? 3).get zqc) zqc zqc h0 h1
@[go_sem ↓ high] theorem zrex (ρ : Operand -> Value) (d : Option Tmp) (x : Operand) (t : TypeId) (pos : String) (af : Array Edge) (g : Option (Nat × Bool)) :
  execOp ρ ⟨d, .load 23 x, t, pos, af, g⟩ = zq6 23 (ρ x) := zqb0 _ ρ d x t pos af g
@[go_sem high] theorem zrbk (ρ : Operand -> Value) (d : Option Tmp) (x : Operand) (t : TypeId) (pos : String) (af : Array Edge) (g : Option (Nat × Bool)) :
  execOp ρ ⟨d, .load 23 x, t, pos, af, g⟩ = zq6 23 (ρ x) := zqb0 _ ρ d x t pos af g
@[go_sem] theorem zq8n (g : Nat) (w : World) : (zq6 23 (.pointer (some ⟨g, 0, none⟩))).run Tryz.prog w = (zqbv Tryz.prog 23 g 32 w (zqd w g)).andThen fun v w' => .ok (.value v) w' := by
 rw [zqa2, zqb9 Tryz.underlying23 rfl zqc g w]
@[go_sem] theorem zq7m (g : Nat) (w : World) (cs : Array Value) (t' : TypeId) (fr : Nat × Nat) (h : cs.size = 32) : zqbv Tryz.prog 23 g 32 w (some (.cells cs t' fr)) = .ok (.agg cs) w := zqbo cs t' fr h
@[go_sem ↓ high] theorem zrc2 (ρ : Operand -> Value) (d : Option Tmp) (x y : Operand) (t : TypeId) (pos : String) (af : Array Edge) (g : Option (Nat × Bool)) :
  execOp ρ ⟨d, .store 23 x y, t, pos, af, g⟩ = zq7 23 (ρ x) (ρ y) := zqbj _ ρ d x y t pos af g
@[go_sem high] theorem zq9p (ρ : Operand -> Value) (d : Option Tmp) (x y : Operand) (t : TypeId) (pos : String) (af : Array Edge) (g : Option (Nat × Bool)) :
  execOp ρ ⟨d, .store 23 x y, t, pos, af, g⟩ = zq7 23 (ρ x) (ρ y) := zqbj _ ρ d x y t pos af g
@[go_sem] theorem zq5o (g : Nat) (cs : Array Value) (w : World) : (zq7 23 (.pointer (some ⟨g, 0, none⟩)) (.agg cs)).run Tryz.prog w = (zqbb Tryz.prog 23 g 32 (.agg cs) w (zqd w g)).andThen fun _ w' => .ok .skip w' := by
 rw [zqax, zqb3 zqc g cs w]
@[go_sem] theorem zq5s (g : Nat) (w : World) (old cs : Array Value) (t' : TypeId) (h1 : old.size = 32) (h2 : cs.size = 32) (h3 : zqa5 cs = true) :
  zqbb Tryz.prog 23 g 32 (.agg cs) w (some (.cells old t' (0, 0))) = .ok () (w.setRow g cs) := zqbg old cs t' h1 h2 h3
@[go_sem high] theorem zrdu (w : World) : (zeroValue 23).run Tryz.prog w = .ok (.agg (ints .u8 32 zqg)) w := by kernel_rfl
@[go_sem ↓ high] theorem zret (w : World) : (zeroValue 23).run Tryz.prog w = .ok (.agg (ints .u8 32 zqg)) w := by kernel_rfl
@[go_sem high] theorem zrgi (f g : Nat -> Int) (w : World) : (binOp .eql 23 (.agg (ints .u8 32 f)) (.agg (ints .u8 32 g))).run Tryz.prog w = .ok (.bool (same 32 f g)) w :=
 zqcu w .u8 f g Tryz.underlying23 Tryz.underlying5 (i := (Tryz.prog.info? 5).get zqc) zqc zqc
@[go_sem high] theorem zrhl (f g : Nat -> Int) (w : World) : (binOp .neq 23 (.agg (ints .u8 32 f)) (.agg (ints .u8 32 g))).run Tryz.prog w = .ok (.bool (!same 32 f g)) w :=
 zqcs w .u8 f g Tryz.underlying23 Tryz.underlying5 (i := (Tryz.prog.info? 5).get zqc) zqc zqc
@[go_sem] theorem zrby (k' : IntKind) (f : Nat -> Int) (j : Int) (w : World) (h0 : 0 <= j) (h1 : j < 32) : (Instr.index 23 (.agg (ints .u8 32 f)) (.int k' j)).run Tryz.prog w = .ok (.int .u8 (f j.toNat)) w :=
 zqb2 w .u8 k' f j Tryz.underlying23 Tryz.underlying5 (i := (Tryz.prog.info? 5).get zqc) zqc zqc h0 h1
@[go_sem ↓ high] theorem zrh3 (ρ : Operand -> Value) (d : Option Tmp) (x : Operand) (t : TypeId) (pos : String) (af : Array Edge) (g : Option (Nat × Bool)) :
  execOp ρ ⟨d, .load 123 x, t, pos, af, g⟩ = zq6 123 (ρ x) := zqb0 _ ρ d x t pos af g
@[go_sem high] theorem zrff (ρ : Operand -> Value) (d : Option Tmp) (x : Operand) (t : TypeId) (pos : String) (af : Array Edge) (g : Option (Nat × Bool)) :
  execOp ρ ⟨d, .load 123 x, t, pos, af, g⟩ = zq6 123 (ρ x) := zqb0 _ ρ d x t pos af g
@[go_sem] theorem zrax (g : Nat) (w : World) : (zq6 123 (.pointer (some ⟨g, 0, none⟩))).run Tryz.prog w = (zqbv Tryz.prog 123 g 5 w (zqd w g)).andThen fun v w' => .ok (.value v) w' := by
 rw [zqa2, zqb9 Tryz.underlying123 rfl zqc g w]
@[go_sem] theorem zran (g : Nat) (w : World) (cs : Array Value) (t' : TypeId) (fr : Nat × Nat) (h : cs.size = 5) : zqbv Tryz.prog 123 g 5 w (some (.cells cs t' fr)) = .ok (.agg cs) w := zqbo cs t' fr h
@[go_sem ↓ high] theorem zre6 (ρ : Operand -> Value) (d : Option Tmp) (x y : Operand) (t : TypeId) (pos : String) (af : Array Edge) (g : Option (Nat × Bool)) :
  execOp ρ ⟨d, .store 123 x y, t, pos, af, g⟩ = zq7 123 (ρ x) (ρ y) := zqbj _ ρ d x y t pos af g
@[go_sem high] theorem zrdv (ρ : Operand -> Value) (d : Option Tmp) (x y : Operand) (t : TypeId) (pos : String) (af : Array Edge) (g : Option (Nat × Bool)) :
  execOp ρ ⟨d, .store 123 x y, t, pos, af, g⟩ = zq7 123 (ρ x) (ρ y) := zqbj _ ρ d x y t pos af g
@[go_sem] theorem zq78 (g : Nat) (cs : Array Value) (w : World) : (zq7 123 (.pointer (some ⟨g, 0, none⟩)) (.agg cs)).run Tryz.prog w = (zqbb Tryz.prog 123 g 5 (.agg cs) w (zqd w g)).andThen fun _ w' => .ok .skip w' := by
 rw [zqax, zqb3 zqc g cs w]
@[go_sem] theorem zq87 (g : Nat) (w : World) (old cs : Array Value) (t' : TypeId) (h1 : old.size = 5) (h2 : cs.size = 5) (h3 : zqa5 cs = true) :
  zqbb Tryz.prog 123 g 5 (.agg cs) w (some (.cells old t' (0, 0))) = .ok () (w.setRow g cs) := zqbg old cs t' h1 h2 h3
@[go_sem high] theorem zrfn (w : World) : (zeroValue 123).run Tryz.prog w = .ok (.agg (ints .u64 5 zqg)) w := by kernel_rfl
@[go_sem ↓ high] theorem zrgk (w : World) : (zeroValue 123).run Tryz.prog w = .ok (.agg (ints .u64 5 zqg)) w := by kernel_rfl
@[go_sem high] theorem zrja (f g : Nat -> Int) (w : World) : (binOp .eql 123 (.agg (ints .u64 5 f)) (.agg (ints .u64 5 g))).run Tryz.prog w = .ok (.bool (same 5 f g)) w :=
 zqcu w .u64 f g Tryz.underlying123 Tryz.underlying122 (i := (Tryz.prog.info? 122).get zqc) zqc zqc
@[go_sem high] theorem zrj7 (f g : Nat -> Int) (w : World) : (binOp .neq 123 (.agg (ints .u64 5 f)) (.agg (ints .u64 5 g))).run Tryz.prog w = .ok (.bool (!same 5 f g)) w :=
 zqcs w .u64 f g Tryz.underlying123 Tryz.underlying122 (i := (Tryz.prog.info? 122).get zqc) zqc zqc
@[go_sem] theorem zrfj (k' : IntKind) (f : Nat -> Int) (j : Int) (w : World) (h0 : 0 <= j) (h1 : j < 5) : (Instr.index 123 (.agg (ints .u64 5 f)) (.int k' j)).run Tryz.prog w = .ok (.int .u64 (f j.toNat)) w :=
 zqb2 w .u64 k' f j Tryz.underlying123 Tryz.underlying122 (i := (Tryz.prog.info? 122).get zqc) zqc zqc h0 h1
end Go.Proofs.YtconieddcjpbjaaGreatDoor
namespace Go.Proofs.YtconieddcjpbjaaGreatDoor
open Go.RowKit
def zqz (x z : Nat -> Int) : Nat -> Int := fun i => if i < 5 then x i else z (i - 5)
@[go_sem ↓ high] theorem zrh2 (ρ : Operand -> Value) (d : Option Tmp) (x : Operand) (t : TypeId) (pos : String) (af : Array Edge) (g : Option (Nat × Bool)) :
  execOp ρ ⟨d, .load 140 x, t, pos, af, g⟩ = zq6 140 (ρ x) := zqb0 _ ρ d x t pos af g
@[go_sem high] theorem zre8 (ρ : Operand -> Value) (d : Option Tmp) (x : Operand) (t : TypeId) (pos : String) (af : Array Edge) (g : Option (Nat × Bool)) :
  execOp ρ ⟨d, .load 140 x, t, pos, af, g⟩ = zq6 140 (ρ x) := zqb0 _ ρ d x t pos af g
@[go_sem] theorem zrae (g : Nat) (w : World) : (zq6 140 (.pointer (some ⟨g, 0, none⟩))).run Tryz.prog w = (zqbv Tryz.prog 140 g 10 w (zqd w g)).andThen fun v w' => .ok (.value v) w' := by
 rw [zqa2, zqb9 Tryz.underlying140 rfl zqc g w]
@[go_sem] theorem zrac (g : Nat) (w : World) (cs : Array Value) (t' : TypeId) (fr : Nat × Nat) (h : cs.size = 10) : zqbv Tryz.prog 140 g 10 w (some (.cells cs t' fr)) = .ok (.agg cs) w := zqbo cs t' fr h
@[go_sem ↓ high] theorem zrfg (ρ : Operand -> Value) (d : Option Tmp) (x y : Operand) (t : TypeId) (pos : String) (af : Array Edge) (g : Option (Nat × Bool)) :
  execOp ρ ⟨d, .store 140 x y, t, pos, af, g⟩ = zq7 140 (ρ x) (ρ y) := zqbj _ ρ d x y t pos af g
@[go_sem high] theorem zrbw (ρ : Operand -> Value) (d : Option Tmp) (x y : Operand) (t : TypeId) (pos : String) (af : Array Edge) (g : Option (Nat × Bool)) :
  execOp ρ ⟨d, .store 140 x y, t, pos, af, g⟩ = zq7 140 (ρ x) (ρ y) := zqbj _ ρ d x y t pos af g
@[go_sem] theorem zq73 (g : Nat) (cs : Array Value) (w : World) : (zq7 140 (.pointer (some ⟨g, 0, none⟩)) (.agg cs)).run Tryz.prog w = (zqbb Tryz.prog 140 g 10 (.agg cs) w (zqd w g)).andThen fun _ w' => .ok .skip w' := by
 rw [zqax, zqb3 zqc g cs w]
@[go_sem] theorem zq66 (g : Nat) (w : World) (old cs : Array Value) (t' : TypeId) (h1 : old.size = 10) (h2 : cs.size = 10) (h3 : zqa5 cs = true) :
  zqbb Tryz.prog 140 g 10 (.agg cs) w (some (.cells old t' (0, 0))) = .ok () (w.setRow g cs) := zqbg old cs t' h1 h2 h3
@[go_sem high] theorem zrfa (w : World) : (zeroValue 140).run Tryz.prog w = .ok (.agg (ints .u64 10 (zqz zqg zqg))) w := by kernel_rfl
@[go_sem ↓ high] theorem zqaw (w : World) : (zeroValue 140).run Tryz.prog w = .ok (.agg (ints .u64 10 (zqz zqg zqg))) w := by kernel_rfl
theorem zq2c (x z : Nat -> Int) : (ints .u64 10 (zqz x z)).extract 0 5 = ints .u64 5 x := by kernel_rfl
theorem zq4s (x z : Nat -> Int) : (ints .u64 10 (zqz x z)).extract 5 (5 + 5) = ints .u64 5 z := by kernel_rfl
theorem zrld (x z a : Nat -> Int) : zqcp (ints .u64 10 (zqz x z)) 0 (ints .u64 5 a).toList = ints .u64 10 (zqz a z) := by kernel_rfl
theorem zrkw (x z a : Nat -> Int) : zqcp (ints .u64 10 (zqz x z)) 5 (ints .u64 5 a).toList = ints .u64 10 (zqz x a) := by kernel_rfl
@[go_sem] theorem zrfq (g : Nat) (w : World) (x z : Nat -> Int) (t' : TypeId) (fr : Nat × Nat) : zqbv Tryz.prog 124 g 5 w (some (.cells (ints .u64 10 (zqz x z)) t' fr)) = .ok (.agg (ints .u64 5 x)) w := by
 unfold zqbv
 simp only [zqh]
 rw [if_neg (by decide), if_pos (by decide), zq2c]
@[go_sem] theorem zrca (g : Nat) (w : World) (x z a : Nat -> Int) (t' : TypeId) : zqbb Tryz.prog 124 g 5 (.agg (ints .u64 5 a)) w (some (.cells (ints .u64 10 (zqz x z)) t' (0, 0))) = .ok () (w.setRow g (ints .u64 10 (zqz a z))) := by
 unfold zqbb
 simp only [zqh]
 rw [if_neg (fun h => absurd h.1 (by decide)), if_pos ⟨by decide, by trivial, zqed _ _ _⟩, zrld]
@[go_sem] theorem zq6i (g : Nat) (w : World) : (zq6 124 (.pointer (some ⟨g, 5, none⟩))).run Tryz.prog w = (zqd2 Tryz.prog 124 g 5 5 w (zqd w g)).andThen fun v w' => .ok (.value v) w' := by
 rw [zqa2, zqh3 Tryz.underlying124 rfl zqc g 5 w]
@[go_sem] theorem zrfm (g : Nat) (w : World) (x z : Nat -> Int) (t' : TypeId) (fr : Nat × Nat) : zqd2 Tryz.prog 124 g 5 5 w (some (.cells (ints .u64 10 (zqz x z)) t' fr)) = .ok (.agg (ints .u64 5 z)) w := by
 unfold zqd2
 simp only [zqh]
 rw [if_pos (by decide), zq4s]
@[go_sem] theorem zq5u (g : Nat) (cs : Array Value) (w : World) : (zq7 124 (.pointer (some ⟨g, 5, none⟩)) (.agg cs)).run Tryz.prog w = (zqde Tryz.prog 124 g 5 5 (.agg cs) w (zqd w g)).andThen fun _ w' => .ok .skip w' := by
 rw [zqax, zqfn zqc g 5 cs w]
@[go_sem] theorem zrcw (g : Nat) (w : World) (x z a : Nat -> Int) (t' : TypeId) : zqde Tryz.prog 124 g 5 5 (.agg (ints .u64 5 a)) w (some (.cells (ints .u64 10 (zqz x z)) t' (0, 0))) = .ok () (w.setRow g (ints .u64 10 (zqz x a))) := by
 unfold zqde
 simp only [zqh]
 rw [if_pos ⟨by decide, by trivial, zqed _ _ _⟩, zrkw]
@[go_sem] theorem zrba (x z : Nat -> Int) (w : World) : (Instr.field 140 (.agg (ints .u64 10 (zqz x z))) 0).run Tryz.prog w = .ok (.agg (ints .u64 5 x)) w := by kernel_rfl
@[go_sem] theorem zrdx (x z : Nat -> Int) (w : World) : (Instr.field 140 (.agg (ints .u64 10 (zqz x z))) 1).run Tryz.prog w = .ok (.agg (ints .u64 5 z)) w := by kernel_rfl
def zqh6 (x z : Value) : Sem Next := do pure (.value (<- Instr.build 140 #[(0, x), (1, z)]))
def zqlo (x : Value) : Sem Next := do pure (.value (<- Instr.build 140 #[(0, x)]))
@[go_sem ↓ high] theorem zrk5 (ρ : Operand -> Value) (d : Option Tmp) (x y : Operand) (t : TypeId) (pos : String) (af : Array Edge) (g : Option (Nat × Bool)) :
  execOp ρ ⟨d, .build 140 #[(0, x), (1, y)], t, pos, af, g⟩ = zqh6 (ρ x) (ρ y) := by simp [execOp, zqh6]
@[go_sem high] theorem zrjj (ρ : Operand -> Value) (d : Option Tmp) (x y : Operand) (t : TypeId) (pos : String) (af : Array Edge) (g : Option (Nat × Bool)) :
  execOp ρ ⟨d, .build 140 #[(0, x), (1, y)], t, pos, af, g⟩ = zqh6 (ρ x) (ρ y) := by simp [execOp, zqh6]
@[go_sem ↓ high] theorem zrj2 (ρ : Operand -> Value) (d : Option Tmp) (x : Operand) (t : TypeId) (pos : String) (af : Array Edge) (g : Option (Nat × Bool)) :
  execOp ρ ⟨d, .build 140 #[(0, x)], t, pos, af, g⟩ = zqlo (ρ x) := by simp [execOp, zqlo]
@[go_sem high] theorem zrgl (ρ : Operand -> Value) (d : Option Tmp) (x : Operand) (t : TypeId) (pos : String) (af : Array Edge) (g : Option (Nat × Bool)) :
  execOp ρ ⟨d, .build 140 #[(0, x)], t, pos, af, g⟩ = zqlo (ρ x) := by simp [execOp, zqlo]
@[go_sem] theorem zrkb (x z : Nat -> Int) (w : World) : (zqh6 (.agg (ints .u64 5 x)) (.agg (ints .u64 5 z))).run Tryz.prog w = .ok (.value (.agg (ints .u64 10 (zqz x z)))) w := by kernel_rfl
@[go_sem] theorem zrg6 (x : Nat -> Int) (w : World) : (zqlo (.agg (ints .u64 5 x))).run Tryz.prog w = .ok (.value (.agg (ints .u64 10 (zqz x zqg)))) w := by kernel_rfl
attribute [irreducible] zqh6 zqlo
end Go.Proofs.YtconieddcjpbjaaGreatDoor
