/- Mem -/
import Derived.Test.YtnjghcnhcbobhaaGreatDoorProg
import Derived.Test.YtnjghcnhcbobhaaGreatDoorBase
import Derived.Deep.MidRow
set_option linter.unusedVariables false
set_option linter.unusedSimpArgs false
namespace Go.Proofs.YtnjghcnhcbobhaaGreatDoor
open Go.RowKit
theorem zq2 {P : Program} {id : Nat} {Q : Exit -> Act -> World -> Prop} {a : Act} {w : World} {l : List Oper} (hm : P.follows .mixedOrders = true) (hB : Region.lexB .any l.toArray = true)
  (h : wpQuiet P l.toArray (fun w' => ∃ m, w' = more w m) (fun a' => ∀ w', (∃ m, w' = more w m) -> Q .normal a' w') l a) : (Code.region id l.toArray true).wp P Q a w :=
 wp_region_quiet (C := fun w' => ∃ m, w' = more w m) hm hB ⟨⟨w.drawn + 1, #[]⟩, by simp [more]⟩ (by simpa using h)
theorem zq9 {P : Program} {id : Nat} {Q : Exit -> Act -> World -> Prop} {a : Act} {w : World} {m0 : More} {l : List Oper} (hm : P.follows .mixedOrders = true) (hB : Region.lexB .any l.toArray = true)
  (h : wpQuiet P l.toArray (fun w' => ∃ m, w' = more w m) (fun a' => ∀ w', (∃ m, w' = more w m) -> Q .normal a' w') l a) : (Code.region id l.toArray true).wp P Q a (more w m0) :=
 wp_region_quiet (C := fun w' => ∃ m, w' = more w m) hm hB ⟨⟨m0.d + 1, m0.os⟩, rfl⟩ (by simpa using h)
def loadRow (P : Program) (t : TypeId) (v : Value) (w : World) : Result Value := (Instr.loadAt t v).run P w
def zqau (P : Program) (t : TypeId) (g n : Nat) (w : World) : Option Obj -> Result Value
 | some (.cells cs _ _) => if cs.size = n then .ok (.agg cs) w else if n <= cs.size then .ok (.agg (cs.extract 0 n)) w else (Instr.loadAt t (.pointer (some ⟨g, 0, none⟩))).run P w
 | _ => (Instr.loadAt t (.pointer (some ⟨g, 0, none⟩))).run P w
theorem zqrj {P : Program} {t : TypeId} {n : Nat} {d : TypeDesc} (hu : P.underlying t = some d) (hd : (match d with | .struct _ | .array _ _ => true | _ => false) = true) (hi : (P.info? t).map (·.size) = some n) (g o : Nat) (w : World) (cs : Array Value) (t' : TypeId) (fr : Nat × Nat) (hg : w.heap[g]? = some (.cells cs t' fr)) (hn : o + n <= cs.size) :
  (Instr.loadAt t (.pointer (some ⟨g, o, none⟩))).run P w = .ok (.agg (cs.extract o (o + n))) w := by
 have h := run_loadAt_mid (P := P) w g o t (cs.extract o (o + n)).toList d (World.rangeAt_of_block hg o n) hu (by cases d <;> simp_all [TypeDesc.isRow]) (by rw [hi]; simp; omega);rw [h]
theorem zqa3 {P : Program} {t : TypeId} {n : Nat} {d : TypeDesc} (hu : P.underlying t = some d) (hd : (match d with | .struct _ | .array _ _ => true | _ => false) = true) (hi : (P.info? t).map (·.size) = some n) (g : Nat) (w : World) :
  loadRow P t (.pointer (some ⟨g, 0, none⟩)) w = zqau P t g n w (zqd w g) := by
 show _ = zqau P t g n w w.heap[g]?
 cases hg : w.heap[g]? with
 | none => rfl
 | some o =>
  cases o with
  | cells cs t' fr =>
   simp only [zqau]
   by_cases hc : cs.size = n
   ·rw [if_pos hc]
    subst hc;exact run_loadVar_row w g t' t cs fr d hg hu hd hi
   ·rw [if_neg hc]
    by_cases hl : n <= cs.size
    ·rw [if_pos hl]
     have h := zqrj hu hd hi g 0 w cs t' fr hg (by omega);rw [Nat.zero_add] at h;exact h
    ·rw [if_neg hl]; rfl
  | _ => rfl
theorem zqam {P : Program} {t : TypeId} {g n : Nat} {w : World} (cs : Array Value) (t' : TypeId) (fr : Nat × Nat) (h : cs.size = n) : zqau P t g n w (some (.cells cs t' fr)) = .ok (.agg cs) w := by
 simp [zqau, h]
def zqq (ty : TypeId) (v : Value) : Sem Next := do pure (.value (<- Instr.loadAt ty v))
def zqt (ty : TypeId) (v x : Value) : Sem Next := do Instr.storeAt ty v x; pure .skip
theorem zq6 {P : Program} (ty : TypeId) (v : Value) (w : World) : (zqq ty v).run P w = (loadRow P ty v w).andThen fun v w' => .ok (.value v) w' := by
 simp [zqq, loadRow, Sem.run_bind]
def zqif (P : Program) (t : TypeId) (a v : Value) (w : World) : Result Unit := (Instr.storeAt t a v).run P w
theorem zq8 {P : Program} (ty : TypeId) (v x : Value) (w : World) : (zqt ty v x).run P w = (zqif P ty v x w).andThen fun _ w' => .ok .skip w' := by
 simp [zqt, zqif, Sem.run_bind]
theorem zqax (ty : TypeId) (ρ : Operand -> Value) (d : Option Tmp) (x : Operand) (t : TypeId) (pos : String) (af : Array Edge) (g : Option (Nat × Bool)) : execOp ρ ⟨d, .load ty x, t, pos, af, g⟩ = zqq ty (ρ x) := rfl
theorem zqat (ty : TypeId) (ρ : Operand -> Value) (d : Option Tmp) (x y : Operand) (t : TypeId) (pos : String) (af : Array Edge) (g : Option (Nat × Bool)) : execOp ρ ⟨d, .store ty x y, t, pos, af, g⟩ = zqt ty (ρ x) (ρ y) := rfl
def zqal (cs : Array Value) : Bool := cs.all (·.oneCell')
def zqan (P : Program) (t : TypeId) (g n : Nat) (v : Value) (w : World) : Option Obj -> Result Unit
 | some (.cells old _ (0, 0)) => match v with
  | .agg cs => if old.size = n /\ cs.size = n /\ zqal cs = true then .ok () (w.setRow g cs) else if n <= old.size /\ cs.size = n /\ zqal cs = true then .ok () (w.setRow g (zqbw old 0 cs.toList)) else (Instr.storeAt t (.pointer (some ⟨g, 0, none⟩)) v).run P w
  | _ => (Instr.storeAt t (.pointer (some ⟨g, 0, none⟩)) v).run P w
 | _ => (Instr.storeAt t (.pointer (some ⟨g, 0, none⟩)) v).run P w
theorem zqn9 {P : Program} {t : TypeId} {n : Nat} (hi : (P.info? t).map (·.size) = some n) (g o : Nat) (w : World) (old cs : Array Value) (t' : TypeId) (hg : w.heap[g]? = some (.cells old t' (0, 0))) (hc : cs.size = n) (hn : o + n <= old.size) (h1 : zqal cs = true) :
  (Instr.storeAt t (.pointer (some ⟨g, o, none⟩)) (.agg cs)).run P w = .ok () (w.setRow g (zqbw old o cs.toList)) := by
 have h := run_storeAt_mid (P := P) w g o t cs (fun j hj => ⟨by rw [cell_of_row w g (o + j) _ _ _ hg]; simp; omega, frozen_of_row w g _ _ _ hg⟩) (by rw [hi, hc]) (by unfold zqal at h1; exact h1);rw [h, zqfj g t' _ o old w hg]
theorem zqa6 {P : Program} {t : TypeId} {n : Nat} (hi : (P.info? t).map (·.size) = some n) (g : Nat) (cs : Array Value) (w : World) :
  zqif P t (.pointer (some ⟨g, 0, none⟩)) (.agg cs) w = zqan P t g n (.agg cs) w (zqd w g) := by
 show _ = zqan P t g n (.agg cs) w w.heap[g]?
 unfold zqan
 split
 ·rename_i old t' hg
  split
  ·rename_i cs' e
   cases e
   split
   ·rename_i h
    obtain ⟨h1, h2, h3⟩ := h;exact run_storeVar_row w g t' t old cs hg (by rw [hi, h2]) (by rw [h1, h2]) h3
   ·split
    ·rename_i h
     obtain ⟨h1, h2, h3⟩ := h;exact zqn9 hi g 0 w old cs t' hg h2 (by omega) h3
    ·rfl
  ·rename_i hx
   exact (hx _ rfl).elim
 ·rfl
theorem zqaq {P : Program} {t : TypeId} {g n : Nat} {w : World} (old cs : Array Value) (t' : TypeId) (h1 : old.size = n) (h2 : cs.size = n) (h3 : zqal cs = true) :
  zqan P t g n (.agg cs) w (some (.cells old t' (0, 0))) = .ok () (w.setRow g cs) := by
 simp only [zqan]
 rw [if_pos ⟨h1, h2, h3⟩]
@[go_sem] theorem zres (k : IntKind) (n : Nat) (f : Nat -> Int) : (ints k n f).size = n := zqi k n f
@[go_sem] theorem ints_at (k : IntKind) (n : Nat) (f : Nat -> Int) (i : Nat) (h : i < (ints k n f).size) : (ints k n f)[i] = .int k (f i) := by simp [ints]
@[go_sem] theorem zrli (k : IntKind) (n : Nat) (f : Nat -> Int) (h : n ≠ 0) : (ints k n f = #[]) = False := by
 simp only [eq_iff_iff, iff_false]
 intro e;have := zqi k n f;rw [e] at this;exact h this.symm
@[go_sem] theorem zqdd (k : IntKind) (n : Nat) (f : Nat -> Int) : zqal (ints k n f) = true := by
 unfold zqal; rw [Array.all_eq_true]; intro i hi; simp [ints, Value.oneCell']
@[go_sem] theorem zql2 (w : World) (c c' : Array Value) (t : TypeId) (n : Nat) (hn : n = w.heap.size) : (w.alloc (.cells c t)).setRow n c' = w.alloc (.cells c' t) := by
 subst hn;unfold World.setRow World.alloc
 congr 1
 apply Array.ext_getElem?
 intro k
 simp only [Array.getElem?_modify, Array.getElem?_push]
 by_cases hk : k = w.heap.size
 ·subst hk; simp
 ·have hk' : ¬ w.heap.size = k := fun e => hk e.symm
  simp [hk, hk']
@[go_sem] theorem zqdg (w : World) (o : Obj) (c' : Array Value) (n : Nat) (hn : n < w.heap.size) : (w.alloc o).setRow n c' = (w.setRow n c').alloc o := by
 unfold World.setRow World.alloc
 congr 1
 apply Array.ext_getElem?
 intro k
 simp only [Array.getElem?_modify, Array.getElem?_push, Array.size_modify]
 by_cases hk : k = w.heap.size
 ·subst hk; simp [Nat.ne_of_lt hn]
 ·simp [hk]
@[go_sem] theorem zqjo (w : World) (g : Nat) (cs : Array Value) : zqd (w.setRow g cs) g = (match zqd w g with | some (.cells _ t fr) => some (.cells cs t fr) | o => o) := by
 unfold zqd World.setRow
 simp only [Array.getElem?_modify, if_pos]
 cases w.heap[g]? with
 | none => rfl
 | some o => cases o <;> rfl
@[go_sem] theorem zqid (w : World) (g n : Nat) (cs : Array Value) (h : n ≠ g) : zqd (w.setRow g cs) n = zqd w n := by
 unfold zqd World.setRow
 simp only [Array.getElem?_modify]
 rw [if_neg (fun e => h e.symm)]
theorem Grew.setRow {w w' : World} (h : Below w.heap.size w w') (g : Nat) (cs : Array Value) (hg : w.heap.size <= g) : Below w.heap.size w (w'.setRow g cs) :=
 h.trans ⟨rfl, rfl, rfl, by simp [World.setRow], fun k hk => by
  show ((w'.setRow g cs).heap)[k]? = _
  unfold World.setRow
  simp only [Array.getElem?_modify]
  rw [if_neg (by omega)]⟩
theorem zqk {w : World} {n : Nat} {o : Obj} (g : Nat) (cs : Array Value) (h : zqd w n = some o) (hn : n ≠ g) : zqd (w.setRow g cs) n = some o := (zqid w g n cs hn).trans h
theorem zqv {w : World} {n : Nat} {c : Array Value} {t : TypeId} {fr : Nat × Nat} (cs : Array Value) (h : zqd w n = some (.cells c t fr)) : zqd (w.setRow n cs) n = some (.cells cs t fr) := by
 rw [zqjo, h]
theorem zqg {W : World} {g : Nat} {o : Obj} (h : zqd W g = some o := by (repeat (first | assumption | exact zqh _ _ _ rfl | (refine zqh _ _ _ ?_; (simp; done)) | refine zqj _ ?_ | refine zqno _ ?_ | refine zqp _ ?_ | exact zqv _ (by assumption) | apply zqv | refine zqk _ _ ?_ (by first | omega | (simp; omega) | simp)))) : zqd W g = some o := h
theorem zqf {a : Nat} {W w : World} (h : Below a W w := by (repeat (first | assumption | exact Grew.refl _ | refine Grew.more ?_ _ | refine Grew.alloc ?_ _ | refine Grew.drewN ?_ _ | refine Grew.setRow ?_ _ _ (by omega) | refine Grew.setRow ?_ _ _ (by simp; omega) | refine Grew.setRow ?_ _ _ (by simp)))) : Below a W w := h
@[go_sem] theorem zrdd (w : World) (c' : Array Value) (n : Nat) : w.drew.setRow n c' = (w.setRow n c').drew := rfl
@[go_sem] theorem zq8l (w : World) (c' : Array Value) (n m : Nat) : (w.drewN m).setRow n c' = (w.setRow n c').drewN m := rfl
@[go_sem] theorem zqgc (w : World) (c' : Array Value) (n : Nat) (m : More) (hn : n < w.heap.size) : (more w m).setRow n c' = more (w.setRow n c') m := by
 unfold World.setRow more
 congr 1
 apply Array.ext_getElem?
 intro k
 simp only [Array.getElem?_modify, Array.getElem?_append, Array.size_modify]
 by_cases hk : n = k
 ·subst hk; simp [hn]
 ·simp [hk]
@[go_sem] theorem zq7k (w : World) (v : Value) (n i : Nat) (m : More) (hn : n < w.heap.size) : (more w m).setCell ⟨n, i, none⟩ v = more (w.setCell ⟨n, i, none⟩ v) m := by
 unfold World.setCell more
 congr 1
 apply Array.ext_getElem?
 intro k
 simp only [Array.getElem?_modify, Array.getElem?_append, Array.size_modify]
 by_cases hk : n = k
 ·subst hk; simp [hn]
 ·simp [hk]
@[go_sem] theorem zq4o (w : World) (a : Addr) (v : Value) (m : Nat) : (w.drewN m).setCell a v = (w.setCell a v).drewN m := rfl
@[go_sem] theorem zqs (w : World) (g : Nat) (cs : Array Value) : (w.setRow g cs).heap.size = w.heap.size := size_setRow w g cs
def zqa8 (P : Program) (t : TypeId) (g o n : Nat) (w : World) : Option Obj -> Result Value
 | some (.cells cs _ _) => if o + n <= cs.size then .ok (.agg (cs.extract o (o + n))) w else (Instr.loadAt t (.pointer (some ⟨g, o, none⟩))).run P w
 | _ => (Instr.loadAt t (.pointer (some ⟨g, o, none⟩))).run P w
theorem zqde {P : Program} {t : TypeId} {n : Nat} {d : TypeDesc} (hu : P.underlying t = some d) (hd : (match d with | .struct _ | .array _ _ => true | _ => false) = true) (hi : (P.info? t).map (·.size) = some n) (g o : Nat) (w : World) :
  loadRow P t (.pointer (some ⟨g, o, none⟩)) w = zqa8 P t g o n w (zqd w g) := by
 show _ = zqa8 P t g o n w w.heap[g]?
 cases hg : w.heap[g]? with
 | none => rfl
 | some ob =>
  cases ob with
  | cells cs t' fr =>
   simp only [zqa8]
   by_cases hc : o + n <= cs.size
   ·rw [if_pos hc]
    exact zqrj hu hd hi g o w cs t' fr hg hc
   ·rw [if_neg hc]; rfl
  | _ => rfl
def zqbs (P : Program) (t : TypeId) (g o n : Nat) (v : Value) (w : World) : Option Obj -> Result Unit
 | some (.cells old _ (0, 0)) => match v with
  | .agg cs => if o + n <= old.size /\ cs.size = n /\ zqal cs = true then .ok () (w.setRow g (zqbw old o cs.toList)) else (Instr.storeAt t (.pointer (some ⟨g, o, none⟩)) v).run P w
  | _ => (Instr.storeAt t (.pointer (some ⟨g, o, none⟩)) v).run P w
 | _ => (Instr.storeAt t (.pointer (some ⟨g, o, none⟩)) v).run P w
theorem zqdq {P : Program} {t : TypeId} {n : Nat} (hi : (P.info? t).map (·.size) = some n) (g o : Nat) (cs : Array Value) (w : World) :
  zqif P t (.pointer (some ⟨g, o, none⟩)) (.agg cs) w = zqbs P t g o n (.agg cs) w (zqd w g) := by
 show _ = zqbs P t g o n (.agg cs) w w.heap[g]?
 unfold zqbs
 split
 ·rename_i old t' hg
  split
  ·rename_i cs' e
   cases e
   split
   ·rename_i h
    obtain ⟨h1, h2, h3⟩ := h;exact zqn9 hi g o w old cs t' hg h2 h1 h3
   ·rfl
  ·rename_i hx
   exact (hx _ rfl).elim
 ·rfl
attribute [irreducible] zqa8 zqbs
attribute [irreducible] zqal zqau zqan loadRow zqif zqq zqt
theorem zqak {P : Program} {fn : Func} {R : Ending -> World -> Prop} {a : Act} {w : World} {p : Tmp} {ty : TypeId} (h : fn.results = #[.cell p ty]) (g : Nat) (t : TypeId) (cs : Array Value) (fr : Nat × Nat) (d : TypeDesc)
  (hp : a.tmps.getD p undef = .pointer (some ⟨g, 0, none⟩)) (hg : zqd w g = some (.cells cs t fr))
  (hu : P.underlying ty = some d) (hd : (match d with | .struct _ | .array _ _ => true | _ => false) = true) (hi : (P.info? ty).map (·.size) = some cs.size) (hD : a.defers = []) (hR : R (.returned (.agg cs)) w) : bodyPost P fn R .ret a w :=
 bodyPost_ret_by (results_cell_row h a.tmps w g t cs fr d hp (by unfold zqd at hg; exact hg) hu hd hi) hD hR
theorem zqk0 {P : Program} {fn : Func} {R : Ending -> World -> Prop} {a : Act} {w : World} {p q : Tmp} {ty ty' : TypeId} (h : fn.results = #[.cell p ty, .cell q ty']) (g g' : Nat) (t t' : TypeId) (cs cs' : Array Value) (fr fr' : Nat × Nat) (d d' : TypeDesc)
  (hp : a.tmps.getD p undef = .pointer (some ⟨g, 0, none⟩)) (hq : a.tmps.getD q undef = .pointer (some ⟨g', 0, none⟩)) (hg : zqd w g = some (.cells cs t fr)) (hg' : zqd w g' = some (.cells cs' t' fr'))
  (hu : P.underlying ty = some d) (hd : (match d with | .struct _ | .array _ _ => true | _ => false) = true) (hi : (P.info? ty).map (·.size) = some cs.size)
  (hu' : P.underlying ty' = some d') (hd' : (match d' with | .struct _ | .array _ _ => true | _ => false) = true) (hi' : (P.info? ty').map (·.size) = some cs'.size)
  (hD : a.defers = []) (hR : R (.returned (.tuple #[.agg cs, .agg cs'])) w) : bodyPost P fn R .ret a w := by
 refine bodyPost_ret_by ?_ hD hR
 have hp' : a.tmps[p]?.getD undef = .pointer (some ⟨g, 0, none⟩) := by simpa using hp
 have hq' : a.tmps[q]?.getD undef = .pointer (some ⟨g', 0, none⟩) := by simpa using hq
 unfold zqd at hg hg'
 simp [results, h, hp', hq', asAddr, run_loadVar_row w g t ty cs fr d hg hu hd hi, run_loadVar_row w g' t' ty' cs' fr' d' hg' hu' hd' hi']
def cellOf (o : Option Obj) (i : Nat) : Option Value := match o with | some (.cells c _ _) => c[i]? | _ => none
def zqf5 (o : Option Obj) (i : Nat) : Bool := match o with | some (.cells _ _ (lo, hi)) => lo <= i && i < hi | _ => false
def zqgs (w : World) (n i : Nat) (v : Value) (o : Option Obj) : World := match o with | some (.cells c _ (0, 0)) => w.setRow n (c.setIfInBounds i v) | _ => w.setCell ⟨n, i, none⟩ v
theorem zqcn (c : Array Value) (t : TypeId) (fr : Nat × Nat) (i : Nat) : cellOf (some (.cells c t fr)) i = c[i]? := rfl
theorem zqho (c : Array Value) (t : TypeId) (i : Nat) : zqf5 (some (.cells c t (0, 0))) i = false := by simp [zqf5]
theorem zqmg (w : World) (n i : Nat) (v : Value) (c : Array Value) (t : TypeId) : zqgs w n i v (some (.cells c t (0, 0))) = w.setRow n (c.setIfInBounds i v) := rfl
theorem zqg9 (w : World) (n i : Nat) : w.cell? ⟨n, i, none⟩ = cellOf (zqd w n) i := by
 unfold World.cell? cellOf zqd
 cases h : w.heap[n]? with
 | none => simp
 | some o => cases o <;> simp
theorem zqn2 (w : World) (n i : Nat) : w.frozen? ⟨n, i, none⟩ = zqf5 (zqd w n) i := by
 unfold World.frozen? zqf5 zqd
 cases h : w.heap[n]? with
 | none => simp
 | some o => cases o <;> simp
theorem zqlc (w : World) (n i : Nat) (v : Value) : w.setCell ⟨n, i, none⟩ v = zqgs w n i v (zqd w n) := by
 unfold zqgs
 split
 ·rename_i c t h
  unfold zqd at h;exact setCell_eq_setRow w n i c t (0, 0) v h
 ·rfl
attribute [go_sem] zqcn zqho zqmg
attribute [go_sem low] zqg9 zqn2 zqlc
attribute [irreducible] cellOf zqf5 zqgs
@[go_sem ↓ high] theorem zrj4 (ρ : Operand -> Value) (d : Option Tmp) (x : Operand) (t : TypeId) (pos : String) (af : Array Edge) (g : Option (Nat × Bool)) :
  execOp ρ ⟨d, .load 44 x, t, pos, af, g⟩ = zqq 44 (ρ x) := zqax _ ρ d x t pos af g
@[go_sem high] theorem zrhb (ρ : Operand -> Value) (d : Option Tmp) (x : Operand) (t : TypeId) (pos : String) (af : Array Edge) (g : Option (Nat × Bool)) :
  execOp ρ ⟨d, .load 44 x, t, pos, af, g⟩ = zqq 44 (ρ x) := zqax _ ρ d x t pos af g
@[go_sem] theorem zrc6 (g : Nat) (w : World) : (zqq 44 (.pointer (some ⟨g, 0, none⟩))).run Tryz.prog w = (zqau Tryz.prog 44 g 32 w (zqd w g)).andThen fun v w' => .ok (.value v) w' := by
 rw [zq6, zqa3 Tryz.underlying44 rfl zqb g w]
@[go_sem] theorem zrba (g : Nat) (w : World) (cs : Array Value) (t' : TypeId) (fr : Nat × Nat) (h : cs.size = 32) : zqau Tryz.prog 44 g 32 w (some (.cells cs t' fr)) = .ok (.agg cs) w := zqam cs t' fr h
@[go_sem ↓ high] theorem zric (ρ : Operand -> Value) (d : Option Tmp) (x y : Operand) (t : TypeId) (pos : String) (af : Array Edge) (g : Option (Nat × Bool)) :
  execOp ρ ⟨d, .store 44 x y, t, pos, af, g⟩ = zqt 44 (ρ x) (ρ y) := zqat _ ρ d x y t pos af g
@[go_sem high] theorem zrep (ρ : Operand -> Value) (d : Option Tmp) (x y : Operand) (t : TypeId) (pos : String) (af : Array Edge) (g : Option (Nat × Bool)) :
  execOp ρ ⟨d, .store 44 x y, t, pos, af, g⟩ = zqt 44 (ρ x) (ρ y) := zqat _ ρ d x y t pos af g
@[go_sem] theorem zq76 (g : Nat) (cs : Array Value) (w : World) : (zqt 44 (.pointer (some ⟨g, 0, none⟩)) (.agg cs)).run Tryz.prog w = (zqan Tryz.prog 44 g 32 (.agg cs) w (zqd w g)).andThen fun _ w' => .ok .skip w' := by
 rw [zq8, zqa6 zqb g cs w]
@[go_sem] theorem zq8h (g : Nat) (w : World) (old cs : Array Value) (t' : TypeId) (h1 : old.size = 32) (h2 : cs.size = 32) (h3 : zqal cs = true) :
  zqan Tryz.prog 44 g 32 (.agg cs) w (some (.cells old t' (0, 0))) = .ok () (w.setRow g cs) := zqaq old cs t' h1 h2 h3
@[go_sem high] theorem zrho (w : World) : (zeroValue 44).run Tryz.prog w = .ok (.agg (ints .u8 32 zqe)) w := by kernel_rfl
@[go_sem ↓ high] theorem zqcl (w : World) : (zeroValue 44).run Tryz.prog w = .ok (.agg (ints .u8 32 zqe)) w := by kernel_rfl
@[go_sem high] theorem zrml (f g : Nat -> Int) (w : World) : (binOp .eql 44 (.agg (ints .u8 32 f)) (.agg (ints .u8 32 g))).run Tryz.prog w = .ok (.bool (same 32 f g)) w :=
 zqco w .u8 f g Tryz.underlying44 Tryz.underlying5 (i := (Tryz.prog.info? 5).get zqb) zqb zqb
@[go_sem high] theorem zrlv (f g : Nat -> Int) (w : World) : (binOp .neq 44 (.agg (ints .u8 32 f)) (.agg (ints .u8 32 g))).run Tryz.prog w = .ok (.bool (!same 32 f g)) w :=
 zqcj w .u8 f g Tryz.underlying44 Tryz.underlying5 (i := (Tryz.prog.info? 5).get zqb) zqb zqb
@[go_sem] theorem zrgq (k' : IntKind) (f : Nat -> Int) (j : Int) (w : World) (h0 : 0 <= j) (h1 : j < 32) : (Instr.index 44 (.agg (ints .u8 32 f)) (.int k' j)).run Tryz.prog w = .ok (.int .u8 (f j.toNat)) w :=
 zqbq w .u8 k' f j Tryz.underlying44 Tryz.underlying5 (i := (Tryz.prog.info? 5).get zqb) zqb zqb h0 h1
@[go_sem ↓ high] theorem zq89 (ty : TypeId) (cs : Array Bool) (args : Array Value) : builtin .append #[144, 144] ty cs args = zqu #[144, 144] ty args := by unfold zqu; rfl
@[go_sem] theorem zq0w (ty : TypeId) (b n cap b2 m c : Nat) (w : World) : (zqu #[144, 144] ty #[.slice (some ⟨b, 0, none⟩) n cap, .slice (some ⟨b2, 0, none⟩) m c]).run Tryz.prog w =
  zqhd Tryz.prog #[144, 144] ty b n cap b2 m c w (zqd w b) (zqd w b2) := zq26 Tryz.underlying144 (ie := (Tryz.prog.info? 5).get zqb) zqb zqb ty b n cap b2 m c w
attribute [go_sem] zqp3
theorem zqx {W w1 : World} {n : Nat} {v : Option Obj} (e : W = w1) (h : zqd W n = v := by exact zqg) : zqd w1 n = v := e ▸ h
theorem zqay {a W w1 : World} (e : W = w1) (h : Below a.heap.size a W := by exact zqf) : Below a.heap.size a w1 := e ▸ h
end Go.Proofs.YtnjghcnhcbobhaaGreatDoor
namespace Go.Proofs.YtnjghcnhcbobhaaGreatDoor
open Go.RowKit
@[go_sem ↓ high] theorem zrf6 (ρ : Operand -> Value) (d : Option Tmp) (x : Operand) (t : TypeId) (pos : String) (af : Array Edge) (g : Option (Nat × Bool)) :
  execOp ρ ⟨d, .load 291 x, t, pos, af, g⟩ = zqq 291 (ρ x) := zqax _ ρ d x t pos af g
@[go_sem high] theorem zre3 (ρ : Operand -> Value) (d : Option Tmp) (x : Operand) (t : TypeId) (pos : String) (af : Array Edge) (g : Option (Nat × Bool)) :
  execOp ρ ⟨d, .load 291 x, t, pos, af, g⟩ = zqq 291 (ρ x) := zqax _ ρ d x t pos af g
@[go_sem] theorem zq8m (g : Nat) (w : World) : (zqq 291 (.pointer (some ⟨g, 0, none⟩))).run Tryz.prog w = (zqau Tryz.prog 291 g 5 w (zqd w g)).andThen fun v w' => .ok (.value v) w' := by
 rw [zq6, zqa3 Tryz.underlying291 rfl zqb g w]
@[go_sem] theorem zq8w (g : Nat) (w : World) (cs : Array Value) (t' : TypeId) (fr : Nat × Nat) (h : cs.size = 5) : zqau Tryz.prog 291 g 5 w (some (.cells cs t' fr)) = .ok (.agg cs) w := zqam cs t' fr h
@[go_sem ↓ high] theorem zrel (ρ : Operand -> Value) (d : Option Tmp) (x y : Operand) (t : TypeId) (pos : String) (af : Array Edge) (g : Option (Nat × Bool)) :
  execOp ρ ⟨d, .store 291 x y, t, pos, af, g⟩ = zqt 291 (ρ x) (ρ y) := zqat _ ρ d x y t pos af g
@[go_sem high] theorem zrcv (ρ : Operand -> Value) (d : Option Tmp) (x y : Operand) (t : TypeId) (pos : String) (af : Array Edge) (g : Option (Nat × Bool)) :
  execOp ρ ⟨d, .store 291 x y, t, pos, af, g⟩ = zqt 291 (ρ x) (ρ y) := zqat _ ρ d x y t pos af g
@[go_sem] theorem zq4y (g : Nat) (cs : Array Value) (w : World) : (zqt 291 (.pointer (some ⟨g, 0, none⟩)) (.agg cs)).run Tryz.prog w = (zqan Tryz.prog 291 g 5 (.agg cs) w (zqd w g)).andThen fun _ w' => .ok .skip w' := by
 rw [zq8, zqa6 zqb g cs w]
@[go_sem] theorem zq6i (g : Nat) (w : World) (old cs : Array Value) (t' : TypeId) (h1 : old.size = 5) (h2 : cs.size = 5) (h3 : zqal cs = true) :
  zqan Tryz.prog 291 g 5 (.agg cs) w (some (.cells old t' (0, 0))) = .ok () (w.setRow g cs) := zqaq old cs t' h1 h2 h3
@[go_sem high] theorem zrfl (w : World) : (zeroValue 291).run Tryz.prog w = .ok (.agg (ints .u64 5 zqe)) w := by kernel_rfl
@[go_sem ↓ high] theorem zqb1 (w : World) : (zeroValue 291).run Tryz.prog w = .ok (.agg (ints .u64 5 zqe)) w := by kernel_rfl
@[go_sem high] theorem zrke (f g : Nat -> Int) (w : World) : (binOp .eql 291 (.agg (ints .u64 5 f)) (.agg (ints .u64 5 g))).run Tryz.prog w = .ok (.bool (same 5 f g)) w :=
 zqco w .u64 f g Tryz.underlying291 Tryz.underlying101 (i := (Tryz.prog.info? 101).get zqb) zqb zqb
@[go_sem high] theorem zrjw (f g : Nat -> Int) (w : World) : (binOp .neq 291 (.agg (ints .u64 5 f)) (.agg (ints .u64 5 g))).run Tryz.prog w = .ok (.bool (!same 5 f g)) w :=
 zqcj w .u64 f g Tryz.underlying291 Tryz.underlying101 (i := (Tryz.prog.info? 101).get zqb) zqb zqb
@[go_sem] theorem zrev (k' : IntKind) (f : Nat -> Int) (j : Int) (w : World) (h0 : 0 <= j) (h1 : j < 5) : (Instr.index 291 (.agg (ints .u64 5 f)) (.int k' j)).run Tryz.prog w = .ok (.int .u64 (f j.toNat)) w :=
 zqbq w .u64 k' f j Tryz.underlying291 Tryz.underlying101 (i := (Tryz.prog.info? 101).get zqb) zqb zqb h0 h1
@[go_sem ↓ high] theorem zre7 (ρ : Operand -> Value) (d : Option Tmp) (x : Operand) (t : TypeId) (pos : String) (af : Array Edge) (g : Option (Nat × Bool)) :
  execOp ρ ⟨d, .load 304 x, t, pos, af, g⟩ = zqq 304 (ρ x) := zqax _ ρ d x t pos af g
@[go_sem high] theorem zrcs (ρ : Operand -> Value) (d : Option Tmp) (x : Operand) (t : TypeId) (pos : String) (af : Array Edge) (g : Option (Nat × Bool)) :
  execOp ρ ⟨d, .load 304 x, t, pos, af, g⟩ = zqq 304 (ρ x) := zqax _ ρ d x t pos af g
@[go_sem] theorem zq4l (g : Nat) (w : World) : (zqq 304 (.pointer (some ⟨g, 0, none⟩))).run Tryz.prog w = (zqau Tryz.prog 304 g 4 w (zqd w g)).andThen fun v w' => .ok (.value v) w' := by
 rw [zq6, zqa3 Tryz.underlying304 rfl zqb g w]
@[go_sem] theorem zq68 (g : Nat) (w : World) (cs : Array Value) (t' : TypeId) (fr : Nat × Nat) (h : cs.size = 4) : zqau Tryz.prog 304 g 4 w (some (.cells cs t' fr)) = .ok (.agg cs) w := zqam cs t' fr h
@[go_sem ↓ high] theorem zrdc (ρ : Operand -> Value) (d : Option Tmp) (x y : Operand) (t : TypeId) (pos : String) (af : Array Edge) (g : Option (Nat × Bool)) :
  execOp ρ ⟨d, .store 304 x y, t, pos, af, g⟩ = zqt 304 (ρ x) (ρ y) := zqat _ ρ d x y t pos af g
@[go_sem high] theorem zq8q (ρ : Operand -> Value) (d : Option Tmp) (x y : Operand) (t : TypeId) (pos : String) (af : Array Edge) (g : Option (Nat × Bool)) :
  execOp ρ ⟨d, .store 304 x y, t, pos, af, g⟩ = zqt 304 (ρ x) (ρ y) := zqat _ ρ d x y t pos af g
@[go_sem] theorem zq3i (g : Nat) (cs : Array Value) (w : World) : (zqt 304 (.pointer (some ⟨g, 0, none⟩)) (.agg cs)).run Tryz.prog w = (zqan Tryz.prog 304 g 4 (.agg cs) w (zqd w g)).andThen fun _ w' => .ok .skip w' := by
 rw [zq8, zqa6 zqb g cs w]
@[go_sem] theorem zq3n (g : Nat) (w : World) (old cs : Array Value) (t' : TypeId) (h1 : old.size = 4) (h2 : cs.size = 4) (h3 : zqal cs = true) :
  zqan Tryz.prog 304 g 4 (.agg cs) w (some (.cells old t' (0, 0))) = .ok () (w.setRow g cs) := zqaq old cs t' h1 h2 h3
@[go_sem high] theorem zrbu (w : World) : (zeroValue 304).run Tryz.prog w = .ok (.agg (ints .u64 4 zqe)) w := by kernel_rfl
@[go_sem ↓ high] theorem zren (w : World) : (zeroValue 304).run Tryz.prog w = .ok (.agg (ints .u64 4 zqe)) w := by kernel_rfl
@[go_sem high] theorem zri7 (f g : Nat -> Int) (w : World) : (binOp .eql 304 (.agg (ints .u64 4 f)) (.agg (ints .u64 4 g))).run Tryz.prog w = .ok (.bool (same 4 f g)) w :=
 zqco w .u64 f g Tryz.underlying304 Tryz.underlying101 (i := (Tryz.prog.info? 101).get zqb) zqb zqb
@[go_sem high] theorem zrgh (f g : Nat -> Int) (w : World) : (binOp .neq 304 (.agg (ints .u64 4 f)) (.agg (ints .u64 4 g))).run Tryz.prog w = .ok (.bool (!same 4 f g)) w :=
 zqcj w .u64 f g Tryz.underlying304 Tryz.underlying101 (i := (Tryz.prog.info? 101).get zqb) zqb zqb
@[go_sem] theorem zrbg (k' : IntKind) (f : Nat -> Int) (j : Int) (w : World) (h0 : 0 <= j) (h1 : j < 4) : (Instr.index 304 (.agg (ints .u64 4 f)) (.int k' j)).run Tryz.prog w = .ok (.int .u64 (f j.toNat)) w :=
 zqbq w .u64 k' f j Tryz.underlying304 Tryz.underlying101 (i := (Tryz.prog.info? 101).get zqb) zqb zqb h0 h1
end Go.Proofs.YtnjghcnhcbobhaaGreatDoor
namespace Go.Proofs.YtnjghcnhcbobhaaGreatDoor
open Go.RowKit
@[go_sem ↓ high] theorem zre6 (ρ : Operand -> Value) (d : Option Tmp) (x : Operand) (t : TypeId) (pos : String) (af : Array Edge) (g : Option (Nat × Bool)) :
  execOp ρ ⟨d, .load 43 x, t, pos, af, g⟩ = zqq 43 (ρ x) := zqax _ ρ d x t pos af g
@[go_sem high] theorem zrc5 (ρ : Operand -> Value) (d : Option Tmp) (x : Operand) (t : TypeId) (pos : String) (af : Array Edge) (g : Option (Nat × Bool)) :
  execOp ρ ⟨d, .load 43 x, t, pos, af, g⟩ = zqq 43 (ρ x) := zqax _ ρ d x t pos af g
@[go_sem] theorem zq4p (g : Nat) (w : World) : (zqq 43 (.pointer (some ⟨g, 0, none⟩))).run Tryz.prog w = (zqau Tryz.prog 43 g 32 w (zqd w g)).andThen fun v w' => .ok (.value v) w' := by
 rw [zq6, zqa3 Tryz.underlying43 rfl zqb g w]
@[go_sem] theorem zq46 (g : Nat) (w : World) (cs : Array Value) (t' : TypeId) (fr : Nat × Nat) (h : cs.size = 32) : zqau Tryz.prog 43 g 32 w (some (.cells cs t' fr)) = .ok (.agg cs) w := zqam cs t' fr h
@[go_sem ↓ high] theorem zrby (ρ : Operand -> Value) (d : Option Tmp) (x y : Operand) (t : TypeId) (pos : String) (af : Array Edge) (g : Option (Nat × Bool)) :
  execOp ρ ⟨d, .store 43 x y, t, pos, af, g⟩ = zqt 43 (ρ x) (ρ y) := zqat _ ρ d x y t pos af g
@[go_sem high] theorem zq9g (ρ : Operand -> Value) (d : Option Tmp) (x y : Operand) (t : TypeId) (pos : String) (af : Array Edge) (g : Option (Nat × Bool)) :
  execOp ρ ⟨d, .store 43 x y, t, pos, af, g⟩ = zqt 43 (ρ x) (ρ y) := zqat _ ρ d x y t pos af g
@[go_sem] theorem zq3q (g : Nat) (cs : Array Value) (w : World) : (zqt 43 (.pointer (some ⟨g, 0, none⟩)) (.agg cs)).run Tryz.prog w = (zqan Tryz.prog 43 g 32 (.agg cs) w (zqd w g)).andThen fun _ w' => .ok .skip w' := by
 rw [zq8, zqa6 zqb g cs w]
@[go_sem] theorem zq3o (g : Nat) (w : World) (old cs : Array Value) (t' : TypeId) (h1 : old.size = 32) (h2 : cs.size = 32) (h3 : zqal cs = true) :
  zqan Tryz.prog 43 g 32 (.agg cs) w (some (.cells old t' (0, 0))) = .ok () (w.setRow g cs) := zqaq old cs t' h1 h2 h3
@[go_sem high] theorem zrcb (w : World) : (zeroValue 43).run Tryz.prog w = .ok (.agg (ints .u8 32 zqe)) w := by kernel_rfl
@[go_sem ↓ high] theorem zrfe (w : World) : (zeroValue 43).run Tryz.prog w = .ok (.agg (ints .u8 32 zqe)) w := by kernel_rfl
@[go_sem high] theorem zrg9 (f g : Nat -> Int) (w : World) : (binOp .eql 43 (.agg (ints .u8 32 f)) (.agg (ints .u8 32 g))).run Tryz.prog w = .ok (.bool (same 32 f g)) w :=
 zqco w .u8 f g Tryz.underlying43 Tryz.underlying5 (i := (Tryz.prog.info? 5).get zqb) zqb zqb
@[go_sem high] theorem zriv (f g : Nat -> Int) (w : World) : (binOp .neq 43 (.agg (ints .u8 32 f)) (.agg (ints .u8 32 g))).run Tryz.prog w = .ok (.bool (!same 32 f g)) w :=
 zqcj w .u8 f g Tryz.underlying43 Tryz.underlying5 (i := (Tryz.prog.info? 5).get zqb) zqb zqb
@[go_sem] theorem zrcn (k' : IntKind) (f : Nat -> Int) (j : Int) (w : World) (h0 : 0 <= j) (h1 : j < 32) : (Instr.index 43 (.agg (ints .u8 32 f)) (.int k' j)).run Tryz.prog w = .ok (.int .u8 (f j.toNat)) w :=
 zqbq w .u8 k' f j Tryz.underlying43 Tryz.underlying5 (i := (Tryz.prog.info? 5).get zqb) zqb zqb h0 h1
@[go_sem ↓ high] theorem zri1 (ρ : Operand -> Value) (d : Option Tmp) (x : Operand) (t : TypeId) (pos : String) (af : Array Edge) (g : Option (Nat × Bool)) :
  execOp ρ ⟨d, .load 290 x, t, pos, af, g⟩ = zqq 290 (ρ x) := zqax _ ρ d x t pos af g
@[go_sem high] theorem zrew (ρ : Operand -> Value) (d : Option Tmp) (x : Operand) (t : TypeId) (pos : String) (af : Array Edge) (g : Option (Nat × Bool)) :
  execOp ρ ⟨d, .load 290 x, t, pos, af, g⟩ = zqq 290 (ρ x) := zqax _ ρ d x t pos af g
@[go_sem] theorem zq8u (g : Nat) (w : World) : (zqq 290 (.pointer (some ⟨g, 0, none⟩))).run Tryz.prog w = (zqau Tryz.prog 290 g 5 w (zqd w g)).andThen fun v w' => .ok (.value v) w' := by
 rw [zq6, zqa3 Tryz.underlying290 rfl zqb g w]
@[go_sem] theorem zq7w (g : Nat) (w : World) (cs : Array Value) (t' : TypeId) (fr : Nat × Nat) (h : cs.size = 5) : zqau Tryz.prog 290 g 5 w (some (.cells cs t' fr)) = .ok (.agg cs) w := zqam cs t' fr h
@[go_sem ↓ high] theorem zrex (ρ : Operand -> Value) (d : Option Tmp) (x y : Operand) (t : TypeId) (pos : String) (af : Array Edge) (g : Option (Nat × Bool)) :
  execOp ρ ⟨d, .store 290 x y, t, pos, af, g⟩ = zqt 290 (ρ x) (ρ y) := zqat _ ρ d x y t pos af g
@[go_sem high] theorem zrc1 (ρ : Operand -> Value) (d : Option Tmp) (x y : Operand) (t : TypeId) (pos : String) (af : Array Edge) (g : Option (Nat × Bool)) :
  execOp ρ ⟨d, .store 290 x y, t, pos, af, g⟩ = zqt 290 (ρ x) (ρ y) := zqat _ ρ d x y t pos af g
@[go_sem] theorem zq3u (g : Nat) (cs : Array Value) (w : World) : (zqt 290 (.pointer (some ⟨g, 0, none⟩)) (.agg cs)).run Tryz.prog w = (zqan Tryz.prog 290 g 5 (.agg cs) w (zqd w g)).andThen fun _ w' => .ok .skip w' := by
 rw [zq8, zqa6 zqb g cs w]
@[go_sem] theorem zq5y (g : Nat) (w : World) (old cs : Array Value) (t' : TypeId) (h1 : old.size = 5) (h2 : cs.size = 5) (h3 : zqal cs = true) :
  zqan Tryz.prog 290 g 5 (.agg cs) w (some (.cells old t' (0, 0))) = .ok () (w.setRow g cs) := zqaq old cs t' h1 h2 h3
@[go_sem high] theorem zreo (w : World) : (zeroValue 290).run Tryz.prog w = .ok (.agg (ints .u64 5 zqe)) w := by kernel_rfl
@[go_sem ↓ high] theorem zrhx (w : World) : (zeroValue 290).run Tryz.prog w = .ok (.agg (ints .u64 5 zqe)) w := by kernel_rfl
@[go_sem high] theorem zrj5 (f g : Nat -> Int) (w : World) : (binOp .eql 290 (.agg (ints .u64 5 f)) (.agg (ints .u64 5 g))).run Tryz.prog w = .ok (.bool (same 5 f g)) w :=
 zqco w .u64 f g Tryz.underlying290 Tryz.underlying101 (i := (Tryz.prog.info? 101).get zqb) zqb zqb
@[go_sem high] theorem zrjt (f g : Nat -> Int) (w : World) : (binOp .neq 290 (.agg (ints .u64 5 f)) (.agg (ints .u64 5 g))).run Tryz.prog w = .ok (.bool (!same 5 f g)) w :=
 zqcj w .u64 f g Tryz.underlying290 Tryz.underlying101 (i := (Tryz.prog.info? 101).get zqb) zqb zqb
@[go_sem] theorem zrey (k' : IntKind) (f : Nat -> Int) (j : Int) (w : World) (h0 : 0 <= j) (h1 : j < 5) : (Instr.index 290 (.agg (ints .u64 5 f)) (.int k' j)).run Tryz.prog w = .ok (.int .u64 (f j.toNat)) w :=
 zqbq w .u64 k' f j Tryz.underlying290 Tryz.underlying101 (i := (Tryz.prog.info? 101).get zqb) zqb zqb h0 h1
end Go.Proofs.YtnjghcnhcbobhaaGreatDoor
namespace Go.Proofs.YtnjghcnhcbobhaaGreatDoor
open Go.RowKit
def zqw (x z : Nat -> Int) : Nat -> Int := fun i => if i < 5 then x i else z (i - 5)
@[go_sem ↓ high] theorem zrhh (ρ : Operand -> Value) (d : Option Tmp) (x : Operand) (t : TypeId) (pos : String) (af : Array Edge) (g : Option (Nat × Bool)) :
  execOp ρ ⟨d, .load 297 x, t, pos, af, g⟩ = zqq 297 (ρ x) := zqax _ ρ d x t pos af g
@[go_sem high] theorem zrfa (ρ : Operand -> Value) (d : Option Tmp) (x : Operand) (t : TypeId) (pos : String) (af : Array Edge) (g : Option (Nat × Bool)) :
  execOp ρ ⟨d, .load 297 x, t, pos, af, g⟩ = zqq 297 (ρ x) := zqax _ ρ d x t pos af g
@[go_sem] theorem zq73 (g : Nat) (w : World) : (zqq 297 (.pointer (some ⟨g, 0, none⟩))).run Tryz.prog w = (zqau Tryz.prog 297 g 10 w (zqd w g)).andThen fun v w' => .ok (.value v) w' := by
 rw [zq6, zqa3 Tryz.underlying297 rfl zqb g w]
@[go_sem] theorem zq86 (g : Nat) (w : World) (cs : Array Value) (t' : TypeId) (fr : Nat × Nat) (h : cs.size = 10) : zqau Tryz.prog 297 g 10 w (some (.cells cs t' fr)) = .ok (.agg cs) w := zqam cs t' fr h
@[go_sem ↓ high] theorem zreg (ρ : Operand -> Value) (d : Option Tmp) (x y : Operand) (t : TypeId) (pos : String) (af : Array Edge) (g : Option (Nat × Bool)) :
  execOp ρ ⟨d, .store 297 x y, t, pos, af, g⟩ = zqt 297 (ρ x) (ρ y) := zqat _ ρ d x y t pos af g
@[go_sem high] theorem zq9m (ρ : Operand -> Value) (d : Option Tmp) (x y : Operand) (t : TypeId) (pos : String) (af : Array Edge) (g : Option (Nat × Bool)) :
  execOp ρ ⟨d, .store 297 x y, t, pos, af, g⟩ = zqt 297 (ρ x) (ρ y) := zqat _ ρ d x y t pos af g
@[go_sem] theorem zq67 (g : Nat) (cs : Array Value) (w : World) : (zqt 297 (.pointer (some ⟨g, 0, none⟩)) (.agg cs)).run Tryz.prog w = (zqan Tryz.prog 297 g 10 (.agg cs) w (zqd w g)).andThen fun _ w' => .ok .skip w' := by
 rw [zq8, zqa6 zqb g cs w]
@[go_sem] theorem zq6p (g : Nat) (w : World) (old cs : Array Value) (t' : TypeId) (h1 : old.size = 10) (h2 : cs.size = 10) (h3 : zqal cs = true) :
  zqan Tryz.prog 297 g 10 (.agg cs) w (some (.cells old t' (0, 0))) = .ok () (w.setRow g cs) := zqaq old cs t' h1 h2 h3
@[go_sem high] theorem zre9 (w : World) : (zeroValue 297).run Tryz.prog w = .ok (.agg (ints .u64 10 (zqw zqe zqe))) w := by kernel_rfl
@[go_sem ↓ high] theorem zqbx (w : World) : (zeroValue 297).run Tryz.prog w = .ok (.agg (ints .u64 10 (zqw zqe zqe))) w := by kernel_rfl
theorem zq0e (x z : Nat -> Int) : (ints .u64 10 (zqw x z)).extract 0 5 = ints .u64 5 x := by kernel_rfl
theorem zq0p (x z : Nat -> Int) : (ints .u64 10 (zqw x z)).extract 5 (5 + 5) = ints .u64 5 z := by kernel_rfl
theorem zrlb (x z a : Nat -> Int) : zqbw (ints .u64 10 (zqw x z)) 0 (ints .u64 5 a).toList = ints .u64 10 (zqw a z) := by kernel_rfl
theorem zrlp (x z a : Nat -> Int) : zqbw (ints .u64 10 (zqw x z)) 5 (ints .u64 5 a).toList = ints .u64 10 (zqw x a) := by kernel_rfl
@[go_sem] theorem zret (g : Nat) (w : World) (x z : Nat -> Int) (t' : TypeId) (fr : Nat × Nat) : zqau Tryz.prog 291 g 5 w (some (.cells (ints .u64 10 (zqw x z)) t' fr)) = .ok (.agg (ints .u64 5 x)) w := by
 unfold zqau
 simp only [zqi]
 rw [if_neg (by decide), if_pos (by decide), zq0e]
@[go_sem] theorem zq9z (g : Nat) (w : World) (x z a : Nat -> Int) (t' : TypeId) : zqan Tryz.prog 291 g 5 (.agg (ints .u64 5 a)) w (some (.cells (ints .u64 10 (zqw x z)) t' (0, 0))) = .ok () (w.setRow g (ints .u64 10 (zqw a z))) := by
 unfold zqan
 simp only [zqi]
 rw [if_neg (fun h => absurd h.1 (by decide)), if_pos ⟨by decide, by trivial, zqdd _ _ _⟩, zrlb]
@[go_sem] theorem zq3y (g : Nat) (w : World) : (zqq 291 (.pointer (some ⟨g, 5, none⟩))).run Tryz.prog w = (zqa8 Tryz.prog 291 g 5 5 w (zqd w g)).andThen fun v w' => .ok (.value v) w' := by
 rw [zq6, zqde Tryz.underlying291 rfl zqb g 5 w]
@[go_sem] theorem zrei (g : Nat) (w : World) (x z : Nat -> Int) (t' : TypeId) (fr : Nat × Nat) : zqa8 Tryz.prog 291 g 5 5 w (some (.cells (ints .u64 10 (zqw x z)) t' fr)) = .ok (.agg (ints .u64 5 z)) w := by
 unfold zqa8
 simp only [zqi]
 rw [if_pos (by decide), zq0p]
@[go_sem] theorem zq3l (g : Nat) (cs : Array Value) (w : World) : (zqt 291 (.pointer (some ⟨g, 5, none⟩)) (.agg cs)).run Tryz.prog w = (zqbs Tryz.prog 291 g 5 5 (.agg cs) w (zqd w g)).andThen fun _ w' => .ok .skip w' := by
 rw [zq8, zqdq zqb g 5 cs w]
@[go_sem] theorem zrb2 (g : Nat) (w : World) (x z a : Nat -> Int) (t' : TypeId) : zqbs Tryz.prog 291 g 5 5 (.agg (ints .u64 5 a)) w (some (.cells (ints .u64 10 (zqw x z)) t' (0, 0))) = .ok () (w.setRow g (ints .u64 10 (zqw x a))) := by
 unfold zqbs
 simp only [zqi]
 rw [if_pos ⟨by decide, by trivial, zqdd _ _ _⟩, zrlp]
@[go_sem] theorem zrdv (x z : Nat -> Int) (w : World) : (Instr.field 297 (.agg (ints .u64 10 (zqw x z))) 0).run Tryz.prog w = .ok (.agg (ints .u64 5 x)) w := by kernel_rfl
@[go_sem] theorem zray (x z : Nat -> Int) (w : World) : (Instr.field 297 (.agg (ints .u64 10 (zqw x z))) 1).run Tryz.prog w = .ok (.agg (ints .u64 5 z)) w := by kernel_rfl
def zqhc (x z : Value) : Sem Next := do pure (.value (<- Instr.build 297 #[(0, x), (1, z)]))
def zqju (x : Value) : Sem Next := do pure (.value (<- Instr.build 297 #[(0, x)]))
@[go_sem ↓ high] theorem zrky (ρ : Operand -> Value) (d : Option Tmp) (x y : Operand) (t : TypeId) (pos : String) (af : Array Edge) (g : Option (Nat × Bool)) :
  execOp ρ ⟨d, .build 297 #[(0, x), (1, y)], t, pos, af, g⟩ = zqhc (ρ x) (ρ y) := by simp [execOp, zqhc]
@[go_sem high] theorem zrj1 (ρ : Operand -> Value) (d : Option Tmp) (x y : Operand) (t : TypeId) (pos : String) (af : Array Edge) (g : Option (Nat × Bool)) :
  execOp ρ ⟨d, .build 297 #[(0, x), (1, y)], t, pos, af, g⟩ = zqhc (ρ x) (ρ y) := by simp [execOp, zqhc]
@[go_sem ↓ high] theorem zrkl (ρ : Operand -> Value) (d : Option Tmp) (x : Operand) (t : TypeId) (pos : String) (af : Array Edge) (g : Option (Nat × Bool)) :
  execOp ρ ⟨d, .build 297 #[(0, x)], t, pos, af, g⟩ = zqju (ρ x) := by simp [execOp, zqju]
@[go_sem high] theorem zriw (ρ : Operand -> Value) (d : Option Tmp) (x : Operand) (t : TypeId) (pos : String) (af : Array Edge) (g : Option (Nat × Bool)) :
  execOp ρ ⟨d, .build 297 #[(0, x)], t, pos, af, g⟩ = zqju (ρ x) := by simp [execOp, zqju]
@[go_sem] theorem zrjo (x z : Nat -> Int) (w : World) : (zqhc (.agg (ints .u64 5 x)) (.agg (ints .u64 5 z))).run Tryz.prog w = .ok (.value (.agg (ints .u64 10 (zqw x z)))) w := by kernel_rfl
@[go_sem] theorem zrgc (x : Nat -> Int) (w : World) : (zqju (.agg (ints .u64 5 x))).run Tryz.prog w = .ok (.value (.agg (ints .u64 10 (zqw x zqe)))) w := by kernel_rfl
attribute [irreducible] zqhc zqju
end Go.Proofs.YtnjghcnhcbobhaaGreatDoor
