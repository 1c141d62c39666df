/- Mem -/
import Derived.Test.YtnjghcnhcbobhaaGreatDoorProg
import Derived.Test.YtnjghcnhcbobhaaGreatDoorBase
import Derived.Deep.MidRow
set_option linter.unusedVariables false
set_option linter.unusedSimpArgs false
namespace Go.Proofs.YtnjghcnhcbobhaaGreatDoor
open Go.RowKit
theorem zqz {P : Program} {id : Nat} {Q : Exit -> Act -> World -> Prop} {a : Act} {w : World} {l : List Oper} (hm : P.follows .mixedOrders = true) (hB : Region.lexB .any l.toArray = true)
  (h : wpQuiet P l.toArray (fun w' => ∃ m, w' = more w m) (fun a' => ∀ w', (∃ m, w' = more w m) -> Q .normal a' w') l a) : (Code.region id l.toArray true).wp P Q a w :=
 wp_region_quiet (C := fun w' => ∃ m, w' = more w m) hm hB ⟨⟨w.drawn + 1, #[]⟩, by simp [more]⟩ (by simpa using h)
theorem zq8 {P : Program} {id : Nat} {Q : Exit -> Act -> World -> Prop} {a : Act} {w : World} {m0 : More} {l : List Oper} (hm : P.follows .mixedOrders = true) (hB : Region.lexB .any l.toArray = true)
  (h : wpQuiet P l.toArray (fun w' => ∃ m, w' = more w m) (fun a' => ∀ w', (∃ m, w' = more w m) -> Q .normal a' w') l a) : (Code.region id l.toArray true).wp P Q a (more w m0) :=
 wp_region_quiet (C := fun w' => ∃ m, w' = more w m) hm hB ⟨⟨m0.d + 1, m0.os⟩, rfl⟩ (by simpa using h)
def loadRow (P : Program) (t : TypeId) (v : Value) (w : World) : Result Value := (Instr.loadAt t v).run P w
def zqa0 (P : Program) (t : TypeId) (g n : Nat) (w : World) : Option Obj -> Result Value
 | some (.cells cs _ _) => if cs.size = n then .ok (.agg cs) w else if n <= cs.size then .ok (.agg (cs.extract 0 n)) w else (Instr.loadAt t (.pointer (some ⟨g, 0, none⟩))).run P w
 | _ => (Instr.loadAt t (.pointer (some ⟨g, 0, none⟩))).run P w
theorem zqre {P : Program} {t : TypeId} {n : Nat} {d : TypeDesc} (hu : P.underlying t = some d) (hd : (match d with | .struct _ | .array _ _ => true | _ => false) = true) (hi : (P.info? t).map (·.size) = some n) (g o : Nat) (w : World) (cs : Array Value) (t' : TypeId) (fr : Nat × Nat) (hg : w.heap[g]? = some (.cells cs t' fr)) (hn : o + n <= cs.size) :
  (Instr.loadAt t (.pointer (some ⟨g, o, none⟩))).run P w = .ok (.agg (cs.extract o (o + n))) w := by
 have h := run_loadAt_mid (P := P) w g o t (cs.extract o (o + n)).toList d (World.rangeAt_of_block hg o n) hu (by cases d <;> simp_all [TypeDesc.isRow]) (by rw [hi]; simp; omega);rw [h]
theorem zqbh {P : Program} {t : TypeId} {n : Nat} {d : TypeDesc} (hu : P.underlying t = some d) (hd : (match d with | .struct _ | .array _ _ => true | _ => false) = true) (hi : (P.info? t).map (·.size) = some n) (g : Nat) (w : World) :
  loadRow P t (.pointer (some ⟨g, 0, none⟩)) w = zqa0 P t g n w (zqd w g) := by
 show _ = zqa0 P t g n w w.heap[g]?
 cases hg : w.heap[g]? with
 | none => rfl
 | some o =>
  cases o with
  | cells cs t' fr =>
   simp only [zqa0]
   by_cases hc : cs.size = n
   ·rw [if_pos hc]
    subst hc;exact run_loadVar_row w g t' t cs fr d hg hu hd hi
   ·rw [if_neg hc]
    by_cases hl : n <= cs.size
    ·rw [if_pos hl]
     have h := zqre hu hd hi g 0 w cs t' fr hg (by omega);rw [Nat.zero_add] at h;exact h
    ·rw [if_neg hl]; rfl
  | _ => rfl
theorem zqat {P : Program} {t : TypeId} {g n : Nat} {w : World} (cs : Array Value) (t' : TypeId) (fr : Nat × Nat) (h : cs.size = n) : zqa0 P t g n w (some (.cells cs t' fr)) = .ok (.agg cs) w := by
 simp [zqa0, h]
def zqp (ty : TypeId) (v : Value) : Sem Next := do pure (.value (<- Instr.loadAt ty v))
def zqv (ty : TypeId) (v x : Value) : Sem Next := do Instr.storeAt ty v x; pure .skip
theorem zq6 {P : Program} (ty : TypeId) (v : Value) (w : World) : (zqp ty v).run P w = (loadRow P ty v w).andThen fun v w' => .ok (.value v) w' := by
 simp [zqp, loadRow, Sem.run_bind]
def zqjm (P : Program) (t : TypeId) (a v : Value) (w : World) : Result Unit := (Instr.storeAt t a v).run P w
theorem zqae {P : Program} (ty : TypeId) (v x : Value) (w : World) : (zqv ty v x).run P w = (zqjm P ty v x w).andThen fun _ w' => .ok .skip w' := by
 simp [zqv, zqjm, Sem.run_bind]
theorem zqa4 (ty : TypeId) (ρ : Operand -> Value) (d : Option Tmp) (x : Operand) (t : TypeId) (pos : String) (af : Array Edge) (g : Option (Nat × Bool)) : execOp ρ ⟨d, .load ty x, t, pos, af, g⟩ = zqp ty (ρ x) := rfl
theorem zqav (ty : TypeId) (ρ : Operand -> Value) (d : Option Tmp) (x y : Operand) (t : TypeId) (pos : String) (af : Array Edge) (g : Option (Nat × Bool)) : execOp ρ ⟨d, .store ty x y, t, pos, af, g⟩ = zqv ty (ρ x) (ρ y) := rfl
def zqai (cs : Array Value) : Bool := cs.all (·.oneCell')
def zqaq (P : Program) (t : TypeId) (g n : Nat) (v : Value) (w : World) : Option Obj -> Result Unit
 | some (.cells old _ (0, 0)) => match v with
  | .agg cs => if old.size = n /\ cs.size = n /\ zqai cs = true then .ok () (w.setRow g cs) else if n <= old.size /\ cs.size = n /\ zqai cs = true then .ok () (w.setRow g (zqb4 old 0 cs.toList)) else (Instr.storeAt t (.pointer (some ⟨g, 0, none⟩)) v).run P w
  | _ => (Instr.storeAt t (.pointer (some ⟨g, 0, none⟩)) v).run P w
 | _ => (Instr.storeAt t (.pointer (some ⟨g, 0, none⟩)) v).run P w
theorem zqpc {P : Program} {t : TypeId} {n : Nat} (hi : (P.info? t).map (·.size) = some n) (g o : Nat) (w : World) (old cs : Array Value) (t' : TypeId) (hg : w.heap[g]? = some (.cells old t' (0, 0))) (hc : cs.size = n) (hn : o + n <= old.size) (h1 : zqai cs = true) :
  (Instr.storeAt t (.pointer (some ⟨g, o, none⟩)) (.agg cs)).run P w = .ok () (w.setRow g (zqb4 old o cs.toList)) := by
 have h := run_storeAt_mid (P := P) w g o t cs (fun j hj => ⟨by rw [cell_of_row w g (o + j) _ _ _ hg]; simp; omega, frozen_of_row w g _ _ _ hg⟩) (by rw [hi, hc]) (by unfold zqai at h1; exact h1);rw [h, zqfq g t' _ o old w hg]
theorem zqbf {P : Program} {t : TypeId} {n : Nat} (hi : (P.info? t).map (·.size) = some n) (g : Nat) (cs : Array Value) (w : World) :
  zqjm P t (.pointer (some ⟨g, 0, none⟩)) (.agg cs) w = zqaq P t g n (.agg cs) w (zqd w g) := by
 show _ = zqaq P t g n (.agg cs) w w.heap[g]?
 unfold zqaq
 split
 ·rename_i old t' hg
  split
  ·rename_i cs' e
   cases e
   split
   ·rename_i h
    obtain ⟨h1, h2, h3⟩ := h;exact run_storeVar_row w g t' t old cs hg (by rw [hi, h2]) (by rw [h1, h2]) h3
   ·split
    ·rename_i h
     obtain ⟨h1, h2, h3⟩ := h;exact zqpc hi g 0 w old cs t' hg h2 (by omega) h3
    ·rfl
  ·rename_i hx
   exact (hx _ rfl).elim
 ·rfl
theorem zqas {P : Program} {t : TypeId} {g n : Nat} {w : World} (old cs : Array Value) (t' : TypeId) (h1 : old.size = n) (h2 : cs.size = n) (h3 : zqai cs = true) :
  zqaq P t g n (.agg cs) w (some (.cells old t' (0, 0))) = .ok () (w.setRow g cs) := by
 simp only [zqaq]
 rw [if_pos ⟨h1, h2, h3⟩]
@[go_sem] theorem zrh9 (k : IntKind) (n : Nat) (f : Nat -> Int) : (ints k n f).size = n := zqj k n f
@[go_sem] theorem ints_at (k : IntKind) (n : Nat) (f : Nat -> Int) (i : Nat) (h : i < (ints k n f).size) : (ints k n f)[i] = .int k (f i) := by simp [ints]
@[go_sem] theorem zrpn (k : IntKind) (n : Nat) (f : Nat -> Int) (h : n ≠ 0) : (ints k n f = #[]) = False := by
 simp only [eq_iff_iff, iff_false]
 intro e;have := zqj k n f;rw [e] at this;exact h this.symm
@[go_sem] theorem zqdn (k : IntKind) (n : Nat) (f : Nat -> Int) : zqai (ints k n f) = true := by
 unfold zqai; rw [Array.all_eq_true]; intro i hi; simp [ints, Value.oneCell']
@[go_sem] theorem zqm3 (w : World) (c c' : Array Value) (t : TypeId) (n : Nat) (hn : n = w.heap.size) : (w.alloc (.cells c t)).setRow n c' = w.alloc (.cells c' t) := by
 subst hn;unfold World.setRow World.alloc
 congr 1
 apply Array.ext_getElem?
 intro k
 simp only [Array.getElem?_modify, Array.getElem?_push]
 by_cases hk : k = w.heap.size
 ·subst hk; simp
 ·have hk' : ¬ w.heap.size = k := fun e => hk e.symm
  simp [hk, hk']
@[go_sem] theorem zqdm (w : World) (o : Obj) (c' : Array Value) (n : Nat) (hn : n < w.heap.size) : (w.alloc o).setRow n c' = (w.setRow n c').alloc o := by
 unfold World.setRow World.alloc
 congr 1
 apply Array.ext_getElem?
 intro k
 simp only [Array.getElem?_modify, Array.getElem?_push, Array.size_modify]
 by_cases hk : k = w.heap.size
 ·subst hk; simp [Nat.ne_of_lt hn]
 ·simp [hk]
@[go_sem] theorem zqkg (w : World) (g : Nat) (cs : Array Value) : zqd (w.setRow g cs) g = (match zqd w g with | some (.cells _ t fr) => some (.cells cs t fr) | o => o) := by
 unfold zqd World.setRow
 simp only [Array.getElem?_modify, if_pos]
 cases w.heap[g]? with
 | none => rfl
 | some o => cases o <;> rfl
@[go_sem] theorem zqi6 (w : World) (g n : Nat) (cs : Array Value) (h : n ≠ g) : zqd (w.setRow g cs) n = zqd w n := by
 unfold zqd World.setRow
 simp only [Array.getElem?_modify]
 rw [if_neg (fun e => h e.symm)]
theorem Grew.setRow {w w' : World} (h : Below w.heap.size w w') (g : Nat) (cs : Array Value) (hg : w.heap.size <= g) : Below w.heap.size w (w'.setRow g cs) :=
 h.trans ⟨rfl, rfl, rfl, by simp [World.setRow], fun k hk => by
  show ((w'.setRow g cs).heap)[k]? = _
  unfold World.setRow
  simp only [Array.getElem?_modify]
  rw [if_neg (by omega)]⟩
theorem zqm {w : World} {n : Nat} {o : Obj} (g : Nat) (cs : Array Value) (h : zqd w n = some o) (hn : n ≠ g) : zqd (w.setRow g cs) n = some o := (zqi6 w g n cs hn).trans h
theorem zqr {w : World} {n : Nat} {c : Array Value} {t : TypeId} {fr : Nat × Nat} (cs : Array Value) (h : zqd w n = some (.cells c t fr)) : zqd (w.setRow n cs) n = some (.cells cs t fr) := by
 rw [zqkg, h]
theorem zqh {W : World} {g : Nat} {o : Obj} (h : zqd W g = some o := by (repeat (first | assumption | exact zqg _ _ _ rfl | (refine zqg _ _ _ ?_; (simp; done)) | refine zqi _ ?_ | refine zqx0 _ ?_ | refine zqq _ ?_ | exact zqr _ (by assumption) | apply zqr | refine zqm _ _ ?_ (by first | omega | (simp; omega) | simp)))) : zqd W g = some o := h
theorem zqf {a : Nat} {W w : World} (h : Below a W w := by (repeat (first | assumption | exact Grew.refl _ | refine Grew.more ?_ _ | refine Grew.alloc ?_ _ | refine Grew.drewN ?_ _ | refine Grew.setRow ?_ _ _ (by omega) | refine Grew.setRow ?_ _ _ (by simp; omega) | refine Grew.setRow ?_ _ _ (by simp)))) : Below a W w := h
@[go_sem] theorem zrf6 (w : World) (c' : Array Value) (n : Nat) : w.drew.setRow n c' = (w.setRow n c').drew := rfl
@[go_sem] theorem zrbz (w : World) (c' : Array Value) (n m : Nat) : (w.drewN m).setRow n c' = (w.setRow n c').drewN m := rfl
@[go_sem] theorem zqgn (w : World) (c' : Array Value) (n : Nat) (m : More) (hn : n < w.heap.size) : (more w m).setRow n c' = more (w.setRow n c') m := by
 unfold World.setRow more
 congr 1
 apply Array.ext_getElem?
 intro k
 simp only [Array.getElem?_modify, Array.getElem?_append, Array.size_modify]
 by_cases hk : n = k
 ·subst hk; simp [hn]
 ·simp [hk]
@[go_sem] theorem zrbg (w : World) (v : Value) (n i : Nat) (m : More) (hn : n < w.heap.size) : (more w m).setCell ⟨n, i, none⟩ v = more (w.setCell ⟨n, i, none⟩ v) m := by
 unfold World.setCell more
 congr 1
 apply Array.ext_getElem?
 intro k
 simp only [Array.getElem?_modify, Array.getElem?_append, Array.size_modify]
 by_cases hk : n = k
 ·subst hk; simp [hn]
 ·simp [hk]
@[go_sem] theorem zq76 (w : World) (a : Addr) (v : Value) (m : Nat) : (w.drewN m).setCell a v = (w.setCell a v).drewN m := rfl
@[go_sem] theorem zq5 (w : World) (g : Nat) (cs : Array Value) : (w.setRow g cs).heap.size = w.heap.size := size_setRow w g cs
def zqao (P : Program) (t : TypeId) (g o n : Nat) (w : World) : Option Obj -> Result Value
 | some (.cells cs _ _) => if o + n <= cs.size then .ok (.agg (cs.extract o (o + n))) w else (Instr.loadAt t (.pointer (some ⟨g, o, none⟩))).run P w
 | _ => (Instr.loadAt t (.pointer (some ⟨g, o, none⟩))).run P w
theorem zqca {P : Program} {t : TypeId} {n : Nat} {d : TypeDesc} (hu : P.underlying t = some d) (hd : (match d with | .struct _ | .array _ _ => true | _ => false) = true) (hi : (P.info? t).map (·.size) = some n) (g o : Nat) (w : World) :
  loadRow P t (.pointer (some ⟨g, o, none⟩)) w = zqao P t g o n w (zqd w g) := by
 show _ = zqao P t g o n w w.heap[g]?
 cases hg : w.heap[g]? with
 | none => rfl
 | some ob =>
  cases ob with
  | cells cs t' fr =>
   simp only [zqao]
   by_cases hc : o + n <= cs.size
   ·rw [if_pos hc]
    exact zqre hu hd hi g o w cs t' fr hg hc
   ·rw [if_neg hc]; rfl
  | _ => rfl
def zqb0 (P : Program) (t : TypeId) (g o n : Nat) (v : Value) (w : World) : Option Obj -> Result Unit
 | some (.cells old _ (0, 0)) => match v with
  | .agg cs => if o + n <= old.size /\ cs.size = n /\ zqai cs = true then .ok () (w.setRow g (zqb4 old o cs.toList)) else (Instr.storeAt t (.pointer (some ⟨g, o, none⟩)) v).run P w
  | _ => (Instr.storeAt t (.pointer (some ⟨g, o, none⟩)) v).run P w
 | _ => (Instr.storeAt t (.pointer (some ⟨g, o, none⟩)) v).run P w
theorem zqd3 {P : Program} {t : TypeId} {n : Nat} (hi : (P.info? t).map (·.size) = some n) (g o : Nat) (cs : Array Value) (w : World) :
  zqjm P t (.pointer (some ⟨g, o, none⟩)) (.agg cs) w = zqb0 P t g o n (.agg cs) w (zqd w g) := by
 show _ = zqb0 P t g o n (.agg cs) w w.heap[g]?
 unfold zqb0
 split
 ·rename_i old t' hg
  split
  ·rename_i cs' e
   cases e
   split
   ·rename_i h
    obtain ⟨h1, h2, h3⟩ := h;exact zqpc hi g o w old cs t' hg h2 h1 h3
   ·rfl
  ·rename_i hx
   exact (hx _ rfl).elim
 ·rfl
attribute [irreducible] zqao zqb0
attribute [irreducible] zqai zqa0 zqaq loadRow zqjm zqp zqv
theorem zqaf {P : Program} {fn : Func} {R : Ending -> World -> Prop} {a : Act} {w : World} {p : Tmp} {ty : TypeId} (h : fn.results = #[.cell p ty]) (g : Nat) (t : TypeId) (cs : Array Value) (fr : Nat × Nat) (d : TypeDesc)
  (hp : a.tmps.getD p undef = .pointer (some ⟨g, 0, none⟩)) (hg : zqd w g = some (.cells cs t fr))
  (hu : P.underlying ty = some d) (hd : (match d with | .struct _ | .array _ _ => true | _ => false) = true) (hi : (P.info? ty).map (·.size) = some cs.size) (hD : a.defers = []) (hR : R (.returned (.agg cs)) w) : bodyPost P fn R .ret a w :=
 bodyPost_ret_by (results_cell_row h a.tmps w g t cs fr d hp (by unfold zqd at hg; exact hg) hu hd hi) hD hR
theorem zqln {P : Program} {fn : Func} {R : Ending -> World -> Prop} {a : Act} {w : World} {p q : Tmp} {ty ty' : TypeId} (h : fn.results = #[.cell p ty, .cell q ty']) (g g' : Nat) (t t' : TypeId) (cs cs' : Array Value) (fr fr' : Nat × Nat) (d d' : TypeDesc)
  (hp : a.tmps.getD p undef = .pointer (some ⟨g, 0, none⟩)) (hq : a.tmps.getD q undef = .pointer (some ⟨g', 0, none⟩)) (hg : zqd w g = some (.cells cs t fr)) (hg' : zqd w g' = some (.cells cs' t' fr'))
  (hu : P.underlying ty = some d) (hd : (match d with | .struct _ | .array _ _ => true | _ => false) = true) (hi : (P.info? ty).map (·.size) = some cs.size)
  (hu' : P.underlying ty' = some d') (hd' : (match d' with | .struct _ | .array _ _ => true | _ => false) = true) (hi' : (P.info? ty').map (·.size) = some cs'.size)
  (hD : a.defers = []) (hR : R (.returned (.tuple #[.agg cs, .agg cs'])) w) : bodyPost P fn R .ret a w := by
 refine bodyPost_ret_by ?_ hD hR
 have hp' : a.tmps[p]?.getD undef = .pointer (some ⟨g, 0, none⟩) := by simpa using hp
 have hq' : a.tmps[q]?.getD undef = .pointer (some ⟨g', 0, none⟩) := by simpa using hq
 unfold zqd at hg hg'
 simp [results, h, hp', hq', asAddr, run_loadVar_row w g t ty cs fr d hg hu hd hi, run_loadVar_row w g' t' ty' cs' fr' d' hg' hu' hd' hi']
def cellOf (o : Option Obj) (i : Nat) : Option Value := match o with | some (.cells c _ _) => c[i]? | _ => none
def zqgo (o : Option Obj) (i : Nat) : Bool := match o with | some (.cells _ _ (lo, hi)) => lo <= i && i < hi | _ => false
def zqgy (w : World) (n i : Nat) (v : Value) (o : Option Obj) : World := match o with | some (.cells c _ (0, 0)) => w.setRow n (c.setIfInBounds i v) | _ => w.setCell ⟨n, i, none⟩ v
theorem zqbs (c : Array Value) (t : TypeId) (fr : Nat × Nat) (i : Nat) : cellOf (some (.cells c t fr)) i = c[i]? := rfl
theorem zqh7 (c : Array Value) (t : TypeId) (i : Nat) : zqgo (some (.cells c t (0, 0))) i = false := by simp [zqgo]
theorem zqlx (w : World) (n i : Nat) (v : Value) (c : Array Value) (t : TypeId) : zqgy w n i v (some (.cells c t (0, 0))) = w.setRow n (c.setIfInBounds i v) := rfl
theorem zqgg (w : World) (n i : Nat) : w.cell? ⟨n, i, none⟩ = cellOf (zqd w n) i := by
 unfold World.cell? cellOf zqd
 cases h : w.heap[n]? with
 | none => simp
 | some o => cases o <;> simp
theorem zqo3 (w : World) (n i : Nat) : w.frozen? ⟨n, i, none⟩ = zqgo (zqd w n) i := by
 unfold World.frozen? zqgo zqd
 cases h : w.heap[n]? with
 | none => simp
 | some o => cases o <;> simp
theorem zql7 (w : World) (n i : Nat) (v : Value) : w.setCell ⟨n, i, none⟩ v = zqgy w n i v (zqd w n) := by
 unfold zqgy
 split
 ·rename_i c t h
  unfold zqd at h;exact setCell_eq_setRow w n i c t (0, 0) v h
 ·rfl
attribute [go_sem] zqbs zqh7 zqlx
attribute [go_sem low] zqgg zqo3 zql7
attribute [irreducible] cellOf zqgo zqgy
@[go_sem ↓ high] theorem zrma (ρ : Operand -> Value) (d : Option Tmp) (x : Operand) (t : TypeId) (pos : String) (af : Array Edge) (g : Option (Nat × Bool)) :
  execOp ρ ⟨d, .load 44 x, t, pos, af, g⟩ = zqp 44 (ρ x) := zqa4 _ ρ d x t pos af g
@[go_sem high] theorem zrkg (ρ : Operand -> Value) (d : Option Tmp) (x : Operand) (t : TypeId) (pos : String) (af : Array Edge) (g : Option (Nat × Bool)) :
  execOp ρ ⟨d, .load 44 x, t, pos, af, g⟩ = zqp 44 (ρ x) := zqa4 _ ρ d x t pos af g
@[go_sem] theorem zrfa (g : Nat) (w : World) : (zqp 44 (.pointer (some ⟨g, 0, none⟩))).run Tryz.prog w = (zqa0 Tryz.prog 44 g 32 w (zqd w g)).andThen fun v w' => .ok (.value v) w' := by
 rw [zq6, zqbh Tryz.underlying44 rfl zqb g w]
@[go_sem] theorem zred (g : Nat) (w : World) (cs : Array Value) (t' : TypeId) (fr : Nat × Nat) (h : cs.size = 32) : zqa0 Tryz.prog 44 g 32 w (some (.cells cs t' fr)) = .ok (.agg cs) w := zqat cs t' fr h
@[go_sem ↓ high] theorem zrlt (ρ : Operand -> Value) (d : Option Tmp) (x y : Operand) (t : TypeId) (pos : String) (af : Array Edge) (g : Option (Nat × Bool)) :
  execOp ρ ⟨d, .store 44 x y, t, pos, af, g⟩ = zqv 44 (ρ x) (ρ y) := zqav _ ρ d x y t pos af g
@[go_sem high] theorem zrhm (ρ : Operand -> Value) (d : Option Tmp) (x y : Operand) (t : TypeId) (pos : String) (af : Array Edge) (g : Option (Nat × Bool)) :
  execOp ρ ⟨d, .store 44 x y, t, pos, af, g⟩ = zqv 44 (ρ x) (ρ y) := zqav _ ρ d x y t pos af g
@[go_sem] theorem zraw (g : Nat) (cs : Array Value) (w : World) : (zqv 44 (.pointer (some ⟨g, 0, none⟩)) (.agg cs)).run Tryz.prog w = (zqaq Tryz.prog 44 g 32 (.agg cs) w (zqd w g)).andThen fun _ w' => .ok .skip w' := by
 rw [zqae, zqbf zqb g cs w]
@[go_sem] theorem zq96 (g : Nat) (w : World) (old cs : Array Value) (t' : TypeId) (h1 : old.size = 32) (h2 : cs.size = 32) (h3 : zqai cs = true) :
  zqaq Tryz.prog 44 g 32 (.agg cs) w (some (.cells old t' (0, 0))) = .ok () (w.setRow g cs) := zqas old cs t' h1 h2 h3
@[go_sem high] theorem zrj2 (w : World) : (zeroValue 44).run Tryz.prog w = .ok (.agg (ints .u8 32 zqe)) w := by kernel_rfl
@[go_sem ↓ high] theorem zqbp (w : World) : (zeroValue 44).run Tryz.prog w = .ok (.agg (ints .u8 32 zqe)) w := by kernel_rfl
@[go_sem high] theorem zro6 (f g : Nat -> Int) (w : World) : (binOp .eql 44 (.agg (ints .u8 32 f)) (.agg (ints .u8 32 g))).run Tryz.prog w = .ok (.bool (same 32 f g)) w :=
 zqcn w .u8 f g Tryz.underlying44 Tryz.underlying5 (i := (Tryz.prog.info? 5).get zqb) zqb zqb
@[go_sem high] theorem zrpl (f g : Nat -> Int) (w : World) : (binOp .neq 44 (.agg (ints .u8 32 f)) (.agg (ints .u8 32 g))).run Tryz.prog w = .ok (.bool (!same 32 f g)) w :=
 zqcl w .u8 f g Tryz.underlying44 Tryz.underlying5 (i := (Tryz.prog.info? 5).get zqb) zqb zqb
@[go_sem] theorem zrli (k' : IntKind) (f : Nat -> Int) (j : Int) (w : World) (h0 : 0 <= j) (h1 : j < 32) : (Instr.index 44 (.agg (ints .u8 32 f)) (.int k' j)).run Tryz.prog w = .ok (.int .u8 (f j.toNat)) w :=
 zqby w .u8 k' f j Tryz.underlying44 Tryz.underlying5 (i := (Tryz.prog.info? 5).get zqb) zqb zqb h0 h1
@[go_sem ↓ high] theorem zrat (ty : TypeId) (cs : Array Bool) (args : Array Value) : builtin .append #[144, 144] ty cs args = zqw #[144, 144] ty args := by unfold zqw; rfl
@[go_sem] theorem zq4i (ty : TypeId) (b n cap b2 m c : Nat) (w : World) : (zqw #[144, 144] ty #[.slice (some ⟨b, 0, none⟩) n cap, .slice (some ⟨b2, 0, none⟩) m c]).run Tryz.prog w =
  zqh5 Tryz.prog #[144, 144] ty b n cap b2 m c w (zqd w b) (zqd w b2) := zq1o Tryz.underlying144 (ie := (Tryz.prog.info? 5).get zqb) zqb zqb ty b n cap b2 m c w
attribute [go_sem] zqr6
theorem zqs {W w1 : World} {n : Nat} {v : Option Obj} (e : W = w1) (h : zqd W n = v := by exact zqh) : zqd w1 n = v := e ▸ h
theorem zqak {a W w1 : World} (e : W = w1) (h : Below a.heap.size a W := by exact zqf) : Below a.heap.size a w1 := e ▸ h
end Go.Proofs.YtnjghcnhcbobhaaGreatDoor
namespace Go.Proofs.YtnjghcnhcbobhaaGreatDoor
open Go.RowKit
@[go_sem ↓ high] theorem zrjc (ρ : Operand -> Value) (d : Option Tmp) (x : Operand) (t : TypeId) (pos : String) (af : Array Edge) (g : Option (Nat × Bool)) :
  execOp ρ ⟨d, .load 291 x, t, pos, af, g⟩ = zqp 291 (ρ x) := zqa4 _ ρ d x t pos af g
@[go_sem high] theorem zrhq (ρ : Operand -> Value) (d : Option Tmp) (x : Operand) (t : TypeId) (pos : String) (af : Array Edge) (g : Option (Nat × Bool)) :
  execOp ρ ⟨d, .load 291 x, t, pos, af, g⟩ = zqp 291 (ρ x) := zqa4 _ ρ d x t pos af g
@[go_sem] theorem zrbs (g : Nat) (w : World) : (zqp 291 (.pointer (some ⟨g, 0, none⟩))).run Tryz.prog w = (zqa0 Tryz.prog 291 g 5 w (zqd w g)).andThen fun v w' => .ok (.value v) w' := by
 rw [zq6, zqbh Tryz.underlying291 rfl zqb g w]
@[go_sem] theorem zrae (g : Nat) (w : World) (cs : Array Value) (t' : TypeId) (fr : Nat × Nat) (h : cs.size = 5) : zqa0 Tryz.prog 291 g 5 w (some (.cells cs t' fr)) = .ok (.agg cs) w := zqat cs t' fr h
@[go_sem ↓ high] theorem zrhr (ρ : Operand -> Value) (d : Option Tmp) (x y : Operand) (t : TypeId) (pos : String) (af : Array Edge) (g : Option (Nat × Bool)) :
  execOp ρ ⟨d, .store 291 x y, t, pos, af, g⟩ = zqv 291 (ρ x) (ρ y) := zqav _ ρ d x y t pos af g
@[go_sem high] theorem zrcr (ρ : Operand -> Value) (d : Option Tmp) (x y : Operand) (t : TypeId) (pos : String) (af : Array Edge) (g : Option (Nat × Bool)) :
  execOp ρ ⟨d, .store 291 x y, t, pos, af, g⟩ = zqv 291 (ρ x) (ρ y) := zqav _ ρ d x y t pos af g
@[go_sem] theorem zq84 (g : Nat) (cs : Array Value) (w : World) : (zqv 291 (.pointer (some ⟨g, 0, none⟩)) (.agg cs)).run Tryz.prog w = (zqaq Tryz.prog 291 g 5 (.agg cs) w (zqd w g)).andThen fun _ w' => .ok .skip w' := by
 rw [zqae, zqbf zqb g cs w]
@[go_sem] theorem zq7t (g : Nat) (w : World) (old cs : Array Value) (t' : TypeId) (h1 : old.size = 5) (h2 : cs.size = 5) (h3 : zqai cs = true) :
  zqaq Tryz.prog 291 g 5 (.agg cs) w (some (.cells old t' (0, 0))) = .ok () (w.setRow g cs) := zqas old cs t' h1 h2 h3
@[go_sem high] theorem zrh2 (w : World) : (zeroValue 291).run Tryz.prog w = .ok (.agg (ints .u64 5 zqe)) w := by kernel_rfl
@[go_sem ↓ high] theorem zqa7 (w : World) : (zeroValue 291).run Tryz.prog w = .ok (.agg (ints .u64 5 zqe)) w := by kernel_rfl
@[go_sem high] theorem zrno (f g : Nat -> Int) (w : World) : (binOp .eql 291 (.agg (ints .u64 5 f)) (.agg (ints .u64 5 g))).run Tryz.prog w = .ok (.bool (same 5 f g)) w :=
 zqcn w .u64 f g Tryz.underlying291 Tryz.underlying101 (i := (Tryz.prog.info? 101).get zqb) zqb zqb
@[go_sem high] theorem zrng (f g : Nat -> Int) (w : World) : (binOp .neq 291 (.agg (ints .u64 5 f)) (.agg (ints .u64 5 g))).run Tryz.prog w = .ok (.bool (!same 5 f g)) w :=
 zqcl w .u64 f g Tryz.underlying291 Tryz.underlying101 (i := (Tryz.prog.info? 101).get zqb) zqb zqb
@[go_sem] theorem zrgo (k' : IntKind) (f : Nat -> Int) (j : Int) (w : World) (h0 : 0 <= j) (h1 : j < 5) : (Instr.index 291 (.agg (ints .u64 5 f)) (.int k' j)).run Tryz.prog w = .ok (.int .u64 (f j.toNat)) w :=
 zqby w .u64 k' f j Tryz.underlying291 Tryz.underlying101 (i := (Tryz.prog.info? 101).get zqb) zqb zqb h0 h1
@[go_sem ↓ high] theorem zrha (ρ : Operand -> Value) (d : Option Tmp) (x : Operand) (t : TypeId) (pos : String) (af : Array Edge) (g : Option (Nat × Bool)) :
  execOp ρ ⟨d, .load 304 x, t, pos, af, g⟩ = zqp 304 (ρ x) := zqa4 _ ρ d x t pos af g
@[go_sem high] theorem zre4 (ρ : Operand -> Value) (d : Option Tmp) (x : Operand) (t : TypeId) (pos : String) (af : Array Edge) (g : Option (Nat × Bool)) :
  execOp ρ ⟨d, .load 304 x, t, pos, af, g⟩ = zqp 304 (ρ x) := zqa4 _ ρ d x t pos af g
@[go_sem] theorem zq63 (g : Nat) (w : World) : (zqp 304 (.pointer (some ⟨g, 0, none⟩))).run Tryz.prog w = (zqa0 Tryz.prog 304 g 4 w (zqd w g)).andThen fun v w' => .ok (.value v) w' := by
 rw [zq6, zqbh Tryz.underlying304 rfl zqb g w]
@[go_sem] theorem zq7v (g : Nat) (w : World) (cs : Array Value) (t' : TypeId) (fr : Nat × Nat) (h : cs.size = 4) : zqa0 Tryz.prog 304 g 4 w (some (.cells cs t' fr)) = .ok (.agg cs) w := zqat cs t' fr h
@[go_sem ↓ high] theorem zrfp (ρ : Operand -> Value) (d : Option Tmp) (x y : Operand) (t : TypeId) (pos : String) (af : Array Edge) (g : Option (Nat × Bool)) :
  execOp ρ ⟨d, .store 304 x y, t, pos, af, g⟩ = zqv 304 (ρ x) (ρ y) := zqav _ ρ d x y t pos af g
@[go_sem high] theorem zrbq (ρ : Operand -> Value) (d : Option Tmp) (x y : Operand) (t : TypeId) (pos : String) (af : Array Edge) (g : Option (Nat × Bool)) :
  execOp ρ ⟨d, .store 304 x y, t, pos, af, g⟩ = zqv 304 (ρ x) (ρ y) := zqav _ ρ d x y t pos af g
@[go_sem] theorem zq5o (g : Nat) (cs : Array Value) (w : World) : (zqv 304 (.pointer (some ⟨g, 0, none⟩)) (.agg cs)).run Tryz.prog w = (zqaq Tryz.prog 304 g 4 (.agg cs) w (zqd w g)).andThen fun _ w' => .ok .skip w' := by
 rw [zqae, zqbf zqb g cs w]
@[go_sem] theorem zq47 (g : Nat) (w : World) (old cs : Array Value) (t' : TypeId) (h1 : old.size = 4) (h2 : cs.size = 4) (h3 : zqai cs = true) :
  zqaq Tryz.prog 304 g 4 (.agg cs) w (some (.cells old t' (0, 0))) = .ok () (w.setRow g cs) := zqas old cs t' h1 h2 h3
@[go_sem high] theorem zrcs (w : World) : (zeroValue 304).run Tryz.prog w = .ok (.agg (ints .u64 4 zqe)) w := by kernel_rfl
@[go_sem ↓ high] theorem zrgh (w : World) : (zeroValue 304).run Tryz.prog w = .ok (.agg (ints .u64 4 zqe)) w := by kernel_rfl
@[go_sem high] theorem zrjq (f g : Nat -> Int) (w : World) : (binOp .eql 304 (.agg (ints .u64 4 f)) (.agg (ints .u64 4 g))).run Tryz.prog w = .ok (.bool (same 4 f g)) w :=
 zqcn w .u64 f g Tryz.underlying304 Tryz.underlying101 (i := (Tryz.prog.info? 101).get zqb) zqb zqb
@[go_sem high] theorem zrls (f g : Nat -> Int) (w : World) : (binOp .neq 304 (.agg (ints .u64 4 f)) (.agg (ints .u64 4 g))).run Tryz.prog w = .ok (.bool (!same 4 f g)) w :=
 zqcl w .u64 f g Tryz.underlying304 Tryz.underlying101 (i := (Tryz.prog.info? 101).get zqb) zqb zqb
@[go_sem] theorem zrft (k' : IntKind) (f : Nat -> Int) (j : Int) (w : World) (h0 : 0 <= j) (h1 : j < 4) : (Instr.index 304 (.agg (ints .u64 4 f)) (.int k' j)).run Tryz.prog w = .ok (.int .u64 (f j.toNat)) w :=
 zqby w .u64 k' f j Tryz.underlying304 Tryz.underlying101 (i := (Tryz.prog.info? 101).get zqb) zqb zqb h0 h1
end Go.Proofs.YtnjghcnhcbobhaaGreatDoor
namespace Go.Proofs.YtnjghcnhcbobhaaGreatDoor
open Go.RowKit
@[go_sem ↓ high] theorem zrgr (ρ : Operand -> Value) (d : Option Tmp) (x : Operand) (t : TypeId) (pos : String) (af : Array Edge) (g : Option (Nat × Bool)) :
  execOp ρ ⟨d, .load 43 x, t, pos, af, g⟩ = zqp 43 (ρ x) := zqa4 _ ρ d x t pos af g
@[go_sem high] theorem zre7 (ρ : Operand -> Value) (d : Option Tmp) (x : Operand) (t : TypeId) (pos : String) (af : Array Edge) (g : Option (Nat × Bool)) :
  execOp ρ ⟨d, .load 43 x, t, pos, af, g⟩ = zqp 43 (ρ x) := zqa4 _ ρ d x t pos af g
@[go_sem] theorem zq8i (g : Nat) (w : World) : (zqp 43 (.pointer (some ⟨g, 0, none⟩))).run Tryz.prog w = (zqa0 Tryz.prog 43 g 32 w (zqd w g)).andThen fun v w' => .ok (.value v) w' := by
 rw [zq6, zqbh Tryz.underlying43 rfl zqb g w]
@[go_sem] theorem zq8p (g : Nat) (w : World) (cs : Array Value) (t' : TypeId) (fr : Nat × Nat) (h : cs.size = 32) : zqa0 Tryz.prog 43 g 32 w (some (.cells cs t' fr)) = .ok (.agg cs) w := zqat cs t' fr h
@[go_sem ↓ high] theorem zrdw (ρ : Operand -> Value) (d : Option Tmp) (x y : Operand) (t : TypeId) (pos : String) (af : Array Edge) (g : Option (Nat × Bool)) :
  execOp ρ ⟨d, .store 43 x y, t, pos, af, g⟩ = zqv 43 (ρ x) (ρ y) := zqav _ ρ d x y t pos af g
@[go_sem high] theorem zrbr (ρ : Operand -> Value) (d : Option Tmp) (x y : Operand) (t : TypeId) (pos : String) (af : Array Edge) (g : Option (Nat × Bool)) :
  execOp ρ ⟨d, .store 43 x y, t, pos, af, g⟩ = zqv 43 (ρ x) (ρ y) := zqav _ ρ d x y t pos af g
@[go_sem] theorem zq48 (g : Nat) (cs : Array Value) (w : World) : (zqv 43 (.pointer (some ⟨g, 0, none⟩)) (.agg cs)).run Tryz.prog w = (zqaq Tryz.prog 43 g 32 (.agg cs) w (zqd w g)).andThen fun _ w' => .ok .skip w' := by
 rw [zqae, zqbf zqb g cs w]
@[go_sem] theorem zq5a (g : Nat) (w : World) (old cs : Array Value) (t' : TypeId) (h1 : old.size = 32) (h2 : cs.size = 32) (h3 : zqai cs = true) :
  zqaq Tryz.prog 43 g 32 (.agg cs) w (some (.cells old t' (0, 0))) = .ok () (w.setRow g cs) := zqas old cs t' h1 h2 h3
@[go_sem high] theorem zrf1 (w : World) : (zeroValue 43).run Tryz.prog w = .ok (.agg (ints .u8 32 zqe)) w := by kernel_rfl
@[go_sem ↓ high] theorem zrhp (w : World) : (zeroValue 43).run Tryz.prog w = .ok (.agg (ints .u8 32 zqe)) w := by kernel_rfl
@[go_sem high] theorem zrlv (f g : Nat -> Int) (w : World) : (binOp .eql 43 (.agg (ints .u8 32 f)) (.agg (ints .u8 32 g))).run Tryz.prog w = .ok (.bool (same 32 f g)) w :=
 zqcn w .u8 f g Tryz.underlying43 Tryz.underlying5 (i := (Tryz.prog.info? 5).get zqb) zqb zqb
@[go_sem high] theorem zrie (f g : Nat -> Int) (w : World) : (binOp .neq 43 (.agg (ints .u8 32 f)) (.agg (ints .u8 32 g))).run Tryz.prog w = .ok (.bool (!same 32 f g)) w :=
 zqcl w .u8 f g Tryz.underlying43 Tryz.underlying5 (i := (Tryz.prog.info? 5).get zqb) zqb zqb
@[go_sem] theorem zrdc (k' : IntKind) (f : Nat -> Int) (j : Int) (w : World) (h0 : 0 <= j) (h1 : j < 32) : (Instr.index 43 (.agg (ints .u8 32 f)) (.int k' j)).run Tryz.prog w = .ok (.int .u8 (f j.toNat)) w :=
 zqby w .u8 k' f j Tryz.underlying43 Tryz.underlying5 (i := (Tryz.prog.info? 5).get zqb) zqb zqb h0 h1
@[go_sem ↓ high] theorem zrj1 (ρ : Operand -> Value) (d : Option Tmp) (x : Operand) (t : TypeId) (pos : String) (af : Array Edge) (g : Option (Nat × Bool)) :
  execOp ρ ⟨d, .load 290 x, t, pos, af, g⟩ = zqp 290 (ρ x) := zqa4 _ ρ d x t pos af g
@[go_sem high] theorem zrgm (ρ : Operand -> Value) (d : Option Tmp) (x : Operand) (t : TypeId) (pos : String) (af : Array Edge) (g : Option (Nat × Bool)) :
  execOp ρ ⟨d, .load 290 x, t, pos, af, g⟩ = zqp 290 (ρ x) := zqa4 _ ρ d x t pos af g
@[go_sem] theorem zrad (g : Nat) (w : World) : (zqp 290 (.pointer (some ⟨g, 0, none⟩))).run Tryz.prog w = (zqa0 Tryz.prog 290 g 5 w (zqd w g)).andThen fun v w' => .ok (.value v) w' := by
 rw [zq6, zqbh Tryz.underlying290 rfl zqb g w]
@[go_sem] theorem zrbu (g : Nat) (w : World) (cs : Array Value) (t' : TypeId) (fr : Nat × Nat) (h : cs.size = 5) : zqa0 Tryz.prog 290 g 5 w (some (.cells cs t' fr)) = .ok (.agg cs) w := zqat cs t' fr h
@[go_sem ↓ high] theorem zrgq (ρ : Operand -> Value) (d : Option Tmp) (x y : Operand) (t : TypeId) (pos : String) (af : Array Edge) (g : Option (Nat × Bool)) :
  execOp ρ ⟨d, .store 290 x y, t, pos, af, g⟩ = zqv 290 (ρ x) (ρ y) := zqav _ ρ d x y t pos af g
@[go_sem high] theorem zrdr (ρ : Operand -> Value) (d : Option Tmp) (x y : Operand) (t : TypeId) (pos : String) (af : Array Edge) (g : Option (Nat × Bool)) :
  execOp ρ ⟨d, .store 290 x y, t, pos, af, g⟩ = zqv 290 (ρ x) (ρ y) := zqav _ ρ d x y t pos af g
@[go_sem] theorem zq7m (g : Nat) (cs : Array Value) (w : World) : (zqv 290 (.pointer (some ⟨g, 0, none⟩)) (.agg cs)).run Tryz.prog w = (zqaq Tryz.prog 290 g 5 (.agg cs) w (zqd w g)).andThen fun _ w' => .ok .skip w' := by
 rw [zqae, zqbf zqb g cs w]
@[go_sem] theorem zq5z (g : Nat) (w : World) (old cs : Array Value) (t' : TypeId) (h1 : old.size = 5) (h2 : cs.size = 5) (h3 : zqai cs = true) :
  zqaq Tryz.prog 290 g 5 (.agg cs) w (some (.cells old t' (0, 0))) = .ok () (w.setRow g cs) := zqas old cs t' h1 h2 h3
@[go_sem high] theorem zrhw (w : World) : (zeroValue 290).run Tryz.prog w = .ok (.agg (ints .u64 5 zqe)) w := by kernel_rfl
@[go_sem ↓ high] theorem zri6 (w : World) : (zeroValue 290).run Tryz.prog w = .ok (.agg (ints .u64 5 zqe)) w := by kernel_rfl
@[go_sem high] theorem zrm9 (f g : Nat -> Int) (w : World) : (binOp .eql 290 (.agg (ints .u64 5 f)) (.agg (ints .u64 5 g))).run Tryz.prog w = .ok (.bool (same 5 f g)) w :=
 zqcn w .u64 f g Tryz.underlying290 Tryz.underlying101 (i := (Tryz.prog.info? 101).get zqb) zqb zqb
@[go_sem high] theorem zrnw (f g : Nat -> Int) (w : World) : (binOp .neq 290 (.agg (ints .u64 5 f)) (.agg (ints .u64 5 g))).run Tryz.prog w = .ok (.bool (!same 5 f g)) w :=
 zqcl w .u64 f g Tryz.underlying290 Tryz.underlying101 (i := (Tryz.prog.info? 101).get zqb) zqb zqb
@[go_sem] theorem zrhd (k' : IntKind) (f : Nat -> Int) (j : Int) (w : World) (h0 : 0 <= j) (h1 : j < 5) : (Instr.index 290 (.agg (ints .u64 5 f)) (.int k' j)).run Tryz.prog w = .ok (.int .u64 (f j.toNat)) w :=
 zqby w .u64 k' f j Tryz.underlying290 Tryz.underlying101 (i := (Tryz.prog.info? 101).get zqb) zqb zqb h0 h1
end Go.Proofs.YtnjghcnhcbobhaaGreatDoor
namespace Go.Proofs.YtnjghcnhcbobhaaGreatDoor
open Go.RowKit
def zq0 (x z : Nat -> Int) : Nat -> Int := fun i => if i < 5 then x i else z (i - 5)
@[go_sem ↓ high] theorem zrlh (ρ : Operand -> Value) (d : Option Tmp) (x : Operand) (t : TypeId) (pos : String) (af : Array Edge) (g : Option (Nat × Bool)) :
  execOp ρ ⟨d, .load 297 x, t, pos, af, g⟩ = zqp 297 (ρ x) := zqa4 _ ρ d x t pos af g
@[go_sem high] theorem zrh5 (ρ : Operand -> Value) (d : Option Tmp) (x : Operand) (t : TypeId) (pos : String) (af : Array Edge) (g : Option (Nat × Bool)) :
  execOp ρ ⟨d, .load 297 x, t, pos, af, g⟩ = zqp 297 (ρ x) := zqa4 _ ρ d x t pos af g
@[go_sem] theorem zra5 (g : Nat) (w : World) : (zqp 297 (.pointer (some ⟨g, 0, none⟩))).run Tryz.prog w = (zqa0 Tryz.prog 297 g 10 w (zqd w g)).andThen fun v w' => .ok (.value v) w' := by
 rw [zq6, zqbh Tryz.underlying297 rfl zqb g w]
@[go_sem] theorem zraf (g : Nat) (w : World) (cs : Array Value) (t' : TypeId) (fr : Nat × Nat) (h : cs.size = 10) : zqa0 Tryz.prog 297 g 10 w (some (.cells cs t' fr)) = .ok (.agg cs) w := zqat cs t' fr h
@[go_sem ↓ high] theorem zrg7 (ρ : Operand -> Value) (d : Option Tmp) (x y : Operand) (t : TypeId) (pos : String) (af : Array Edge) (g : Option (Nat × Bool)) :
  execOp ρ ⟨d, .store 297 x y, t, pos, af, g⟩ = zqv 297 (ρ x) (ρ y) := zqav _ ρ d x y t pos af g
@[go_sem high] theorem zrcb (ρ : Operand -> Value) (d : Option Tmp) (x y : Operand) (t : TypeId) (pos : String) (af : Array Edge) (g : Option (Nat × Bool)) :
  execOp ρ ⟨d, .store 297 x y, t, pos, af, g⟩ = zqv 297 (ρ x) (ρ y) := zqav _ ρ d x y t pos af g
@[go_sem] theorem zq8s (g : Nat) (cs : Array Value) (w : World) : (zqv 297 (.pointer (some ⟨g, 0, none⟩)) (.agg cs)).run Tryz.prog w = (zqaq Tryz.prog 297 g 10 (.agg cs) w (zqd w g)).andThen fun _ w' => .ok .skip w' := by
 rw [zqae, zqbf zqb g cs w]
@[go_sem] theorem zq8q (g : Nat) (w : World) (old cs : Array Value) (t' : TypeId) (h1 : old.size = 10) (h2 : cs.size = 10) (h3 : zqai cs = true) :
  zqaq Tryz.prog 297 g 10 (.agg cs) w (some (.cells old t' (0, 0))) = .ok () (w.setRow g cs) := zqas old cs t' h1 h2 h3
@[go_sem high] theorem zrgx (w : World) : (zeroValue 297).run Tryz.prog w = .ok (.agg (ints .u64 10 (zq0 zqe zqe))) w := by kernel_rfl
@[go_sem ↓ high] theorem zqbc (w : World) : (zeroValue 297).run Tryz.prog w = .ok (.agg (ints .u64 10 (zq0 zqe zqe))) w := by kernel_rfl
theorem zq3u (x z : Nat -> Int) : (ints .u64 10 (zq0 x z)).extract 0 5 = ints .u64 5 x := by kernel_rfl
theorem zq44 (x z : Nat -> Int) : (ints .u64 10 (zq0 x z)).extract 5 (5 + 5) = ints .u64 5 z := by kernel_rfl
theorem zrn9 (x z a : Nat -> Int) : zqb4 (ints .u64 10 (zq0 x z)) 0 (ints .u64 5 a).toList = ints .u64 10 (zq0 a z) := by kernel_rfl
theorem zrn6 (x z a : Nat -> Int) : zqb4 (ints .u64 10 (zq0 x z)) 5 (ints .u64 5 a).toList = ints .u64 10 (zq0 x a) := by kernel_rfl
@[go_sem] theorem zrhx (g : Nat) (w : World) (x z : Nat -> Int) (t' : TypeId) (fr : Nat × Nat) : zqa0 Tryz.prog 291 g 5 w (some (.cells (ints .u64 10 (zq0 x z)) t' fr)) = .ok (.agg (ints .u64 5 x)) w := by
 unfold zqa0
 simp only [zqj]
 rw [if_neg (by decide), if_pos (by decide), zq3u]
@[go_sem] theorem zrc9 (g : Nat) (w : World) (x z a : Nat -> Int) (t' : TypeId) : zqaq Tryz.prog 291 g 5 (.agg (ints .u64 5 a)) w (some (.cells (ints .u64 10 (zq0 x z)) t' (0, 0))) = .ok () (w.setRow g (ints .u64 10 (zq0 a z))) := by
 unfold zqaq
 simp only [zqj]
 rw [if_neg (fun h => absurd h.1 (by decide)), if_pos ⟨by decide, by trivial, zqdn _ _ _⟩, zrn9]
@[go_sem] theorem zq7a (g : Nat) (w : World) : (zqp 291 (.pointer (some ⟨g, 5, none⟩))).run Tryz.prog w = (zqao Tryz.prog 291 g 5 5 w (zqd w g)).andThen fun v w' => .ok (.value v) w' := by
 rw [zq6, zqca Tryz.underlying291 rfl zqb g 5 w]
@[go_sem] theorem zrh8 (g : Nat) (w : World) (x z : Nat -> Int) (t' : TypeId) (fr : Nat × Nat) : zqao Tryz.prog 291 g 5 5 w (some (.cells (ints .u64 10 (zq0 x z)) t' fr)) = .ok (.agg (ints .u64 5 z)) w := by
 unfold zqao
 simp only [zqj]
 rw [if_pos (by decide), zq44]
@[go_sem] theorem zq5n (g : Nat) (cs : Array Value) (w : World) : (zqv 291 (.pointer (some ⟨g, 5, none⟩)) (.agg cs)).run Tryz.prog w = (zqb0 Tryz.prog 291 g 5 5 (.agg cs) w (zqd w g)).andThen fun _ w' => .ok .skip w' := by
 rw [zqae, zqd3 zqb g 5 cs w]
@[go_sem] theorem zrew (g : Nat) (w : World) (x z a : Nat -> Int) (t' : TypeId) : zqb0 Tryz.prog 291 g 5 5 (.agg (ints .u64 5 a)) w (some (.cells (ints .u64 10 (zq0 x z)) t' (0, 0))) = .ok () (w.setRow g (ints .u64 10 (zq0 x a))) := by
 unfold zqb0
 simp only [zqj]
 rw [if_pos ⟨by decide, by trivial, zqdn _ _ _⟩, zrn6]
@[go_sem] theorem zrdp (x z : Nat -> Int) (w : World) : (Instr.field 297 (.agg (ints .u64 10 (zq0 x z))) 0).run Tryz.prog w = .ok (.agg (ints .u64 5 x)) w := by kernel_rfl
@[go_sem] theorem zrfr (x z : Nat -> Int) (w : World) : (Instr.field 297 (.agg (ints .u64 10 (zq0 x z))) 1).run Tryz.prog w = .ok (.agg (ints .u64 5 z)) w := by kernel_rfl
def zqhs (x z : Value) : Sem Next := do pure (.value (<- Instr.build 297 #[(0, x), (1, z)]))
def zqjx (x : Value) : Sem Next := do pure (.value (<- Instr.build 297 #[(0, x)]))
@[go_sem ↓ high] theorem zror (ρ : Operand -> Value) (d : Option Tmp) (x y : Operand) (t : TypeId) (pos : String) (af : Array Edge) (g : Option (Nat × Bool)) :
  execOp ρ ⟨d, .build 297 #[(0, x), (1, y)], t, pos, af, g⟩ = zqhs (ρ x) (ρ y) := by simp [execOp, zqhs]
@[go_sem high] theorem zrmc (ρ : Operand -> Value) (d : Option Tmp) (x y : Operand) (t : TypeId) (pos : String) (af : Array Edge) (g : Option (Nat × Bool)) :
  execOp ρ ⟨d, .build 297 #[(0, x), (1, y)], t, pos, af, g⟩ = zqhs (ρ x) (ρ y) := by simp [execOp, zqhs]
@[go_sem ↓ high] theorem zrmq (ρ : Operand -> Value) (d : Option Tmp) (x : Operand) (t : TypeId) (pos : String) (af : Array Edge) (g : Option (Nat × Bool)) :
  execOp ρ ⟨d, .build 297 #[(0, x)], t, pos, af, g⟩ = zqjx (ρ x) := by simp [execOp, zqjx]
@[go_sem high] theorem zrl0 (ρ : Operand -> Value) (d : Option Tmp) (x : Operand) (t : TypeId) (pos : String) (af : Array Edge) (g : Option (Nat × Bool)) :
  execOp ρ ⟨d, .build 297 #[(0, x)], t, pos, af, g⟩ = zqjx (ρ x) := by simp [execOp, zqjx]
@[go_sem] theorem zrnb (x z : Nat -> Int) (w : World) : (zqhs (.agg (ints .u64 5 x)) (.agg (ints .u64 5 z))).run Tryz.prog w = .ok (.value (.agg (ints .u64 10 (zq0 x z)))) w := by kernel_rfl
@[go_sem] theorem zrjv (x : Nat -> Int) (w : World) : (zqjx (.agg (ints .u64 5 x))).run Tryz.prog w = .ok (.value (.agg (ints .u64 10 (zq0 x zqe)))) w := by kernel_rfl
attribute [irreducible] zqhs zqjx
end Go.Proofs.YtnjghcnhcbobhaaGreatDoor
