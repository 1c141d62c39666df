/- Mem -/
import Derived.Test.YtpefpiobcpdeoaaGreatDoorProg
import Derived.Test.YtpefpiobcpdeoaaGreatDoorBase
import Derived.Deep.MidRow
set_option linter.unusedVariables false
set_option linter.unusedSimpArgs false
namespace Go.Proofs.YtpefpiobcpdeoaaGreatDoor
open Go.RowKit
theorem zq2 {P : Program} {id : Nat} {Q : Exit -> Act -> World -> Prop} {a : Act} {w : World} {l : List Oper} (hm : P.follows .mixedOrders = true) (hB : Region.lexB .any l.toArray = true)
  (h : wpQuiet P l.toArray (fun w' => ∃ m, w' = more w m) (fun a' => ∀ w', (∃ m, w' = more w m) -> Q .normal a' w') l a) : (Code.region id l.toArray true).wp P Q a w :=
 wp_region_quiet (C := fun w' => ∃ m, w' = more w m) hm hB ⟨⟨w.drawn + 1, #[]⟩, by simp [more]⟩ (by simpa using h)
theorem zq7 {P : Program} {id : Nat} {Q : Exit -> Act -> World -> Prop} {a : Act} {w : World} {m0 : More} {l : List Oper} (hm : P.follows .mixedOrders = true) (hB : Region.lexB .any l.toArray = true)
  (h : wpQuiet P l.toArray (fun w' => ∃ m, w' = more w m) (fun a' => ∀ w', (∃ m, w' = more w m) -> Q .normal a' w') l a) : (Code.region id l.toArray true).wp P Q a (more w m0) :=
 wp_region_quiet (C := fun w' => ∃ m, w' = more w m) hm hB ⟨⟨m0.d + 1, m0.os⟩, rfl⟩ (by simpa using h)
def loadRow (P : Program) (t : TypeId) (v : Value) (w : World) : Result Value := (Instr.loadAt t v).run P w
def zqau (P : Program) (t : TypeId) (g n : Nat) (w : World) : Option Obj -> Result Value
 | some (.cells cs _ _) => if cs.size = n then .ok (.agg cs) w else if n <= cs.size then .ok (.agg (cs.extract 0 n)) w else (Instr.loadAt t (.pointer (some ⟨g, 0, none⟩))).run P w
 | _ => (Instr.loadAt t (.pointer (some ⟨g, 0, none⟩))).run P w
theorem zqqe {P : Program} {t : TypeId} {n : Nat} {d : TypeDesc} (hu : P.underlying t = some d) (hd : (match d with | .struct _ | .array _ _ => true | _ => false) = true) (hi : (P.info? t).map (·.size) = some n) (g o : Nat) (w : World) (cs : Array Value) (t' : TypeId) (fr : Nat × Nat) (hg : w.heap[g]? = some (.cells cs t' fr)) (hn : o + n <= cs.size) :
  (Instr.loadAt t (.pointer (some ⟨g, o, none⟩))).run P w = .ok (.agg (cs.extract o (o + n))) w := by
 have h := run_loadAt_mid (P := P) w g o t (cs.extract o (o + n)).toList d (World.rangeAt_of_block hg o n) hu (by cases d <;> simp_all [TypeDesc.isRow]) (by rw [hi]; simp; omega);rw [h]
theorem zqa4 {P : Program} {t : TypeId} {n : Nat} {d : TypeDesc} (hu : P.underlying t = some d) (hd : (match d with | .struct _ | .array _ _ => true | _ => false) = true) (hi : (P.info? t).map (·.size) = some n) (g : Nat) (w : World) :
  loadRow P t (.pointer (some ⟨g, 0, none⟩)) w = zqau P t g n w (zqe w g) := by
 show _ = zqau P t g n w w.heap[g]?
 cases hg : w.heap[g]? with
 | none => rfl
 | some o =>
  cases o with
  | cells cs t' fr =>
   simp only [zqau]
   by_cases hc : cs.size = n
   ·rw [if_pos hc]
    subst hc;exact run_loadVar_row w g t' t cs fr d hg hu hd hi
   ·rw [if_neg hc]
    by_cases hl : n <= cs.size
    ·rw [if_pos hl]
     have h := zqqe hu hd hi g 0 w cs t' fr hg (by omega);rw [Nat.zero_add] at h;exact h
    ·rw [if_neg hl]; rfl
  | _ => rfl
theorem zqan {P : Program} {t : TypeId} {g n : Nat} {w : World} (cs : Array Value) (t' : TypeId) (fr : Nat × Nat) (h : cs.size = n) : zqau P t g n w (some (.cells cs t' fr)) = .ok (.agg cs) w := by
 simp [zqau, h]
def zqq (ty : TypeId) (v : Value) : Sem Next := do pure (.value (<- Instr.loadAt ty v))
def zqu (ty : TypeId) (v x : Value) : Sem Next := do Instr.storeAt ty v x; pure .skip
theorem zq6 {P : Program} (ty : TypeId) (v : Value) (w : World) : (zqq ty v).run P w = (loadRow P ty v w).andThen fun v w' => .ok (.value v) w' := by
 simp [zqq, loadRow, Sem.run_bind]
def zqib (P : Program) (t : TypeId) (a v : Value) (w : World) : Result Unit := (Instr.storeAt t a v).run P w
theorem zq9 {P : Program} (ty : TypeId) (v x : Value) (w : World) : (zqu ty v x).run P w = (zqib P ty v x w).andThen fun _ w' => .ok .skip w' := by
 simp [zqu, zqib, Sem.run_bind]
theorem zqax (ty : TypeId) (ρ : Operand -> Value) (d : Option Tmp) (x : Operand) (t : TypeId) (pos : String) (af : Array Edge) (g : Option (Nat × Bool)) : execOp ρ ⟨d, .load ty x, t, pos, af, g⟩ = zqq ty (ρ x) := rfl
theorem zqas (ty : TypeId) (ρ : Operand -> Value) (d : Option Tmp) (x y : Operand) (t : TypeId) (pos : String) (af : Array Edge) (g : Option (Nat × Bool)) : execOp ρ ⟨d, .store ty x y, t, pos, af, g⟩ = zqu ty (ρ x) (ρ y) := rfl
def zqal (cs : Array Value) : Bool := cs.all (·.oneCell')
def zqao (P : Program) (t : TypeId) (g n : Nat) (v : Value) (w : World) : Option Obj -> Result Unit
 | some (.cells old _ (0, 0)) => match v with
  | .agg cs => if old.size = n /\ cs.size = n /\ zqal cs = true then .ok () (w.setRow g cs) else if n <= old.size /\ cs.size = n /\ zqal cs = true then .ok () (w.setRow g (zqb8 old 0 cs.toList)) else (Instr.storeAt t (.pointer (some ⟨g, 0, none⟩)) v).run P w
  | _ => (Instr.storeAt t (.pointer (some ⟨g, 0, none⟩)) v).run P w
 | _ => (Instr.storeAt t (.pointer (some ⟨g, 0, none⟩)) v).run P w
theorem zqn8 {P : Program} {t : TypeId} {n : Nat} (hi : (P.info? t).map (·.size) = some n) (g o : Nat) (w : World) (old cs : Array Value) (t' : TypeId) (hg : w.heap[g]? = some (.cells old t' (0, 0))) (hc : cs.size = n) (hn : o + n <= old.size) (h1 : zqal cs = true) :
  (Instr.storeAt t (.pointer (some ⟨g, o, none⟩)) (.agg cs)).run P w = .ok () (w.setRow g (zqb8 old o cs.toList)) := by
 have h := run_storeAt_mid (P := P) w g o t cs (fun j hj => ⟨by rw [cell_of_row w g (o + j) _ _ _ hg]; simp; omega, frozen_of_row w g _ _ _ hg⟩) (by rw [hi, hc]) (by unfold zqal at h1; exact h1);rw [h, zqfh g t' _ o old w hg]
theorem zqa6 {P : Program} {t : TypeId} {n : Nat} (hi : (P.info? t).map (·.size) = some n) (g : Nat) (cs : Array Value) (w : World) :
  zqib P t (.pointer (some ⟨g, 0, none⟩)) (.agg cs) w = zqao P t g n (.agg cs) w (zqe w g) := by
 show _ = zqao P t g n (.agg cs) w w.heap[g]?
 unfold zqao
 split
 ·rename_i old t' hg
  split
  ·rename_i cs' e
   cases e
   split
   ·rename_i h
    obtain ⟨h1, h2, h3⟩ := h;exact run_storeVar_row w g t' t old cs hg (by rw [hi, h2]) (by rw [h1, h2]) h3
   ·split
    ·rename_i h
     obtain ⟨h1, h2, h3⟩ := h;exact zqn8 hi g 0 w old cs t' hg h2 (by omega) h3
    ·rfl
  ·rename_i hx
   exact (hx _ rfl).elim
 ·rfl
theorem zqaq {P : Program} {t : TypeId} {g n : Nat} {w : World} (old cs : Array Value) (t' : TypeId) (h1 : old.size = n) (h2 : cs.size = n) (h3 : zqal cs = true) :
  zqao P t g n (.agg cs) w (some (.cells old t' (0, 0))) = .ok () (w.setRow g cs) := by
 simp only [zqao]
 rw [if_pos ⟨h1, h2, h3⟩]
@[go_sem] theorem zrby (k : IntKind) (n : Nat) (f : Nat -> Int) : (ints k n f).size = n := zqi k n f
@[go_sem] theorem ints_at (k : IntKind) (n : Nat) (f : Nat -> Int) (i : Nat) (h : i < (ints k n f).size) : (ints k n f)[i] = .int k (f i) := by simp [ints]
@[go_sem] theorem zrhx (k : IntKind) (n : Nat) (f : Nat -> Int) (h : n ≠ 0) : (ints k n f = #[]) = False := by
 simp only [eq_iff_iff, iff_false]
 intro e;have := zqi k n f;rw [e] at this;exact h this.symm
@[go_sem] theorem zqdg (k : IntKind) (n : Nat) (f : Nat -> Int) : zqal (ints k n f) = true := by
 unfold zqal; rw [Array.all_eq_true]; intro i hi; simp [ints, Value.oneCell']
@[go_sem] theorem zqk2 (w : World) (c c' : Array Value) (t : TypeId) (n : Nat) (hn : n = w.heap.size) : (w.alloc (.cells c t)).setRow n c' = w.alloc (.cells c' t) := by
 subst hn;unfold World.setRow World.alloc
 congr 1
 apply Array.ext_getElem?
 intro k
 simp only [Array.getElem?_modify, Array.getElem?_push]
 by_cases hk : k = w.heap.size
 ·subst hk; simp
 ·have hk' : ¬ w.heap.size = k := fun e => hk e.symm
  simp [hk, hk']
@[go_sem] theorem zqdh (w : World) (o : Obj) (c' : Array Value) (n : Nat) (hn : n < w.heap.size) : (w.alloc o).setRow n c' = (w.setRow n c').alloc o := by
 unfold World.setRow World.alloc
 congr 1
 apply Array.ext_getElem?
 intro k
 simp only [Array.getElem?_modify, Array.getElem?_push, Array.size_modify]
 by_cases hk : k = w.heap.size
 ·subst hk; simp [Nat.ne_of_lt hn]
 ·simp [hk]
@[go_sem] theorem zqjt (w : World) (g : Nat) (cs : Array Value) : zqe (w.setRow g cs) g = (match zqe w g with | some (.cells _ t fr) => some (.cells cs t fr) | o => o) := by
 unfold zqe World.setRow
 simp only [Array.getElem?_modify, if_pos]
 cases w.heap[g]? with
 | none => rfl
 | some o => cases o <;> rfl
@[go_sem] theorem zqi8 (w : World) (g n : Nat) (cs : Array Value) (h : n ≠ g) : zqe (w.setRow g cs) n = zqe w n := by
 unfold zqe World.setRow
 simp only [Array.getElem?_modify]
 rw [if_neg (fun e => h e.symm)]
theorem Grew.setRow {w w' : World} (h : Below w.heap.size w w') (g : Nat) (cs : Array Value) (hg : w.heap.size <= g) : Below w.heap.size w (w'.setRow g cs) :=
 h.trans ⟨rfl, rfl, rfl, by simp [World.setRow], fun k hk => by
  show ((w'.setRow g cs).heap)[k]? = _
  unfold World.setRow
  simp only [Array.getElem?_modify]
  rw [if_neg (by omega)]⟩
theorem zql {w : World} {n : Nat} {o : Obj} (g : Nat) (cs : Array Value) (h : zqe w n = some o) (hn : n ≠ g) : zqe (w.setRow g cs) n = some o := (zqi8 w g n cs hn).trans h
theorem zqs {w : World} {n : Nat} {c : Array Value} {t : TypeId} {fr : Nat × Nat} (cs : Array Value) (h : zqe w n = some (.cells c t fr)) : zqe (w.setRow n cs) n = some (.cells cs t fr) := by
 rw [zqjt, h]
theorem zqg {W : World} {g : Nat} {o : Obj} (h : zqe W g = some o := by (repeat (first | assumption | exact zqh _ _ _ rfl | (refine zqh _ _ _ ?_; (simp; done)) | refine zqj _ ?_ | refine zqn6 _ ?_ | refine zqp _ ?_ | exact zqs _ (by assumption) | apply zqs | refine zql _ _ ?_ (by first | omega | (simp; omega) | simp)))) : zqe W g = some o := h
theorem zqf {a : Nat} {W w : World} (h : Below a W w := by (repeat (first | assumption | exact Grew.refl _ | refine Grew.more ?_ _ | refine Grew.alloc ?_ _ | refine Grew.drewN ?_ _ | refine Grew.setRow ?_ _ _ (by omega) | refine Grew.setRow ?_ _ _ (by simp; omega) | refine Grew.setRow ?_ _ _ (by simp)))) : Below a W w := h
@[go_sem] theorem zra2 (w : World) (c' : Array Value) (n : Nat) : w.drew.setRow n c' = (w.setRow n c').drew := rfl
@[go_sem] theorem zq5k (w : World) (c' : Array Value) (n m : Nat) : (w.drewN m).setRow n c' = (w.setRow n c').drewN m := rfl
@[go_sem] theorem zqgb (w : World) (c' : Array Value) (n : Nat) (m : More) (hn : n < w.heap.size) : (more w m).setRow n c' = more (w.setRow n c') m := by
 unfold World.setRow more
 congr 1
 apply Array.ext_getElem?
 intro k
 simp only [Array.getElem?_modify, Array.getElem?_append, Array.size_modify]
 by_cases hk : n = k
 ·subst hk; simp [hn]
 ·simp [hk]
@[go_sem] theorem zq5t (w : World) (v : Value) (n i : Nat) (m : More) (hn : n < w.heap.size) : (more w m).setCell ⟨n, i, none⟩ v = more (w.setCell ⟨n, i, none⟩ v) m := by
 unfold World.setCell more
 congr 1
 apply Array.ext_getElem?
 intro k
 simp only [Array.getElem?_modify, Array.getElem?_append, Array.size_modify]
 by_cases hk : n = k
 ·subst hk; simp [hn]
 ·simp [hk]
@[go_sem] theorem zq4j (w : World) (a : Addr) (v : Value) (m : Nat) : (w.drewN m).setCell a v = (w.setCell a v).drewN m := rfl
@[go_sem] theorem zqt (w : World) (g : Nat) (cs : Array Value) : (w.setRow g cs).heap.size = w.heap.size := size_setRow w g cs
def zqbe (P : Program) (t : TypeId) (g o n : Nat) (w : World) : Option Obj -> Result Value
 | some (.cells cs _ _) => if o + n <= cs.size then .ok (.agg (cs.extract o (o + n))) w else (Instr.loadAt t (.pointer (some ⟨g, o, none⟩))).run P w
 | _ => (Instr.loadAt t (.pointer (some ⟨g, o, none⟩))).run P w
theorem zqdd {P : Program} {t : TypeId} {n : Nat} {d : TypeDesc} (hu : P.underlying t = some d) (hd : (match d with | .struct _ | .array _ _ => true | _ => false) = true) (hi : (P.info? t).map (·.size) = some n) (g o : Nat) (w : World) :
  loadRow P t (.pointer (some ⟨g, o, none⟩)) w = zqbe P t g o n w (zqe w g) := by
 show _ = zqbe P t g o n w w.heap[g]?
 cases hg : w.heap[g]? with
 | none => rfl
 | some ob =>
  cases ob with
  | cells cs t' fr =>
   simp only [zqbe]
   by_cases hc : o + n <= cs.size
   ·rw [if_pos hc]
    exact zqqe hu hd hi g o w cs t' fr hg hc
   ·rw [if_neg hc]; rfl
  | _ => rfl
def zqb2 (P : Program) (t : TypeId) (g o n : Nat) (v : Value) (w : World) : Option Obj -> Result Unit
 | some (.cells old _ (0, 0)) => match v with
  | .agg cs => if o + n <= old.size /\ cs.size = n /\ zqal cs = true then .ok () (w.setRow g (zqb8 old o cs.toList)) else (Instr.storeAt t (.pointer (some ⟨g, o, none⟩)) v).run P w
  | _ => (Instr.storeAt t (.pointer (some ⟨g, o, none⟩)) v).run P w
 | _ => (Instr.storeAt t (.pointer (some ⟨g, o, none⟩)) v).run P w
theorem zqdv {P : Program} {t : TypeId} {n : Nat} (hi : (P.info? t).map (·.size) = some n) (g o : Nat) (cs : Array Value) (w : World) :
  zqib P t (.pointer (some ⟨g, o, none⟩)) (.agg cs) w = zqb2 P t g o n (.agg cs) w (zqe w g) := by
 show _ = zqb2 P t g o n (.agg cs) w w.heap[g]?
 unfold zqb2
 split
 ·rename_i old t' hg
  split
  ·rename_i cs' e
   cases e
   split
   ·rename_i h
    obtain ⟨h1, h2, h3⟩ := h;exact zqn8 hi g o w old cs t' hg h2 h1 h3
   ·rfl
  ·rename_i hx
   exact (hx _ rfl).elim
 ·rfl
attribute [irreducible] zqbe zqb2
attribute [irreducible] zqal zqau zqao loadRow zqib zqq zqu
theorem zqam {P : Program} {fn : Func} {R : Ending -> World -> Prop} {a : Act} {w : World} {p : Tmp} {ty : TypeId} (h : fn.results = #[.cell p ty]) (g : Nat) (t : TypeId) (cs : Array Value) (fr : Nat × Nat) (d : TypeDesc)
  (hp : a.tmps.getD p undef = .pointer (some ⟨g, 0, none⟩)) (hg : zqe w g = some (.cells cs t fr))
  (hu : P.underlying ty = some d) (hd : (match d with | .struct _ | .array _ _ => true | _ => false) = true) (hi : (P.info? ty).map (·.size) = some cs.size) (hD : a.defers = []) (hR : R (.returned (.agg cs)) w) : bodyPost P fn R .ret a w :=
 bodyPost_ret_by (results_cell_row h a.tmps w g t cs fr d hp (by unfold zqe at hg; exact hg) hu hd hi) hD hR
theorem zqkt {P : Program} {fn : Func} {R : Ending -> World -> Prop} {a : Act} {w : World} {p q : Tmp} {ty ty' : TypeId} (h : fn.results = #[.cell p ty, .cell q ty']) (g g' : Nat) (t t' : TypeId) (cs cs' : Array Value) (fr fr' : Nat × Nat) (d d' : TypeDesc)
  (hp : a.tmps.getD p undef = .pointer (some ⟨g, 0, none⟩)) (hq : a.tmps.getD q undef = .pointer (some ⟨g', 0, none⟩)) (hg : zqe w g = some (.cells cs t fr)) (hg' : zqe w g' = some (.cells cs' t' fr'))
  (hu : P.underlying ty = some d) (hd : (match d with | .struct _ | .array _ _ => true | _ => false) = true) (hi : (P.info? ty).map (·.size) = some cs.size)
  (hu' : P.underlying ty' = some d') (hd' : (match d' with | .struct _ | .array _ _ => true | _ => false) = true) (hi' : (P.info? ty').map (·.size) = some cs'.size)
  (hD : a.defers = []) (hR : R (.returned (.tuple #[.agg cs, .agg cs'])) w) : bodyPost P fn R .ret a w := by
 refine bodyPost_ret_by ?_ hD hR
 have hp' : a.tmps[p]?.getD undef = .pointer (some ⟨g, 0, none⟩) := by simpa using hp
 have hq' : a.tmps[q]?.getD undef = .pointer (some ⟨g', 0, none⟩) := by simpa using hq
 unfold zqe at hg hg'
 simp [results, h, hp', hq', asAddr, run_loadVar_row w g t ty cs fr d hg hu hd hi, run_loadVar_row w g' t' ty' cs' fr' d' hg' hu' hd' hi']
def cellOf (o : Option Obj) (i : Nat) : Option Value := match o with | some (.cells c _ _) => c[i]? | _ => none
def zqf5 (o : Option Obj) (i : Nat) : Bool := match o with | some (.cells _ _ (lo, hi)) => lo <= i && i < hi | _ => false
def zqgs (w : World) (n i : Nat) (v : Value) (o : Option Obj) : World := match o with | some (.cells c _ (0, 0)) => w.setRow n (c.setIfInBounds i v) | _ => w.setCell ⟨n, i, none⟩ v
theorem zqcp (c : Array Value) (t : TypeId) (fr : Nat × Nat) (i : Nat) : cellOf (some (.cells c t fr)) i = c[i]? := rfl
theorem zqhn (c : Array Value) (t : TypeId) (i : Nat) : zqf5 (some (.cells c t (0, 0))) i = false := by simp [zqf5]
theorem zqlm (w : World) (n i : Nat) (v : Value) (c : Array Value) (t : TypeId) : zqgs w n i v (some (.cells c t (0, 0))) = w.setRow n (c.setIfInBounds i v) := rfl
theorem zqg9 (w : World) (n i : Nat) : w.cell? ⟨n, i, none⟩ = cellOf (zqe w n) i := by
 unfold World.cell? cellOf zqe
 cases h : w.heap[n]? with
 | none => simp
 | some o => cases o <;> simp
theorem zqn2 (w : World) (n i : Nat) : w.frozen? ⟨n, i, none⟩ = zqf5 (zqe w n) i := by
 unfold World.frozen? zqf5 zqe
 cases h : w.heap[n]? with
 | none => simp
 | some o => cases o <;> simp
theorem zqk8 (w : World) (n i : Nat) (v : Value) : w.setCell ⟨n, i, none⟩ v = zqgs w n i v (zqe w n) := by
 unfold zqgs
 split
 ·rename_i c t h
  unfold zqe at h;exact setCell_eq_setRow w n i c t (0, 0) v h
 ·rfl
attribute [go_sem] zqcp zqhn zqlm
attribute [go_sem low] zqg9 zqn2 zqk8
attribute [irreducible] cellOf zqf5 zqgs
@[go_sem ↓ high] theorem zrgd (ρ : Operand -> Value) (d : Option Tmp) (x : Operand) (t : TypeId) (pos : String) (af : Array Edge) (g : Option (Nat × Bool)) :
  execOp ρ ⟨d, .load 44 x, t, pos, af, g⟩ = zqq 44 (ρ x) := zqax _ ρ d x t pos af g
@[go_sem high] theorem zrfp (ρ : Operand -> Value) (d : Option Tmp) (x : Operand) (t : TypeId) (pos : String) (af : Array Edge) (g : Option (Nat × Bool)) :
  execOp ρ ⟨d, .load 44 x, t, pos, af, g⟩ = zqq 44 (ρ x) := zqax _ ρ d x t pos af g
@[go_sem] theorem zrac (g : Nat) (w : World) : (zqq 44 (.pointer (some ⟨g, 0, none⟩))).run Tryz.prog w = (zqau Tryz.prog 44 g 32 w (zqe w g)).andThen fun v w' => .ok (.value v) w' := by
 rw [zq6, zqa4 Tryz.underlying44 rfl zqb g w]
@[go_sem] theorem zra6 (g : Nat) (w : World) (cs : Array Value) (t' : TypeId) (fr : Nat × Nat) (h : cs.size = 32) : zqau Tryz.prog 44 g 32 w (some (.cells cs t' fr)) = .ok (.agg cs) w := zqan cs t' fr h
@[go_sem ↓ high] theorem zrer (ρ : Operand -> Value) (d : Option Tmp) (x y : Operand) (t : TypeId) (pos : String) (af : Array Edge) (g : Option (Nat × Bool)) :
  execOp ρ ⟨d, .store 44 x y, t, pos, af, g⟩ = zqu 44 (ρ x) (ρ y) := zqas _ ρ d x y t pos af g
@[go_sem high] theorem zrbw (ρ : Operand -> Value) (d : Option Tmp) (x y : Operand) (t : TypeId) (pos : String) (af : Array Edge) (g : Option (Nat × Bool)) :
  execOp ρ ⟨d, .store 44 x y, t, pos, af, g⟩ = zqu 44 (ρ x) (ρ y) := zqas _ ρ d x y t pos af g
@[go_sem] theorem zq5i (g : Nat) (cs : Array Value) (w : World) : (zqu 44 (.pointer (some ⟨g, 0, none⟩)) (.agg cs)).run Tryz.prog w = (zqao Tryz.prog 44 g 32 (.agg cs) w (zqe w g)).andThen fun _ w' => .ok .skip w' := by
 rw [zq9, zqa6 zqb g cs w]
@[go_sem] theorem zq6c (g : Nat) (w : World) (old cs : Array Value) (t' : TypeId) (h1 : old.size = 32) (h2 : cs.size = 32) (h3 : zqal cs = true) :
  zqao Tryz.prog 44 g 32 (.agg cs) w (some (.cells old t' (0, 0))) = .ok () (w.setRow g cs) := zqaq old cs t' h1 h2 h3
@[go_sem high] theorem zre5 (w : World) : (zeroValue 44).run Tryz.prog w = .ok (.agg (ints .u8 32 zqc)) w := by kernel_rfl
@[go_sem ↓ high] theorem zqca (w : World) : (zeroValue 44).run Tryz.prog w = .ok (.agg (ints .u8 32 zqc)) w := by kernel_rfl
@[go_sem high] theorem zriq (f g : Nat -> Int) (w : World) : (binOp .eql 44 (.agg (ints .u8 32 f)) (.agg (ints .u8 32 g))).run Tryz.prog w = .ok (.bool (same 32 f g)) w :=
 zqco w .u8 f g Tryz.underlying44 Tryz.underlying5 (i := (Tryz.prog.info? 5).get zqb) zqb zqb
@[go_sem high] theorem zrhr (f g : Nat -> Int) (w : World) : (binOp .neq 44 (.agg (ints .u8 32 f)) (.agg (ints .u8 32 g))).run Tryz.prog w = .ok (.bool (!same 32 f g)) w :=
 zqck w .u8 f g Tryz.underlying44 Tryz.underlying5 (i := (Tryz.prog.info? 5).get zqb) zqb zqb
@[go_sem] theorem zrdt (k' : IntKind) (f : Nat -> Int) (j : Int) (w : World) (h0 : 0 <= j) (h1 : j < 32) : (Instr.index 44 (.agg (ints .u8 32 f)) (.int k' j)).run Tryz.prog w = .ok (.int .u8 (f j.toNat)) w :=
 zqb0 w .u8 k' f j Tryz.underlying44 Tryz.underlying5 (i := (Tryz.prog.info? 5).get zqb) zqb zqb h0 h1
@[go_sem ↓ high] theorem zq6w (ty : TypeId) (cs : Array Bool) (args : Array Value) : builtin .append #[167, 167] ty cs args = zqv #[167, 167] ty args := by unfold zqv; rfl
@[go_sem] theorem zq1h (ty : TypeId) (b n cap b2 m c : Nat) (w : World) : (zqv #[167, 167] ty #[.slice (some ⟨b, 0, none⟩) n cap, .slice (some ⟨b2, 0, none⟩) m c]).run Tryz.prog w =
  zqg7 Tryz.prog #[167, 167] ty b n cap b2 m c w (zqe w b) (zqe w b2) := zqy4 Tryz.underlying167 (ie := (Tryz.prog.info? 5).get zqb) zqb zqb ty b n cap b2 m c w
attribute [go_sem] zqrg
theorem zqz {W w1 : World} {n : Nat} {v : Option Obj} (e : W = w1) (h : zqe W n = v := by exact zqg) : zqe w1 n = v := e ▸ h
theorem zqa1 {a W w1 : World} (e : W = w1) (h : Below a.heap.size a W := by exact zqf) : Below a.heap.size a w1 := e ▸ h
end Go.Proofs.YtpefpiobcpdeoaaGreatDoor
namespace Go.Proofs.YtpefpiobcpdeoaaGreatDoor
open Go.RowKit
@[go_sem ↓ high] theorem zren (ρ : Operand -> Value) (d : Option Tmp) (x : Operand) (t : TypeId) (pos : String) (af : Array Edge) (g : Option (Nat × Bool)) :
  execOp ρ ⟨d, .load 311 x, t, pos, af, g⟩ = zqq 311 (ρ x) := zqax _ ρ d x t pos af g
@[go_sem high] theorem zrba (ρ : Operand -> Value) (d : Option Tmp) (x : Operand) (t : TypeId) (pos : String) (af : Array Edge) (g : Option (Nat × Bool)) :
  execOp ρ ⟨d, .load 311 x, t, pos, af, g⟩ = zqq 311 (ρ x) := zqax _ ρ d x t pos af g
@[go_sem] theorem zq58 (g : Nat) (w : World) : (zqq 311 (.pointer (some ⟨g, 0, none⟩))).run Tryz.prog w = (zqau Tryz.prog 311 g 5 w (zqe w g)).andThen fun v w' => .ok (.value v) w' := by
 rw [zq6, zqa4 Tryz.underlying311 rfl zqb g w]
@[go_sem] theorem zq6p (g : Nat) (w : World) (cs : Array Value) (t' : TypeId) (fr : Nat × Nat) (h : cs.size = 5) : zqau Tryz.prog 311 g 5 w (some (.cells cs t' fr)) = .ok (.agg cs) w := zqan cs t' fr h
@[go_sem ↓ high] theorem zrbt (ρ : Operand -> Value) (d : Option Tmp) (x y : Operand) (t : TypeId) (pos : String) (af : Array Edge) (g : Option (Nat × Bool)) :
  execOp ρ ⟨d, .store 311 x y, t, pos, af, g⟩ = zqu 311 (ρ x) (ρ y) := zqas _ ρ d x y t pos af g
@[go_sem high] theorem zq79 (ρ : Operand -> Value) (d : Option Tmp) (x y : Operand) (t : TypeId) (pos : String) (af : Array Edge) (g : Option (Nat × Bool)) :
  execOp ρ ⟨d, .store 311 x y, t, pos, af, g⟩ = zqu 311 (ρ x) (ρ y) := zqas _ ρ d x y t pos af g
@[go_sem] theorem zq17 (g : Nat) (cs : Array Value) (w : World) : (zqu 311 (.pointer (some ⟨g, 0, none⟩)) (.agg cs)).run Tryz.prog w = (zqao Tryz.prog 311 g 5 (.agg cs) w (zqe w g)).andThen fun _ w' => .ok .skip w' := by
 rw [zq9, zqa6 zqb g cs w]
@[go_sem] theorem zq3p (g : Nat) (w : World) (old cs : Array Value) (t' : TypeId) (h1 : old.size = 5) (h2 : cs.size = 5) (h3 : zqal cs = true) :
  zqao Tryz.prog 311 g 5 (.agg cs) w (some (.cells old t' (0, 0))) = .ok () (w.setRow g cs) := zqaq old cs t' h1 h2 h3
@[go_sem high] theorem zrcm (w : World) : (zeroValue 311).run Tryz.prog w = .ok (.agg (ints .u64 5 zqc)) w := by kernel_rfl
@[go_sem ↓ high] theorem zqbq (w : World) : (zeroValue 311).run Tryz.prog w = .ok (.agg (ints .u64 5 zqc)) w := by kernel_rfl
@[go_sem high] theorem zrf5 (f g : Nat -> Int) (w : World) : (binOp .eql 311 (.agg (ints .u64 5 f)) (.agg (ints .u64 5 g))).run Tryz.prog w = .ok (.bool (same 5 f g)) w :=
 zqco w .u64 f g Tryz.underlying311 Tryz.underlying120 (i := (Tryz.prog.info? 120).get zqb) zqb zqb
@[go_sem high] theorem zrfu (f g : Nat -> Int) (w : World) : (binOp .neq 311 (.agg (ints .u64 5 f)) (.agg (ints .u64 5 g))).run Tryz.prog w = .ok (.bool (!same 5 f g)) w :=
 zqck w .u64 f g Tryz.underlying311 Tryz.underlying120 (i := (Tryz.prog.info? 120).get zqb) zqb zqb
@[go_sem] theorem zrbl (k' : IntKind) (f : Nat -> Int) (j : Int) (w : World) (h0 : 0 <= j) (h1 : j < 5) : (Instr.index 311 (.agg (ints .u64 5 f)) (.int k' j)).run Tryz.prog w = .ok (.int .u64 (f j.toNat)) w :=
 zqb0 w .u64 k' f j Tryz.underlying311 Tryz.underlying120 (i := (Tryz.prog.info? 120).get zqb) zqb zqb h0 h1
@[go_sem ↓ high] theorem zrbs (ρ : Operand -> Value) (d : Option Tmp) (x : Operand) (t : TypeId) (pos : String) (af : Array Edge) (g : Option (Nat × Bool)) :
  execOp ρ ⟨d, .load 324 x, t, pos, af, g⟩ = zqq 324 (ρ x) := zqax _ ρ d x t pos af g
@[go_sem high] theorem zq9u (ρ : Operand -> Value) (d : Option Tmp) (x : Operand) (t : TypeId) (pos : String) (af : Array Edge) (g : Option (Nat × Bool)) :
  execOp ρ ⟨d, .load 324 x, t, pos, af, g⟩ = zqq 324 (ρ x) := zqax _ ρ d x t pos af g
@[go_sem] theorem zq2h (g : Nat) (w : World) : (zqq 324 (.pointer (some ⟨g, 0, none⟩))).run Tryz.prog w = (zqau Tryz.prog 324 g 4 w (zqe w g)).andThen fun v w' => .ok (.value v) w' := by
 rw [zq6, zqa4 Tryz.underlying324 rfl zqb g w]
@[go_sem] theorem zq4d (g : Nat) (w : World) (cs : Array Value) (t' : TypeId) (fr : Nat × Nat) (h : cs.size = 4) : zqau Tryz.prog 324 g 4 w (some (.cells cs t' fr)) = .ok (.agg cs) w := zqan cs t' fr h
@[go_sem ↓ high] theorem zq8t (ρ : Operand -> Value) (d : Option Tmp) (x y : Operand) (t : TypeId) (pos : String) (af : Array Edge) (g : Option (Nat × Bool)) :
  execOp ρ ⟨d, .store 324 x y, t, pos, af, g⟩ = zqu 324 (ρ x) (ρ y) := zqas _ ρ d x y t pos af g
@[go_sem high] theorem zq5q (ρ : Operand -> Value) (d : Option Tmp) (x y : Operand) (t : TypeId) (pos : String) (af : Array Edge) (g : Option (Nat × Bool)) :
  execOp ρ ⟨d, .store 324 x y, t, pos, af, g⟩ = zqu 324 (ρ x) (ρ y) := zqas _ ρ d x y t pos af g
@[go_sem] theorem zq1s (g : Nat) (cs : Array Value) (w : World) : (zqu 324 (.pointer (some ⟨g, 0, none⟩)) (.agg cs)).run Tryz.prog w = (zqao Tryz.prog 324 g 4 (.agg cs) w (zqe w g)).andThen fun _ w' => .ok .skip w' := by
 rw [zq9, zqa6 zqb g cs w]
@[go_sem] theorem zq1u (g : Nat) (w : World) (old cs : Array Value) (t' : TypeId) (h1 : old.size = 4) (h2 : cs.size = 4) (h3 : zqal cs = true) :
  zqao Tryz.prog 324 g 4 (.agg cs) w (some (.cells old t' (0, 0))) = .ok () (w.setRow g cs) := zqaq old cs t' h1 h2 h3
@[go_sem high] theorem zq75 (w : World) : (zeroValue 324).run Tryz.prog w = .ok (.agg (ints .u64 4 zqc)) w := by kernel_rfl
@[go_sem ↓ high] theorem zrb9 (w : World) : (zeroValue 324).run Tryz.prog w = .ok (.agg (ints .u64 4 zqc)) w := by kernel_rfl
@[go_sem high] theorem zrey (f g : Nat -> Int) (w : World) : (binOp .eql 324 (.agg (ints .u64 4 f)) (.agg (ints .u64 4 g))).run Tryz.prog w = .ok (.bool (same 4 f g)) w :=
 zqco w .u64 f g Tryz.underlying324 Tryz.underlying120 (i := (Tryz.prog.info? 120).get zqb) zqb zqb
@[go_sem high] theorem zrdx (f g : Nat -> Int) (w : World) : (binOp .neq 324 (.agg (ints .u64 4 f)) (.agg (ints .u64 4 g))).run Tryz.prog w = .ok (.bool (!same 4 f g)) w :=
 zqck w .u64 f g Tryz.underlying324 Tryz.underlying120 (i := (Tryz.prog.info? 120).get zqb) zqb zqb
@[go_sem] theorem zq7r (k' : IntKind) (f : Nat -> Int) (j : Int) (w : World) (h0 : 0 <= j) (h1 : j < 4) : (Instr.index 324 (.agg (ints .u64 4 f)) (.int k' j)).run Tryz.prog w = .ok (.int .u64 (f j.toNat)) w :=
 zqb0 w .u64 k' f j Tryz.underlying324 Tryz.underlying120 (i := (Tryz.prog.info? 120).get zqb) zqb zqb h0 h1
end Go.Proofs.YtpefpiobcpdeoaaGreatDoor
namespace Go.Proofs.YtpefpiobcpdeoaaGreatDoor
open Go.RowKit
@[go_sem ↓ high] theorem zrbr (ρ : Operand -> Value) (d : Option Tmp) (x : Operand) (t : TypeId) (pos : String) (af : Array Edge) (g : Option (Nat × Bool)) :
  execOp ρ ⟨d, .load 43 x, t, pos, af, g⟩ = zqq 43 (ρ x) := zqax _ ρ d x t pos af g
@[go_sem high] theorem zq7h (ρ : Operand -> Value) (d : Option Tmp) (x : Operand) (t : TypeId) (pos : String) (af : Array Edge) (g : Option (Nat × Bool)) :
  execOp ρ ⟨d, .load 43 x, t, pos, af, g⟩ = zqq 43 (ρ x) := zqax _ ρ d x t pos af g
@[go_sem] theorem zq1x (g : Nat) (w : World) : (zqq 43 (.pointer (some ⟨g, 0, none⟩))).run Tryz.prog w = (zqau Tryz.prog 43 g 32 w (zqe w g)).andThen fun v w' => .ok (.value v) w' := by
 rw [zq6, zqa4 Tryz.underlying43 rfl zqb g w]
@[go_sem] theorem zq49 (g : Nat) (w : World) (cs : Array Value) (t' : TypeId) (fr : Nat × Nat) (h : cs.size = 32) : zqau Tryz.prog 43 g 32 w (some (.cells cs t' fr)) = .ok (.agg cs) w := zqan cs t' fr h
@[go_sem ↓ high] theorem zq9g (ρ : Operand -> Value) (d : Option Tmp) (x y : Operand) (t : TypeId) (pos : String) (af : Array Edge) (g : Option (Nat × Bool)) :
  execOp ρ ⟨d, .store 43 x y, t, pos, af, g⟩ = zqu 43 (ρ x) (ρ y) := zqas _ ρ d x y t pos af g
@[go_sem high] theorem zq5v (ρ : Operand -> Value) (d : Option Tmp) (x y : Operand) (t : TypeId) (pos : String) (af : Array Edge) (g : Option (Nat × Bool)) :
  execOp ρ ⟨d, .store 43 x y, t, pos, af, g⟩ = zqu 43 (ρ x) (ρ y) := zqas _ ρ d x y t pos af g
@[go_sem] theorem zq1n (g : Nat) (cs : Array Value) (w : World) : (zqu 43 (.pointer (some ⟨g, 0, none⟩)) (.agg cs)).run Tryz.prog w = (zqao Tryz.prog 43 g 32 (.agg cs) w (zqe w g)).andThen fun _ w' => .ok .skip w' := by
 rw [zq9, zqa6 zqb g cs w]
@[go_sem] theorem zq1o (g : Nat) (w : World) (old cs : Array Value) (t' : TypeId) (h1 : old.size = 32) (h2 : cs.size = 32) (h3 : zqal cs = true) :
  zqao Tryz.prog 43 g 32 (.agg cs) w (some (.cells old t' (0, 0))) = .ok () (w.setRow g cs) := zqaq old cs t' h1 h2 h3
@[go_sem high] theorem zq89 (w : World) : (zeroValue 43).run Tryz.prog w = .ok (.agg (ints .u8 32 zqc)) w := by kernel_rfl
@[go_sem ↓ high] theorem zrb5 (w : World) : (zeroValue 43).run Tryz.prog w = .ok (.agg (ints .u8 32 zqc)) w := by kernel_rfl
@[go_sem high] theorem zrem (f g : Nat -> Int) (w : World) : (binOp .eql 43 (.agg (ints .u8 32 f)) (.agg (ints .u8 32 g))).run Tryz.prog w = .ok (.bool (same 32 f g)) w :=
 zqco w .u8 f g Tryz.underlying43 Tryz.underlying5 (i := (Tryz.prog.info? 5).get zqb) zqb zqb
@[go_sem high] theorem zrdm (f g : Nat -> Int) (w : World) : (binOp .neq 43 (.agg (ints .u8 32 f)) (.agg (ints .u8 32 g))).run Tryz.prog w = .ok (.bool (!same 32 f g)) w :=
 zqck w .u8 f g Tryz.underlying43 Tryz.underlying5 (i := (Tryz.prog.info? 5).get zqb) zqb zqb
@[go_sem] theorem zq9o (k' : IntKind) (f : Nat -> Int) (j : Int) (w : World) (h0 : 0 <= j) (h1 : j < 32) : (Instr.index 43 (.agg (ints .u8 32 f)) (.int k' j)).run Tryz.prog w = .ok (.int .u8 (f j.toNat)) w :=
 zqb0 w .u8 k' f j Tryz.underlying43 Tryz.underlying5 (i := (Tryz.prog.info? 5).get zqb) zqb zqb h0 h1
@[go_sem ↓ high] theorem zrcq (ρ : Operand -> Value) (d : Option Tmp) (x : Operand) (t : TypeId) (pos : String) (af : Array Edge) (g : Option (Nat × Bool)) :
  execOp ρ ⟨d, .load 310 x, t, pos, af, g⟩ = zqq 310 (ρ x) := zqax _ ρ d x t pos af g
@[go_sem high] theorem zrbx (ρ : Operand -> Value) (d : Option Tmp) (x : Operand) (t : TypeId) (pos : String) (af : Array Edge) (g : Option (Nat × Bool)) :
  execOp ρ ⟨d, .load 310 x, t, pos, af, g⟩ = zqq 310 (ρ x) := zqax _ ρ d x t pos af g
@[go_sem] theorem zq55 (g : Nat) (w : World) : (zqq 310 (.pointer (some ⟨g, 0, none⟩))).run Tryz.prog w = (zqau Tryz.prog 310 g 5 w (zqe w g)).andThen fun v w' => .ok (.value v) w' := by
 rw [zq6, zqa4 Tryz.underlying310 rfl zqb g w]
@[go_sem] theorem zq5n (g : Nat) (w : World) (cs : Array Value) (t' : TypeId) (fr : Nat × Nat) (h : cs.size = 5) : zqau Tryz.prog 310 g 5 w (some (.cells cs t' fr)) = .ok (.agg cs) w := zqan cs t' fr h
@[go_sem ↓ high] theorem zrbe (ρ : Operand -> Value) (d : Option Tmp) (x y : Operand) (t : TypeId) (pos : String) (af : Array Edge) (g : Option (Nat × Bool)) :
  execOp ρ ⟨d, .store 310 x y, t, pos, af, g⟩ = zqu 310 (ρ x) (ρ y) := zqas _ ρ d x y t pos af g
@[go_sem high] theorem zrab (ρ : Operand -> Value) (d : Option Tmp) (x y : Operand) (t : TypeId) (pos : String) (af : Array Edge) (g : Option (Nat × Bool)) :
  execOp ρ ⟨d, .store 310 x y, t, pos, af, g⟩ = zqu 310 (ρ x) (ρ y) := zqas _ ρ d x y t pos af g
@[go_sem] theorem zq45 (g : Nat) (cs : Array Value) (w : World) : (zqu 310 (.pointer (some ⟨g, 0, none⟩)) (.agg cs)).run Tryz.prog w = (zqao Tryz.prog 310 g 5 (.agg cs) w (zqe w g)).andThen fun _ w' => .ok .skip w' := by
 rw [zq9, zqa6 zqb g cs w]
@[go_sem] theorem zq29 (g : Nat) (w : World) (old cs : Array Value) (t' : TypeId) (h1 : old.size = 5) (h2 : cs.size = 5) (h3 : zqal cs = true) :
  zqao Tryz.prog 310 g 5 (.agg cs) w (some (.cells old t' (0, 0))) = .ok () (w.setRow g cs) := zqaq old cs t' h1 h2 h3
@[go_sem high] theorem zrbn (w : World) : (zeroValue 310).run Tryz.prog w = .ok (.agg (ints .u64 5 zqc)) w := by kernel_rfl
@[go_sem ↓ high] theorem zrcp (w : World) : (zeroValue 310).run Tryz.prog w = .ok (.agg (ints .u64 5 zqc)) w := by kernel_rfl
@[go_sem high] theorem zrgk (f g : Nat -> Int) (w : World) : (binOp .eql 310 (.agg (ints .u64 5 f)) (.agg (ints .u64 5 g))).run Tryz.prog w = .ok (.bool (same 5 f g)) w :=
 zqco w .u64 f g Tryz.underlying310 Tryz.underlying120 (i := (Tryz.prog.info? 120).get zqb) zqb zqb
@[go_sem high] theorem zrg6 (f g : Nat -> Int) (w : World) : (binOp .neq 310 (.agg (ints .u64 5 f)) (.agg (ints .u64 5 g))).run Tryz.prog w = .ok (.bool (!same 5 f g)) w :=
 zqck w .u64 f g Tryz.underlying310 Tryz.underlying120 (i := (Tryz.prog.info? 120).get zqb) zqb zqb
@[go_sem] theorem zrbq (k' : IntKind) (f : Nat -> Int) (j : Int) (w : World) (h0 : 0 <= j) (h1 : j < 5) : (Instr.index 310 (.agg (ints .u64 5 f)) (.int k' j)).run Tryz.prog w = .ok (.int .u64 (f j.toNat)) w :=
 zqb0 w .u64 k' f j Tryz.underlying310 Tryz.underlying120 (i := (Tryz.prog.info? 120).get zqb) zqb zqb h0 h1
end Go.Proofs.YtpefpiobcpdeoaaGreatDoor
namespace Go.Proofs.YtpefpiobcpdeoaaGreatDoor
open Go.RowKit
def zqx (x z : Nat -> Int) : Nat -> Int := fun i => if i < 5 then x i else z (i - 5)
@[go_sem ↓ high] theorem zrfh (ρ : Operand -> Value) (d : Option Tmp) (x : Operand) (t : TypeId) (pos : String) (af : Array Edge) (g : Option (Nat × Bool)) :
  execOp ρ ⟨d, .load 317 x, t, pos, af, g⟩ = zqq 317 (ρ x) := zqax _ ρ d x t pos af g
@[go_sem high] theorem zrcg (ρ : Operand -> Value) (d : Option Tmp) (x : Operand) (t : TypeId) (pos : String) (af : Array Edge) (g : Option (Nat × Bool)) :
  execOp ρ ⟨d, .load 317 x, t, pos, af, g⟩ = zqq 317 (ρ x) := zqax _ ρ d x t pos af g
@[go_sem] theorem zq6y (g : Nat) (w : World) : (zqq 317 (.pointer (some ⟨g, 0, none⟩))).run Tryz.prog w = (zqau Tryz.prog 317 g 10 w (zqe w g)).andThen fun v w' => .ok (.value v) w' := by
 rw [zq6, zqa4 Tryz.underlying317 rfl zqb g w]
@[go_sem] theorem zq6t (g : Nat) (w : World) (cs : Array Value) (t' : TypeId) (fr : Nat × Nat) (h : cs.size = 10) : zqau Tryz.prog 317 g 10 w (some (.cells cs t' fr)) = .ok (.agg cs) w := zqan cs t' fr h
@[go_sem ↓ high] theorem zrb6 (ρ : Operand -> Value) (d : Option Tmp) (x y : Operand) (t : TypeId) (pos : String) (af : Array Edge) (g : Option (Nat × Bool)) :
  execOp ρ ⟨d, .store 317 x y, t, pos, af, g⟩ = zqu 317 (ρ x) (ρ y) := zqas _ ρ d x y t pos af g
@[go_sem high] theorem zraf (ρ : Operand -> Value) (d : Option Tmp) (x y : Operand) (t : TypeId) (pos : String) (af : Array Edge) (g : Option (Nat × Bool)) :
  execOp ρ ⟨d, .store 317 x y, t, pos, af, g⟩ = zqu 317 (ρ x) (ρ y) := zqas _ ρ d x y t pos af g
@[go_sem] theorem zq37 (g : Nat) (cs : Array Value) (w : World) : (zqu 317 (.pointer (some ⟨g, 0, none⟩)) (.agg cs)).run Tryz.prog w = (zqao Tryz.prog 317 g 10 (.agg cs) w (zqe w g)).andThen fun _ w' => .ok .skip w' := by
 rw [zq9, zqa6 zqb g cs w]
@[go_sem] theorem zq30 (g : Nat) (w : World) (old cs : Array Value) (t' : TypeId) (h1 : old.size = 10) (h2 : cs.size = 10) (h3 : zqal cs = true) :
  zqao Tryz.prog 317 g 10 (.agg cs) w (some (.cells old t' (0, 0))) = .ok () (w.setRow g cs) := zqaq old cs t' h1 h2 h3
@[go_sem high] theorem zrbc (w : World) : (zeroValue 317).run Tryz.prog w = .ok (.agg (ints .u64 10 (zqx zqc zqc))) w := by kernel_rfl
@[go_sem ↓ high] theorem zqbs (w : World) : (zeroValue 317).run Tryz.prog w = .ok (.agg (ints .u64 10 (zqx zqc zqc))) w := by kernel_rfl
theorem zqzv (x z : Nat -> Int) : (ints .u64 10 (zqx x z)).extract 0 5 = ints .u64 5 x := by kernel_rfl
theorem zqxv (x z : Nat -> Int) : (ints .u64 10 (zqx x z)).extract 5 (5 + 5) = ints .u64 5 z := by kernel_rfl
theorem zriu (x z a : Nat -> Int) : zqb8 (ints .u64 10 (zqx x z)) 0 (ints .u64 5 a).toList = ints .u64 10 (zqx a z) := by kernel_rfl
theorem zrh6 (x z a : Nat -> Int) : zqb8 (ints .u64 10 (zqx x z)) 5 (ints .u64 5 a).toList = ints .u64 10 (zqx x a) := by kernel_rfl
@[go_sem] theorem zrck (g : Nat) (w : World) (x z : Nat -> Int) (t' : TypeId) (fr : Nat × Nat) : zqau Tryz.prog 311 g 5 w (some (.cells (ints .u64 10 (zqx x z)) t' fr)) = .ok (.agg (ints .u64 5 x)) w := by
 unfold zqau
 simp only [zqi]
 rw [if_neg (by decide), if_pos (by decide), zqzv]
@[go_sem] theorem zrae (g : Nat) (w : World) (x z a : Nat -> Int) (t' : TypeId) : zqao Tryz.prog 311 g 5 (.agg (ints .u64 5 a)) w (some (.cells (ints .u64 10 (zqx x z)) t' (0, 0))) = .ok () (w.setRow g (ints .u64 10 (zqx a z))) := by
 unfold zqao
 simp only [zqi]
 rw [if_neg (fun h => absurd h.1 (by decide)), if_pos ⟨by decide, by trivial, zqdg _ _ _⟩, zriu]
@[go_sem] theorem zq22 (g : Nat) (w : World) : (zqq 311 (.pointer (some ⟨g, 5, none⟩))).run Tryz.prog w = (zqbe Tryz.prog 311 g 5 5 w (zqe w g)).andThen fun v w' => .ok (.value v) w' := by
 rw [zq6, zqdd Tryz.underlying311 rfl zqb g 5 w]
@[go_sem] theorem zrbf (g : Nat) (w : World) (x z : Nat -> Int) (t' : TypeId) (fr : Nat × Nat) : zqbe Tryz.prog 311 g 5 5 w (some (.cells (ints .u64 10 (zqx x z)) t' fr)) = .ok (.agg (ints .u64 5 z)) w := by
 unfold zqbe
 simp only [zqi]
 rw [if_pos (by decide), zqxv]
@[go_sem] theorem zq1p (g : Nat) (cs : Array Value) (w : World) : (zqu 311 (.pointer (some ⟨g, 5, none⟩)) (.agg cs)).run Tryz.prog w = (zqb2 Tryz.prog 311 g 5 5 (.agg cs) w (zqe w g)).andThen fun _ w' => .ok .skip w' := by
 rw [zq9, zqdv zqb g 5 cs w]
@[go_sem] theorem zq8b (g : Nat) (w : World) (x z a : Nat -> Int) (t' : TypeId) : zqb2 Tryz.prog 311 g 5 5 (.agg (ints .u64 5 a)) w (some (.cells (ints .u64 10 (zqx x z)) t' (0, 0))) = .ok () (w.setRow g (ints .u64 10 (zqx x a))) := by
 unfold zqb2
 simp only [zqi]
 rw [if_pos ⟨by decide, by trivial, zqdg _ _ _⟩, zrh6]
@[go_sem] theorem zq67 (x z : Nat -> Int) (w : World) : (Instr.field 317 (.agg (ints .u64 10 (zqx x z))) 0).run Tryz.prog w = .ok (.agg (ints .u64 5 x)) w := by kernel_rfl
@[go_sem] theorem zq66 (x z : Nat -> Int) (w : World) : (Instr.field 317 (.agg (ints .u64 10 (zqx x z))) 1).run Tryz.prog w = .ok (.agg (ints .u64 5 z)) w := by kernel_rfl
def zqhj (x z : Value) : Sem Next := do pure (.value (<- Instr.build 317 #[(0, x), (1, z)]))
def zqjq (x : Value) : Sem Next := do pure (.value (<- Instr.build 317 #[(0, x)]))
@[go_sem ↓ high] theorem zria (ρ : Operand -> Value) (d : Option Tmp) (x y : Operand) (t : TypeId) (pos : String) (af : Array Edge) (g : Option (Nat × Bool)) :
  execOp ρ ⟨d, .build 317 #[(0, x), (1, y)], t, pos, af, g⟩ = zqhj (ρ x) (ρ y) := by simp [execOp, zqhj]
@[go_sem high] theorem zrga (ρ : Operand -> Value) (d : Option Tmp) (x y : Operand) (t : TypeId) (pos : String) (af : Array Edge) (g : Option (Nat × Bool)) :
  execOp ρ ⟨d, .build 317 #[(0, x), (1, y)], t, pos, af, g⟩ = zqhj (ρ x) (ρ y) := by simp [execOp, zqhj]
@[go_sem ↓ high] theorem zrgi (ρ : Operand -> Value) (d : Option Tmp) (x : Operand) (t : TypeId) (pos : String) (af : Array Edge) (g : Option (Nat × Bool)) :
  execOp ρ ⟨d, .build 317 #[(0, x)], t, pos, af, g⟩ = zqjq (ρ x) := by simp [execOp, zqjq]
@[go_sem high] theorem zrdw (ρ : Operand -> Value) (d : Option Tmp) (x : Operand) (t : TypeId) (pos : String) (af : Array Edge) (g : Option (Nat × Bool)) :
  execOp ρ ⟨d, .build 317 #[(0, x)], t, pos, af, g⟩ = zqjq (ρ x) := by simp [execOp, zqjq]
@[go_sem] theorem zrf9 (x z : Nat -> Int) (w : World) : (zqhj (.agg (ints .u64 5 x)) (.agg (ints .u64 5 z))).run Tryz.prog w = .ok (.value (.agg (ints .u64 10 (zqx x z)))) w := by kernel_rfl
@[go_sem] theorem zrdp (x : Nat -> Int) (w : World) : (zqjq (.agg (ints .u64 5 x))).run Tryz.prog w = .ok (.value (.agg (ints .u64 10 (zqx x zqc)))) w := by kernel_rfl
attribute [irreducible] zqhj zqjq
end Go.Proofs.YtpefpiobcpdeoaaGreatDoor
