/- Mem -/
import Derived.Test.YtfglcifnjaknnaaGreatDoorProg
import Derived.Test.YtfglcifnjaknnaaGreatDoorBase
import Derived.Deep.MidRow
set_option linter.unusedVariables false
set_option linter.unusedSimpArgs false
namespace Go.Proofs.YtfglcifnjaknnaaGreatDoor
open Go.RowKit
theorem zq2 {P : Program} {id : Nat} {Q : Exit -> Act -> World -> Prop} {a : Act} {w : World} {l : List Oper} (hm : P.follows .mixedOrders = true) (hB : Region.lexB .any l.toArray = true)
  (h : wpQuiet P l.toArray (fun w' => ∃ m, w' = more w m) (fun a' => ∀ w', (∃ m, w' = more w m) -> Q .normal a' w') l a) : (Code.region id l.toArray true).wp P Q a w :=
 wp_region_quiet (C := fun w' => ∃ m, w' = more w m) hm hB ⟨⟨w.drawn + 1, #[]⟩, by simp [more]⟩ (by simpa using h)
theorem zqab {P : Program} {id : Nat} {Q : Exit -> Act -> World -> Prop} {a : Act} {w : World} {m0 : More} {l : List Oper} (hm : P.follows .mixedOrders = true) (hB : Region.lexB .any l.toArray = true)
  (h : wpQuiet P l.toArray (fun w' => ∃ m, w' = more w m) (fun a' => ∀ w', (∃ m, w' = more w m) -> Q .normal a' w') l a) : (Code.region id l.toArray true).wp P Q a (more w m0) :=
 wp_region_quiet (C := fun w' => ∃ m, w' = more w m) hm hB ⟨⟨m0.d + 1, m0.os⟩, rfl⟩ (by simpa using h)
def loadRow (P : Program) (t : TypeId) (v : Value) (w : World) : Result Value := (Instr.loadAt t v).run P w
def zqcw (P : Program) (t : TypeId) (g n : Nat) (w : World) : Option Obj -> Result Value
 | some (.cells cs _ _) => if cs.size = n then .ok (.agg cs) w else if n <= cs.size then .ok (.agg (cs.extract 0 n)) w else (Instr.loadAt t (.pointer (some ⟨g, 0, none⟩))).run P w
 | _ => (Instr.loadAt t (.pointer (some ⟨g, 0, none⟩))).run P w
theorem zqq0 {P : Program} {t : TypeId} {n : Nat} {d : TypeDesc} (hu : P.underlying t = some d) (hd : (match d with | .struct _ | .array _ _ => true | _ => false) = true) (hi : (P.info? t).map (·.size) = some n) (g o : Nat) (w : World) (cs : Array Value) (t' : TypeId) (fr : Nat × Nat) (hg : w.heap[g]? = some (.cells cs t' fr)) (hn : o + n <= cs.size) :
  (Instr.loadAt t (.pointer (some ⟨g, o, none⟩))).run P w = .ok (.agg (cs.extract o (o + n))) w := by
 have h := run_loadAt_mid (P := P) w g o t (cs.extract o (o + n)).toList d (World.rangeAt_of_block hg o n) hu (by cases d <;> simp_all [TypeDesc.isRow]) (by rw [hi]; simp; omega);rw [h]
theorem zqaw {P : Program} {t : TypeId} {n : Nat} {d : TypeDesc} (hu : P.underlying t = some d) (hd : (match d with | .struct _ | .array _ _ => true | _ => false) = true) (hi : (P.info? t).map (·.size) = some n) (g : Nat) (w : World) :
  loadRow P t (.pointer (some ⟨g, 0, none⟩)) w = zqcw P t g n w (zqe w g) := by
 show _ = zqcw P t g n w w.heap[g]?
 cases hg : w.heap[g]? with
 | none => rfl
 | some o =>
  cases o with
  | cells cs t' fr =>
   simp only [zqcw]
   by_cases hc : cs.size = n
   ·rw [if_pos hc]
    subst hc;exact run_loadVar_row w g t' t cs fr d hg hu hd hi
   ·rw [if_neg hc]
    by_cases hl : n <= cs.size
    ·rw [if_pos hl]
     have h := zqq0 hu hd hi g 0 w cs t' fr hg (by omega);rw [Nat.zero_add] at h;exact h
    ·rw [if_neg hl]; rfl
  | _ => rfl
theorem zqj9 {P : Program} {t : TypeId} {g n : Nat} {w : World} (cs : Array Value) (t' : TypeId) (fr : Nat × Nat) (h : cs.size = n) : zqcw P t g n w (some (.cells cs t' fr)) = .ok (.agg cs) w := by
 simp [zqcw, h]
def zqah (ty : TypeId) (v : Value) : Sem Next := do pure (.value (<- Instr.loadAt ty v))
def zqb7 (ty : TypeId) (v x : Value) : Sem Next := do Instr.storeAt ty v x; pure .skip
theorem zqz {P : Program} (ty : TypeId) (v : Value) (w : World) : (zqah ty v).run P w = (loadRow P ty v w).andThen fun v w' => .ok (.value v) w' := by
 simp [zqah, loadRow, Sem.run_bind]
def zqim (P : Program) (t : TypeId) (a v : Value) (w : World) : Result Unit := (Instr.storeAt t a v).run P w
theorem zq6 {P : Program} (ty : TypeId) (v x : Value) (w : World) : (zqb7 ty v x).run P w = (zqim P ty v x w).andThen fun _ w' => .ok .skip w' := by
 simp [zqb7, zqim, Sem.run_bind]
theorem zqn3 (ty : TypeId) (ρ : Operand -> Value) (d : Option Tmp) (x : Operand) (t : TypeId) (pos : String) (af : Array Edge) (g : Option (Nat × Bool)) : execOp ρ ⟨d, .load ty x, t, pos, af, g⟩ = zqah ty (ρ x) := rfl
theorem zquo (ty : TypeId) (ρ : Operand -> Value) (d : Option Tmp) (x y : Operand) (t : TypeId) (pos : String) (af : Array Edge) (g : Option (Nat × Bool)) : execOp ρ ⟨d, .store ty x y, t, pos, af, g⟩ = zqb7 ty (ρ x) (ρ y) := rfl
def zqa0 (cs : Array Value) : Bool := cs.all (·.oneCell')
def zqdl (P : Program) (t : TypeId) (g n : Nat) (v : Value) (w : World) : Option Obj -> Result Unit
 | some (.cells old _ (0, 0)) => match v with
  | .agg cs => if old.size = n /\ cs.size = n /\ zqa0 cs = true then .ok () (w.setRow g cs) else if n <= old.size /\ cs.size = n /\ zqa0 cs = true then .ok () (w.setRow g (zqbs old 0 cs.toList)) else (Instr.storeAt t (.pointer (some ⟨g, 0, none⟩)) v).run P w
  | _ => (Instr.storeAt t (.pointer (some ⟨g, 0, none⟩)) v).run P w
 | _ => (Instr.storeAt t (.pointer (some ⟨g, 0, none⟩)) v).run P w
theorem zqm2 {P : Program} {t : TypeId} {n : Nat} (hi : (P.info? t).map (·.size) = some n) (g o : Nat) (w : World) (old cs : Array Value) (t' : TypeId) (hg : w.heap[g]? = some (.cells old t' (0, 0))) (hc : cs.size = n) (hn : o + n <= old.size) (h1 : zqa0 cs = true) :
  (Instr.storeAt t (.pointer (some ⟨g, o, none⟩)) (.agg cs)).run P w = .ok () (w.setRow g (zqbs old o cs.toList)) := by
 have h := run_storeAt_mid (P := P) w g o t cs (fun j hj => ⟨by rw [cell_of_row w g (o + j) _ _ _ hg]; simp; omega, frozen_of_row w g _ _ _ hg⟩) (by rw [hi, hc]) (by unfold zqa0 at h1; exact h1);rw [h, zqe0 g t' _ o old w hg]
theorem zqar {P : Program} {t : TypeId} {n : Nat} (hi : (P.info? t).map (·.size) = some n) (g : Nat) (cs : Array Value) (w : World) :
  zqim P t (.pointer (some ⟨g, 0, none⟩)) (.agg cs) w = zqdl P t g n (.agg cs) w (zqe w g) := by
 show _ = zqdl P t g n (.agg cs) w w.heap[g]?
 unfold zqdl
 split
 ·rename_i old t' hg
  split
  ·rename_i cs' e
   cases e
   split
   ·rename_i h
    obtain ⟨h1, h2, h3⟩ := h;exact run_storeVar_row w g t' t old cs hg (by rw [hi, h2]) (by rw [h1, h2]) h3
   ·split
    ·rename_i h
     obtain ⟨h1, h2, h3⟩ := h;exact zqm2 hi g 0 w old cs t' hg h2 (by omega) h3
    ·rfl
  ·rename_i hx
   exact (hx _ rfl).elim
 ·rfl
theorem zqok {P : Program} {t : TypeId} {g n : Nat} {w : World} (old cs : Array Value) (t' : TypeId) (h1 : old.size = n) (h2 : cs.size = n) (h3 : zqa0 cs = true) :
  zqdl P t g n (.agg cs) w (some (.cells old t' (0, 0))) = .ok () (w.setRow g cs) := by
 simp only [zqdl]
 rw [if_pos ⟨h1, h2, h3⟩]
/-- a type's size; that it is loaded whole, stored whole -/
noncomputable def szT (T : TypeId) : Nat := ((Tryz.prog.info? T).map (·.size)).getD 0
structure LdP (T n : Nat) : Prop where
  r : ∀ (g : Nat) (w : World), (zqah T (.pointer (some ⟨g, 0, none⟩))).run Tryz.prog w = (zqcw Tryz.prog T g n w (zqe w g)).andThen fun v w' => .ok (.value v) w'
structure StP (T n : Nat) : Prop where
  r : ∀ (g : Nat) (cs : Array Value) (w : World), (zqb7 T (.pointer (some ⟨g, 0, none⟩)) (.agg cs)).run Tryz.prog w = (zqdl Tryz.prog T g n (.agg cs) w (zqe w g)).andThen fun _ w' => .ok .skip w'
attribute [irreducible] szT
@[go_sem ↓ high] theorem zrnq (T : Nat) (ρ : Operand -> Value) (d : Option Tmp) (x : Operand) (t : TypeId) (pos : String) (af : Array Edge) (g : Option (Nat × Bool)) (h : LdP T (szT T)) : execOp ρ ⟨d, .load T x, t, pos, af, g⟩ = zqah T (ρ x) := zqn3 _ ρ d x t pos af g
@[go_sem high] theorem zrl3 (T : Nat) (ρ : Operand -> Value) (d : Option Tmp) (x : Operand) (t : TypeId) (pos : String) (af : Array Edge) (g : Option (Nat × Bool)) (h : LdP T (szT T)) : execOp ρ ⟨d, .load T x, t, pos, af, g⟩ = zqah T (ρ x) := zqn3 _ ρ d x t pos af g
@[go_sem ↓ high] theorem zrnm (T : Nat) (ρ : Operand -> Value) (d : Option Tmp) (x y : Operand) (t : TypeId) (pos : String) (af : Array Edge) (g : Option (Nat × Bool)) (h : StP T (szT T)) : execOp ρ ⟨d, .store T x y, t, pos, af, g⟩ = zqb7 T (ρ x) (ρ y) := zquo _ ρ d x y t pos af g
@[go_sem high] theorem zrl2 (T : Nat) (ρ : Operand -> Value) (d : Option Tmp) (x y : Operand) (t : TypeId) (pos : String) (af : Array Edge) (g : Option (Nat × Bool)) (h : StP T (szT T)) : execOp ρ ⟨d, .store T x y, t, pos, af, g⟩ = zqb7 T (ρ x) (ρ y) := zquo _ ρ d x y t pos af g
@[go_sem] theorem zrnt (T g : Nat) (w : World) (h : LdP T (szT T)) : (zqah T (.pointer (some ⟨g, 0, none⟩))).run Tryz.prog w = (zqcw Tryz.prog T g (szT T) w (zqe w g)).andThen fun v w' => .ok (.value v) w' := h.r g w
@[go_sem] theorem zrno (T g : Nat) (cs : Array Value) (w : World) (h : StP T (szT T)) : (zqb7 T (.pointer (some ⟨g, 0, none⟩)) (.agg cs)).run Tryz.prog w = (zqdl Tryz.prog T g (szT T) (.agg cs) w (zqe w g)).andThen fun _ w' => .ok .skip w' := h.r g cs w
@[go_sem] theorem zrm9 (T n g : Nat) (w : World) (cs : Array Value) (t' : TypeId) (fr : Nat × Nat) (h : cs.size = n) : zqcw Tryz.prog T g n w (some (.cells cs t' fr)) = .ok (.agg cs) w := zqj9 cs t' fr h
@[go_sem] theorem zrni (T n g : Nat) (w : World) (old cs : Array Value) (t' : TypeId) (h1 : old.size = n) (h2 : cs.size = n) (h3 : zqa0 cs = true) : zqdl Tryz.prog T g n (.agg cs) w (some (.cells old t' (0, 0))) = .ok () (w.setRow g cs) := zqok old cs t' h1 h2 h3
@[go_sem] theorem zrdb (k : IntKind) (n : Nat) (f : Nat -> Int) : (ints k n f).size = n := zqi k n f
@[go_sem] theorem ints_at (k : IntKind) (n : Nat) (f : Nat -> Int) (i : Nat) (h : i < (ints k n f).size) : (ints k n f)[i] = .int k (f i) := by simp [ints]
@[go_sem] theorem zrip (k : IntKind) (n : Nat) (f : Nat -> Int) (h : n ≠ 0) : (ints k n f = #[]) = False := by
 simp only [eq_iff_iff, iff_false]
 intro e;have := zqi k n f;rw [e] at this;exact h this.symm
@[go_sem] theorem zqc7 (k : IntKind) (n : Nat) (f : Nat -> Int) : zqa0 (ints k n f) = true := by
 unfold zqa0; rw [Array.all_eq_true]; intro i hi; simp [ints, Value.oneCell']
@[go_sem] theorem zql5 (w : World) (c c' : Array Value) (t : TypeId) (n : Nat) (hn : n = w.heap.size) : (w.alloc (.cells c t)).setRow n c' = w.alloc (.cells c' t) := by
 subst hn;unfold World.setRow World.alloc
 congr 1
 apply Array.ext_getElem?
 intro k
 simp only [Array.getElem?_modify, Array.getElem?_push]
 by_cases hk : k = w.heap.size
 ·subst hk; simp
 ·have hk' : ¬ w.heap.size = k := fun e => hk e.symm
  simp [hk, hk']
@[go_sem] theorem zqc2 (w : World) (o : Obj) (c' : Array Value) (n : Nat) (hn : n < w.heap.size) : (w.alloc o).setRow n c' = (w.setRow n c').alloc o := by
 unfold World.setRow World.alloc
 congr 1
 apply Array.ext_getElem?
 intro k
 simp only [Array.getElem?_modify, Array.getElem?_push, Array.size_modify]
 by_cases hk : k = w.heap.size
 ·subst hk; simp [Nat.ne_of_lt hn]
 ·simp [hk]
@[go_sem] theorem zqjr (w : World) (g : Nat) (cs : Array Value) : zqe (w.setRow g cs) g = (match zqe w g with | some (.cells _ t fr) => some (.cells cs t fr) | o => o) := by
 unfold zqe World.setRow
 simp only [Array.getElem?_modify, if_pos]
 cases w.heap[g]? with
 | none => rfl
 | some o => cases o <;> rfl
@[go_sem] theorem zqia (w : World) (g n : Nat) (cs : Array Value) (h : n ≠ g) : zqe (w.setRow g cs) n = zqe w n := by
 unfold zqe World.setRow
 simp only [Array.getElem?_modify]
 rw [if_neg (fun e => h e.symm)]
theorem Grew.setRow {w w' : World} (h : Below w.heap.size w w') (g : Nat) (cs : Array Value) (hg : w.heap.size <= g) : Below w.heap.size w (w'.setRow g cs) :=
 h.trans ⟨rfl, rfl, rfl, by simp [World.setRow], fun k hk => by
  show ((w'.setRow g cs).heap)[k]? = _
  unfold World.setRow
  simp only [Array.getElem?_modify]
  rw [if_neg (by omega)]⟩
theorem zqk {w : World} {n : Nat} {o : Obj} (g : Nat) (cs : Array Value) (h : zqe w n = some o) (hn : n ≠ g) : zqe (w.setRow g cs) n = some o := (zqia w g n cs hn).trans h
theorem zqq {w : World} {n : Nat} {c : Array Value} {t : TypeId} {fr : Nat × Nat} (cs : Array Value) (h : zqe w n = some (.cells c t fr)) : zqe (w.setRow n cs) n = some (.cells cs t fr) := by
 rw [zqjr, h]
theorem zqh {W : World} {g : Nat} {o : Obj} (h : zqe W g = some o := by (repeat (first | assumption | exact zqg _ _ _ rfl | (refine zqg _ _ _ ?_; (simp; done)) | refine zqj _ ?_ | refine zqx3 _ ?_ | refine zqp _ ?_ | exact zqq _ (by assumption) | apply zqq | refine zqk _ _ ?_ (by first | omega | (simp; omega) | simp)))) : zqe W g = some o := h
theorem zqf {a : Nat} {W w : World} (h : Below a W w := by (repeat (first | assumption | exact Grew.refl _ | refine Grew.more ?_ _ | refine Grew.alloc ?_ _ | refine Grew.drewN ?_ _ | refine Grew.setRow ?_ _ _ (by omega) | refine Grew.setRow ?_ _ _ (by simp; omega) | refine Grew.setRow ?_ _ _ (by simp)))) : Below a W w := h
@[go_sem] theorem zrar (w : World) (c' : Array Value) (n : Nat) : w.drew.setRow n c' = (w.setRow n c').drew := rfl
@[go_sem] theorem zq8a (w : World) (c' : Array Value) (n m : Nat) : (w.drewN m).setRow n c' = (w.setRow n c').drewN m := rfl
@[go_sem] theorem zqf5 (w : World) (c' : Array Value) (n : Nat) (m : More) (hn : n < w.heap.size) : (more w m).setRow n c' = more (w.setRow n c') m := by
 unfold World.setRow more
 congr 1
 apply Array.ext_getElem?
 intro k
 simp only [Array.getElem?_modify, Array.getElem?_append, Array.size_modify]
 by_cases hk : n = k
 ·subst hk; simp [hn]
 ·simp [hk]
@[go_sem] theorem zq69 (w : World) (v : Value) (n i : Nat) (m : More) (hn : n < w.heap.size) : (more w m).setCell ⟨n, i, none⟩ v = more (w.setCell ⟨n, i, none⟩ v) m := by
 unfold World.setCell more
 congr 1
 apply Array.ext_getElem?
 intro k
 simp only [Array.getElem?_modify, Array.getElem?_append, Array.size_modify]
 by_cases hk : n = k
 ·subst hk; simp [hn]
 ·simp [hk]
@[go_sem] theorem zq5p (w : World) (a : Addr) (v : Value) (m : Nat) : (w.drewN m).setCell a v = (w.setCell a v).drewN m := rfl
@[go_sem] theorem zq0 (w : World) (g : Nat) (cs : Array Value) : (w.setRow g cs).heap.size = w.heap.size := size_setRow w g cs
def zqak (P : Program) (t : TypeId) (g o n : Nat) (w : World) : Option Obj -> Result Value
 | some (.cells cs _ _) => if o + n <= cs.size then .ok (.agg (cs.extract o (o + n))) w else (Instr.loadAt t (.pointer (some ⟨g, o, none⟩))).run P w
 | _ => (Instr.loadAt t (.pointer (some ⟨g, o, none⟩))).run P w
theorem zqb3 {P : Program} {t : TypeId} {n : Nat} {d : TypeDesc} (hu : P.underlying t = some d) (hd : (match d with | .struct _ | .array _ _ => true | _ => false) = true) (hi : (P.info? t).map (·.size) = some n) (g o : Nat) (w : World) :
  loadRow P t (.pointer (some ⟨g, o, none⟩)) w = zqak P t g o n w (zqe w g) := by
 show _ = zqak P t g o n w w.heap[g]?
 cases hg : w.heap[g]? with
 | none => rfl
 | some ob =>
  cases ob with
  | cells cs t' fr =>
   simp only [zqak]
   by_cases hc : o + n <= cs.size
   ·rw [if_pos hc]
    exact zqq0 hu hd hi g o w cs t' fr hg hc
   ·rw [if_neg hc]; rfl
  | _ => rfl
def zqbo (P : Program) (t : TypeId) (g o n : Nat) (v : Value) (w : World) : Option Obj -> Result Unit
 | some (.cells old _ (0, 0)) => match v with
  | .agg cs => if o + n <= old.size /\ cs.size = n /\ zqa0 cs = true then .ok () (w.setRow g (zqbs old o cs.toList)) else (Instr.storeAt t (.pointer (some ⟨g, o, none⟩)) v).run P w
  | _ => (Instr.storeAt t (.pointer (some ⟨g, o, none⟩)) v).run P w
 | _ => (Instr.storeAt t (.pointer (some ⟨g, o, none⟩)) v).run P w
theorem zqdk {P : Program} {t : TypeId} {n : Nat} (hi : (P.info? t).map (·.size) = some n) (g o : Nat) (cs : Array Value) (w : World) :
  zqim P t (.pointer (some ⟨g, o, none⟩)) (.agg cs) w = zqbo P t g o n (.agg cs) w (zqe w g) := by
 show _ = zqbo P t g o n (.agg cs) w w.heap[g]?
 unfold zqbo
 split
 ·rename_i old t' hg
  split
  ·rename_i cs' e
   cases e
   split
   ·rename_i h
    obtain ⟨h1, h2, h3⟩ := h;exact zqm2 hi g o w old cs t' hg h2 h1 h3
   ·rfl
  ·rename_i hx
   exact (hx _ rfl).elim
 ·rfl
attribute [irreducible] zqak zqbo
attribute [irreducible] zqa0 zqcw zqdl loadRow zqim zqah zqb7
theorem zqag {P : Program} {fn : Func} {R : Ending -> World -> Prop} {a : Act} {w : World} {p : Tmp} {ty : TypeId} (h : fn.results = #[.cell p ty]) (g : Nat) (t : TypeId) (cs : Array Value) (fr : Nat × Nat) (d : TypeDesc)
  (hp : a.tmps.getD p undef = .pointer (some ⟨g, 0, none⟩)) (hg : zqe w g = some (.cells cs t fr))
  (hu : P.underlying ty = some d) (hd : (match d with | .struct _ | .array _ _ => true | _ => false) = true) (hi : (P.info? ty).map (·.size) = some cs.size) (hD : a.defers = []) (hR : R (.returned (.agg cs)) w) : bodyPost P fn R .ret a w :=
 bodyPost_ret_by (results_cell_row h a.tmps w g t cs fr d hp (by unfold zqe at hg; exact hg) hu hd hi) hD hR
theorem zqkx {P : Program} {fn : Func} {R : Ending -> World -> Prop} {a : Act} {w : World} {p q : Tmp} {ty ty' : TypeId} (h : fn.results = #[.cell p ty, .cell q ty']) (g g' : Nat) (t t' : TypeId) (cs cs' : Array Value) (fr fr' : Nat × Nat) (d d' : TypeDesc)
  (hp : a.tmps.getD p undef = .pointer (some ⟨g, 0, none⟩)) (hq : a.tmps.getD q undef = .pointer (some ⟨g', 0, none⟩)) (hg : zqe w g = some (.cells cs t fr)) (hg' : zqe w g' = some (.cells cs' t' fr'))
  (hu : P.underlying ty = some d) (hd : (match d with | .struct _ | .array _ _ => true | _ => false) = true) (hi : (P.info? ty).map (·.size) = some cs.size)
  (hu' : P.underlying ty' = some d') (hd' : (match d' with | .struct _ | .array _ _ => true | _ => false) = true) (hi' : (P.info? ty').map (·.size) = some cs'.size)
  (hD : a.defers = []) (hR : R (.returned (.tuple #[.agg cs, .agg cs'])) w) : bodyPost P fn R .ret a w := by
 refine bodyPost_ret_by ?_ hD hR
 have hp' : a.tmps[p]?.getD undef = .pointer (some ⟨g, 0, none⟩) := by simpa using hp
 have hq' : a.tmps[q]?.getD undef = .pointer (some ⟨g', 0, none⟩) := by simpa using hq
 unfold zqe at hg hg'
 simp [results, h, hp', hq', asAddr, run_loadVar_row w g t ty cs fr d hg hu hd hi, run_loadVar_row w g' t' ty' cs' fr' d' hg' hu' hd' hi']
def cellOf (o : Option Obj) (i : Nat) : Option Value := match o with | some (.cells c _ _) => c[i]? | _ => none
def zqf7 (o : Option Obj) (i : Nat) : Bool := match o with | some (.cells _ _ (lo, hi)) => lo <= i && i < hi | _ => false
def zqgg (w : World) (n i : Nat) (v : Value) (o : Option Obj) : World := match o with | some (.cells c _ (0, 0)) => w.setRow n (c.setIfInBounds i v) | _ => w.setCell ⟨n, i, none⟩ v
theorem zqb9 (c : Array Value) (t : TypeId) (fr : Nat × Nat) (i : Nat) : cellOf (some (.cells c t fr)) i = c[i]? := rfl
theorem zqhl (c : Array Value) (t : TypeId) (i : Nat) : zqf7 (some (.cells c t (0, 0))) i = false := by simp [zqf7]
theorem zqld (w : World) (n i : Nat) (v : Value) (c : Array Value) (t : TypeId) : zqgg w n i v (some (.cells c t (0, 0))) = w.setRow n (c.setIfInBounds i v) := rfl
theorem zqhf (w : World) (n i : Nat) : w.cell? ⟨n, i, none⟩ = cellOf (zqe w n) i := by
 unfold World.cell? cellOf zqe
 cases h : w.heap[n]? with
 | none => simp
 | some o => cases o <;> simp
theorem zqm4 (w : World) (n i : Nat) : w.frozen? ⟨n, i, none⟩ = zqf7 (zqe w n) i := by
 unfold World.frozen? zqf7 zqe
 cases h : w.heap[n]? with
 | none => simp
 | some o => cases o <;> simp
theorem zqlu (w : World) (n i : Nat) (v : Value) : w.setCell ⟨n, i, none⟩ v = zqgg w n i v (zqe w n) := by
 unfold zqgg
 split
 ·rename_i c t h
  unfold zqe at h;exact setCell_eq_setRow w n i c t (0, 0) v h
 ·rfl
attribute [go_sem] zqb9 zqhl zqld
attribute [go_sem low] zqhf zqm4 zqlu
attribute [irreducible] cellOf zqf7 zqgg
@[go_sem] theorem zrmp : szT 29 = 32 := by kernel_rfl
@[go_sem] theorem zrl9 : LdP 29 32 := ⟨fun g w => by rw [zqz, zqaw Tryz.underlying29 rfl zqb g w]⟩
@[go_sem] theorem zrl6 : StP 29 32 := ⟨fun g cs w => by rw [zq6, zqar zqb g cs w]⟩
@[go_sem high] theorem zrer (w : World) : (zeroValue 29).run Tryz.prog w = .ok (.agg (ints .u8 32 zqd)) w := by kernel_rfl
@[go_sem ↓ high] theorem zqbp (w : World) : (zeroValue 29).run Tryz.prog w = .ok (.agg (ints .u8 32 zqd)) w := by kernel_rfl
@[go_sem high] theorem zrio (f g : Nat -> Int) (w : World) : (binOp .eql 29 (.agg (ints .u8 32 f)) (.agg (ints .u8 32 g))).run Tryz.prog w = .ok (.bool (same 32 f g)) w :=
 zqb0 w .u8 f g Tryz.underlying29 Tryz.underlying5 (i := (Tryz.prog.info? 5).get zqb) zqb zqb
@[go_sem high] theorem zrke (f g : Nat -> Int) (w : World) : (binOp .neq 29 (.agg (ints .u8 32 f)) (.agg (ints .u8 32 g))).run Tryz.prog w = .ok (.bool (!same 32 f g)) w :=
 zqb1 w .u8 f g Tryz.underlying29 Tryz.underlying5 (i := (Tryz.prog.info? 5).get zqb) zqb zqb
@[go_sem] theorem zren (k' : IntKind) (f : Nat -> Int) (j : Int) (w : World) (h0 : 0 <= j) (h1 : j < 32) : (Instr.index 29 (.agg (ints .u8 32 f)) (.int k' j)).run Tryz.prog w = .ok (.int .u8 (f j.toNat)) w :=
 zqbb w .u8 k' f j Tryz.underlying29 Tryz.underlying5 (i := (Tryz.prog.info? 5).get zqb) zqb zqb h0 h1
@[go_sem ↓ high] theorem zq7m (ty : TypeId) (cs : Array Bool) (args : Array Value) : builtin .append #[157, 157] ty cs args = zqr #[157, 157] ty args := by unfold zqr; rfl
@[go_sem] theorem zq1u (ty : TypeId) (b n cap b2 m c : Nat) (w : World) : (zqr #[157, 157] ty #[.slice (some ⟨b, 0, none⟩) n cap, .slice (some ⟨b2, 0, none⟩) m c]).run Tryz.prog w =
  zqg6 Tryz.prog #[157, 157] ty b n cap b2 m c w (zqe w b) (zqe w b2) := zq1t Tryz.underlying157 (ie := (Tryz.prog.info? 5).get zqb) zqb zqb ty b n cap b2 m c w
attribute [go_sem] zqq3
theorem zqs {W w1 : World} {n : Nat} {v : Option Obj} (e : W = w1) (h : zqe W n = v := by exact zqh) : zqe w1 n = v := e ▸ h
theorem zqam {a W w1 : World} (e : W = w1) (h : Below a.heap.size a W := by exact zqf) : Below a.heap.size a w1 := e ▸ h
@[go_sem] theorem zrjz : szT 136 = 5 := by kernel_rfl
@[go_sem] theorem zrkk : LdP 136 5 := ⟨fun g w => by rw [zqz, zqaw Tryz.underlying136 rfl zqb g w]⟩
@[go_sem] theorem zrk6 : StP 136 5 := ⟨fun g cs w => by rw [zq6, zqar zqb g cs w]⟩
@[go_sem high] theorem zrda (w : World) : (zeroValue 136).run Tryz.prog w = .ok (.agg (ints .u64 5 zqd)) w := by kernel_rfl
@[go_sem ↓ high] theorem zqbf (w : World) : (zeroValue 136).run Tryz.prog w = .ok (.agg (ints .u64 5 zqd)) w := by kernel_rfl
@[go_sem high] theorem zrho (f g : Nat -> Int) (w : World) : (binOp .eql 136 (.agg (ints .u64 5 f)) (.agg (ints .u64 5 g))).run Tryz.prog w = .ok (.bool (same 5 f g)) w :=
 zqb0 w .u64 f g Tryz.underlying136 Tryz.underlying134 (i := (Tryz.prog.info? 134).get zqb) zqb zqb
@[go_sem high] theorem zrhf (f g : Nat -> Int) (w : World) : (binOp .neq 136 (.agg (ints .u64 5 f)) (.agg (ints .u64 5 g))).run Tryz.prog w = .ok (.bool (!same 5 f g)) w :=
 zqb1 w .u64 f g Tryz.underlying136 Tryz.underlying134 (i := (Tryz.prog.info? 134).get zqb) zqb zqb
@[go_sem] theorem zrcd (k' : IntKind) (f : Nat -> Int) (j : Int) (w : World) (h0 : 0 <= j) (h1 : j < 5) : (Instr.index 136 (.agg (ints .u64 5 f)) (.int k' j)).run Tryz.prog w = .ok (.int .u64 (f j.toNat)) w :=
 zqbb w .u64 k' f j Tryz.underlying136 Tryz.underlying134 (i := (Tryz.prog.info? 134).get zqb) zqb zqb h0 h1
@[go_sem] theorem zrll : szT 168 = 4 := by kernel_rfl
@[go_sem] theorem zrlb : LdP 168 4 := ⟨fun g w => by rw [zqz, zqaw Tryz.underlying168 rfl zqb g w]⟩
@[go_sem] theorem zrku : StP 168 4 := ⟨fun g cs w => by rw [zq6, zqar zqb g cs w]⟩
@[go_sem high] theorem zq89 (w : World) : (zeroValue 168).run Tryz.prog w = .ok (.agg (ints .u64 4 zqd)) w := by kernel_rfl
@[go_sem ↓ high] theorem zrcj (w : World) : (zeroValue 168).run Tryz.prog w = .ok (.agg (ints .u64 4 zqd)) w := by kernel_rfl
@[go_sem high] theorem zrea (f g : Nat -> Int) (w : World) : (binOp .eql 168 (.agg (ints .u64 4 f)) (.agg (ints .u64 4 g))).run Tryz.prog w = .ok (.bool (same 4 f g)) w :=
 zqb0 w .u64 f g Tryz.underlying168 Tryz.underlying134 (i := (Tryz.prog.info? 134).get zqb) zqb zqb
@[go_sem high] theorem zrfs (f g : Nat -> Int) (w : World) : (binOp .neq 168 (.agg (ints .u64 4 f)) (.agg (ints .u64 4 g))).run Tryz.prog w = .ok (.bool (!same 4 f g)) w :=
 zqb1 w .u64 f g Tryz.underlying168 Tryz.underlying134 (i := (Tryz.prog.info? 134).get zqb) zqb zqb
@[go_sem] theorem zrbt (k' : IntKind) (f : Nat -> Int) (j : Int) (w : World) (h0 : 0 <= j) (h1 : j < 4) : (Instr.index 168 (.agg (ints .u64 4 f)) (.int k' j)).run Tryz.prog w = .ok (.int .u64 (f j.toNat)) w :=
 zqbb w .u64 k' f j Tryz.underlying168 Tryz.underlying134 (i := (Tryz.prog.info? 134).get zqb) zqb zqb h0 h1
@[go_sem] theorem zrkt : szT 142 = 16 := by kernel_rfl
@[go_sem] theorem zrin : LdP 142 16 := ⟨fun g w => by rw [zqz, zqaw Tryz.underlying142 rfl zqb g w]⟩
@[go_sem] theorem zrja : StP 142 16 := ⟨fun g cs w => by rw [zq6, zqar zqb g cs w]⟩
@[go_sem high] theorem zrfx (w : World) : (zeroValue 142).run Tryz.prog w = .ok (.agg (ints .i64 16 zqd)) w := by kernel_rfl
@[go_sem ↓ high] theorem zqby (w : World) : (zeroValue 142).run Tryz.prog w = .ok (.agg (ints .i64 16 zqd)) w := by kernel_rfl
@[go_sem high] theorem zrjk (f g : Nat -> Int) (w : World) : (binOp .eql 142 (.agg (ints .i64 16 f)) (.agg (ints .i64 16 g))).run Tryz.prog w = .ok (.bool (same 16 f g)) w :=
 zqb0 w .i64 f g Tryz.underlying142 Tryz.underlying3 (i := (Tryz.prog.info? 3).get zqb) zqb zqb
@[go_sem high] theorem zrk0 (f g : Nat -> Int) (w : World) : (binOp .neq 142 (.agg (ints .i64 16 f)) (.agg (ints .i64 16 g))).run Tryz.prog w = .ok (.bool (!same 16 f g)) w :=
 zqb1 w .i64 f g Tryz.underlying142 Tryz.underlying3 (i := (Tryz.prog.info? 3).get zqb) zqb zqb
@[go_sem] theorem zreu (k' : IntKind) (f : Nat -> Int) (j : Int) (w : World) (h0 : 0 <= j) (h1 : j < 16) : (Instr.index 142 (.agg (ints .i64 16 f)) (.int k' j)).run Tryz.prog w = .ok (.int .i64 (f j.toNat)) w :=
 zqbb w .i64 k' f j Tryz.underlying142 Tryz.underlying3 (i := (Tryz.prog.info? 3).get zqb) zqb zqb h0 h1
@[go_sem] theorem zrl1 : szT 28 = 32 := by kernel_rfl
@[go_sem] theorem zrmc : LdP 28 32 := ⟨fun g w => by rw [zqz, zqaw Tryz.underlying28 rfl zqb g w]⟩
@[go_sem] theorem zrm2 : StP 28 32 := ⟨fun g cs w => by rw [zq6, zqar zqb g cs w]⟩
@[go_sem high] theorem zq9u (w : World) : (zeroValue 28).run Tryz.prog w = .ok (.agg (ints .u8 32 zqd)) w := by kernel_rfl
@[go_sem ↓ high] theorem zrdc (w : World) : (zeroValue 28).run Tryz.prog w = .ok (.agg (ints .u8 32 zqd)) w := by kernel_rfl
@[go_sem high] theorem zrds (f g : Nat -> Int) (w : World) : (binOp .eql 28 (.agg (ints .u8 32 f)) (.agg (ints .u8 32 g))).run Tryz.prog w = .ok (.bool (same 32 f g)) w :=
 zqb0 w .u8 f g Tryz.underlying28 Tryz.underlying5 (i := (Tryz.prog.info? 5).get zqb) zqb zqb
@[go_sem high] theorem zrgo (f g : Nat -> Int) (w : World) : (binOp .neq 28 (.agg (ints .u8 32 f)) (.agg (ints .u8 32 g))).run Tryz.prog w = .ok (.bool (!same 32 f g)) w :=
 zqb1 w .u8 f g Tryz.underlying28 Tryz.underlying5 (i := (Tryz.prog.info? 5).get zqb) zqb zqb
@[go_sem] theorem zq9e (k' : IntKind) (f : Nat -> Int) (j : Int) (w : World) (h0 : 0 <= j) (h1 : j < 32) : (Instr.index 28 (.agg (ints .u8 32 f)) (.int k' j)).run Tryz.prog w = .ok (.int .u8 (f j.toNat)) w :=
 zqbb w .u8 k' f j Tryz.underlying28 Tryz.underlying5 (i := (Tryz.prog.info? 5).get zqb) zqb zqb h0 h1
@[go_sem] theorem zrj9 : szT 135 = 5 := by kernel_rfl
@[go_sem] theorem zrk7 : LdP 135 5 := ⟨fun g w => by rw [zqz, zqaw Tryz.underlying135 rfl zqb g w]⟩
@[go_sem] theorem zrjg : StP 135 5 := ⟨fun g cs w => by rw [zq6, zqar zqb g cs w]⟩
@[go_sem high] theorem zrci (w : World) : (zeroValue 135).run Tryz.prog w = .ok (.agg (ints .u64 5 zqd)) w := by kernel_rfl
@[go_sem ↓ high] theorem zrf5 (w : World) : (zeroValue 135).run Tryz.prog w = .ok (.agg (ints .u64 5 zqd)) w := by kernel_rfl
@[go_sem high] theorem zrh0 (f g : Nat -> Int) (w : World) : (binOp .eql 135 (.agg (ints .u64 5 f)) (.agg (ints .u64 5 g))).run Tryz.prog w = .ok (.bool (same 5 f g)) w :=
 zqb0 w .u64 f g Tryz.underlying135 Tryz.underlying134 (i := (Tryz.prog.info? 134).get zqb) zqb zqb
@[go_sem high] theorem zrgs (f g : Nat -> Int) (w : World) : (binOp .neq 135 (.agg (ints .u64 5 f)) (.agg (ints .u64 5 g))).run Tryz.prog w = .ok (.bool (!same 5 f g)) w :=
 zqb1 w .u64 f g Tryz.underlying135 Tryz.underlying134 (i := (Tryz.prog.info? 134).get zqb) zqb zqb
@[go_sem] theorem zrcq (k' : IntKind) (f : Nat -> Int) (j : Int) (w : World) (h0 : 0 <= j) (h1 : j < 5) : (Instr.index 135 (.agg (ints .u64 5 f)) (.int k' j)).run Tryz.prog w = .ok (.int .u64 (f j.toNat)) w :=
 zqbb w .u64 k' f j Tryz.underlying135 Tryz.underlying134 (i := (Tryz.prog.info? 134).get zqb) zqb zqb h0 h1
def zqu (x z : Nat -> Int) : Nat -> Int := fun i => if i < 5 then x i else z (i - 5)
@[go_sem] theorem zrko : szT 161 = 10 := by kernel_rfl
@[go_sem] theorem zrji : LdP 161 10 := ⟨fun g w => by rw [zqz, zqaw Tryz.underlying161 rfl zqb g w]⟩
@[go_sem] theorem zrlt : StP 161 10 := ⟨fun g cs w => by rw [zq6, zqar zqb g cs w]⟩
@[go_sem high] theorem zrcy (w : World) : (zeroValue 161).run Tryz.prog w = .ok (.agg (ints .u64 10 (zqu zqd zqd))) w := by kernel_rfl
@[go_sem ↓ high] theorem zqbg (w : World) : (zeroValue 161).run Tryz.prog w = .ok (.agg (ints .u64 10 (zqu zqd zqd))) w := by kernel_rfl
theorem zq1e (x z : Nat -> Int) : (ints .u64 10 (zqu x z)).extract 0 5 = ints .u64 5 x := by kernel_rfl
theorem zqyx (x z : Nat -> Int) : (ints .u64 10 (zqu x z)).extract 5 (5 + 5) = ints .u64 5 z := by kernel_rfl
theorem zri6 (x z a : Nat -> Int) : zqbs (ints .u64 10 (zqu x z)) 0 (ints .u64 5 a).toList = ints .u64 10 (zqu a z) := by kernel_rfl
theorem zrik (x z a : Nat -> Int) : zqbs (ints .u64 10 (zqu x z)) 5 (ints .u64 5 a).toList = ints .u64 10 (zqu x a) := by kernel_rfl
@[go_sem] theorem zrcs (g : Nat) (w : World) (x z : Nat -> Int) (t' : TypeId) (fr : Nat × Nat) : zqcw Tryz.prog 136 g 5 w (some (.cells (ints .u64 10 (zqu x z)) t' fr)) = .ok (.agg (ints .u64 5 x)) w := by
 unfold zqcw
 simp only [zqi]
 rw [if_neg (by decide), if_pos (by decide), zq1e]
@[go_sem] theorem zrbg (g : Nat) (w : World) (x z a : Nat -> Int) (t' : TypeId) : zqdl Tryz.prog 136 g 5 (.agg (ints .u64 5 a)) w (some (.cells (ints .u64 10 (zqu x z)) t' (0, 0))) = .ok () (w.setRow g (ints .u64 10 (zqu a z))) := by
 unfold zqdl
 simp only [zqi]
 rw [if_neg (fun h => absurd h.1 (by decide)), if_pos ⟨by decide, by trivial, zqc7 _ _ _⟩, zri6]
@[go_sem] theorem zq4u (g : Nat) (w : World) : (zqah 136 (.pointer (some ⟨g, 5, none⟩))).run Tryz.prog w = (zqak Tryz.prog 136 g 5 5 w (zqe w g)).andThen fun v w' => .ok (.value v) w' := by
 rw [zqz, zqb3 Tryz.underlying136 rfl zqb g 5 w]
@[go_sem] theorem zrcn (g : Nat) (w : World) (x z : Nat -> Int) (t' : TypeId) (fr : Nat × Nat) : zqak Tryz.prog 136 g 5 5 w (some (.cells (ints .u64 10 (zqu x z)) t' fr)) = .ok (.agg (ints .u64 5 z)) w := by
 unfold zqak
 simp only [zqi]
 rw [if_pos (by decide), zqyx]
@[go_sem] theorem zq3e (g : Nat) (cs : Array Value) (w : World) : (zqb7 136 (.pointer (some ⟨g, 5, none⟩)) (.agg cs)).run Tryz.prog w = (zqbo Tryz.prog 136 g 5 5 (.agg cs) w (zqe w g)).andThen fun _ w' => .ok .skip w' := by
 rw [zq6, zqdk zqb g 5 cs w]
@[go_sem] theorem zq9s (g : Nat) (w : World) (x z a : Nat -> Int) (t' : TypeId) : zqbo Tryz.prog 136 g 5 5 (.agg (ints .u64 5 a)) w (some (.cells (ints .u64 10 (zqu x z)) t' (0, 0))) = .ok () (w.setRow g (ints .u64 10 (zqu x a))) := by
 unfold zqbo
 simp only [zqi]
 rw [if_pos ⟨by decide, by trivial, zqc7 _ _ _⟩, zrik]
@[go_sem] theorem zq8r (x z : Nat -> Int) (w : World) : (Instr.field 161 (.agg (ints .u64 10 (zqu x z))) 0).run Tryz.prog w = .ok (.agg (ints .u64 5 x)) w := by kernel_rfl
@[go_sem] theorem zrbi (x z : Nat -> Int) (w : World) : (Instr.field 161 (.agg (ints .u64 10 (zqu x z))) 1).run Tryz.prog w = .ok (.agg (ints .u64 5 z)) w := by kernel_rfl
def zqgx (x z : Value) : Sem Next := do pure (.value (<- Instr.build 161 #[(0, x), (1, z)]))
def zqjo (x : Value) : Sem Next := do pure (.value (<- Instr.build 161 #[(0, x)]))
@[go_sem ↓ high] theorem zrkh (ρ : Operand -> Value) (d : Option Tmp) (x y : Operand) (t : TypeId) (pos : String) (af : Array Edge) (g : Option (Nat × Bool)) :
  execOp ρ ⟨d, .build 161 #[(0, x), (1, y)], t, pos, af, g⟩ = zqgx (ρ x) (ρ y) := by simp [execOp, zqgx]
@[go_sem high] theorem zrih (ρ : Operand -> Value) (d : Option Tmp) (x y : Operand) (t : TypeId) (pos : String) (af : Array Edge) (g : Option (Nat × Bool)) :
  execOp ρ ⟨d, .build 161 #[(0, x), (1, y)], t, pos, af, g⟩ = zqgx (ρ x) (ρ y) := by simp [execOp, zqgx]
@[go_sem ↓ high] theorem zrhh (ρ : Operand -> Value) (d : Option Tmp) (x : Operand) (t : TypeId) (pos : String) (af : Array Edge) (g : Option (Nat × Bool)) :
  execOp ρ ⟨d, .build 161 #[(0, x)], t, pos, af, g⟩ = zqjo (ρ x) := by simp [execOp, zqjo]
@[go_sem high] theorem zrdu (ρ : Operand -> Value) (d : Option Tmp) (x : Operand) (t : TypeId) (pos : String) (af : Array Edge) (g : Option (Nat × Bool)) :
  execOp ρ ⟨d, .build 161 #[(0, x)], t, pos, af, g⟩ = zqjo (ρ x) := by simp [execOp, zqjo]
@[go_sem] theorem zrif (x z : Nat -> Int) (w : World) : (zqgx (.agg (ints .u64 5 x)) (.agg (ints .u64 5 z))).run Tryz.prog w = .ok (.value (.agg (ints .u64 10 (zqu x z)))) w := by kernel_rfl
@[go_sem] theorem zrfj (x : Nat -> Int) (w : World) : (zqjo (.agg (ints .u64 5 x))).run Tryz.prog w = .ok (.value (.agg (ints .u64 10 (zqu x zqd)))) w := by kernel_rfl
attribute [irreducible] zqgx zqjo
end Go.Proofs.YtfglcifnjaknnaaGreatDoor
