/- Frame -/
import Derived.Test.YtdoolhbmekahdaaGreatDoorRows
import Derived.Test.YtdoolhbmekahdaaGreatDoorMem
import Derived.ProofKit
import Derived.OpenShut
import Derived.ShutString
import Derived.ChangeOld
import Derived.Test.YtdoolhbmekahdaaGreatDoorMath02
import Derived.Deep.Slices
import Derived.Test.YtdoolhbmekahdaaGreatDoorRel
set_option maxRecDepth 100000
set_option maxHeartbeats 4000000
namespace Go.Proofs.YtdoolhbmekahdaaGreatDoor
open Go.ChangeShapes Go.WideShapes Go.ChangeAt Go.RowKit
set_option linter.unusedVariables false
set_option linter.unusedSimpArgs false
theorem own : ownKnob Tryz.prog.godebug = none := by kernel_rfl
theorem laidOut : laidOutB Tryz.prog = true := by kernel_rfl
end Go.Proofs.YtdoolhbmekahdaaGreatDoor
namespace Go.Proofs.YtdoolhbmekahdaaGreatDoor
open Go.ChangeShapes Go.WideShapes Go.ChangeAt Go.RowKit
set_option linter.unusedVariables false
set_option linter.unusedSimpArgs false
theorem cell_lt {W : World} {p : Addr} {v : Value} (h : W.cell? p = some v) : p.block < W.heap.size := by
 unfold World.cell? at h
 rcases Nat.lt_or_ge p.block W.heap.size with h' | h'
 ·exact h'
 ·rw [Array.getElem?_eq_none h'] at h; cases h
theorem run_load_row {P : Program} {t : TypeId} {n : Nat} {d : TypeDesc} (hu : P.underlying t = some d) (hd : (match d with | .struct _ | .array _ _ => true | _ => false) = true) (hi : (P.info? t).map (·.size) = some n)
  (w : World) (a : Addr) (cs : Array Value) (hcs : cs.size = n) (h : ∀ j, j < n → w.cell? (a.add j) = cs[j]?) : (loadNext t (.pointer (some a))).run P w = .ok (.value (.agg cs)) w := by
 have hl : (loadCells a cs.toList.length).run P w = .ok cs.toList.toArray w :=
  run_loadCells_list (P := P) w a cs.toList (fun j v hv => by
   have hj : j < cs.size := by
    rcases Nat.lt_or_ge j cs.size with h | h
    ·exact h
    ·rw [List.getElem?_eq_none (by simpa using h)] at hv; cases hv
   rw [h j (by omega)]
   simpa using hv)
 cases hq : P.info? t with
 | none => simp [hq] at hi
 | some i =>
  have hs : i.size = cs.size := by simp [hq] at hi; omega
  have hagg : (isAgg t).run P w = .ok true w := by
   unfold isAgg
   rw [Sem.run_bind, run_underlying hu w]
   cases d <;> simp_all
  simp only [Array.length_toList, Array.toArray_toList] at hl
  have e : loadRow P t (.pointer (some a)) w = .ok (.agg cs) w := by
   unfold loadRow
   simp [Instr.loadAt, Instr.sureAddr, loadVar, Sem.run_bind, hagg, sizeOf, typeInfo, hq, hs, hl]
  rw [run_loadNext, e]
  rfl
end Go.Proofs.YtdoolhbmekahdaaGreatDoor
namespace Go.Proofs.YtdoolhbmekahdaaGreatDoor
set_option linter.unusedVariables false
set_option linter.unusedSimpArgs false
def initL : List Char := [104, 97, 114, 110, 101, 115, 115, 32, 101, 57, 98, 56, 53, 50, 102, 56, 100, 100, 54, 52, 97, 57, 49, 100, 52, 101, 49, 99, 101, 97, 99, 52, 98, 97, 99, 48, 101, 97, 53, 49, 102, 52, 100, 52, 49, 100, 102, 100, 56, 101, 55, 51, 49, 101, 100, 48, 102, 98, 54, 99, 101, 55, 57, 52, 50, 100, 52, 49, 49, 51, 56, 54, 32, 99, 117, 116, 32, 97, 116, 32, 115, 97, 112, 119, 111, 111, 100, 47, 115, 97, 112, 119, 111, 111, 100, 108, 97, 119, 50, 56, 46, 77, 97, 99, 104, 105, 110, 101, 83, 101, 101, 100, 115].map Char.ofNat
theorem init_is : Tryz.prog.initOrder = String.ofList initL := by kernel_rfl
theorem init_signs : Tryz.prog.initOrder.toList = initL := by rw [init_is]; exact String.toList_ofList
theorem init_words : behindMainWord (wordsSigns Tryz.prog.initOrder.toList) = "cut".toList :: (behindMainWord (wordsSigns initL)).tail := by rw [init_signs]; kernel_rfl
theorem make_of (P : Program) (r : List (List Char)) (h : behindMainWord (wordsSigns P.initOrder.toList) = "cut".toList :: r) : P.make = some .cut := by
 unfold Program.make
 rw [h]
 rfl
theorem enter_of (P : Program) (r : List (List Char)) (h : behindMainWord (wordsSigns P.initOrder.toList) = "cut".toList :: r) (h1 : stripLifts liftWords ("cut".toList :: r) = ([], "cut".toList :: r)) (hl : P.laysLater = false) (hb : P.bearsReflect = false) (hd : P.doorFits [] = true) : P.mayEnter = true := by
 unfold Program.mayEnter
 rw [h]
 simp only [h1, hl, hb, hd]
 rfl
theorem may_enter : Tryz.prog.mayEnter = true := enter_of _ _ init_words (by kernel_rfl) (by kernel_rfl) (by kernel_rfl) (by kernel_rfl)
theorem make_is : Tryz.prog.make = some .cut := make_of _ _ init_words
theorem lifts_is : Tryz.prog.liftsFinal = false := by unfold Program.liftsFinal Program.headLifts; rw [init_signs]; kernel_rfl
theorem via_all (P : Program) (q : FuncId → Prop) (hq : ∀ g, q g → ∀ h, h ∈ ((P.funcs[g]?).elim [] P.leadsTo) → q h) : ∀ (n : Nat) (todo seen : List FuncId), (∀ x, x ∈ todo → q x) → (∀ x, x ∈ seen → q x) → ∀ x, x ∈ P.closureVia n todo seen → q x
 | 0, todo, seen, ht, hs, x, hx => by
  unfold Program.closureVia at hx
  exact hs x (List.mem_reverse.1 hx)
 | n + 1, [], seen, ht, hs, x, hx => by
  unfold Program.closureVia at hx
  exact hs x (List.mem_reverse.1 hx)
 | n + 1, f :: todo, seen, ht, hs, x, hx => by
  unfold Program.closureVia at hx
  have hf := ht f (List.mem_cons_self ..)
  have ht' : ∀ x, x ∈ todo → q x := fun x hx => ht x (List.mem_cons_of_mem _ hx)
  split at hx
  ·exact via_all P q hq n todo seen ht' hs x hx
  ·refine via_all P q hq n _ (f :: seen) ?_ ?_ x hx
   ·intro y hy
    rcases List.mem_append.1 hy with hy | hy
    ·exact hq f hf y hy
    ·exact ht' y hy
   ·intro y hy
    rcases List.mem_cons.1 hy with rfl | hy
    ·exact hf
    ·exact hs y hy
theorem closure_all (P : Program) (q : FuncId → Prop) (hq : ∀ g, q g → ∀ h, h ∈ ((P.funcs[g]?).elim [] P.leadsTo) → q h) (f : FuncId) (hf : q f) : ∀ x, x ∈ P.closure f → q x := by
 unfold Program.closure
 exact via_all P q hq _ [f] [] (fun x hx => by rw [List.mem_singleton.1 hx]; exact hf) (fun x hx => absurd hx (List.not_mem_nil))
theorem norec_of (P : Program) (R : Nat → Nat) (hR : ((List.range P.funcs.size).all fun g => R g == 0 || ((P.funcs[g]?).elim [] P.leadsTo).all fun h => decide (R h ≠ 0) && decide (R h < R g)) = true) (f : FuncId) (hf : R f ≠ 0) : P.recurses f = P.unfollowed f := by
 have hR' : ∀ g : Nat, R g ≠ 0 → ∀ h, h ∈ ((P.funcs[g]?).elim [] P.leadsTo) → R h ≠ 0 ∧ R h < R g := fun g hg h hh => by
  by_cases hs : g < P.funcs.size
  ·have h1 := List.all_eq_true.1 hR g (List.mem_range.2 hs)
   rw [Bool.or_eq_true] at h1
   rcases h1 with h1 | h1
   ·exact absurd (beq_iff_eq.1 h1) hg
   ·have h2 := List.all_eq_true.1 h1 h hh
    rw [Bool.and_eq_true] at h2
    exact ⟨of_decide_eq_true h2.1, of_decide_eq_true h2.2⟩
  ·rw [Array.getElem?_eq_none (by omega)] at hh
   exact absurd hh (List.not_mem_nil)
 unfold Program.recurses
 have e : ((P.closure f).any fun g => ((P.funcs[g]?).elim [] P.leadsTo).any fun h => (P.closure h).contains g) = false := by
  rw [List.any_eq_false]
  intro g hg hx
  have hg0 := closure_all P (fun x => R x ≠ 0) (fun g hg h hh => (hR' g hg h hh).1) f hf g hg
  obtain ⟨h, hh, hc⟩ := List.any_eq_true.1 hx
  obtain ⟨h0, h1⟩ := hR' g hg0 h hh
  have h2 := closure_all P (fun x => R x ≠ 0 ∧ R x ≤ R h) (fun g hg k hk => by
   have := hR' g hg.1 k hk
   exact ⟨this.1, by omega⟩) h ⟨h0, Nat.le_refl _⟩ g (List.contains_iff_mem.1 hc)
  omega
 rw [e, Bool.or_false]
def rankL : List Nat := [1, 1, 2, 0, 0, 15, 1, 0, 0, 1, 14, 12, 1, 4, 0, 0, 13, 12, 4, 8, 11, 11, 3, 1, 0, 7, 1, 8, 0, 0, 12, 11, 3, 3, 1, 1, 7, 1, 2, 10, 1, 1, 1, 2, 2, 2, 2, 1, 0, 1, 6, 5, 2, 1, 1, 6, 1, 1, 1, 1, 2, 0, 0, 2, 0, 0, 0, 0, 12, 0, 1, 10, 1, 8, 1, 8, 9, 2, 2, 6, 1, 1, 3, 9, 1, 1, 1, 1, 0, 5, 1, 4, 5, 1, 0, 0, 0, 0, 0, 0, 0, 24, 23, 5, 4, 4, 3, 11, 4, 4, 4, 4, 4, 10, 0, 4, 7, 5, 1, 1, 3, 5, 4, 2, 5, 8, 1, 1, 1, 0, 4, 3, 4, 2, 2, 2, 0, 0, 0, 3, 21, 22, 3, 2, 2, 3, 1, 9, 0, 2, 6, 1, 2, 1, 3, 1, 4, 2, 2, 7, 7, 1, 1, 1, 1, 2, 1, 3, 2, 2, 1, 0, 0, 0, 20, 1, 21, 21, 1, 1, 1, 1, 2, 3, 2, 0, 1, 1, 5, 3, 3, 1, 2, 1, 1, 2, 1, 1, 1, 1, 1, 1, 2, 1, 2, 0, 0, 6, 16, 0, 18, 1, 7, 10, 1, 6, 17, 1, 12, 7, 0, 2, 19, 11, 6, 7, 17, 1, 20, 20, 1, 1, 2, 0, 4, 3, 3, 2, 1, 1, 1, 1, 1, 0, 0, 1, 4, 2, 4, 5, 5, 10, 15, 0, 2, 11, 3, 17, 7, 17, 6, 5, 9, 1, 2, 16, 1, 2, 0, 1, 2, 5, 2, 19, 13, 3, 5, 14, 19, 0, 0, 1, 2, 2, 3, 1, 3, 1, 1, 1, 1, 4, 3, 4, 1, 2, 2, 1, 0, 1, 2, 16, 6, 5, 4, 1, 8, 2, 3, 1, 1, 1, 10, 15, 15, 1, 0, 1, 4, 3, 3, 1, 1, 2, 6, 1, 7, 12, 4, 8, 1, 2, 1, 0, 0, 1, 1, 2, 2, 1, 15, 1, 1, 2, 5, 7, 1, 2, 3, 4, 4, 6, 1, 3, 2, 3, 3, 0, 0, 0, 0, 1, 1, 2, 2, 4, 3, 3, 6, 1, 3, 3, 1, 5, 4, 1, 0, 4, 0, 7, 2, 2, 0, 1, 5, 2, 2, 5, 3, 0, 1, 1, 1, 0, 0, 0, 18, 0, 0, 0, 0, 0, 0, 0, 0, 0, 0, 0, 0, 0, 0, 0, 0, 0, 11, 0, 24, 1, 23, 22, 21, 20, 19, 18, 17, 16, 15, 14, 13, 12, 4, 11, 10, 9, 8, 7, 6, 5, 1, 1, 1, 1, 1, 1, 1, 1, 1, 1, 1, 1, 1, 1, 1, 1, 1, 1, 1, 4, 1, 1, 1, 1, 1, 1, 1, 1, 1, 7, 1, 6, 5, 4, 3, 2, 2, 2, 1, 1, 1, 1, 1, 1, 1, 1, 1, 1, 1, 1, 1, 1, 1, 1, 1, 1, 1, 1, 1, 1, 1, 1, 1, 1, 1, 1, 1, 1, 1, 1, 1, 1, 1, 1, 2]
theorem norec (f : FuncId) (hf : rankL.getD f 0 ≠ 0) : Tryz.prog.recurses f = Tryz.prog.unfollowed f := norec_of _ (fun g => rankL.getD g 0) (by kernel_rfl) f hf
end Go.Proofs.YtdoolhbmekahdaaGreatDoor
namespace Go.Proofs.YtdoolhbmekahdaaGreatDoor
open Go.RowKit
set_option linter.unusedVariables false
set_option linter.unusedSimpArgs false
def three (a b c : Nat → Int) : Nat → Nat → Int := fun j => if j = 0 then a else if j = 1 then b else c
def rowOf (F : Nat → Nat → Int) : Nat → Int := fun i => F (i / 5) (i % 5)
end Go.Proofs.YtdoolhbmekahdaaGreatDoor
namespace Go.Proofs.YtdoolhbmekahdaaGreatDoor
open Go.ChangeShapes Go.WideShapes Go.ChangeAt Go.RowKit
set_option linter.unusedVariables false
set_option linter.unusedSimpArgs false
def KeysAt (w : World) (oa : Option Addr) (n : Nat) (F : Nat → Nat → Int) : Prop :=
 n = 0 ∨ ∃ ad : Addr, oa = some ad ∧ ∀ w', Below w.heap.size w w' → ∀ j, j < n → (loadNext 27 (.pointer (some (ad.add (j * 32))))).run Tryz.prog w' = .ok (.value (.agg (ints .u8 32 (F j)))) w'
theorem KeysAt.later {w w' : World} {oa : Option Addr} {n : Nat} {F : Nat → Nat → Int} (h : KeysAt w oa n F) (hb : Below w.heap.size w w') : KeysAt w' oa n F := by
 rcases h with h | ⟨ad, ho, hl⟩
 ·exact .inl h
 ·exact .inr ⟨ad, ho, fun w'' hb' => hl w'' (Grew.trans hb hb')⟩
def two (a b : Nat → Int) : Nat → Nat → Int := fun j => if j = 0 then a else b
def rowK (F : Nat → Nat → Int) : Nat → Int := fun i => F (i / 32) (i % 32)
theorem build2k (a b : Nat → Int) (W : World) : (Instr.buildSlice 23 2 #[(0, .agg (ints .u8 32 a)), (1, .agg (ints .u8 32 b))]).run Tryz.prog W =
  .ok (.slice (some ⟨W.heap.size, 0, none⟩) 2 2) (W.alloc (.cells (ints .u8 64 (rowK (two a b))) 27)) := by kernel_rfl
end Go.Proofs.YtdoolhbmekahdaaGreatDoor
