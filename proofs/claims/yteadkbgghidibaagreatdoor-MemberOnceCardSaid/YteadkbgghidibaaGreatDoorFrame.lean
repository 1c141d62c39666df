/- Frame -/
import Derived.Test.YteadkbgghidibaaGreatDoorRows
import Derived.Test.YteadkbgghidibaaGreatDoorMem
import Derived.ProofKit
import Derived.OpenShut
import Derived.ShutString
import Derived.ChangeOld
import Derived.Test.YteadkbgghidibaaGreatDoorMath02
import Derived.Deep.Slices
import Derived.Test.YteadkbgghidibaaGreatDoorRel
set_option maxRecDepth 100000
set_option maxHeartbeats 4000000
namespace Go.Proofs.YteadkbgghidibaaGreatDoor
open Go.ChangeShapes Go.WideShapes Go.ChangeAt Go.RowKit
set_option linter.unusedVariables false
set_option linter.unusedSimpArgs false
theorem own : ownKnob Tryz.prog.godebug = none := by kernel_rfl
theorem laidOut : laidOutB Tryz.prog = true := by kernel_rfl
theorem open_array {H : Type} {enc : TypeId × Value → H} {P : Program} {W : World} {r : Reach} {b0 base : Nat} {sp : Nat → Bool} {held : Bool} {t e : TypeId} {n : Nat} {k : IntKind} {v : Value} {d : DataW H} {ps : List MemPlace}
  (hu : P.underlying t = some (.array n e)) (he : P.underlying e = some (.int k)) (hc : P.cellsOf e = 1) (hs : P.cellsOf t = n) (hval : Value.okWide P W r b0 t v) (hd : DataW.Trod enc P W base sp held t v d ps) :
  ∃ f : Nat → Int, v = .agg (ints k n f) ∧ ∀ i, i < n → (Lit.int k (f i)).wf = true := by
 unfold Value.okWide at hval
 rw [hu] at hval
 obtain ⟨cs, rfl, hsz, _⟩ := hval
 rw [hs] at hsz
 obtain ⟨fuel, hf⟩ := hd
 obtain ⟨xs, m, _, _, _, hl, hel⟩ := DataW.trod_array hu hf
 have hat : ∀ i, i < n → ∃ z, cs[i]? = some (.int k z) ∧ (Lit.int k z).wf = true := by
  intro i hi
  have h1 := hel i hi
  rw [hc, Nat.mul_one, List.getElem?_eq_getElem (by omega)] at h1
  obtain ⟨z, e1, _, wz⟩ := DataW.trod_int he h1
  refine ⟨z, ?_, wz⟩
  have h2 : ((cs.toList.drop i).take 1)[0]? = some (.int k z) := by
   have : (Value.agg cs).cells.toList = cs.toList := rfl
   rw [this] at e1
   rw [e1]; rfl
  simpa using h2
 refine ⟨fun i => match cs[i]? with | some (.int _ z) => z | _ => 0, ?_, ?_⟩
 ·congr 1
  apply Array.ext_getElem?
  intro i
  by_cases hi : i < n
  ·obtain ⟨z, hz, _⟩ := hat i hi
   rw [ints_get _ _ _ _ hi, hz]
  ·rw [Array.getElem?_eq_none (by omega), Array.getElem?_eq_none (by rw [ints_size]; omega)]
 ·intro i hi
  obtain ⟨z, hz, wz⟩ := hat i hi
  simp only [hz]
  exact wz
theorem bytes_of_wf {n : Nat} {f : Nat → Int} (h : ∀ i, i < n → (Lit.int .u8 (f i)).wf = true) : Bytes n f := fun i hi => bounds_u8 (h i hi)
end Go.Proofs.YteadkbgghidibaaGreatDoor
namespace Go.Proofs.YteadkbgghidibaaGreatDoor
open Go.ChangeShapes Go.WideShapes Go.ChangeAt Go.RowKit
set_option linter.unusedVariables false
set_option linter.unusedSimpArgs false
theorem cell_lt {W : World} {p : Addr} {v : Value} (h : W.cell? p = some v) : p.block < W.heap.size := by
 unfold World.cell? at h
 rcases Nat.lt_or_ge p.block W.heap.size with h' | h'
 ·exact h'
 ·rw [Array.getElem?_eq_none h'] at h; cases h
end Go.Proofs.YteadkbgghidibaaGreatDoor
namespace Go.Proofs.YteadkbgghidibaaGreatDoor
set_option linter.unusedVariables false
set_option linter.unusedSimpArgs false
def initL : List Char := [104, 97, 114, 110, 101, 115, 115, 32, 53, 49, 54, 48, 49, 55, 51, 55, 48, 53, 55, 56, 50, 51, 48, 98, 56, 100, 99, 99, 101, 56, 56, 49, 48, 97, 55, 53, 51, 57, 57, 97, 55, 49, 98, 101, 100, 51, 56, 49, 57, 53, 101, 99, 55, 101, 56, 101, 51, 49, 50, 56, 97, 50, 49, 56, 52, 48, 97, 99, 97, 54, 100, 53, 32, 99, 117, 116, 32, 97, 116, 32, 115, 97, 112, 119, 111, 111, 100, 47, 115, 97, 112, 119, 111, 111, 100, 108, 97, 119, 50, 50, 46, 77, 101, 109, 98, 101, 114, 70, 111, 114, 107, 115, 32, 115, 97, 112, 119, 111, 111, 100, 47, 115, 97, 112, 119, 111, 111, 100, 108, 97, 119, 50, 50, 46, 77, 101, 109, 98, 101, 114, 79, 110, 99, 101].map Char.ofNat
theorem init_is : Tryz.prog.initOrder = String.ofList initL := by kernel_rfl
theorem init_signs : Tryz.prog.initOrder.toList = initL := by rw [init_is]; exact String.toList_ofList
theorem init_words : behindMainWord (wordsSigns Tryz.prog.initOrder.toList) = "cut".toList :: (behindMainWord (wordsSigns initL)).tail := by rw [init_signs]; kernel_rfl
theorem make_of (P : Program) (r : List (List Char)) (h : behindMainWord (wordsSigns P.initOrder.toList) = "cut".toList :: r) : P.make = some .cut := by
 unfold Program.make
 rw [h]
 rfl
theorem enter_of (P : Program) (r : List (List Char)) (h : behindMainWord (wordsSigns P.initOrder.toList) = "cut".toList :: r) (h1 : stripLifts liftWords ("cut".toList :: r) = ([], "cut".toList :: r)) (hl : P.laysLater = false) (hb : P.bearsReflect = false) (hd : P.doorFits [] = true) : P.mayEnter = true := by
 unfold Program.mayEnter
 rw [h]
 simp only [h1, hl, hb, hd]
 rfl
theorem may_enter : Tryz.prog.mayEnter = true := enter_of _ _ init_words (by kernel_rfl) (by kernel_rfl) (by kernel_rfl) (by kernel_rfl)
theorem make_is : Tryz.prog.make = some .cut := make_of _ _ init_words
theorem lifts_is : Tryz.prog.liftsFinal = false := by unfold Program.liftsFinal Program.headLifts; rw [init_signs]; kernel_rfl
theorem via_all (P : Program) (q : FuncId → Prop) (hq : ∀ g, q g → ∀ h, h ∈ ((P.funcs[g]?).elim [] P.leadsTo) → q h) : ∀ (n : Nat) (todo seen : List FuncId), (∀ x, x ∈ todo → q x) → (∀ x, x ∈ seen → q x) → ∀ x, x ∈ P.closureVia n todo seen → q x
 | 0, todo, seen, ht, hs, x, hx => by
  unfold Program.closureVia at hx
  exact hs x (List.mem_reverse.1 hx)
 | n + 1, [], seen, ht, hs, x, hx => by
  unfold Program.closureVia at hx
  exact hs x (List.mem_reverse.1 hx)
 | n + 1, f :: todo, seen, ht, hs, x, hx => by
  unfold Program.closureVia at hx
  have hf := ht f (List.mem_cons_self ..)
  have ht' : ∀ x, x ∈ todo → q x := fun x hx => ht x (List.mem_cons_of_mem _ hx)
  split at hx
  ·exact via_all P q hq n todo seen ht' hs x hx
  ·refine via_all P q hq n _ (f :: seen) ?_ ?_ x hx
   ·intro y hy
    rcases List.mem_append.1 hy with hy | hy
    ·exact hq f hf y hy
    ·exact ht' y hy
   ·intro y hy
    rcases List.mem_cons.1 hy with rfl | hy
    ·exact hf
    ·exact hs y hy
theorem closure_all (P : Program) (q : FuncId → Prop) (hq : ∀ g, q g → ∀ h, h ∈ ((P.funcs[g]?).elim [] P.leadsTo) → q h) (f : FuncId) (hf : q f) : ∀ x, x ∈ P.closure f → q x := by
 unfold Program.closure
 exact via_all P q hq _ [f] [] (fun x hx => by rw [List.mem_singleton.1 hx]; exact hf) (fun x hx => absurd hx (List.not_mem_nil))
theorem norec_of (P : Program) (R : Nat → Nat) (hR : ((List.range P.funcs.size).all fun g => R g == 0 || ((P.funcs[g]?).elim [] P.leadsTo).all fun h => decide (R h ≠ 0) && decide (R h < R g)) = true) (f : FuncId) (hf : R f ≠ 0) : P.recurses f = P.unfollowed f := by
 have hR' : ∀ g : Nat, R g ≠ 0 → ∀ h, h ∈ ((P.funcs[g]?).elim [] P.leadsTo) → R h ≠ 0 ∧ R h < R g := fun g hg h hh => by
  by_cases hs : g < P.funcs.size
  ·have h1 := List.all_eq_true.1 hR g (List.mem_range.2 hs)
   rw [Bool.or_eq_true] at h1
   rcases h1 with h1 | h1
   ·exact absurd (beq_iff_eq.1 h1) hg
   ·have h2 := List.all_eq_true.1 h1 h hh
    rw [Bool.and_eq_true] at h2
    exact ⟨of_decide_eq_true h2.1, of_decide_eq_true h2.2⟩
  ·rw [Array.getElem?_eq_none (by omega)] at hh
   exact absurd hh (List.not_mem_nil)
 unfold Program.recurses
 have e : ((P.closure f).any fun g => ((P.funcs[g]?).elim [] P.leadsTo).any fun h => (P.closure h).contains g) = false := by
  rw [List.any_eq_false]
  intro g hg hx
  have hg0 := closure_all P (fun x => R x ≠ 0) (fun g hg h hh => (hR' g hg h hh).1) f hf g hg
  obtain ⟨h, hh, hc⟩ := List.any_eq_true.1 hx
  obtain ⟨h0, h1⟩ := hR' g hg0 h hh
  have h2 := closure_all P (fun x => R x ≠ 0 ∧ R x ≤ R h) (fun g hg k hk => by
   have := hR' g hg.1 k hk
   exact ⟨this.1, by omega⟩) h ⟨h0, Nat.le_refl _⟩ g (List.contains_iff_mem.1 hc)
  omega
 rw [e, Bool.or_false]
def rankL : List Nat := [1, 1, 2, 0, 0, 0, 2, 0, 0, 22, 21, 0, 1, 1, 1, 4, 4, 0, 21, 0, 2, 1, 0, 1, 0, 1, 21, 20, 0, 3, 3, 0, 20, 0, 1, 2, 0, 0, 6, 16, 0, 18, 1, 7, 10, 1, 6, 17, 1, 12, 7, 20, 19, 1, 11, 6, 7, 17, 1, 0, 2, 2, 0, 2, 5, 2, 19, 13, 3, 0, 1, 0, 1, 4, 2, 4, 5, 5, 10, 15, 0, 2, 11, 3, 17, 7, 17, 1, 6, 5, 9, 1, 2, 16, 11, 1, 5, 14, 19, 2, 1, 2, 0, 1, 1, 1, 1, 4, 4, 3, 3, 1, 1, 2, 1, 1, 2, 6, 1, 7, 12, 0, 2, 3, 1, 3, 1, 1, 4, 3, 4, 2, 14, 1, 0, 1, 2, 16, 6, 5, 4, 1, 8, 2, 3, 1, 1, 10, 15, 15, 10, 1, 8, 1, 8, 9, 4, 8, 1, 2, 1, 1, 1, 0, 2, 18, 0, 1, 2, 2, 3, 3, 13, 12, 1, 1, 15, 1, 1, 2, 5, 7, 1, 2, 4, 7, 5, 3, 4, 4, 6, 1, 3, 2, 3, 3, 0, 1, 1, 2, 12, 1, 2, 2, 4, 3, 3, 6, 1, 2, 2, 1, 6, 3, 3, 1, 5, 4, 1, 0, 1, 2, 2, 5, 1, 1, 1, 5, 3, 3, 3, 0, 1, 1, 1, 4, 3, 3, 2, 0, 1, 0, 0, 0, 0, 0, 0, 0, 0, 0, 0, 1, 2, 1, 1, 1, 0, 0, 1, 1, 0, 0, 0, 11, 0, 24, 1, 23, 22, 21, 20, 19, 18, 1, 17, 16, 15, 14, 13, 12, 4, 11, 10, 9, 8, 7, 6, 5, 1, 1, 1, 1, 1, 1, 1, 1, 1, 1, 1, 1, 1, 1, 1, 1, 1, 1, 1, 4, 1, 1, 1, 1, 1, 1, 1, 1, 1, 1, 1, 1, 1, 1, 1, 1, 1, 1, 1, 1, 1, 1, 1, 1, 2]
theorem norec (f : FuncId) (hf : rankL.getD f 0 ≠ 0) : Tryz.prog.recurses f = Tryz.prog.unfollowed f := norec_of _ (fun g => rankL.getD g 0) (by kernel_rfl) f hf
end Go.Proofs.YteadkbgghidibaaGreatDoor
namespace Go.Proofs.YteadkbgghidibaaGreatDoor
open Go.RowKit
set_option linter.unusedVariables false
set_option linter.unusedSimpArgs false
def three (a b c : Nat → Int) : Nat → Nat → Int := fun j => if j = 0 then a else if j = 1 then b else c
def rowOf (F : Nat → Nat → Int) : Nat → Int := fun i => F (i / 5) (i % 5)
end Go.Proofs.YteadkbgghidibaaGreatDoor
namespace Go.Proofs.YteadkbgghidibaaGreatDoor
open Go.ChangeShapes Go.WideShapes Go.ChangeAt Go.RowKit
set_option linter.unusedVariables false
set_option linter.unusedSimpArgs false
def KeysAt (w : World) (oa : Option Addr) (n : Nat) (F : Nat → Nat → Int) : Prop :=
 n = 0 ∨ ∃ ad : Addr, oa = some ad ∧ ∀ w', Below w.heap.size w w' → ∀ j, j < n → (loadNext 23 (.pointer (some (ad.add (j * 32))))).run Tryz.prog w' = .ok (.value (.agg (ints .u8 32 (F j)))) w'
theorem KeysAt.later {w w' : World} {oa : Option Addr} {n : Nat} {F : Nat → Nat → Int} (h : KeysAt w oa n F) (hb : Below w.heap.size w w') : KeysAt w' oa n F := by
 rcases h with h | ⟨ad, ho, hl⟩
 ·exact .inl h
 ·exact .inr ⟨ad, ho, fun w'' hb' => hl w'' (Grew.trans hb hb')⟩
def two (a b : Nat → Int) : Nat → Nat → Int := fun j => if j = 0 then a else b
def rowK (F : Nat → Nat → Int) : Nat → Int := fun i => F (i / 32) (i % 32)
theorem build2k (a b : Nat → Int) (W : World) : (Instr.buildSlice 43 2 #[(0, .agg (ints .u8 32 a)), (1, .agg (ints .u8 32 b))]).run Tryz.prog W =
  .ok (.slice (some ⟨W.heap.size, 0, none⟩) 2 2) (W.alloc (.cells (ints .u8 64 (rowK (two a b))) 23)) := by kernel_rfl
end Go.Proofs.YteadkbgghidibaaGreatDoor
