/- Q12 -/
import Derived.Test.YtdoolhbmekahdaaGreatDoorL11
import Derived.Shelf.Small.Bits
import Derived.Shelf.SlicesQ.Reverse
import Derived.Test.YtdoolhbmekahdaaGreatDoorQ9
import Derived.Test.YtdoolhbmekahdaaGreatDoorRel
import Derived.Test.YtdoolhbmekahdaaGreatDoorR12
namespace Go.Proofs.YtdoolhbmekahdaaGreatDoor
open Go.RowKit
set_option linter.unusedVariables false
set_option linter.unusedSimpArgs false
end Go.Proofs.YtdoolhbmekahdaaGreatDoor
namespace Go.Proofs.YtdoolhbmekahdaaGreatDoor
open Go.RowKit
set_option linter.unusedVariables false
set_option linter.unusedSimpArgs false
theorem append_keyG (W : World) (base : Nat) (v : Value) (n : Nat) (F : Nat → Nat → Int) (g2 : Nat) (t2 : TypeId) (fr : Nat × Nat) (own : W.ownsRow base 27 32 v n (k32L F n)) (hn : n ≤ 1048576)
  (hg2 : objAt W g2 = some (.cells (ints .u8 32 (F n)) t2 fr)) (hbW : base ≤ W.heap.size) :
  ∃ g cap w', (appendNext #[23, 23] 23 #[v, .slice (some ⟨g2, 0, none⟩) 1 1]).run Tryz.prog W = .ok (.value (.slice (some ⟨g, 0, none⟩) (n + 1) cap)) w' ∧ w'.ownsRow base 27 32 (.slice (some ⟨g, 0, none⟩) (n + 1) cap) (n + 1) (k32L F (n + 1)) ∧ W.grownBy w' v.ownBlock := by
 obtain ⟨i, z, hi, hz, hs, hby, hzs⟩ : ∃ i z, Tryz.prog.info? 27 = some i ∧ i.zero = some z ∧ i.size = 32 ∧ i.bytes = 32 ∧ z.cells.size = 32 := ⟨(Tryz.prog.info? 27).get (by kernel_rfl), ((Tryz.prog.info? 27).get (by kernel_rfl)).zero.get (by kernel_rfl), by kernel_rfl, by kernel_rfl, by kernel_rfl, by kernel_rfl, by kernel_rfl⟩
 obtain ⟨g, cap, w', hr, ho, hg, _, _⟩ := run_append_lies (P := Tryz.prog) W 23 23 base 27 i z 32 32 Tryz.underlying23 hi hz hs hby hzs (by decide) v n (k32L F n) own ⟨g2, 0, none⟩ 1 1 (ints .u8 32 (F n)).toList (by rw [Array.length_toList, ints_size])
  (fun j x hx => by
   rw [← addr_plain g2 j]
   unfold objAt at hg2
   rw [cell_of_row W g2 j _ _ _ hg2]
   rw [Array.getElem?_toList] at hx
   exact hx) (fun x hx => by
   have h1 := ints_ones .u8 32 (F n)
   rw [Array.all_eq_true'] at h1
   exact h1 x (by simpa using hx)) (by decide) (by unfold maxLen; omega) (by omega) hbW W.heap.size rfl
 refine ⟨g, cap, w', by unfold appendNext; simp only [Sem.run_bind, hr, Result.andThen_ok, Sem.run_pure], ?_, hg⟩
 rw [k32L_succ]
 exact ho
attribute [local irreducible] nodeF labelF oneF macF shaF strOf keyV shV
def KeyRow (w : World) (oa : Option Addr) : Prop := ∀ ad, oa = some ad → ∃ cur fr, objAt w ad.block = some (.cells cur 27 fr)
theorem KeyRow.later {w w' : World} {oa : Option Addr} (h : KeyRow w oa) (hb : Below w.heap.size w w') : KeyRow w' oa := fun ad e => by
 obtain ⟨cur, fr, h1⟩ := h ad e
 exact ⟨cur, fr, keep_below hb h1⟩
def SecAt (w : World) (oa : Option Addr) (n : Nat) (F : Nat → Nat → Int) : Prop := K32At w oa n F ∧ KeyRow w oa
theorem SecAt.later {w w' : World} {oa : Option Addr} {n : Nat} {F : Nat → Nat → Int} (h : SecAt w oa n F) (hb : Below w.heap.size w w') : SecAt w' oa n F := ⟨h.1.later hb, h.2.later hb⟩
end Go.Proofs.YtdoolhbmekahdaaGreatDoor
namespace Go.Proofs.YtdoolhbmekahdaaGreatDoor
open Go.RowKit
set_option linter.unusedVariables false
set_option linter.unusedSimpArgs false
section
variable {P : Program} {md : Region.Mode} {ops : Array Oper} {C : World → Prop} {V : Vals} {γ : Nat → Nat} {Q : Exit → Act → World → Prop}
end
end Go.Proofs.YtdoolhbmekahdaaGreatDoor
namespace Go.Proofs.YtdoolhbmekahdaaGreatDoor
open Go.RowKit
set_option linter.unusedVariables false
set_option linter.unusedSimpArgs false
section
variable {P : Program} {Q : Exit → Act → World → Prop}
end
end Go.Proofs.YtdoolhbmekahdaaGreatDoor
namespace Go.Proofs.YtdoolhbmekahdaaGreatDoor
open Go.RowKit
set_option linter.unusedVariables false
set_option linter.unusedSimpArgs false
@[go_sem] theorem none_kpair (w : World) : (noneNext 338).run Tryz.prog w = .ok (.value (.agg (ints .u8 64 (keysF nought nought)))) w := by kernel_rfl
@[go_sem] theorem none_tree (w : World) : (noneNext 284).run Tryz.prog w = .ok (.value (.agg #[.slice none 0 0])) w := by kernel_rfl
def Row64 (w : World) (g m : Nat) (F : Nat → Nat → Int) : Prop :=
 ∃ cur, objAt w g = some (.cells cur 338 (0, 0)) ∧ m * 64 ≤ cur.size ∧ ∀ j, j < m → ∀ i, i < 64 → cur[j * 64 + i]? = some (.int .u8 (F j i))
theorem Row64.lt {w : World} {g m : Nat} {F : Nat → Nat → Int} (h : Row64 w g m F) : g < w.heap.size := by
 obtain ⟨cur, h, _⟩ := h
 exact lt_of_objAt h
theorem Row64.later {w w' : World} {g m : Nat} {F : Nat → Nat → Int} (h : Row64 w g m F) (hb : Below w.heap.size w w') : Row64 w' g m F := by
 obtain ⟨cur, h, r⟩ := h
 exact ⟨cur, keep_below hb h, r⟩
theorem Row64.cell {w : World} {g m : Nat} {F : Nat → Nat → Int} (h : Row64 w g m F) {j i : Nat} (hj : j < m) (hi : i < 64) : w.cell? ⟨g, j * 64 + i, none⟩ = some (.int .u8 (F j i)) := by
 obtain ⟨cur, h, hs, hc⟩ := h
 unfold objAt at h
 rw [cell_of_row w g _ _ _ _ h, hc j hj i hi]
theorem add_lit0 (g o j : Nat) : (⟨g, o, none⟩ : Addr).add j = ⟨g, o + j, none⟩ := by unfold Addr.add; split <;> simp_all
end Go.Proofs.YtdoolhbmekahdaaGreatDoor
namespace Go.Proofs.YtdoolhbmekahdaaGreatDoor
open Go.RowKit
set_option linter.unusedVariables false
set_option linter.unusedSimpArgs false
def Row32 (T : TypeId) (w : World) (g m : Nat) (F : Nat → Nat → Int) : Prop :=
 ∃ cur, objAt w g = some (.cells cur T (0, 0)) ∧ m * 32 ≤ cur.size ∧ ∀ j, j < m → ∀ i, i < 32 → cur[j * 32 + i]? = some (.int .u8 (F j i))
theorem Row32.lt {T : TypeId} {w : World} {g m : Nat} {F : Nat → Nat → Int} (h : Row32 T w g m F) : g < w.heap.size := by
 obtain ⟨cur, h, _⟩ := h
 exact lt_of_objAt h
theorem Row32.later {T : TypeId} {w w' : World} {g m : Nat} {F : Nat → Nat → Int} (h : Row32 T w g m F) (hb : Below w.heap.size w w') : Row32 T w' g m F := by
 obtain ⟨cur, h, r⟩ := h
 exact ⟨cur, keep_below hb h, r⟩
@[go_sem ↓ high] theorem append_pairs (ty : TypeId) (cs : Array Bool) (args : Array Value) : builtin .append #[282, 282] ty cs args = appendNext #[282, 282] ty args := by unfold appendNext; rfl
end Go.Proofs.YtdoolhbmekahdaaGreatDoor
