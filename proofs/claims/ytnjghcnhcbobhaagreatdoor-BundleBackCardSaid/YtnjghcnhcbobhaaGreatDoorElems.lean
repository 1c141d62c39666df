/- Elems -/
import Derived.Test.YtnjghcnhcbobhaaGreatDoorFrame
import Derived.Test.YtnjghcnhcbobhaaGreatDoorRel
set_option maxRecDepth 100000
set_option maxHeartbeats 4000000
namespace Go.Proofs.YtnjghcnhcbobhaaGreatDoor
open Go.RowKit
set_option linter.unusedVariables false
set_option linter.unusedSimpArgs false
def three (a b c : Nat → Int) : Nat → Nat → Int := fun j => if j = 0 then a else if j = 1 then b else c
end Go.Proofs.YtnjghcnhcbobhaaGreatDoor
namespace Go.Proofs.YtnjghcnhcbobhaaGreatDoor
open Go.ChangeShapes Go.WideShapes Go.ChangeAt Go.RowKit
set_option linter.unusedVariables false
set_option linter.unusedSimpArgs false
def KeysAt (w : World) (oa : Option Addr) (n : Nat) (F : Nat → Nat → Int) : Prop :=
 n = 0 ∨ ∃ ad : Addr, oa = some ad ∧ ∀ w', Below w.heap.size w w' → ∀ j, j < n → (loadNext 44 (.pointer (some (ad.add (j * 32))))).run Tryz.prog w' = .ok (.value (.agg (ints .u8 32 (F j)))) w'
theorem KeysAt.later {w w' : World} {oa : Option Addr} {n : Nat} {F : Nat → Nat → Int} (h : KeysAt w oa n F) (hb : Below w.heap.size w w') : KeysAt w' oa n F := by
 rcases h with h | ⟨ad, ho, hl⟩
 ·exact .inl h
 ·exact .inr ⟨ad, ho, fun w'' hb' => hl w'' (Grew.trans hb hb')⟩
def two (a b : Nat → Int) : Nat → Nat → Int := fun j => if j = 0 then a else b
def rowK (F : Nat → Nat → Int) : Nat → Int := fun i => F (i / 32) (i % 32)
theorem rowK_at (F : Nat → Nat → Int) (n : Nat) : ∀ j, j < n → ∀ i, i < 32 → rowK F (j * 32 + i) = F j i := fun j _ i hi => by
 unfold rowK
 rw [show (j * 32 + i) / 32 = j by omega, show (j * 32 + i) % 32 = i by omega]
theorem build2k (a b : Nat → Int) (W : World) : (Instr.buildSlice 45 2 #[(0, .agg (ints .u8 32 a)), (1, .agg (ints .u8 32 b))]).run Tryz.prog W =
  .ok (.slice (some ⟨W.heap.size, 0, none⟩) 2 2) (W.alloc (.cells (ints .u8 64 (rowK (two a b))) 44)) := by kernel_rfl
end Go.Proofs.YtnjghcnhcbobhaaGreatDoor
