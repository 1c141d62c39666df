/- Sx: Sx -/
import Derived.Test.YtomoccbljclhlaaDoorMa
namespace Go.Proofs.YtomoccbljclhlaaDoor
open Go.RowKit
set_option linter.unusedVariables false
set_option linter.unusedSimpArgs false
def threeS (a b c : ByteArray) : Nat → ByteArray := fun j => if j = 0 then a else if j = 1 then b else c
theorem cat_three (a b c : ByteArray) : catS (threeS a b c) 3 = a ++ b ++ c := by
  show ByteArray.empty ++ a ++ b ++ c = _
  rw [ByteArray.empty_append]
theorem build3s (a b c : ByteArray) (W : World) : (Instr.buildSlice 55 3 #[(0, .string a), (1, .string b), (2, .string c)]).run Tryd.prog W = .ok (.slice (some ⟨W.heap.size, 0, none⟩) 3 3) (W.alloc (.cells #[.string a, .string b, .string c] 9)) := by kernel_rfl
def buildS3 (u v x : Value) : Sem Next := do pure (.value (← Instr.buildSlice 55 3 #[(0, u), (1, v), (2, x)]))
@[go_sem ↓ high] theorem op_buildS3 (ρ : Operand → Value) (d : Option Tmp) (x y z : Operand) (t : TypeId) (pos : String) (af : Array Edge) (g : Option (Nat × Bool)) :
    execOp ρ ⟨d, .buildSlice 55 3 #[(0, x), (1, y), (2, z)], t, pos, af, g⟩ = buildS3 (ρ x) (ρ y) (ρ z) := by
  unfold execOp buildS3
  simp
@[go_sem high] theorem op_buildS3' (ρ : Operand → Value) (d : Option Tmp) (x y z : Operand) (t : TypeId) (pos : String) (af : Array Edge) (g : Option (Nat × Bool)) :
    execOp ρ ⟨d, .buildSlice 55 3 #[(0, x), (1, y), (2, z)], t, pos, af, g⟩ = buildS3 (ρ x) (ρ y) (ρ z) := op_buildS3 ρ d x y z t pos af g
@[go_sem] theorem run_buildS3 (a b c : ByteArray) (W : World) : (buildS3 (.string a) (.string b) (.string c)).run Tryd.prog W = .ok (.value (.slice (some ⟨W.heap.size, 0, none⟩) 3 3)) (W.alloc (.cells #[.string a, .string b, .string c] 9)) := by
  unfold buildS3
  simp only [Sem.run_bind, build3s, Result.andThen_ok, Sem.run_pure]
attribute [irreducible] buildS3
theorem strs_three {W : World} {g : Nat} {a b c : ByteArray} {t : TypeId} {fr : Nat × Nat} (h : objAt W g = some (.cells #[.string a, .string b, .string c] t fr)) : StrsAt W (some ⟨g, 0, none⟩) 3 (threeS a b c) := by
  refine .inr ⟨_, rfl, fun w' hb j hj => ?_⟩
  have h' := keep_below hb h
  unfold objAt at h'
  have e : (⟨g, 0, none⟩ : Addr).add j = ⟨g, j, none⟩ := by unfold Addr.add; split <;> simp_all
  rw [e, cell_of_row w' g _ _ _ _ h']
  rcases (by omega : j = 0 ∨ j = 1 ∨ j = 2) with rfl | rfl | rfl <;> rfl
theorem mac_three (key a b c : ByteArray) (g : Nat) (W : World) (hk : key.size < 1152921504606846976) (hs : a.size + b.size + c.size < 1152921504606840000) (h : StrsAt W (some ⟨g, 0, none⟩) 3 (threeS a b c)) (hT : Tabs W) :
    Calls Tryd.prog 15 #[.string key, .slice (some ⟨g, 0, none⟩) 3 3] W fun e w' => e = .returned (.agg (ints .u8 32 (macF key (a ++ b ++ c)))) ∧ Below W.heap.size W w' := by
  have := macS_any key (some ⟨g, 0, none⟩) 3 3 (threeS a b c) W hk (by rw [cat_three, ByteArray.size_append, ByteArray.size_append]; exact hs) (by decide) h hT
  rw [cat_three] at this
  exact this
theorem mac_two (key a b : ByteArray) (g : Nat) (W : World) (hk : key.size < 1152921504606846976) (hs : a.size + b.size < 1152921504606840000) (h : StrsAt W (some ⟨g, 0, none⟩) 2 (twoS a b)) (hT : Tabs W) :
    Calls Tryd.prog 15 #[.string key, .slice (some ⟨g, 0, none⟩) 2 2] W fun e w' => e = .returned (.agg (ints .u8 32 (macF key (a ++ b)))) ∧ Below W.heap.size W w' := by
  have := macS_any key (some ⟨g, 0, none⟩) 2 2 (twoS a b) W hk (by rw [cat_two, ByteArray.size_append]; exact hs) (by decide) h hT
  rw [cat_two] at this
  exact this
end Go.Proofs.YtomoccbljclhlaaDoor
