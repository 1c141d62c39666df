/- Pairs of elements by value, in this program. -/
import Derived.Test.YtfapmpnkemogkaaMemL
namespace Go.Proofs.Ytfapmpnkemogkaa
open Go.RowKit
set_option linter.unusedVariables false
set_option linter.unusedSimpArgs false

/-- an element and another one, one behind the other -/
def pairF (x z : Nat → Int) : Nat → Int := fun i => if i < 5 then x i else z (i - 5)
theorem pairF_all (f : Nat → Int) : pairF f (fun i => f (i + 5)) = f := by
  funext i
  unfold pairF
  split
  · rfl
  · show f (i - 5 + 5) = f i
    rw [show i - 5 + 5 = i by omega]
@[go_sem ↓ high] theorem load_pair (ρ : Operand → Value) (d : Option Tmp) (x : Operand) (t : TypeId) (pos : String) (af : Array Edge) (g : Option (Nat × Bool)) :
    execOp ρ ⟨d, .load 76 x, t, pos, af, g⟩ = loadNext 76 (ρ x) := op_load _ ρ d x t pos af g
@[go_sem high] theorem load_pair' (ρ : Operand → Value) (d : Option Tmp) (x : Operand) (t : TypeId) (pos : String) (af : Array Edge) (g : Option (Nat × Bool)) :
    execOp ρ ⟨d, .load 76 x, t, pos, af, g⟩ = loadNext 76 (ρ x) := op_load _ ρ d x t pos af g
@[go_sem] theorem load_pair_at (g : Nat) (w : World) : (loadNext 76 (.pointer (some ⟨g, 0, none⟩))).run Try.prog w = (loadOf Try.prog 76 g 10 w (objAt w g)).andThen fun v w' => .ok (.value v) w' := by
  rw [run_loadNext, loadRow_eq Try.underlying76 rfl (by kernel_rfl) g w]
@[go_sem] theorem load_pair_of (g : Nat) (w : World) (cs : Array Value) (t' : TypeId) (fr : Nat × Nat) (h : cs.size = 10) : loadOf Try.prog 76 g 10 w (some (.cells cs t' fr)) = .ok (.agg cs) w := loadOf_cells cs t' fr h
@[go_sem ↓ high] theorem store_pair (ρ : Operand → Value) (d : Option Tmp) (x y : Operand) (t : TypeId) (pos : String) (af : Array Edge) (g : Option (Nat × Bool)) :
    execOp ρ ⟨d, .store 76 x y, t, pos, af, g⟩ = storeNext 76 (ρ x) (ρ y) := op_store _ ρ d x y t pos af g
@[go_sem high] theorem store_pair' (ρ : Operand → Value) (d : Option Tmp) (x y : Operand) (t : TypeId) (pos : String) (af : Array Edge) (g : Option (Nat × Bool)) :
    execOp ρ ⟨d, .store 76 x y, t, pos, af, g⟩ = storeNext 76 (ρ x) (ρ y) := op_store _ ρ d x y t pos af g
@[go_sem] theorem store_pair_at (g : Nat) (cs : Array Value) (w : World) : (storeNext 76 (.pointer (some ⟨g, 0, none⟩)) (.agg cs)).run Try.prog w = (storeOf Try.prog 76 g 10 (.agg cs) w (objAt w g)).andThen fun _ w' => .ok .skip w' := by
  rw [run_storeNext, storeRow_eq (by kernel_rfl) g cs w]
@[go_sem] theorem store_pair_of (g : Nat) (w : World) (old cs : Array Value) (t' : TypeId) (h1 : old.size = 10) (h2 : cs.size = 10) (h3 : oneCells cs = true) :
    storeOf Try.prog 76 g 10 (.agg cs) w (some (.cells old t' (0, 0))) = .ok () (w.setRow g cs) := storeOf_cells old cs t' h1 h2 h3
@[go_sem high] theorem zero_pair' (w : World) : (zeroValue 76).run Try.prog w = .ok (.agg (ints .u64 10 (pairF nought nought))) w := by kernel_rfl
@[go_sem ↓ high] theorem zero_pair (w : World) : (zeroValue 76).run Try.prog w = .ok (.agg (ints .u64 10 (pairF nought nought))) w := by kernel_rfl
/-! its parts -/
theorem extract_0 (x z : Nat → Int) : (ints .u64 10 (pairF x z)).extract 0 5 = ints .u64 5 x := by kernel_rfl
theorem extract_5 (x z : Nat → Int) : (ints .u64 10 (pairF x z)).extract 5 (5 + 5) = ints .u64 5 z := by kernel_rfl
theorem put_0 (x z a : Nat → Int) : putAll (ints .u64 10 (pairF x z)) 0 (ints .u64 5 a).toList = ints .u64 10 (pairF a z) := by kernel_rfl
theorem put_5 (x z a : Nat → Int) : putAll (ints .u64 10 (pairF x z)) 5 (ints .u64 5 a).toList = ints .u64 10 (pairF x a) := by kernel_rfl
@[go_sem] theorem load_part0 (g : Nat) (w : World) (x z : Nat → Int) (t' : TypeId) (fr : Nat × Nat) : loadOf Try.prog 37 g 5 w (some (.cells (ints .u64 10 (pairF x z)) t' fr)) = .ok (.agg (ints .u64 5 x)) w := by
  unfold loadOf
  simp only [ints_size]
  rw [if_neg (by decide), if_pos (by decide), extract_0]
@[go_sem] theorem store_part0 (g : Nat) (w : World) (x z a : Nat → Int) (t' : TypeId) : storeOf Try.prog 37 g 5 (.agg (ints .u64 5 a)) w (some (.cells (ints .u64 10 (pairF x z)) t' (0, 0))) = .ok () (w.setRow g (ints .u64 10 (pairF a z))) := by
  unfold storeOf
  simp only [ints_size]
  rw [if_neg (fun h => absurd h.1 (by decide)), if_pos ⟨by decide, by trivial, ints_one _ _ _⟩, put_0]
@[go_sem] theorem load_elem_mid (g : Nat) (w : World) : (loadNext 37 (.pointer (some ⟨g, 5, none⟩))).run Try.prog w = (loadMid Try.prog 37 g 5 5 w (objAt w g)).andThen fun v w' => .ok (.value v) w' := by
  rw [run_loadNext, loadMid_eq Try.underlying37 rfl (by kernel_rfl) g 5 w]
@[go_sem] theorem load_part5 (g : Nat) (w : World) (x z : Nat → Int) (t' : TypeId) (fr : Nat × Nat) : loadMid Try.prog 37 g 5 5 w (some (.cells (ints .u64 10 (pairF x z)) t' fr)) = .ok (.agg (ints .u64 5 z)) w := by
  unfold loadMid
  simp only [ints_size]
  rw [if_pos (by decide), extract_5]
@[go_sem] theorem store_elem_mid (g : Nat) (cs : Array Value) (w : World) : (storeNext 37 (.pointer (some ⟨g, 5, none⟩)) (.agg cs)).run Try.prog w = (storeMid Try.prog 37 g 5 5 (.agg cs) w (objAt w g)).andThen fun _ w' => .ok .skip w' := by
  rw [run_storeNext, storeMid_eq (by kernel_rfl) g 5 cs w]
@[go_sem] theorem store_part5 (g : Nat) (w : World) (x z a : Nat → Int) (t' : TypeId) : storeMid Try.prog 37 g 5 5 (.agg (ints .u64 5 a)) w (some (.cells (ints .u64 10 (pairF x z)) t' (0, 0))) = .ok () (w.setRow g (ints .u64 10 (pairF x a))) := by
  unfold storeMid
  simp only [ints_size]
  rw [if_pos ⟨by decide, by trivial, ints_one _ _ _⟩, put_5]
@[go_sem] theorem field_pair0 (x z : Nat → Int) (w : World) : (Instr.field 76 (.agg (ints .u64 10 (pairF x z))) 0).run Try.prog w = .ok (.agg (ints .u64 5 x)) w := by kernel_rfl
@[go_sem] theorem field_pair1 (x z : Nat → Int) (w : World) : (Instr.field 76 (.agg (ints .u64 10 (pairF x z))) 1).run Try.prog w = .ok (.agg (ints .u64 5 z)) w := by kernel_rfl
def pairNext (x z : Value) : Sem Next := do pure (.value (← Instr.build 76 #[(0, x), (1, z)]))
def pairOne (x : Value) : Sem Next := do pure (.value (← Instr.build 76 #[(0, x)]))
@[go_sem ↓ high] theorem op_pair (ρ : Operand → Value) (d : Option Tmp) (x y : Operand) (t : TypeId) (pos : String) (af : Array Edge) (g : Option (Nat × Bool)) :
    execOp ρ ⟨d, .build 76 #[(0, x), (1, y)], t, pos, af, g⟩ = pairNext (ρ x) (ρ y) := by simp [execOp, pairNext]
@[go_sem high] theorem op_pair' (ρ : Operand → Value) (d : Option Tmp) (x y : Operand) (t : TypeId) (pos : String) (af : Array Edge) (g : Option (Nat × Bool)) :
    execOp ρ ⟨d, .build 76 #[(0, x), (1, y)], t, pos, af, g⟩ = pairNext (ρ x) (ρ y) := by simp [execOp, pairNext]
@[go_sem ↓ high] theorem op_pair1 (ρ : Operand → Value) (d : Option Tmp) (x : Operand) (t : TypeId) (pos : String) (af : Array Edge) (g : Option (Nat × Bool)) :
    execOp ρ ⟨d, .build 76 #[(0, x)], t, pos, af, g⟩ = pairOne (ρ x) := by simp [execOp, pairOne]
@[go_sem high] theorem op_pair1' (ρ : Operand → Value) (d : Option Tmp) (x : Operand) (t : TypeId) (pos : String) (af : Array Edge) (g : Option (Nat × Bool)) :
    execOp ρ ⟨d, .build 76 #[(0, x)], t, pos, af, g⟩ = pairOne (ρ x) := by simp [execOp, pairOne]
@[go_sem] theorem run_pair (x z : Nat → Int) (w : World) : (pairNext (.agg (ints .u64 5 x)) (.agg (ints .u64 5 z))).run Try.prog w = .ok (.value (.agg (ints .u64 10 (pairF x z)))) w := by kernel_rfl
@[go_sem] theorem run_pair1 (x : Nat → Int) (w : World) : (pairOne (.agg (ints .u64 5 x))).run Try.prog w = .ok (.value (.agg (ints .u64 10 (pairF x nought)))) w := by kernel_rfl
attribute [irreducible] pairNext pairOne
end Go.Proofs.Ytfapmpnkemogkaa
