/- Whole elements of limb by value, in this program. -/
import Derived.Test.YtfapmpnkemogkaaMem
namespace Go.Proofs.Ytfapmpnkemogkaa
open Go.RowKit
set_option linter.unusedVariables false
set_option linter.unusedSimpArgs false

/-! arrays of type elem -/
@[go_sem ↓ high] theorem load_elem (ρ : Operand → Value) (d : Option Tmp) (x : Operand) (t : TypeId) (pos : String) (af : Array Edge) (g : Option (Nat × Bool)) :
    execOp ρ ⟨d, .load 37 x, t, pos, af, g⟩ = loadNext 37 (ρ x) := op_load _ ρ d x t pos af g
@[go_sem high] theorem load_elem' (ρ : Operand → Value) (d : Option Tmp) (x : Operand) (t : TypeId) (pos : String) (af : Array Edge) (g : Option (Nat × Bool)) :
    execOp ρ ⟨d, .load 37 x, t, pos, af, g⟩ = loadNext 37 (ρ x) := op_load _ ρ d x t pos af g
@[go_sem] theorem load_elem_at (g : Nat) (w : World) : (loadNext 37 (.pointer (some ⟨g, 0, none⟩))).run Try.prog w = (loadOf Try.prog 37 g 5 w (objAt w g)).andThen fun v w' => .ok (.value v) w' := by
  rw [run_loadNext, loadRow_eq Try.underlying37 rfl (by kernel_rfl) g w]
@[go_sem] theorem load_elem_of (g : Nat) (w : World) (cs : Array Value) (t' : TypeId) (fr : Nat × Nat) (h : cs.size = 5) : loadOf Try.prog 37 g 5 w (some (.cells cs t' fr)) = .ok (.agg cs) w := loadOf_cells cs t' fr h
@[go_sem ↓ high] theorem store_elem (ρ : Operand → Value) (d : Option Tmp) (x y : Operand) (t : TypeId) (pos : String) (af : Array Edge) (g : Option (Nat × Bool)) :
    execOp ρ ⟨d, .store 37 x y, t, pos, af, g⟩ = storeNext 37 (ρ x) (ρ y) := op_store _ ρ d x y t pos af g
@[go_sem high] theorem store_elem' (ρ : Operand → Value) (d : Option Tmp) (x y : Operand) (t : TypeId) (pos : String) (af : Array Edge) (g : Option (Nat × Bool)) :
    execOp ρ ⟨d, .store 37 x y, t, pos, af, g⟩ = storeNext 37 (ρ x) (ρ y) := op_store _ ρ d x y t pos af g
@[go_sem] theorem store_elem_at (g : Nat) (cs : Array Value) (w : World) : (storeNext 37 (.pointer (some ⟨g, 0, none⟩)) (.agg cs)).run Try.prog w = (storeOf Try.prog 37 g 5 (.agg cs) w (objAt w g)).andThen fun _ w' => .ok .skip w' := by
  rw [run_storeNext, storeRow_eq (by kernel_rfl) g cs w]
@[go_sem] theorem store_elem_of (g : Nat) (w : World) (old cs : Array Value) (t' : TypeId) (h1 : old.size = 5) (h2 : cs.size = 5) (h3 : oneCells cs = true) :
    storeOf Try.prog 37 g 5 (.agg cs) w (some (.cells old t' (0, 0))) = .ok () (w.setRow g cs) := storeOf_cells old cs t' h1 h2 h3
@[go_sem high] theorem zero_elem' (w : World) : (zeroValue 37).run Try.prog w = .ok (.agg (ints .u64 5 nought)) w := by kernel_rfl
@[go_sem ↓ high] theorem zero_elem (w : World) : (zeroValue 37).run Try.prog w = .ok (.agg (ints .u64 5 nought)) w := by kernel_rfl
@[go_sem high] theorem eql_elem (f g : Nat → Int) (w : World) : (binOp .eql 37 (.agg (ints .u64 5 f)) (.agg (ints .u64 5 g))).run Try.prog w = .ok (.bool (same 5 f g)) w :=
  run_eql_ints w .u64 f g Try.underlying37 Try.underlying35 (i := (Try.prog.info? 35).get (by kernel_rfl)) (by kernel_rfl) (by kernel_rfl)
@[go_sem high] theorem neq_elem (f g : Nat → Int) (w : World) : (binOp .neq 37 (.agg (ints .u64 5 f)) (.agg (ints .u64 5 g))).run Try.prog w = .ok (.bool (!same 5 f g)) w :=
  run_neq_ints w .u64 f g Try.underlying37 Try.underlying35 (i := (Try.prog.info? 35).get (by kernel_rfl)) (by kernel_rfl) (by kernel_rfl)
@[go_sem] theorem index_elem (k' : IntKind) (f : Nat → Int) (j : Int) (w : World) (h0 : 0 ≤ j) (h1 : j < 5) : (Instr.index 37 (.agg (ints .u64 5 f)) (.int k' j)).run Try.prog w = .ok (.int .u64 (f j.toNat)) w :=
  run_index_ints w .u64 k' f j Try.underlying37 Try.underlying35 (i := (Try.prog.info? 35).get (by kernel_rfl)) (by kernel_rfl) (by kernel_rfl) h0 h1
/-! arrays of type words -/
@[go_sem ↓ high] theorem load_words (ρ : Operand → Value) (d : Option Tmp) (x : Operand) (t : TypeId) (pos : String) (af : Array Edge) (g : Option (Nat × Bool)) :
    execOp ρ ⟨d, .load 106 x, t, pos, af, g⟩ = loadNext 106 (ρ x) := op_load _ ρ d x t pos af g
@[go_sem high] theorem load_words' (ρ : Operand → Value) (d : Option Tmp) (x : Operand) (t : TypeId) (pos : String) (af : Array Edge) (g : Option (Nat × Bool)) :
    execOp ρ ⟨d, .load 106 x, t, pos, af, g⟩ = loadNext 106 (ρ x) := op_load _ ρ d x t pos af g
@[go_sem] theorem load_words_at (g : Nat) (w : World) : (loadNext 106 (.pointer (some ⟨g, 0, none⟩))).run Try.prog w = (loadOf Try.prog 106 g 4 w (objAt w g)).andThen fun v w' => .ok (.value v) w' := by
  rw [run_loadNext, loadRow_eq Try.underlying106 rfl (by kernel_rfl) g w]
@[go_sem] theorem load_words_of (g : Nat) (w : World) (cs : Array Value) (t' : TypeId) (fr : Nat × Nat) (h : cs.size = 4) : loadOf Try.prog 106 g 4 w (some (.cells cs t' fr)) = .ok (.agg cs) w := loadOf_cells cs t' fr h
@[go_sem ↓ high] theorem store_words (ρ : Operand → Value) (d : Option Tmp) (x y : Operand) (t : TypeId) (pos : String) (af : Array Edge) (g : Option (Nat × Bool)) :
    execOp ρ ⟨d, .store 106 x y, t, pos, af, g⟩ = storeNext 106 (ρ x) (ρ y) := op_store _ ρ d x y t pos af g
@[go_sem high] theorem store_words' (ρ : Operand → Value) (d : Option Tmp) (x y : Operand) (t : TypeId) (pos : String) (af : Array Edge) (g : Option (Nat × Bool)) :
    execOp ρ ⟨d, .store 106 x y, t, pos, af, g⟩ = storeNext 106 (ρ x) (ρ y) := op_store _ ρ d x y t pos af g
@[go_sem] theorem store_words_at (g : Nat) (cs : Array Value) (w : World) : (storeNext 106 (.pointer (some ⟨g, 0, none⟩)) (.agg cs)).run Try.prog w = (storeOf Try.prog 106 g 4 (.agg cs) w (objAt w g)).andThen fun _ w' => .ok .skip w' := by
  rw [run_storeNext, storeRow_eq (by kernel_rfl) g cs w]
@[go_sem] theorem store_words_of (g : Nat) (w : World) (old cs : Array Value) (t' : TypeId) (h1 : old.size = 4) (h2 : cs.size = 4) (h3 : oneCells cs = true) :
    storeOf Try.prog 106 g 4 (.agg cs) w (some (.cells old t' (0, 0))) = .ok () (w.setRow g cs) := storeOf_cells old cs t' h1 h2 h3
@[go_sem high] theorem zero_words' (w : World) : (zeroValue 106).run Try.prog w = .ok (.agg (ints .u64 4 nought)) w := by kernel_rfl
@[go_sem ↓ high] theorem zero_words (w : World) : (zeroValue 106).run Try.prog w = .ok (.agg (ints .u64 4 nought)) w := by kernel_rfl
@[go_sem high] theorem eql_words (f g : Nat → Int) (w : World) : (binOp .eql 106 (.agg (ints .u64 4 f)) (.agg (ints .u64 4 g))).run Try.prog w = .ok (.bool (same 4 f g)) w :=
  run_eql_ints w .u64 f g Try.underlying106 Try.underlying35 (i := (Try.prog.info? 35).get (by kernel_rfl)) (by kernel_rfl) (by kernel_rfl)
@[go_sem high] theorem neq_words (f g : Nat → Int) (w : World) : (binOp .neq 106 (.agg (ints .u64 4 f)) (.agg (ints .u64 4 g))).run Try.prog w = .ok (.bool (!same 4 f g)) w :=
  run_neq_ints w .u64 f g Try.underlying106 Try.underlying35 (i := (Try.prog.info? 35).get (by kernel_rfl)) (by kernel_rfl) (by kernel_rfl)
@[go_sem] theorem index_words (k' : IntKind) (f : Nat → Int) (j : Int) (w : World) (h0 : 0 ≤ j) (h1 : j < 4) : (Instr.index 106 (.agg (ints .u64 4 f)) (.int k' j)).run Try.prog w = .ok (.int .u64 (f j.toNat)) w :=
  run_index_ints w .u64 k' f j Try.underlying106 Try.underlying35 (i := (Try.prog.info? 35).get (by kernel_rfl)) (by kernel_rfl) (by kernel_rfl) h0 h1
end Go.Proofs.Ytfapmpnkemogkaa
