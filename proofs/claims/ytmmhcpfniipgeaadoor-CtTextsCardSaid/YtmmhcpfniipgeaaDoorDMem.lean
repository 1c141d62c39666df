/- The reference's arrays, whole. -/
import Derived.Test.YtmmhcpfniipgeaaDoorDParse
namespace Go.Proofs.YtmmhcpfniipgeaaDoor
open Go.RowKit
set_option linter.unusedVariables false
set_option linter.unusedSimpArgs false
@[go_sem ↓ high] theorem load_row32 (ρ : Operand → Value) (d : Option Tmp) (x : Operand) (t : TypeId) (pos : String) (af : Array Edge) (g : Option (Nat × Bool)) :
    execOp ρ ⟨d, .load 22 x, t, pos, af, g⟩ = loadNext 22 (ρ x) := op_load _ ρ d x t pos af g
@[go_sem high] theorem load_row32' (ρ : Operand → Value) (d : Option Tmp) (x : Operand) (t : TypeId) (pos : String) (af : Array Edge) (g : Option (Nat × Bool)) :
    execOp ρ ⟨d, .load 22 x, t, pos, af, g⟩ = loadNext 22 (ρ x) := op_load _ ρ d x t pos af g
@[go_sem] theorem load_row32_at (g : Nat) (w : World) : (loadNext 22 (.pointer (some ⟨g, 0, none⟩))).run Tryd.prog w = (loadOf Tryd.prog 22 g 32 w (objAt w g)).andThen fun v w' => .ok (.value v) w' := by
  rw [run_loadNext, loadRow_eq Tryd.underlying22 rfl (by kernel_rfl) g w]
@[go_sem] theorem load_row32_of (g : Nat) (w : World) (cs : Array Value) (t' : TypeId) (fr : Nat × Nat) (h : cs.size = 32) : loadOf Tryd.prog 22 g 32 w (some (.cells cs t' fr)) = .ok (.agg cs) w := loadOf_cells cs t' fr h
@[go_sem ↓ high] theorem store_row32 (ρ : Operand → Value) (d : Option Tmp) (x y : Operand) (t : TypeId) (pos : String) (af : Array Edge) (g : Option (Nat × Bool)) :
    execOp ρ ⟨d, .store 22 x y, t, pos, af, g⟩ = storeNext 22 (ρ x) (ρ y) := op_store _ ρ d x y t pos af g
@[go_sem high] theorem store_row32' (ρ : Operand → Value) (d : Option Tmp) (x y : Operand) (t : TypeId) (pos : String) (af : Array Edge) (g : Option (Nat × Bool)) :
    execOp ρ ⟨d, .store 22 x y, t, pos, af, g⟩ = storeNext 22 (ρ x) (ρ y) := op_store _ ρ d x y t pos af g
@[go_sem] theorem store_row32_at (g : Nat) (cs : Array Value) (w : World) : (storeNext 22 (.pointer (some ⟨g, 0, none⟩)) (.agg cs)).run Tryd.prog w = (storeOf Tryd.prog 22 g 32 (.agg cs) w (objAt w g)).andThen fun _ w' => .ok .skip w' := by
  rw [run_storeNext, storeRow_eq (by kernel_rfl) g cs w]
@[go_sem] theorem store_row32_of (g : Nat) (w : World) (old cs : Array Value) (t' : TypeId) (h1 : old.size = 32) (h2 : cs.size = 32) (h3 : oneCells cs = true) :
    storeOf Tryd.prog 22 g 32 (.agg cs) w (some (.cells old t' (0, 0))) = .ok () (w.setRow g cs) := storeOf_cells old cs t' h1 h2 h3
@[go_sem high] theorem zero_row32' (w : World) : (zeroValue 22).run Tryd.prog w = .ok (.agg (ints .u8 32 nought)) w := by kernel_rfl
@[go_sem ↓ high] theorem zero_row32 (w : World) : (zeroValue 22).run Tryd.prog w = .ok (.agg (ints .u8 32 nought)) w := by kernel_rfl
@[go_sem high] theorem eql_row32 (f g : Nat → Int) (w : World) : (binOp .eql 22 (.agg (ints .u8 32 f)) (.agg (ints .u8 32 g))).run Tryd.prog w = .ok (.bool (same 32 f g)) w :=
  run_eql_ints w .u8 f g Tryd.underlying22 Tryd.underlying5 (i := (Tryd.prog.info? 5).get (by kernel_rfl)) (by kernel_rfl) (by kernel_rfl)
@[go_sem high] theorem neq_row32 (f g : Nat → Int) (w : World) : (binOp .neq 22 (.agg (ints .u8 32 f)) (.agg (ints .u8 32 g))).run Tryd.prog w = .ok (.bool (!same 32 f g)) w :=
  run_neq_ints w .u8 f g Tryd.underlying22 Tryd.underlying5 (i := (Tryd.prog.info? 5).get (by kernel_rfl)) (by kernel_rfl) (by kernel_rfl)
@[go_sem] theorem index_row32 (k' : IntKind) (f : Nat → Int) (j : Int) (w : World) (h0 : 0 ≤ j) (h1 : j < 32) : (Instr.index 22 (.agg (ints .u8 32 f)) (.int k' j)).run Tryd.prog w = .ok (.int .u8 (f j.toNat)) w :=
  run_index_ints w .u8 k' f j Tryd.underlying22 Tryd.underlying5 (i := (Tryd.prog.info? 5).get (by kernel_rfl)) (by kernel_rfl) (by kernel_rfl) h0 h1
end Go.Proofs.YtmmhcpfniipgeaaDoor
