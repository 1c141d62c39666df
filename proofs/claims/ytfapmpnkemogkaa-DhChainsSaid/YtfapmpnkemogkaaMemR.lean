/- Whole numbers of the reference by value, in this program. -/
import Derived.Test.YtfapmpnkemogkaaMem
namespace Go.Proofs.Ytfapmpnkemogkaa
open Go.RowKit
set_option linter.unusedVariables false
set_option linter.unusedSimpArgs false

/-! arrays of type num -/
@[go_sem ↓ high] theorem load_num (ρ : Operand → Value) (d : Option Tmp) (x : Operand) (t : TypeId) (pos : String) (af : Array Edge) (g : Option (Nat × Bool)) :
    execOp ρ ⟨d, .load 41 x, t, pos, af, g⟩ = loadNext 41 (ρ x) := op_load _ ρ d x t pos af g
@[go_sem high] theorem load_num' (ρ : Operand → Value) (d : Option Tmp) (x : Operand) (t : TypeId) (pos : String) (af : Array Edge) (g : Option (Nat × Bool)) :
    execOp ρ ⟨d, .load 41 x, t, pos, af, g⟩ = loadNext 41 (ρ x) := op_load _ ρ d x t pos af g
@[go_sem] theorem load_num_at (g : Nat) (w : World) : (loadNext 41 (.pointer (some ⟨g, 0, none⟩))).run Try.prog w = (loadOf Try.prog 41 g 16 w (objAt w g)).andThen fun v w' => .ok (.value v) w' := by
  rw [run_loadNext, loadRow_eq Try.underlying41 rfl (by kernel_rfl) g w]
@[go_sem] theorem load_num_of (g : Nat) (w : World) (cs : Array Value) (t' : TypeId) (fr : Nat × Nat) (h : cs.size = 16) : loadOf Try.prog 41 g 16 w (some (.cells cs t' fr)) = .ok (.agg cs) w := loadOf_cells cs t' fr h
@[go_sem ↓ high] theorem store_num (ρ : Operand → Value) (d : Option Tmp) (x y : Operand) (t : TypeId) (pos : String) (af : Array Edge) (g : Option (Nat × Bool)) :
    execOp ρ ⟨d, .store 41 x y, t, pos, af, g⟩ = storeNext 41 (ρ x) (ρ y) := op_store _ ρ d x y t pos af g
@[go_sem high] theorem store_num' (ρ : Operand → Value) (d : Option Tmp) (x y : Operand) (t : TypeId) (pos : String) (af : Array Edge) (g : Option (Nat × Bool)) :
    execOp ρ ⟨d, .store 41 x y, t, pos, af, g⟩ = storeNext 41 (ρ x) (ρ y) := op_store _ ρ d x y t pos af g
@[go_sem] theorem store_num_at (g : Nat) (cs : Array Value) (w : World) : (storeNext 41 (.pointer (some ⟨g, 0, none⟩)) (.agg cs)).run Try.prog w = (storeOf Try.prog 41 g 16 (.agg cs) w (objAt w g)).andThen fun _ w' => .ok .skip w' := by
  rw [run_storeNext, storeRow_eq (by kernel_rfl) g cs w]
@[go_sem] theorem store_num_of (g : Nat) (w : World) (old cs : Array Value) (t' : TypeId) (h1 : old.size = 16) (h2 : cs.size = 16) (h3 : oneCells cs = true) :
    storeOf Try.prog 41 g 16 (.agg cs) w (some (.cells old t' (0, 0))) = .ok () (w.setRow g cs) := storeOf_cells old cs t' h1 h2 h3
@[go_sem high] theorem zero_num' (w : World) : (zeroValue 41).run Try.prog w = .ok (.agg (ints .i64 16 nought)) w := by kernel_rfl
@[go_sem ↓ high] theorem zero_num (w : World) : (zeroValue 41).run Try.prog w = .ok (.agg (ints .i64 16 nought)) w := by kernel_rfl
@[go_sem high] theorem eql_num (f g : Nat → Int) (w : World) : (binOp .eql 41 (.agg (ints .i64 16 f)) (.agg (ints .i64 16 g))).run Try.prog w = .ok (.bool (same 16 f g)) w :=
  run_eql_ints w .i64 f g Try.underlying41 Try.underlying3 (i := (Try.prog.info? 3).get (by kernel_rfl)) (by kernel_rfl) (by kernel_rfl)
@[go_sem high] theorem neq_num (f g : Nat → Int) (w : World) : (binOp .neq 41 (.agg (ints .i64 16 f)) (.agg (ints .i64 16 g))).run Try.prog w = .ok (.bool (!same 16 f g)) w :=
  run_neq_ints w .i64 f g Try.underlying41 Try.underlying3 (i := (Try.prog.info? 3).get (by kernel_rfl)) (by kernel_rfl) (by kernel_rfl)
@[go_sem] theorem index_num (k' : IntKind) (f : Nat → Int) (j : Int) (w : World) (h0 : 0 ≤ j) (h1 : j < 16) : (Instr.index 41 (.agg (ints .i64 16 f)) (.int k' j)).run Try.prog w = .ok (.int .i64 (f j.toNat)) w :=
  run_index_ints w .i64 k' f j Try.underlying41 Try.underlying3 (i := (Try.prog.info? 3).get (by kernel_rfl)) (by kernel_rfl) (by kernel_rfl) h0 h1
/-! arrays of type bytes -/
@[go_sem ↓ high] theorem load_bytes (ρ : Operand → Value) (d : Option Tmp) (x : Operand) (t : TypeId) (pos : String) (af : Array Edge) (g : Option (Nat × Bool)) :
    execOp ρ ⟨d, .load 22 x, t, pos, af, g⟩ = loadNext 22 (ρ x) := op_load _ ρ d x t pos af g
@[go_sem high] theorem load_bytes' (ρ : Operand → Value) (d : Option Tmp) (x : Operand) (t : TypeId) (pos : String) (af : Array Edge) (g : Option (Nat × Bool)) :
    execOp ρ ⟨d, .load 22 x, t, pos, af, g⟩ = loadNext 22 (ρ x) := op_load _ ρ d x t pos af g
@[go_sem] theorem load_bytes_at (g : Nat) (w : World) : (loadNext 22 (.pointer (some ⟨g, 0, none⟩))).run Try.prog w = (loadOf Try.prog 22 g 32 w (objAt w g)).andThen fun v w' => .ok (.value v) w' := by
  rw [run_loadNext, loadRow_eq Try.underlying22 rfl (by kernel_rfl) g w]
@[go_sem] theorem load_bytes_of (g : Nat) (w : World) (cs : Array Value) (t' : TypeId) (fr : Nat × Nat) (h : cs.size = 32) : loadOf Try.prog 22 g 32 w (some (.cells cs t' fr)) = .ok (.agg cs) w := loadOf_cells cs t' fr h
@[go_sem ↓ high] theorem store_bytes (ρ : Operand → Value) (d : Option Tmp) (x y : Operand) (t : TypeId) (pos : String) (af : Array Edge) (g : Option (Nat × Bool)) :
    execOp ρ ⟨d, .store 22 x y, t, pos, af, g⟩ = storeNext 22 (ρ x) (ρ y) := op_store _ ρ d x y t pos af g
@[go_sem high] theorem store_bytes' (ρ : Operand → Value) (d : Option Tmp) (x y : Operand) (t : TypeId) (pos : String) (af : Array Edge) (g : Option (Nat × Bool)) :
    execOp ρ ⟨d, .store 22 x y, t, pos, af, g⟩ = storeNext 22 (ρ x) (ρ y) := op_store _ ρ d x y t pos af g
@[go_sem] theorem store_bytes_at (g : Nat) (cs : Array Value) (w : World) : (storeNext 22 (.pointer (some ⟨g, 0, none⟩)) (.agg cs)).run Try.prog w = (storeOf Try.prog 22 g 32 (.agg cs) w (objAt w g)).andThen fun _ w' => .ok .skip w' := by
  rw [run_storeNext, storeRow_eq (by kernel_rfl) g cs w]
@[go_sem] theorem store_bytes_of (g : Nat) (w : World) (old cs : Array Value) (t' : TypeId) (h1 : old.size = 32) (h2 : cs.size = 32) (h3 : oneCells cs = true) :
    storeOf Try.prog 22 g 32 (.agg cs) w (some (.cells old t' (0, 0))) = .ok () (w.setRow g cs) := storeOf_cells old cs t' h1 h2 h3
@[go_sem high] theorem zero_bytes' (w : World) : (zeroValue 22).run Try.prog w = .ok (.agg (ints .u8 32 nought)) w := by kernel_rfl
@[go_sem ↓ high] theorem zero_bytes (w : World) : (zeroValue 22).run Try.prog w = .ok (.agg (ints .u8 32 nought)) w := by kernel_rfl
@[go_sem high] theorem eql_bytes (f g : Nat → Int) (w : World) : (binOp .eql 22 (.agg (ints .u8 32 f)) (.agg (ints .u8 32 g))).run Try.prog w = .ok (.bool (same 32 f g)) w :=
  run_eql_ints w .u8 f g Try.underlying22 Try.underlying5 (i := (Try.prog.info? 5).get (by kernel_rfl)) (by kernel_rfl) (by kernel_rfl)
@[go_sem high] theorem neq_bytes (f g : Nat → Int) (w : World) : (binOp .neq 22 (.agg (ints .u8 32 f)) (.agg (ints .u8 32 g))).run Try.prog w = .ok (.bool (!same 32 f g)) w :=
  run_neq_ints w .u8 f g Try.underlying22 Try.underlying5 (i := (Try.prog.info? 5).get (by kernel_rfl)) (by kernel_rfl) (by kernel_rfl)
@[go_sem] theorem index_bytes (k' : IntKind) (f : Nat → Int) (j : Int) (w : World) (h0 : 0 ≤ j) (h1 : j < 32) : (Instr.index 22 (.agg (ints .u8 32 f)) (.int k' j)).run Try.prog w = .ok (.int .u8 (f j.toNat)) w :=
  run_index_ints w .u8 k' f j Try.underlying22 Try.underlying5 (i := (Try.prog.info? 5).get (by kernel_rfl)) (by kernel_rfl) (by kernel_rfl) h0 h1
/-! arrays of type five -/
@[go_sem ↓ high] theorem load_five (ρ : Operand → Value) (d : Option Tmp) (x : Operand) (t : TypeId) (pos : String) (af : Array Edge) (g : Option (Nat × Bool)) :
    execOp ρ ⟨d, .load 36 x, t, pos, af, g⟩ = loadNext 36 (ρ x) := op_load _ ρ d x t pos af g
@[go_sem high] theorem load_five' (ρ : Operand → Value) (d : Option Tmp) (x : Operand) (t : TypeId) (pos : String) (af : Array Edge) (g : Option (Nat × Bool)) :
    execOp ρ ⟨d, .load 36 x, t, pos, af, g⟩ = loadNext 36 (ρ x) := op_load _ ρ d x t pos af g
@[go_sem] theorem load_five_at (g : Nat) (w : World) : (loadNext 36 (.pointer (some ⟨g, 0, none⟩))).run Try.prog w = (loadOf Try.prog 36 g 5 w (objAt w g)).andThen fun v w' => .ok (.value v) w' := by
  rw [run_loadNext, loadRow_eq Try.underlying36 rfl (by kernel_rfl) g w]
@[go_sem] theorem load_five_of (g : Nat) (w : World) (cs : Array Value) (t' : TypeId) (fr : Nat × Nat) (h : cs.size = 5) : loadOf Try.prog 36 g 5 w (some (.cells cs t' fr)) = .ok (.agg cs) w := loadOf_cells cs t' fr h
@[go_sem ↓ high] theorem store_five (ρ : Operand → Value) (d : Option Tmp) (x y : Operand) (t : TypeId) (pos : String) (af : Array Edge) (g : Option (Nat × Bool)) :
    execOp ρ ⟨d, .store 36 x y, t, pos, af, g⟩ = storeNext 36 (ρ x) (ρ y) := op_store _ ρ d x y t pos af g
@[go_sem high] theorem store_five' (ρ : Operand → Value) (d : Option Tmp) (x y : Operand) (t : TypeId) (pos : String) (af : Array Edge) (g : Option (Nat × Bool)) :
    execOp ρ ⟨d, .store 36 x y, t, pos, af, g⟩ = storeNext 36 (ρ x) (ρ y) := op_store _ ρ d x y t pos af g
@[go_sem] theorem store_five_at (g : Nat) (cs : Array Value) (w : World) : (storeNext 36 (.pointer (some ⟨g, 0, none⟩)) (.agg cs)).run Try.prog w = (storeOf Try.prog 36 g 5 (.agg cs) w (objAt w g)).andThen fun _ w' => .ok .skip w' := by
  rw [run_storeNext, storeRow_eq (by kernel_rfl) g cs w]
@[go_sem] theorem store_five_of (g : Nat) (w : World) (old cs : Array Value) (t' : TypeId) (h1 : old.size = 5) (h2 : cs.size = 5) (h3 : oneCells cs = true) :
    storeOf Try.prog 36 g 5 (.agg cs) w (some (.cells old t' (0, 0))) = .ok () (w.setRow g cs) := storeOf_cells old cs t' h1 h2 h3
@[go_sem high] theorem zero_five' (w : World) : (zeroValue 36).run Try.prog w = .ok (.agg (ints .u64 5 nought)) w := by kernel_rfl
@[go_sem ↓ high] theorem zero_five (w : World) : (zeroValue 36).run Try.prog w = .ok (.agg (ints .u64 5 nought)) w := by kernel_rfl
@[go_sem high] theorem eql_five (f g : Nat → Int) (w : World) : (binOp .eql 36 (.agg (ints .u64 5 f)) (.agg (ints .u64 5 g))).run Try.prog w = .ok (.bool (same 5 f g)) w :=
  run_eql_ints w .u64 f g Try.underlying36 Try.underlying35 (i := (Try.prog.info? 35).get (by kernel_rfl)) (by kernel_rfl) (by kernel_rfl)
@[go_sem high] theorem neq_five (f g : Nat → Int) (w : World) : (binOp .neq 36 (.agg (ints .u64 5 f)) (.agg (ints .u64 5 g))).run Try.prog w = .ok (.bool (!same 5 f g)) w :=
  run_neq_ints w .u64 f g Try.underlying36 Try.underlying35 (i := (Try.prog.info? 35).get (by kernel_rfl)) (by kernel_rfl) (by kernel_rfl)
@[go_sem] theorem index_five (k' : IntKind) (f : Nat → Int) (j : Int) (w : World) (h0 : 0 ≤ j) (h1 : j < 5) : (Instr.index 36 (.agg (ints .u64 5 f)) (.int k' j)).run Try.prog w = .ok (.int .u64 (f j.toNat)) w :=
  run_index_ints w .u64 k' f j Try.underlying36 Try.underlying35 (i := (Try.prog.info? 35).get (by kernel_rfl)) (by kernel_rfl) (by kernel_rfl) h0 h1
end Go.Proofs.Ytfapmpnkemogkaa
