/- Sm -/
import Derived.Test.YtdoolhbmekahdaaGreatDoorMem
import Derived.Test.YtdoolhbmekahdaaGreatDoorCt
namespace Go.Proofs.YtdoolhbmekahdaaGreatDoor
open Go.RowKit
set_option linter.unusedVariables false
set_option linter.unusedSimpArgs false
@[go_sem ↓ high] theorem load_w8 (ρ : Operand → Value) (d : Option Tmp) (x : Operand) (t : TypeId) (pos : String) (af : Array Edge) (g : Option (Nat × Bool)) :
  execOp ρ ⟨d, .load 126 x, t, pos, af, g⟩ = loadNext 126 (ρ x) := op_load _ ρ d x t pos af g
@[go_sem high] theorem load_w8' (ρ : Operand → Value) (d : Option Tmp) (x : Operand) (t : TypeId) (pos : String) (af : Array Edge) (g : Option (Nat × Bool)) :
  execOp ρ ⟨d, .load 126 x, t, pos, af, g⟩ = loadNext 126 (ρ x) := op_load _ ρ d x t pos af g
@[go_sem] theorem load_w8_at (g : Nat) (w : World) : (loadNext 126 (.pointer (some ⟨g, 0, none⟩))).run Tryz.prog w = (loadOf Tryz.prog 126 g 8 w (objAt w g)).andThen fun v w' => .ok (.value v) w' := by
 rw [run_loadNext, loadRow_eq Tryz.underlying126 rfl (by kernel_rfl) g w]
@[go_sem] theorem load_w8_of (g : Nat) (w : World) (cs : Array Value) (t' : TypeId) (fr : Nat × Nat) (h : cs.size = 8) : loadOf Tryz.prog 126 g 8 w (some (.cells cs t' fr)) = .ok (.agg cs) w := loadOf_cells cs t' fr h
@[go_sem ↓ high] theorem store_w8 (ρ : Operand → Value) (d : Option Tmp) (x y : Operand) (t : TypeId) (pos : String) (af : Array Edge) (g : Option (Nat × Bool)) :
  execOp ρ ⟨d, .store 126 x y, t, pos, af, g⟩ = storeNext 126 (ρ x) (ρ y) := op_store _ ρ d x y t pos af g
@[go_sem high] theorem store_w8' (ρ : Operand → Value) (d : Option Tmp) (x y : Operand) (t : TypeId) (pos : String) (af : Array Edge) (g : Option (Nat × Bool)) :
  execOp ρ ⟨d, .store 126 x y, t, pos, af, g⟩ = storeNext 126 (ρ x) (ρ y) := op_store _ ρ d x y t pos af g
@[go_sem] theorem store_w8_at (g : Nat) (cs : Array Value) (w : World) : (storeNext 126 (.pointer (some ⟨g, 0, none⟩)) (.agg cs)).run Tryz.prog w = (storeOf Tryz.prog 126 g 8 (.agg cs) w (objAt w g)).andThen fun _ w' => .ok .skip w' := by
 rw [run_storeNext, storeRow_eq (by kernel_rfl) g cs w]
@[go_sem] theorem store_w8_of (g : Nat) (w : World) (old cs : Array Value) (t' : TypeId) (h1 : old.size = 8) (h2 : cs.size = 8) (h3 : oneCells cs = true) :
  storeOf Tryz.prog 126 g 8 (.agg cs) w (some (.cells old t' (0, 0))) = .ok () (w.setRow g cs) := storeOf_cells old cs t' h1 h2 h3
@[go_sem high] theorem zero_w8' (w : World) : (zeroValue 126).run Tryz.prog w = .ok (.agg (ints .u32 8 nought)) w := by kernel_rfl
@[go_sem ↓ high] theorem zero_w8 (w : World) : (zeroValue 126).run Tryz.prog w = .ok (.agg (ints .u32 8 nought)) w := by kernel_rfl
@[go_sem] theorem index_w8 (k' : IntKind) (f : Nat → Int) (j : Int) (w : World) (h0 : 0 ≤ j) (h1 : j < 8) : (Instr.index 126 (.agg (ints .u32 8 f)) (.int k' j)).run Tryz.prog w = .ok (.int .u32 (f j.toNat)) w :=
 run_index_ints w .u32 k' f j Tryz.underlying126 Tryz.underlying71 (i := (Tryz.prog.info? 71).get (by kernel_rfl)) (by kernel_rfl) (by kernel_rfl) h0 h1
@[go_sem high] theorem eql_w8 (f g : Nat → Int) (w : World) : (binOp .eql 126 (.agg (ints .u32 8 f)) (.agg (ints .u32 8 g))).run Tryz.prog w = .ok (.bool (same 8 f g)) w :=
 run_eql_ints w .u32 f g Tryz.underlying126 Tryz.underlying71 (i := (Tryz.prog.info? 71).get (by kernel_rfl)) (by kernel_rfl) (by kernel_rfl)
@[go_sem high] theorem neq_w8 (f g : Nat → Int) (w : World) : (binOp .neq 126 (.agg (ints .u32 8 f)) (.agg (ints .u32 8 g))).run Tryz.prog w = .ok (.bool (!same 8 f g)) w :=
 run_neq_ints w .u32 f g Tryz.underlying126 Tryz.underlying71 (i := (Tryz.prog.info? 71).get (by kernel_rfl)) (by kernel_rfl) (by kernel_rfl)
@[go_sem ↓ high] theorem load_b64 (ρ : Operand → Value) (d : Option Tmp) (x : Operand) (t : TypeId) (pos : String) (af : Array Edge) (g : Option (Nat × Bool)) :
  execOp ρ ⟨d, .load 127 x, t, pos, af, g⟩ = loadNext 127 (ρ x) := op_load _ ρ d x t pos af g
@[go_sem high] theorem load_b64' (ρ : Operand → Value) (d : Option Tmp) (x : Operand) (t : TypeId) (pos : String) (af : Array Edge) (g : Option (Nat × Bool)) :
  execOp ρ ⟨d, .load 127 x, t, pos, af, g⟩ = loadNext 127 (ρ x) := op_load _ ρ d x t pos af g
@[go_sem] theorem load_b64_at (g : Nat) (w : World) : (loadNext 127 (.pointer (some ⟨g, 0, none⟩))).run Tryz.prog w = (loadOf Tryz.prog 127 g 64 w (objAt w g)).andThen fun v w' => .ok (.value v) w' := by
 rw [run_loadNext, loadRow_eq Tryz.underlying127 rfl (by kernel_rfl) g w]
@[go_sem] theorem load_b64_of (g : Nat) (w : World) (cs : Array Value) (t' : TypeId) (fr : Nat × Nat) (h : cs.size = 64) : loadOf Tryz.prog 127 g 64 w (some (.cells cs t' fr)) = .ok (.agg cs) w := loadOf_cells cs t' fr h
@[go_sem ↓ high] theorem store_b64 (ρ : Operand → Value) (d : Option Tmp) (x y : Operand) (t : TypeId) (pos : String) (af : Array Edge) (g : Option (Nat × Bool)) :
  execOp ρ ⟨d, .store 127 x y, t, pos, af, g⟩ = storeNext 127 (ρ x) (ρ y) := op_store _ ρ d x y t pos af g
@[go_sem high] theorem store_b64' (ρ : Operand → Value) (d : Option Tmp) (x y : Operand) (t : TypeId) (pos : String) (af : Array Edge) (g : Option (Nat × Bool)) :
  execOp ρ ⟨d, .store 127 x y, t, pos, af, g⟩ = storeNext 127 (ρ x) (ρ y) := op_store _ ρ d x y t pos af g
@[go_sem] theorem store_b64_at (g : Nat) (cs : Array Value) (w : World) : (storeNext 127 (.pointer (some ⟨g, 0, none⟩)) (.agg cs)).run Tryz.prog w = (storeOf Tryz.prog 127 g 64 (.agg cs) w (objAt w g)).andThen fun _ w' => .ok .skip w' := by
 rw [run_storeNext, storeRow_eq (by kernel_rfl) g cs w]
@[go_sem] theorem store_b64_of (g : Nat) (w : World) (old cs : Array Value) (t' : TypeId) (h1 : old.size = 64) (h2 : cs.size = 64) (h3 : oneCells cs = true) :
  storeOf Tryz.prog 127 g 64 (.agg cs) w (some (.cells old t' (0, 0))) = .ok () (w.setRow g cs) := storeOf_cells old cs t' h1 h2 h3
@[go_sem high] theorem zero_b64' (w : World) : (zeroValue 127).run Tryz.prog w = .ok (.agg (ints .u8 64 nought)) w := by kernel_rfl
@[go_sem ↓ high] theorem zero_b64 (w : World) : (zeroValue 127).run Tryz.prog w = .ok (.agg (ints .u8 64 nought)) w := by kernel_rfl
@[go_sem] theorem index_b64 (k' : IntKind) (f : Nat → Int) (j : Int) (w : World) (h0 : 0 ≤ j) (h1 : j < 64) : (Instr.index 127 (.agg (ints .u8 64 f)) (.int k' j)).run Tryz.prog w = .ok (.int .u8 (f j.toNat)) w :=
 run_index_ints w .u8 k' f j Tryz.underlying127 Tryz.underlying5 (i := (Tryz.prog.info? 5).get (by kernel_rfl)) (by kernel_rfl) (by kernel_rfl) h0 h1
@[go_sem high] theorem eql_b64 (f g : Nat → Int) (w : World) : (binOp .eql 127 (.agg (ints .u8 64 f)) (.agg (ints .u8 64 g))).run Tryz.prog w = .ok (.bool (same 64 f g)) w :=
 run_eql_ints w .u8 f g Tryz.underlying127 Tryz.underlying5 (i := (Tryz.prog.info? 5).get (by kernel_rfl)) (by kernel_rfl) (by kernel_rfl)
@[go_sem high] theorem neq_b64 (f g : Nat → Int) (w : World) : (binOp .neq 127 (.agg (ints .u8 64 f)) (.agg (ints .u8 64 g))).run Tryz.prog w = .ok (.bool (!same 64 f g)) w :=
 run_neq_ints w .u8 f g Tryz.underlying127 Tryz.underlying5 (i := (Tryz.prog.info? 5).get (by kernel_rfl)) (by kernel_rfl) (by kernel_rfl)
@[go_sem ↓ high] theorem load_w64 (ρ : Operand → Value) (d : Option Tmp) (x : Operand) (t : TypeId) (pos : String) (af : Array Edge) (g : Option (Nat × Bool)) :
  execOp ρ ⟨d, .load 261 x, t, pos, af, g⟩ = loadNext 261 (ρ x) := op_load _ ρ d x t pos af g
@[go_sem high] theorem load_w64' (ρ : Operand → Value) (d : Option Tmp) (x : Operand) (t : TypeId) (pos : String) (af : Array Edge) (g : Option (Nat × Bool)) :
  execOp ρ ⟨d, .load 261 x, t, pos, af, g⟩ = loadNext 261 (ρ x) := op_load _ ρ d x t pos af g
@[go_sem] theorem load_w64_at (g : Nat) (w : World) : (loadNext 261 (.pointer (some ⟨g, 0, none⟩))).run Tryz.prog w = (loadOf Tryz.prog 261 g 64 w (objAt w g)).andThen fun v w' => .ok (.value v) w' := by
 rw [run_loadNext, loadRow_eq Tryz.underlying261 rfl (by kernel_rfl) g w]
@[go_sem] theorem load_w64_of (g : Nat) (w : World) (cs : Array Value) (t' : TypeId) (fr : Nat × Nat) (h : cs.size = 64) : loadOf Tryz.prog 261 g 64 w (some (.cells cs t' fr)) = .ok (.agg cs) w := loadOf_cells cs t' fr h
@[go_sem ↓ high] theorem store_w64 (ρ : Operand → Value) (d : Option Tmp) (x y : Operand) (t : TypeId) (pos : String) (af : Array Edge) (g : Option (Nat × Bool)) :
  execOp ρ ⟨d, .store 261 x y, t, pos, af, g⟩ = storeNext 261 (ρ x) (ρ y) := op_store _ ρ d x y t pos af g
@[go_sem high] theorem store_w64' (ρ : Operand → Value) (d : Option Tmp) (x y : Operand) (t : TypeId) (pos : String) (af : Array Edge) (g : Option (Nat × Bool)) :
  execOp ρ ⟨d, .store 261 x y, t, pos, af, g⟩ = storeNext 261 (ρ x) (ρ y) := op_store _ ρ d x y t pos af g
@[go_sem] theorem store_w64_at (g : Nat) (cs : Array Value) (w : World) : (storeNext 261 (.pointer (some ⟨g, 0, none⟩)) (.agg cs)).run Tryz.prog w = (storeOf Tryz.prog 261 g 64 (.agg cs) w (objAt w g)).andThen fun _ w' => .ok .skip w' := by
 rw [run_storeNext, storeRow_eq (by kernel_rfl) g cs w]
@[go_sem] theorem store_w64_of (g : Nat) (w : World) (old cs : Array Value) (t' : TypeId) (h1 : old.size = 64) (h2 : cs.size = 64) (h3 : oneCells cs = true) :
  storeOf Tryz.prog 261 g 64 (.agg cs) w (some (.cells old t' (0, 0))) = .ok () (w.setRow g cs) := storeOf_cells old cs t' h1 h2 h3
@[go_sem high] theorem zero_w64' (w : World) : (zeroValue 261).run Tryz.prog w = .ok (.agg (ints .u32 64 nought)) w := by kernel_rfl
@[go_sem ↓ high] theorem zero_w64 (w : World) : (zeroValue 261).run Tryz.prog w = .ok (.agg (ints .u32 64 nought)) w := by kernel_rfl
@[go_sem] theorem index_w64 (k' : IntKind) (f : Nat → Int) (j : Int) (w : World) (h0 : 0 ≤ j) (h1 : j < 64) : (Instr.index 261 (.agg (ints .u32 64 f)) (.int k' j)).run Tryz.prog w = .ok (.int .u32 (f j.toNat)) w :=
 run_index_ints w .u32 k' f j Tryz.underlying261 Tryz.underlying71 (i := (Tryz.prog.info? 71).get (by kernel_rfl)) (by kernel_rfl) (by kernel_rfl) h0 h1
@[go_sem high] theorem eql_w64 (f g : Nat → Int) (w : World) : (binOp .eql 261 (.agg (ints .u32 64 f)) (.agg (ints .u32 64 g))).run Tryz.prog w = .ok (.bool (same 64 f g)) w :=
 run_eql_ints w .u32 f g Tryz.underlying261 Tryz.underlying71 (i := (Tryz.prog.info? 71).get (by kernel_rfl)) (by kernel_rfl) (by kernel_rfl)
@[go_sem high] theorem neq_w64 (f g : Nat → Int) (w : World) : (binOp .neq 261 (.agg (ints .u32 64 f)) (.agg (ints .u32 64 g))).run Tryz.prog w = .ok (.bool (!same 64 f g)) w :=
 run_neq_ints w .u32 f g Tryz.underlying261 Tryz.underlying71 (i := (Tryz.prog.info? 71).get (by kernel_rfl)) (by kernel_rfl) (by kernel_rfl)
@[go_sem ↓ high] theorem load_b8 (ρ : Operand → Value) (d : Option Tmp) (x : Operand) (t : TypeId) (pos : String) (af : Array Edge) (g : Option (Nat × Bool)) :
  execOp ρ ⟨d, .load 215 x, t, pos, af, g⟩ = loadNext 215 (ρ x) := op_load _ ρ d x t pos af g
@[go_sem high] theorem load_b8' (ρ : Operand → Value) (d : Option Tmp) (x : Operand) (t : TypeId) (pos : String) (af : Array Edge) (g : Option (Nat × Bool)) :
  execOp ρ ⟨d, .load 215 x, t, pos, af, g⟩ = loadNext 215 (ρ x) := op_load _ ρ d x t pos af g
@[go_sem] theorem load_b8_at (g : Nat) (w : World) : (loadNext 215 (.pointer (some ⟨g, 0, none⟩))).run Tryz.prog w = (loadOf Tryz.prog 215 g 8 w (objAt w g)).andThen fun v w' => .ok (.value v) w' := by
 rw [run_loadNext, loadRow_eq Tryz.underlying215 rfl (by kernel_rfl) g w]
@[go_sem] theorem load_b8_of (g : Nat) (w : World) (cs : Array Value) (t' : TypeId) (fr : Nat × Nat) (h : cs.size = 8) : loadOf Tryz.prog 215 g 8 w (some (.cells cs t' fr)) = .ok (.agg cs) w := loadOf_cells cs t' fr h
@[go_sem ↓ high] theorem store_b8 (ρ : Operand → Value) (d : Option Tmp) (x y : Operand) (t : TypeId) (pos : String) (af : Array Edge) (g : Option (Nat × Bool)) :
  execOp ρ ⟨d, .store 215 x y, t, pos, af, g⟩ = storeNext 215 (ρ x) (ρ y) := op_store _ ρ d x y t pos af g
@[go_sem high] theorem store_b8' (ρ : Operand → Value) (d : Option Tmp) (x y : Operand) (t : TypeId) (pos : String) (af : Array Edge) (g : Option (Nat × Bool)) :
  execOp ρ ⟨d, .store 215 x y, t, pos, af, g⟩ = storeNext 215 (ρ x) (ρ y) := op_store _ ρ d x y t pos af g
@[go_sem] theorem store_b8_at (g : Nat) (cs : Array Value) (w : World) : (storeNext 215 (.pointer (some ⟨g, 0, none⟩)) (.agg cs)).run Tryz.prog w = (storeOf Tryz.prog 215 g 8 (.agg cs) w (objAt w g)).andThen fun _ w' => .ok .skip w' := by
 rw [run_storeNext, storeRow_eq (by kernel_rfl) g cs w]
@[go_sem] theorem store_b8_of (g : Nat) (w : World) (old cs : Array Value) (t' : TypeId) (h1 : old.size = 8) (h2 : cs.size = 8) (h3 : oneCells cs = true) :
  storeOf Tryz.prog 215 g 8 (.agg cs) w (some (.cells old t' (0, 0))) = .ok () (w.setRow g cs) := storeOf_cells old cs t' h1 h2 h3
@[go_sem high] theorem zero_b8' (w : World) : (zeroValue 215).run Tryz.prog w = .ok (.agg (ints .u8 8 nought)) w := by kernel_rfl
@[go_sem ↓ high] theorem zero_b8 (w : World) : (zeroValue 215).run Tryz.prog w = .ok (.agg (ints .u8 8 nought)) w := by kernel_rfl
@[go_sem] theorem index_b8 (k' : IntKind) (f : Nat → Int) (j : Int) (w : World) (h0 : 0 ≤ j) (h1 : j < 8) : (Instr.index 215 (.agg (ints .u8 8 f)) (.int k' j)).run Tryz.prog w = .ok (.int .u8 (f j.toNat)) w :=
 run_index_ints w .u8 k' f j Tryz.underlying215 Tryz.underlying5 (i := (Tryz.prog.info? 5).get (by kernel_rfl)) (by kernel_rfl) (by kernel_rfl) h0 h1
@[go_sem high] theorem eql_b8 (f g : Nat → Int) (w : World) : (binOp .eql 215 (.agg (ints .u8 8 f)) (.agg (ints .u8 8 g))).run Tryz.prog w = .ok (.bool (same 8 f g)) w :=
 run_eql_ints w .u8 f g Tryz.underlying215 Tryz.underlying5 (i := (Tryz.prog.info? 5).get (by kernel_rfl)) (by kernel_rfl) (by kernel_rfl)
@[go_sem high] theorem neq_b8 (f g : Nat → Int) (w : World) : (binOp .neq 215 (.agg (ints .u8 8 f)) (.agg (ints .u8 8 g))).run Tryz.prog w = .ok (.bool (!same 8 f g)) w :=
 run_neq_ints w .u8 f g Tryz.underlying215 Tryz.underlying5 (i := (Tryz.prog.info? 5).get (by kernel_rfl)) (by kernel_rfl) (by kernel_rfl)
@[go_sem ↓ high] theorem load_hash (ρ : Operand → Value) (d : Option Tmp) (x : Operand) (t : TypeId) (pos : String) (af : Array Edge) (g : Option (Nat × Bool)) :
  execOp ρ ⟨d, .load 129 x, t, pos, af, g⟩ = loadNext 129 (ρ x) := op_load _ ρ d x t pos af g
@[go_sem high] theorem load_hash' (ρ : Operand → Value) (d : Option Tmp) (x : Operand) (t : TypeId) (pos : String) (af : Array Edge) (g : Option (Nat × Bool)) :
  execOp ρ ⟨d, .load 129 x, t, pos, af, g⟩ = loadNext 129 (ρ x) := op_load _ ρ d x t pos af g
@[go_sem] theorem load_hash_at (g : Nat) (w : World) : (loadNext 129 (.pointer (some ⟨g, 0, none⟩))).run Tryz.prog w = (loadOf Tryz.prog 129 g 73 w (objAt w g)).andThen fun v w' => .ok (.value v) w' := by
 rw [run_loadNext, loadRow_eq Tryz.underlying129 rfl (by kernel_rfl) g w]
@[go_sem] theorem load_hash_of (g : Nat) (w : World) (cs : Array Value) (t' : TypeId) (fr : Nat × Nat) (h : cs.size = 73) : loadOf Tryz.prog 129 g 73 w (some (.cells cs t' fr)) = .ok (.agg cs) w := loadOf_cells cs t' fr h
@[go_sem ↓ high] theorem store_hash (ρ : Operand → Value) (d : Option Tmp) (x y : Operand) (t : TypeId) (pos : String) (af : Array Edge) (g : Option (Nat × Bool)) :
  execOp ρ ⟨d, .store 129 x y, t, pos, af, g⟩ = storeNext 129 (ρ x) (ρ y) := op_store _ ρ d x y t pos af g
@[go_sem high] theorem store_hash' (ρ : Operand → Value) (d : Option Tmp) (x y : Operand) (t : TypeId) (pos : String) (af : Array Edge) (g : Option (Nat × Bool)) :
  execOp ρ ⟨d, .store 129 x y, t, pos, af, g⟩ = storeNext 129 (ρ x) (ρ y) := op_store _ ρ d x y t pos af g
@[go_sem] theorem store_hash_at (g : Nat) (cs : Array Value) (w : World) : (storeNext 129 (.pointer (some ⟨g, 0, none⟩)) (.agg cs)).run Tryz.prog w = (storeOf Tryz.prog 129 g 73 (.agg cs) w (objAt w g)).andThen fun _ w' => .ok .skip w' := by
 rw [run_storeNext, storeRow_eq (by kernel_rfl) g cs w]
@[go_sem] theorem store_hash_of (g : Nat) (w : World) (old cs : Array Value) (t' : TypeId) (h1 : old.size = 73) (h2 : cs.size = 73) (h3 : oneCells cs = true) :
  storeOf Tryz.prog 129 g 73 (.agg cs) w (some (.cells old t' (0, 0))) = .ok () (w.setRow g cs) := storeOf_cells old cs t' h1 h2 h3
def hashC (A R : Nat → Int) (n : Int) : Array Value := (ints .u32 8 A ++ ints .u8 64 R).push (.int .u64 n)
@[go_sem] theorem hashC_size (A R : Nat → Int) (n : Int) : (hashC A R n).size = 73 := by simp [hashC, ints_size]
@[go_sem] theorem hashC_one (A R : Nat → Int) (n : Int) : oneCells (hashC A R n) = true := by
 have h1 := ints_one .u32 8 A
 have h2 := ints_one .u8 64 R
 unfold oneCells at *
 unfold hashC
 rw [Array.all_push, Array.all_append, h1, h2]
 rfl
@[go_sem] theorem hashC_n (A R : Nat → Int) (n : Int) : (hashC A R n)[72]? = some (.int .u64 n) := by
 unfold hashC
 rw [Array.getElem?_push, if_pos (by simp [ints_size])]
@[go_sem] theorem hashC_n' (A R : Nat → Int) (n : Int) (h : 72 < (hashC A R n).size) : (hashC A R n)[72] = .int .u64 n := by
 have := hashC_n A R n
 rw [Array.getElem?_eq_getElem h] at this
 exact Option.some.inj this
@[go_sem] theorem hashC_a (A R : Nat → Int) (n : Int) (i : Nat) (h : i < 8) : (hashC A R n)[i]? = some (.int .u32 (A i)) := by
 unfold hashC
 rw [Array.getElem?_push, if_neg (by simp [ints_size]; omega), Array.getElem?_append_left (by rw [ints_size]; exact h), ints_get _ _ _ _ h]
@[go_sem] theorem hashC_a' (A R : Nat → Int) (n : Int) (i : Nat) (h : i < 8) (h' : i < (hashC A R n).size) : (hashC A R n)[i] = .int .u32 (A i) := by
 have := hashC_a A R n i h
 rw [Array.getElem?_eq_getElem h'] at this
 exact Option.some.inj this
theorem hashC_r (A R : Nat → Int) (n : Int) (i : Nat) (h : i < 64) : (hashC A R n)[8 + i]? = some (.int .u8 (R i)) := by
 unfold hashC
 rw [Array.getElem?_push, if_neg (by simp [ints_size]; omega), Array.getElem?_append_right (by rw [ints_size]; omega), ints_size, show 8 + i - 8 = i by omega, ints_get _ _ _ _ h]
theorem hashC_ext {cs : Array Value} {A R : Nat → Int} {n : Int} (hs : cs.size = 73) (ha : ∀ i, i < 8 → cs[i]? = some (.int .u32 (A i))) (hr : ∀ i, i < 64 → cs[8 + i]? = some (.int .u8 (R i))) (hn : cs[72]? = some (.int .u64 n)) : cs = hashC A R n := by
 apply Array.ext_getElem?
 intro i
 rcases (by omega : i < 8 ∨ (8 ≤ i ∧ i < 72) ∨ i = 72 ∨ 73 ≤ i) with h | h | h | h
 ·rw [ha i h, hashC_a _ _ _ _ h]
 ·have := hr (i - 8) (by omega)
  have h2 := hashC_r A R n (i - 8) (by omega)
  rw [show 8 + (i - 8) = i by omega] at this h2
  rw [this, h2]
 ·subst h; rw [hn, hashC_n]
 ·rw [Array.getElem?_eq_none (by omega), Array.getElem?_eq_none (by rw [hashC_size]; omega)]
theorem hashC_congr {A A' R R' : Nat → Int} {n : Int} (ha : ∀ i, i < 8 → A i = A' i) (hr : ∀ i, i < 64 → R i = R' i) : hashC A R n = hashC A' R' n := by
 unfold hashC
 rw [ints_congr ha, ints_congr hr]
@[go_sem] theorem hashC_setn (A R : Nat → Int) (n m : Int) : (hashC A R n).setIfInBounds 72 (.int .u64 m) = hashC A R m := by
 refine hashC_ext (by simp [hashC_size]) (fun i hi => ?_) (fun i hi => ?_) ?_
 ·rw [Array.getElem?_setIfInBounds, if_neg (by omega), hashC_a _ _ _ _ hi]
 ·rw [Array.getElem?_setIfInBounds, if_neg (by omega), hashC_r _ _ _ _ hi]
 ·rw [Array.getElem?_setIfInBounds, if_pos rfl, hashC_size]; rfl
@[go_sem high] theorem zero_hash' (w : World) : (zeroValue 129).run Tryz.prog w = .ok (.agg (hashC nought nought 0)) w := by kernel_rfl
@[go_sem ↓ high] theorem zero_hash (w : World) : (zeroValue 129).run Tryz.prog w = .ok (.agg (hashC nought nought 0)) w := by kernel_rfl
theorem ext_a (A R : Nat → Int) (n : Int) : (hashC A R n).extract 0 8 = ints .u32 8 A := by
 apply Array.ext_getElem?
 intro i
 by_cases h : i < 8
 ·rw [ints_get _ _ _ _ h, Array.getElem?_extract, if_pos (by rw [hashC_size]; omega), Nat.zero_add, hashC_a _ _ _ _ h]
 ·rw [Array.getElem?_eq_none (by simp [hashC_size]; omega), Array.getElem?_eq_none (by rw [ints_size]; omega)]
theorem ext_r (A R : Nat → Int) (n : Int) : (hashC A R n).extract 8 (8 + 64) = ints .u8 64 R := by
 apply Array.ext_getElem?
 intro i
 by_cases h : i < 64
 ·rw [ints_get _ _ _ _ h, Array.getElem?_extract, if_pos (by rw [hashC_size]; omega), hashC_r _ _ _ _ h]
 ·rw [Array.getElem?_eq_none (by simp [hashC_size]; omega), Array.getElem?_eq_none (by rw [ints_size]; omega)]
theorem putAll_size (vs : List Value) : ∀ (o : Nat) (A : Array Value), (putAll A o vs).size = A.size := by
 induction vs with
 | nil => intro o A; rfl
 | cons v r ih => intro o A; simp [putAll, ih]
theorem putAll_get (vs : List Value) : ∀ (o : Nat) (A : Array Value) (i : Nat), o + vs.length ≤ A.size → (putAll A o vs)[i]? = if o ≤ i ∧ i < o + vs.length then vs[i - o]? else A[i]? := by
 induction vs with
 | nil => intro o A i _; simp [putAll]; omega
 | cons v r ih =>
  intro o A i hs
  simp only [List.length_cons] at hs
  have hs' : o + 1 + r.length ≤ (A.setIfInBounds o v).size := by simp; omega
  simp only [putAll, List.length_cons]
  rw [ih (o + 1) _ i hs']
  by_cases h1 : o + 1 ≤ i ∧ i < o + 1 + r.length
  ·rw [if_pos h1, if_pos (by omega), show i - o = (i - (o + 1)) + 1 by omega, List.getElem?_cons_succ]
  ·rw [if_neg h1, Array.getElem?_setIfInBounds]
   by_cases h2 : o = i
   ·subst h2
    rw [if_pos rfl, if_pos (by omega), if_pos (by omega), Nat.sub_self, List.getElem?_cons_zero]
   ·rw [if_neg h2, if_neg (by omega)]
theorem put_a (A R A' : Nat → Int) (n : Int) : putAll (hashC A R n) 0 (ints .u32 8 A').toList = hashC A' R n := by
 have hl : (ints .u32 8 A').toList.length = 8 := by simp [ints_size]
 refine hashC_ext (by rw [putAll_size, hashC_size]) (fun i hi => ?_) (fun i hi => ?_) ?_ <;> rw [putAll_get _ _ _ _ (by rw [hl, hashC_size]; omega), hl]
 ·rw [if_pos (by omega), Nat.sub_zero, Array.getElem?_toList, ints_get _ _ _ _ hi]
 ·rw [if_neg (by omega), hashC_r _ _ _ _ hi]
 ·rw [if_neg (by omega), hashC_n]
theorem put_r (A R R' : Nat → Int) (n : Int) : putAll (hashC A R n) 8 (ints .u8 64 R').toList = hashC A R' n := by
 have hl : (ints .u8 64 R').toList.length = 64 := by simp [ints_size]
 refine hashC_ext (by rw [putAll_size, hashC_size]) (fun i hi => ?_) (fun i hi => ?_) ?_ <;> rw [putAll_get _ _ _ _ (by rw [hl, hashC_size]; omega), hl]
 ·rw [if_neg (by omega), hashC_a _ _ _ _ hi]
 ·rw [if_pos (by omega), Nat.add_sub_cancel_left, Array.getElem?_toList, ints_get _ _ _ _ hi]
 ·rw [if_neg (by omega), hashC_n]
@[go_sem] theorem load_hash_a (g : Nat) (w : World) (A R : Nat → Int) (n : Int) (t' : TypeId) (fr : Nat × Nat) : loadOf Tryz.prog 126 g 8 w (some (.cells (hashC A R n) t' fr)) = .ok (.agg (ints .u32 8 A)) w := by
 unfold loadOf
 simp only [hashC_size]
 rw [if_neg (by decide), if_pos (by decide), ext_a]
@[go_sem] theorem store_hash_a (g : Nat) (w : World) (A R A' : Nat → Int) (n : Int) (t' : TypeId) : storeOf Tryz.prog 126 g 8 (.agg (ints .u32 8 A')) w (some (.cells (hashC A R n) t' (0, 0))) = .ok () (w.setRow g (hashC A' R n)) := by
 unfold storeOf
 simp only [hashC_size, ints_size]
 rw [if_neg (fun h => absurd h.1 (by decide)), if_pos ⟨by decide, by trivial, ints_one _ _ _⟩, put_a]
@[go_sem] theorem load_b64_mid (g : Nat) (w : World) : (loadNext 127 (.pointer (some ⟨g, 8, none⟩))).run Tryz.prog w = (loadMid Tryz.prog 127 g 8 64 w (objAt w g)).andThen fun v w' => .ok (.value v) w' := by
 rw [run_loadNext, loadMid_eq Tryz.underlying127 rfl (by kernel_rfl) g 8 w]
@[go_sem] theorem load_hash_r (g : Nat) (w : World) (A R : Nat → Int) (n : Int) (t' : TypeId) (fr : Nat × Nat) : loadMid Tryz.prog 127 g 8 64 w (some (.cells (hashC A R n) t' fr)) = .ok (.agg (ints .u8 64 R)) w := by
 unfold loadMid
 simp only [hashC_size]
 rw [if_pos (by decide), ext_r]
@[go_sem] theorem store_b64_mid (g : Nat) (cs : Array Value) (w : World) : (storeNext 127 (.pointer (some ⟨g, 8, none⟩)) (.agg cs)).run Tryz.prog w = (storeMid Tryz.prog 127 g 8 64 (.agg cs) w (objAt w g)).andThen fun _ w' => .ok .skip w' := by
 rw [run_storeNext, storeMid_eq (by kernel_rfl) g 8 cs w]
@[go_sem] theorem store_hash_r (g : Nat) (w : World) (A R R' : Nat → Int) (n : Int) (t' : TypeId) : storeMid Tryz.prog 127 g 8 64 (.agg (ints .u8 64 R')) w (some (.cells (hashC A R n) t' (0, 0))) = .ok () (w.setRow g (hashC A R' n)) := by
 unfold storeMid
 simp only [hashC_size, ints_size]
 rw [if_pos ⟨by decide, by trivial, ints_one _ _ _⟩, put_r]
attribute [irreducible] hashC
def eightF (a b c d e f g h : Int) : Nat → Int := fun i => [a, b, c, d, e, f, g, h].getD i 0
def eightNext (a b c d e f g h : Value) : Sem Next := do pure (.value (← Instr.build 126 #[(0, a), (1, b), (2, c), (3, d), (4, e), (5, f), (6, g), (7, h)]))
@[go_sem ↓ high] theorem op_eight (ρ : Operand → Value) (dd : Option Tmp) (a b c d e f g h : Operand) (t : TypeId) (pos : String) (af : Array Edge) (gg : Option (Nat × Bool)) :
  execOp ρ ⟨dd, .build 126 #[(0, a), (1, b), (2, c), (3, d), (4, e), (5, f), (6, g), (7, h)], t, pos, af, gg⟩ = eightNext (ρ a) (ρ b) (ρ c) (ρ d) (ρ e) (ρ f) (ρ g) (ρ h) := by simp [execOp, eightNext]
@[go_sem high] theorem op_eight' (ρ : Operand → Value) (dd : Option Tmp) (a b c d e f g h : Operand) (t : TypeId) (pos : String) (af : Array Edge) (gg : Option (Nat × Bool)) :
  execOp ρ ⟨dd, .build 126 #[(0, a), (1, b), (2, c), (3, d), (4, e), (5, f), (6, g), (7, h)], t, pos, af, gg⟩ = eightNext (ρ a) (ρ b) (ρ c) (ρ d) (ρ e) (ρ f) (ρ g) (ρ h) := by simp [execOp, eightNext]
@[go_sem] theorem run_eight (a b c d e f g h : Int) (w : World) : (eightNext (.int .u32 a) (.int .u32 b) (.int .u32 c) (.int .u32 d) (.int .u32 e) (.int .u32 f) (.int .u32 g) (.int .u32 h)).run Tryz.prog w = .ok (.value (.agg (ints .u32 8 (eightF a b c d e f g h)))) w := by kernel_rfl
attribute [irreducible] eightNext
def noneNext (ty : TypeId) : Sem Next := do pure (.value (← Instr.build ty #[]))
@[go_sem ↓ high] theorem op_none (ty : TypeId) (ρ : Operand → Value) (dd : Option Tmp) (t : TypeId) (pos : String) (af : Array Edge) (gg : Option (Nat × Bool)) :
  execOp ρ ⟨dd, .build ty #[], t, pos, af, gg⟩ = noneNext ty := by simp [execOp, noneNext]
@[go_sem high] theorem op_none' (ty : TypeId) (ρ : Operand → Value) (dd : Option Tmp) (t : TypeId) (pos : String) (af : Array Edge) (gg : Option (Nat × Bool)) :
  execOp ρ ⟨dd, .build ty #[], t, pos, af, gg⟩ = noneNext ty := by simp [execOp, noneNext]
@[go_sem] theorem none_hash (w : World) : (noneNext 129).run Tryz.prog w = .ok (.value (.agg (hashC nought nought 0))) w := by kernel_rfl
@[go_sem] theorem none_b64 (w : World) : (noneNext 127).run Tryz.prog w = .ok (.value (.agg (ints .u8 64 nought))) w := by kernel_rfl
@[go_sem] theorem none_key (w : World) : (noneNext 27).run Tryz.prog w = .ok (.value (.agg (ints .u8 32 nought))) w := by kernel_rfl
attribute [irreducible] noneNext
end Go.Proofs.YtdoolhbmekahdaaGreatDoor
namespace Go.Proofs.YtdoolhbmekahdaaGreatDoor
open Go.RowKit
set_option linter.unusedVariables false
set_option linter.unusedSimpArgs false
attribute [go_sem] setRow_setRow
theorem slice_arr {t e : TypeId} {n : Nat} {k : IntKind} (w : World) (g o r : Nat) (ht : Tryz.prog.underlying t = some (.array (Tryz.prog.arrayLen t) (Tryz.prog.elem t))) (hn : Tryz.prog.arrayLen t = n) (hs : (sizeOf (Tryz.prog.elem t)).run Tryz.prog w = .ok 1 w) (hr : r < n) :
  (Instr.sliceAt t (.pointer (some ⟨g, o, none⟩)) (some (.int k r)) none none).run Tryz.prog w = .ok (.slice (some ⟨g, o + r, none⟩) (n - r) (n - r)) w := by
 rw [run_sliceAt_array_l w t _ ht k r (by omega) (by omega), hs, Result.andThen_ok, hn]
 unfold slicedAt
 have e : (⟨g, o, none⟩ : Addr).add (r * 1) = ⟨g, o + r, none⟩ := by unfold Addr.add; split <;> simp_all
 rw [if_neg (by omega), show ((r : Int)).toNat = r by omega, e]
@[go_sem high] theorem slice_b64 (w : World) (g o r : Nat) (hr : r < 64) :
  (Instr.sliceAt 127 (.pointer (some ⟨g, o, none⟩)) (some (.int .i64 r)) none none).run Tryz.prog w = .ok (.slice (some ⟨g, o + r, none⟩) (64 - r) (64 - r)) w :=
 slice_arr (t := 127) (e := 5) (n := 64) (k := .i64) w g o r (by kernel_rfl) (by kernel_rfl) (by kernel_rfl) hr
theorem run_copy_text {P : Program} (w : World) (dT sT ty elem : TypeId) (g o dLen dCap m : Nat) (s : ByteArray) (cur : Array Value) (t : TypeId)
  (hu : P.underlying dT = some (.slice elem)) (hs : (P.info? elem).map (·.size) = some 1) (hg : w.heap[g]? = some (.cells cur t (0, 0))) (hm : Nat.min s.size dLen = m) (hfit : o + m ≤ cur.size) :
  (Builtin.copy_ #[dT, sT] ty #[.slice (some ⟨g, o, none⟩) dLen dCap, .string s]).run P w =
   .ok (goInt m) (w.setRow g (cur.toList.take o ++ (List.map (fun b : UInt8 => Value.int .u8 b.toNat) s.data.toList).take m ++ cur.toList.drop (o + m)).toArray) := by
 have hle : m ≤ s.size := by rw [← hm]; exact Nat.min_le_left _ _
 have hlen : ((List.map (fun b : UInt8 => Value.int .u8 b.toNat) s.data.toList).take m).length = m := by
  rw [List.length_take, List.length_map]
  exact Nat.min_eq_left hle
 have hst := run_storeCells_at P g o t ((List.map (fun b : UInt8 => Value.int .u8 b.toNat) s.data.toList).take m) 0 cur w hg (by rw [hlen]; simpa using hfit) (by
  intro v hv
  obtain ⟨b, _, rfl⟩ := List.mem_map.1 (List.mem_of_mem_take hv)
  rfl)
 rw [hlen] at hst
 simp only [Nat.add_zero] at hst
 cases hq : P.info? elem with
 | none => simp [hq] at hs
 | some i =>
  simp [Builtin.copy_, run_underlying hu, Builtin.lenOf, Builtin.firstCells, sizeOf, typeInfo, hq, hm]
  rw [hst]
  simp [Result.andThen]
def putT (R : Nat → Int) (r m : Nat) (s : ByteArray) : Nat → Int := fun i => if r ≤ i ∧ i < r + m then byteAt s (i - r) else R i
def copyNext (ats : Array TypeId) (ty : TypeId) (args : Array Value) : Sem Next := do pure (.value (← Builtin.copy_ ats ty args))
def copyOf (P : Program) (ty : TypeId) (g o L C : Nat) (s : ByteArray) (w : World) : Option Obj → Result Next
 | _ => (copyNext #[36, 9] ty #[.slice (some ⟨g, o, none⟩) L C, .string s]).run P w
@[go_sem ↓ high] theorem copy_bytes (ty : TypeId) (cs : Array Bool) (args : Array Value) : builtin .copy #[36, 9] ty cs args = copyNext #[36, 9] ty args := by unfold copyNext; rfl
@[go_sem] theorem copy_bytes_at (ty : TypeId) (g o L C : Nat) (s : ByteArray) (w : World) : (copyNext #[36, 9] ty #[.slice (some ⟨g, o, none⟩) L C, .string s]).run Tryz.prog w = copyOf Tryz.prog ty g o L C s w (objAt w g) := rfl
@[go_sem] theorem copyOf_hash (ty : TypeId) (g r C : Nat) (s : ByteArray) (w : World) (A R : Nat → Int) (n : Int) (t : TypeId) (h : objAt w g = some (.cells (hashC A R n) t (0, 0))) (hr : r < 64) :
  copyOf Tryz.prog ty g (8 + r) (64 - r) C s w (some (.cells (hashC A R n) t (0, 0))) = .ok (.value (.int .i64 (min s.size (64 - r) : Nat))) (w.setRow g (hashC A (putT R r (min s.size (64 - r)) s) n)) := by
 have hm : min s.size (64 - r) ≤ 64 - r := Nat.min_le_right _ _
 have hm' : min s.size (64 - r) ≤ s.size := Nat.min_le_left _ _
 generalize hq : min s.size (64 - r) = m at *
 show (copyNext #[36, 9] ty #[.slice (some ⟨g, 8 + r, none⟩) (64 - r) C, .string s]).run Tryz.prog w = _
 unfold copyNext objAt at *
 simp only [Sem.run_bind, run_copy_text w 36 9 ty 5 g (8 + r) (64 - r) C m s _ t Tryz.underlying36 (by kernel_rfl) h hq (by rw [hashC_size]; omega), Result.andThen_ok, Sem.run_pure]
 have e : ((hashC A R n).toList.take (8 + r) ++ (List.map (fun b : UInt8 => Value.int .u8 b.toNat) s.data.toList).take m ++ (hashC A R n).toList.drop (8 + r + m)).toArray = hashC A (putT R r m s) n := by
  have l1 : ((hashC A R n).toList.take (8 + r)).length = 8 + r := by rw [List.length_take, Array.length_toList, hashC_size]; omega
  have l2 : ((List.map (fun b : UInt8 => Value.int .u8 b.toNat) s.data.toList).take m).length = m := by
   rw [List.length_take, List.length_map]
   exact Nat.min_eq_left hm'
  have a1 : ∀ i, i < 8 + r → ((hashC A R n).toList.take (8 + r) ++ (List.map (fun b : UInt8 => Value.int .u8 b.toNat) s.data.toList).take m ++ (hashC A R n).toList.drop (8 + r + m))[i]? = (hashC A R n)[i]? := fun i hi => by
   rw [List.append_assoc, List.getElem?_append_left (by omega), List.getElem?_take_of_lt hi, Array.getElem?_toList]
  have a2 : ∀ i, i < m → ((hashC A R n).toList.take (8 + r) ++ (List.map (fun b : UInt8 => Value.int .u8 b.toNat) s.data.toList).take m ++ (hashC A R n).toList.drop (8 + r + m))[8 + r + i]? = some (.int .u8 (byteAt s i)) := fun i hi => by
   rw [List.append_assoc, List.getElem?_append_right (by omega), l1, List.getElem?_append_left (by omega), show 8 + r + i - (8 + r) = i by omega, List.getElem?_take_of_lt hi, List.getElem?_map]
   have hs : i < s.size := by omega
   have : s.data.toList[i]? = some s[i] := by
    rw [Array.getElem?_toList]
    exact Array.getElem?_eq_getElem hs
   rw [this, ← byteAt_lt s i hs]
   rfl
  have a3 : ∀ i, 8 + r + m ≤ i → ((hashC A R n).toList.take (8 + r) ++ (List.map (fun b : UInt8 => Value.int .u8 b.toNat) s.data.toList).take m ++ (hashC A R n).toList.drop (8 + r + m))[i]? = (hashC A R n)[i]? := fun i hi => by
   rw [List.getElem?_append_right (by rw [List.length_append]; omega), List.length_append, l1, l2, List.getElem?_drop, show 8 + r + m + (i - (8 + r + m)) = i by omega, Array.getElem?_toList]
  refine hashC_ext ?_ (fun i hi => ?_) (fun i hi => ?_) ?_
  ·simp only [List.size_toArray, List.length_append, l1, l2, List.length_drop, Array.length_toList, hashC_size]; omega
  ·rw [List.getElem?_toArray, a1 i (by omega), hashC_a _ _ _ _ hi]
  ·rw [List.getElem?_toArray]
   unfold putT
   by_cases h1 : r ≤ i ∧ i < r + m
   ·rw [if_pos h1, show 8 + i = 8 + r + (i - r) by omega, a2 _ (by omega)]
   ·rw [if_neg h1]
    by_cases h2 : i < r
    ·rw [a1 _ (by omega), hashC_r _ _ _ _ hi]
    ·rw [a3 _ (by omega), hashC_r _ _ _ _ hi]
  ·rw [List.getElem?_toArray, a3 _ (by omega), hashC_n]
 rw [e]
 rfl
attribute [irreducible] copyNext copyOf
end Go.Proofs.YtdoolhbmekahdaaGreatDoor
