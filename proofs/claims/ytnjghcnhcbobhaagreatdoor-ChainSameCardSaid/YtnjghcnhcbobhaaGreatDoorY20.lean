/- Y20 -/
import Derived.Test.YtnjghcnhcbobhaaGreatDoorB17
import Derived.Test.YtnjghcnhcbobhaaGreatDoorU19
import Derived.Test.YtnjghcnhcbobhaaGreatDoorQ9
import Derived.Test.YtnjghcnhcbobhaaGreatDoorR10
import Derived.Test.YtnjghcnhcbobhaaGreatDoorRel
import Derived.Test.YtnjghcnhcbobhaaGreatDoorMa
import Derived.Test.YtnjghcnhcbobhaaGreatDoorR9
import Derived.Test.YtnjghcnhcbobhaaGreatDoorQ12
import Derived.Test.YtnjghcnhcbobhaaGreatDoorTrk
import Derived.Test.YtnjghcnhcbobhaaGreatDoorE15
import Derived.Test.YtnjghcnhcbobhaaGreatDoorU20
set_option linter.unusedVariables false
set_option linter.unusedSimpArgs false
set_option maxRecDepth 100000
set_option maxHeartbeats 4000000
namespace Go.Proofs.YtnjghcnhcbobhaaGreatDoor
open Go.RowKit Go.Lib
def lkC (s : Int) (k : Nat -> Int) (y : Nat -> Int) (p : Nat -> Int) : Array Value := (#[Value.int .u32 s] : Array Value) ++ ints .u8 32 k ++ ints .u8 32 y ++ ints .u8 32 p
@[go_sem] theorem zqcy (s : Int) (k : Nat -> Int) (y : Nat -> Int) (p : Nat -> Int) : (lkC s k y p).size = 97 := by kernel_rfl
@[go_sem] theorem zq2r  (s : Int) (k : Nat -> Int) (y : Nat -> Int) (p : Nat -> Int) : zqai (lkC s k y p) = true := by kernel_rfl
@[go_sem] theorem zreb (s : Int) (k : Nat -> Int) (y : Nat -> Int) (p : Nat -> Int) : (lkC s k y p)[0]? = some (Value.int .u32 s) := by kernel_rfl
@[go_sem] theorem zrqa (s : Int) (k : Nat -> Int) (y : Nat -> Int) (p : Nat -> Int) (h : 0 < (lkC s k y p).size) : (lkC s k y p)[0] = Value.int .u32 s := Option.some.inj ((Array.getElem?_eq_getElem h).symm.trans (zreb s k y p))
@[go_sem] theorem zrmu (s : Int) (k : Nat -> Int) (y : Nat -> Int) (p : Nat -> Int) (s9 : Int) : (lkC s k y p).setIfInBounds 0 (Value.int .u32 s9) = lkC s9 k y p := by kernel_rfl
theorem zqhv (s : Int) (k : Nat -> Int) (y : Nat -> Int) (p : Nat -> Int) : (lkC s k y p).extract 1 (1 + 32) = ints .u8 32 k := by kernel_rfl
theorem zqf2 (s : Int) (k : Nat -> Int) (y : Nat -> Int) (p : Nat -> Int) : (lkC s k y p).extract 33 (33 + 32) = ints .u8 32 y := by kernel_rfl
theorem zqf5 (s : Int) (k : Nat -> Int) (y : Nat -> Int) (p : Nat -> Int) : (lkC s k y p).extract 65 (65 + 32) = ints .u8 32 p := by kernel_rfl
def spC (r : Nat -> Int) (x : ByteArray) : Array Value := ints .u8 32 r ++ (#[Value.string x] : Array Value)
@[go_sem] theorem zqjq (r : Nat -> Int) (x : ByteArray) : (spC r x).size = 33 := by kernel_rfl
@[go_sem] theorem zrps  (r : Nat -> Int) (x : ByteArray) : zqai (spC r x) = true := by kernel_rfl
theorem zq7y (r : Nat -> Int) (x : ByteArray) : (spC r x).extract 0 (0 + 32) = ints .u8 32 r := by kernel_rfl
@[go_sem] theorem zq4t (r : Nat -> Int) (x : ByteArray) : (spC r x)[32]? = some (Value.string x) := by kernel_rfl
@[go_sem] theorem zro7 (r : Nat -> Int) (x : ByteArray) (h : 32 < (spC r x).size) : (spC r x)[32] = Value.string x := Option.some.inj ((Array.getElem?_eq_getElem h).symm.trans (zq4t r x))
@[go_sem] theorem zrjd (r : Nat -> Int) (x : ByteArray) (x9 : ByteArray) : (spC r x).setIfInBounds 32 (Value.string x9) = spC r x9 := by kernel_rfl
@[go_sem ↓ high] theorem load_link (ρ : Operand -> Value) (d : Option Tmp) (x : Operand) (t : TypeId) (pos : String) (af : Array Edge) (g : Option (Nat × Bool)) :
  execOp ρ ⟨d, .load 79 x, t, pos, af, g⟩ = zqp 79 (ρ x) := zqa4 _ ρ d x t pos af g
@[go_sem high] theorem zrhu (ρ : Operand -> Value) (d : Option Tmp) (x : Operand) (t : TypeId) (pos : String) (af : Array Edge) (g : Option (Nat × Bool)) :
  execOp ρ ⟨d, .load 79 x, t, pos, af, g⟩ = zqp 79 (ρ x) := zqa4 _ ρ d x t pos af g
@[go_sem] theorem zrbp (g : Nat) (w : World) : (zqp 79 (.pointer (some ⟨g, 0, none⟩))).run Tryz.prog w = (zqa0 Tryz.prog 79 g 97 w (zqd w g)).andThen fun v w' => .ok (.value v) w' := by
 rw [zq6, zqbh Tryz.underlying79 rfl zqb g w]
@[go_sem] theorem zray (g : Nat) (w : World) (cs : Array Value) (t' : TypeId) (fr : Nat × Nat) (h : cs.size = 97) : zqa0 Tryz.prog 79 g 97 w (some (.cells cs t' fr)) = .ok (.agg cs) w := zqat cs t' fr h
@[go_sem ↓ high] theorem zrg5 (ρ : Operand -> Value) (d : Option Tmp) (x y : Operand) (t : TypeId) (pos : String) (af : Array Edge) (g : Option (Nat × Bool)) :
  execOp ρ ⟨d, .store 79 x y, t, pos, af, g⟩ = zqv 79 (ρ x) (ρ y) := zqav _ ρ d x y t pos af g
@[go_sem high] theorem zrcu (ρ : Operand -> Value) (d : Option Tmp) (x y : Operand) (t : TypeId) (pos : String) (af : Array Edge) (g : Option (Nat × Bool)) :
  execOp ρ ⟨d, .store 79 x y, t, pos, af, g⟩ = zqv 79 (ρ x) (ρ y) := zqav _ ρ d x y t pos af g
@[go_sem] theorem zq5y (g : Nat) (cs : Array Value) (w : World) : (zqv 79 (.pointer (some ⟨g, 0, none⟩)) (.agg cs)).run Tryz.prog w = (zqaq Tryz.prog 79 g 97 (.agg cs) w (zqd w g)).andThen fun _ w' => .ok .skip w' := by
 rw [zqae, zqbf zqb g cs w]
@[go_sem] theorem zq8c (g : Nat) (w : World) (old cs : Array Value) (t' : TypeId) (h1 : old.size = 97) (h2 : cs.size = 97) (h3 : zqai cs = true) :
  zqaq Tryz.prog 79 g 97 (.agg cs) w (some (.cells old t' (0, 0))) = .ok () (w.setRow g cs) := zqas old cs t' h1 h2 h3
@[go_sem high] theorem zrgz (w : World) : (zeroValue 79).run Tryz.prog w = .ok (.agg (lkC 0 zqe zqe zqe)) w := by kernel_rfl
@[go_sem ↓ high] theorem zrju (w : World) : (zeroValue 79).run Tryz.prog w = .ok (.agg (lkC 0 zqe zqe zqe)) w := by kernel_rfl
@[go_sem] theorem zrld (w : World) : (zqb6 79).run Tryz.prog w = .ok (.value (.agg (lkC 0 zqe zqe zqe))) w := by kernel_rfl
@[go_sem ↓ high] theorem load_rlink (ρ : Operand -> Value) (d : Option Tmp) (x : Operand) (t : TypeId) (pos : String) (af : Array Edge) (g : Option (Nat × Bool)) :
  execOp ρ ⟨d, .load 81 x, t, pos, af, g⟩ = zqp 81 (ρ x) := zqa4 _ ρ d x t pos af g
@[go_sem high] theorem zrga (ρ : Operand -> Value) (d : Option Tmp) (x : Operand) (t : TypeId) (pos : String) (af : Array Edge) (g : Option (Nat × Bool)) :
  execOp ρ ⟨d, .load 81 x, t, pos, af, g⟩ = zqp 81 (ρ x) := zqa4 _ ρ d x t pos af g
@[go_sem] theorem zq9a (g : Nat) (w : World) : (zqp 81 (.pointer (some ⟨g, 0, none⟩))).run Tryz.prog w = (zqa0 Tryz.prog 81 g 97 w (zqd w g)).andThen fun v w' => .ok (.value v) w' := by
 rw [zq6, zqbh Tryz.underlying81 rfl zqb g w]
@[go_sem] theorem zq6e (g : Nat) (w : World) (cs : Array Value) (t' : TypeId) (fr : Nat × Nat) (h : cs.size = 97) : zqa0 Tryz.prog 81 g 97 w (some (.cells cs t' fr)) = .ok (.agg cs) w := zqat cs t' fr h
@[go_sem ↓ high] theorem zrd0 (ρ : Operand -> Value) (d : Option Tmp) (x y : Operand) (t : TypeId) (pos : String) (af : Array Edge) (g : Option (Nat × Bool)) :
  execOp ρ ⟨d, .store 81 x y, t, pos, af, g⟩ = zqv 81 (ρ x) (ρ y) := zqav _ ρ d x y t pos af g
@[go_sem high] theorem zran (ρ : Operand -> Value) (d : Option Tmp) (x y : Operand) (t : TypeId) (pos : String) (af : Array Edge) (g : Option (Nat × Bool)) :
  execOp ρ ⟨d, .store 81 x y, t, pos, af, g⟩ = zqv 81 (ρ x) (ρ y) := zqav _ ρ d x y t pos af g
@[go_sem] theorem zq5m (g : Nat) (cs : Array Value) (w : World) : (zqv 81 (.pointer (some ⟨g, 0, none⟩)) (.agg cs)).run Tryz.prog w = (zqaq Tryz.prog 81 g 97 (.agg cs) w (zqd w g)).andThen fun _ w' => .ok .skip w' := by
 rw [zqae, zqbf zqb g cs w]
@[go_sem] theorem zq5k (g : Nat) (w : World) (old cs : Array Value) (t' : TypeId) (h1 : old.size = 97) (h2 : cs.size = 97) (h3 : zqai cs = true) :
  zqaq Tryz.prog 81 g 97 (.agg cs) w (some (.cells old t' (0, 0))) = .ok () (w.setRow g cs) := zqas old cs t' h1 h2 h3
@[go_sem high] theorem zrdt (w : World) : (zeroValue 81).run Tryz.prog w = .ok (.agg (lkC 0 zqe zqe zqe)) w := by kernel_rfl
@[go_sem ↓ high] theorem zrhy (w : World) : (zeroValue 81).run Tryz.prog w = .ok (.agg (lkC 0 zqe zqe zqe)) w := by kernel_rfl
@[go_sem] theorem zrgu (w : World) : (zqb6 81).run Tryz.prog w = .ok (.value (.agg (lkC 0 zqe zqe zqe))) w := by kernel_rfl
@[go_sem ↓ high] theorem load_cstep (ρ : Operand -> Value) (d : Option Tmp) (x : Operand) (t : TypeId) (pos : String) (af : Array Edge) (g : Option (Nat × Bool)) :
  execOp ρ ⟨d, .load 85 x, t, pos, af, g⟩ = zqp 85 (ρ x) := zqa4 _ ρ d x t pos af g
@[go_sem high] theorem zrb7 (ρ : Operand -> Value) (d : Option Tmp) (x : Operand) (t : TypeId) (pos : String) (af : Array Edge) (g : Option (Nat × Bool)) :
  execOp ρ ⟨d, .load 85 x, t, pos, af, g⟩ = zqp 85 (ρ x) := zqa4 _ ρ d x t pos af g
@[go_sem] theorem zq9m (g : Nat) (w : World) : (zqp 85 (.pointer (some ⟨g, 0, none⟩))).run Tryz.prog w = (zqa0 Tryz.prog 85 g 33 w (zqd w g)).andThen fun v w' => .ok (.value v) w' := by
 rw [zq6, zqbh Tryz.underlying85 rfl zqb g w]
@[go_sem] theorem zq57 (g : Nat) (w : World) (cs : Array Value) (t' : TypeId) (fr : Nat × Nat) (h : cs.size = 33) : zqa0 Tryz.prog 85 g 33 w (some (.cells cs t' fr)) = .ok (.agg cs) w := zqat cs t' fr h
@[go_sem ↓ high] theorem zrgd (ρ : Operand -> Value) (d : Option Tmp) (x y : Operand) (t : TypeId) (pos : String) (af : Array Edge) (g : Option (Nat × Bool)) :
  execOp ρ ⟨d, .store 85 x y, t, pos, af, g⟩ = zqv 85 (ρ x) (ρ y) := zqav _ ρ d x y t pos af g
@[go_sem high] theorem zrax (ρ : Operand -> Value) (d : Option Tmp) (x y : Operand) (t : TypeId) (pos : String) (af : Array Edge) (g : Option (Nat × Bool)) :
  execOp ρ ⟨d, .store 85 x y, t, pos, af, g⟩ = zqv 85 (ρ x) (ρ y) := zqav _ ρ d x y t pos af g
@[go_sem] theorem zq5g (g : Nat) (cs : Array Value) (w : World) : (zqv 85 (.pointer (some ⟨g, 0, none⟩)) (.agg cs)).run Tryz.prog w = (zqaq Tryz.prog 85 g 33 (.agg cs) w (zqd w g)).andThen fun _ w' => .ok .skip w' := by
 rw [zqae, zqbf zqb g cs w]
@[go_sem] theorem zq46 (g : Nat) (w : World) (old cs : Array Value) (t' : TypeId) (h1 : old.size = 33) (h2 : cs.size = 33) (h3 : zqai cs = true) :
  zqaq Tryz.prog 85 g 33 (.agg cs) w (some (.cells old t' (0, 0))) = .ok () (w.setRow g cs) := zqas old cs t' h1 h2 h3
@[go_sem high] theorem zreh (w : World) : (zeroValue 85).run Tryz.prog w = .ok (.agg (spC zqe ⟨#[]⟩)) w := by kernel_rfl
@[go_sem ↓ high] theorem zric (w : World) : (zeroValue 85).run Tryz.prog w = .ok (.agg (spC zqe ⟨#[]⟩)) w := by kernel_rfl
@[go_sem] theorem zrgl (w : World) : (zqb6 85).run Tryz.prog w = .ok (.value (.agg (spC zqe ⟨#[]⟩))) w := by kernel_rfl
@[go_sem] theorem zrfl (g : Nat) (w : World) : (zqp 44 (.pointer (some ⟨g, 33, none⟩))).run Tryz.prog w = (zqao Tryz.prog 44 g 33 32 w (zqd w g)).andThen fun v w' => .ok (.value v) w' := by
 rw [zq6, zqca Tryz.underlying44 rfl zqb g 33 w]
@[go_sem] theorem zrb3 (g : Nat) (w : World) : (zqp 43 (.pointer (some ⟨g, 33, none⟩))).run Tryz.prog w = (zqao Tryz.prog 43 g 33 32 w (zqd w g)).andThen fun v w' => .ok (.value v) w' := by
 rw [zq6, zqca Tryz.underlying43 rfl zqb g 33 w]
@[go_sem] theorem zrb8 (g : Nat) (w : World) : (zqp 44 (.pointer (some ⟨g, 65, none⟩))).run Tryz.prog w = (zqao Tryz.prog 44 g 65 32 w (zqd w g)).andThen fun v w' => .ok (.value v) w' := by
 rw [zq6, zqca Tryz.underlying44 rfl zqb g 65 w]
@[go_sem] theorem zrb5 (g : Nat) (w : World) : (zqp 43 (.pointer (some ⟨g, 65, none⟩))).run Tryz.prog w = (zqao Tryz.prog 43 g 65 32 w (zqd w g)).andThen fun v w' => .ok (.value v) w' := by
 rw [zq6, zqca Tryz.underlying43 rfl zqb g 65 w]
@[go_sem] theorem zq89 (g : Nat) (w : World) (s : Int) (k : Nat -> Int) (y : Nat -> Int) (p : Nat -> Int) (t' : TypeId) (fr : Nat × Nat) : zqao Tryz.prog 44 g 1 32 w (some (.cells (lkC s k y p) t' fr)) = .ok (.agg (ints .u8 32 k)) w := by
 unfold zqao
 simp only [zqcy]
 rw [if_pos (by decide), zqhv]
@[go_sem] theorem zq5q (g : Nat) (w : World) (s : Int) (k : Nat -> Int) (y : Nat -> Int) (p : Nat -> Int) (t' : TypeId) (fr : Nat × Nat) : zqao Tryz.prog 44 g 33 32 w (some (.cells (lkC s k y p) t' fr)) = .ok (.agg (ints .u8 32 y)) w := by
 unfold zqao
 simp only [zqcy]
 rw [if_pos (by decide), zqf2]
@[go_sem] theorem zq5c (g : Nat) (w : World) (s : Int) (k : Nat -> Int) (y : Nat -> Int) (p : Nat -> Int) (t' : TypeId) (fr : Nat × Nat) : zqao Tryz.prog 44 g 65 32 w (some (.cells (lkC s k y p) t' fr)) = .ok (.agg (ints .u8 32 p)) w := by
 unfold zqao
 simp only [zqcy]
 rw [if_pos (by decide), zqf5]
@[go_sem] theorem zq8r (g : Nat) (w : World) (s : Int) (k : Nat -> Int) (y : Nat -> Int) (p : Nat -> Int) (t' : TypeId) (fr : Nat × Nat) : zqao Tryz.prog 43 g 1 32 w (some (.cells (lkC s k y p) t' fr)) = .ok (.agg (ints .u8 32 k)) w := by
 unfold zqao
 simp only [zqcy]
 rw [if_pos (by decide), zqhv]
@[go_sem] theorem zq5f (g : Nat) (w : World) (s : Int) (k : Nat -> Int) (y : Nat -> Int) (p : Nat -> Int) (t' : TypeId) (fr : Nat × Nat) : zqao Tryz.prog 43 g 33 32 w (some (.cells (lkC s k y p) t' fr)) = .ok (.agg (ints .u8 32 y)) w := by
 unfold zqao
 simp only [zqcy]
 rw [if_pos (by decide), zqf2]
@[go_sem] theorem zq5b (g : Nat) (w : World) (s : Int) (k : Nat -> Int) (y : Nat -> Int) (p : Nat -> Int) (t' : TypeId) (fr : Nat × Nat) : zqao Tryz.prog 43 g 65 32 w (some (.cells (lkC s k y p) t' fr)) = .ok (.agg (ints .u8 32 p)) w := by
 unfold zqao
 simp only [zqcy]
 rw [if_pos (by decide), zqf5]
@[go_sem] theorem zq7g (g : Nat) (w : World) (r : Nat -> Int) (x : ByteArray) (t' : TypeId) (fr : Nat × Nat) : zqa0 Tryz.prog 44 g 32 w (some (.cells (spC r x) t' fr)) = .ok (.agg (ints .u8 32 r)) w := by
 unfold zqa0
 simp only [zqjq]
 rw [if_neg (by decide), if_pos (by decide)];exact congrArg (fun x => Result.ok (Value.agg x) w) (zq7y r x)
def lkB4 (x0 : Value) (x1 : Value) (x2 : Value) (x3 : Value) : Sem Next := do pure (.value (<- Instr.build 79 #[(0, x0), (1, x1), (2, x2), (3, x3)]))
@[go_sem ↓ high] theorem zroy (ρ : Operand -> Value) (dd : Option Tmp) (x0 x1 x2 x3 : Operand) (t : TypeId) (pos : String) (af : Array Edge) (gg : Option (Nat × Bool)) :
  execOp ρ ⟨dd, .build 79 #[(0, x0), (1, x1), (2, x2), (3, x3)], t, pos, af, gg⟩ = lkB4 (ρ x0) (ρ x1) (ρ x2) (ρ x3) := by simp [execOp, lkB4]
@[go_sem high] theorem zrne (ρ : Operand -> Value) (dd : Option Tmp) (x0 x1 x2 x3 : Operand) (t : TypeId) (pos : String) (af : Array Edge) (gg : Option (Nat × Bool)) :
  execOp ρ ⟨dd, .build 79 #[(0, x0), (1, x1), (2, x2), (3, x3)], t, pos, af, gg⟩ = lkB4 (ρ x0) (ρ x1) (ρ x2) (ρ x3) := by simp [execOp, lkB4]
theorem zq4d (s : Int) (k : Nat -> Int) (y : Nat -> Int) (p : Nat -> Int) (w : World) : (Instr.build 79 #[(0, .int .u32 s), (1, .agg (ints .u8 32 k)), (2, .agg (ints .u8 32 y)), (3, .agg (ints .u8 32 p))]).run Tryz.prog w = .ok (.agg (lkC s k y p)) w := by kernel_rfl
@[go_sem] theorem zrmy (s : Int) (k : Nat -> Int) (y : Nat -> Int) (p : Nat -> Int) (w : World) : (lkB4 (.int .u32 s) (.agg (ints .u8 32 k)) (.agg (ints .u8 32 y)) (.agg (ints .u8 32 p))).run Tryz.prog w = .ok (.value (.agg (lkC s k y p))) w := by
 unfold lkB4;rw [Sem.run_bind, zq4d]
 rfl
def zqtn (x0 : Value) (x1 : Value) (x2 : Value) (x3 : Value) : Sem Next := do pure (.value (<- Instr.build 81 #[(0, x0), (1, x1), (2, x2), (3, x3)]))
@[go_sem ↓ high] theorem zrmf (ρ : Operand -> Value) (dd : Option Tmp) (x0 x1 x2 x3 : Operand) (t : TypeId) (pos : String) (af : Array Edge) (gg : Option (Nat × Bool)) :
  execOp ρ ⟨dd, .build 81 #[(0, x0), (1, x1), (2, x2), (3, x3)], t, pos, af, gg⟩ = zqtn (ρ x0) (ρ x1) (ρ x2) (ρ x3) := by simp [execOp, zqtn]
@[go_sem high] theorem zrks (ρ : Operand -> Value) (dd : Option Tmp) (x0 x1 x2 x3 : Operand) (t : TypeId) (pos : String) (af : Array Edge) (gg : Option (Nat × Bool)) :
  execOp ρ ⟨dd, .build 81 #[(0, x0), (1, x1), (2, x2), (3, x3)], t, pos, af, gg⟩ = zqtn (ρ x0) (ρ x1) (ρ x2) (ρ x3) := by simp [execOp, zqtn]
theorem zqy9 (s : Int) (k : Nat -> Int) (y : Nat -> Int) (p : Nat -> Int) (w : World) : (Instr.build 81 #[(0, .int .u32 s), (1, .agg (ints .u8 32 k)), (2, .agg (ints .u8 32 y)), (3, .agg (ints .u8 32 p))]).run Tryz.prog w = .ok (.agg (lkC s k y p)) w := by kernel_rfl
@[go_sem] theorem zrkp (s : Int) (k : Nat -> Int) (y : Nat -> Int) (p : Nat -> Int) (w : World) : (zqtn (.int .u32 s) (.agg (ints .u8 32 k)) (.agg (ints .u8 32 y)) (.agg (ints .u8 32 p))).run Tryz.prog w = .ok (.value (.agg (lkC s k y p))) w := by
 unfold zqtn;rw [Sem.run_bind, zqy9]
 rfl
attribute [irreducible] lkC spC lkB4 zqtn
end Go.Proofs.YtnjghcnhcbobhaaGreatDoor
namespace Go.Proofs.YtnjghcnhcbobhaaGreatDoor
open Go.RowKit Go.Lib
theorem zq1n (s : Int) (k y p r : Nat -> Int) (x : ByteArray) (s2 : Int) (w : World) (hx : x.size <= 100000) (hT : Tabs w) :
  Calls Tryz.prog 84 #[.agg (lkC s k y p), .int .u32 s2, .agg (ints .u8 32 r), .string x] w (Rt w (.agg (lkC s2 (zqcr k r (zqdr p x)) (tagF (zqcr k r (zqdr p x))) (zqdr p x)))) := by
 obtain ⟨pp, hpp⟩ : ∃ pp, zqdr p x = pp := ⟨_, rfl⟩
 obtain ⟨kk, hkk⟩ : ∃ kk, zqcr k r pp = kk := ⟨_, rfl⟩
 obtain ⟨yy, hyy⟩ : ∃ yy, tagF kk = yy := ⟨_, rfl⟩
 rw [hpp, hkk, hyy];have c1 : ∀ (W : World), Below w.heap.size w W -> Calls Tryz.prog 118 #[.agg (ints .u8 32 p), .string x] W (Rt W (.agg (ints .u8 32 pp))) := fun W hb => by rw [<- hpp]; exact zq4g p x W hx (hT.later hb)
 have c2 : ∀ (W : World), Below w.heap.size w W -> Calls Tryz.prog 119 #[.agg (ints .u8 32 k), .agg (ints .u8 32 r), .agg (ints .u8 32 pp)] W (Rt W (.agg (ints .u8 32 kk))) := fun W hb => by rw [<- hkk]; exact zqy7 k r pp W (hT.later hb)
 have c3 : ∀ (W : World), Below w.heap.size w W -> Calls Tryz.prog 120 #[.agg (ints .u8 32 kk)] W (Rt W (.agg (ints .u8 32 yy))) := fun W hb => by rw [<- hyy]; exact zq6r kk W (hT.later hb)
 clear hpp hkk hyy hT
 go_enter Tryz.func84, Tryz.ntmps84
 go_wp2_with fail;have fl : zqd ((((w).alloc (.cells (lkC s k y p) 79)).alloc (.cells (ints .u8 32 r) 44)).alloc (.cells (lkC 0 zqe zqe zqe) 79)) w.heap.size = some (.cells (lkC s k y p) 79) := zqi _ (zqi _ (zqg _ _ _ rfl));have fr : zqd ((((w).alloc (.cells (lkC s k y p) 79)).alloc (.cells (ints .u8 32 r) 44)).alloc (.cells (lkC 0 zqe zqe zqe) 79)) (w.heap.size + 1) = some (.cells (ints .u8 32 r) 44) := zqi _ (zqg _ _ _ (by simp));have fz : zqd ((((w).alloc (.cells (lkC s k y p) 79)).alloc (.cells (ints .u8 32 r) 44)).alloc (.cells (lkC 0 zqe zqe zqe) 79)) (w.heap.size + 1 + 1) = some (.cells (lkC 0 zqe zqe zqe) 79) := zqg _ _ _ (by simp)
 have hG : Below w.heap.size w ((((w).alloc (.cells (lkC s k y p) 79)).alloc (.cells (ints .u8 32 r) 44)).alloc (.cells (lkC 0 zqe zqe zqe) 79)) := Grew.alloc (Grew.alloc (Grew.alloc (Grew.refl _) _) _) _;generalize (((w).alloc (.cells (lkC s k y p) 79)).alloc (.cells (ints .u8 32 r) 44)).alloc (.cells (lkC 0 zqe zqe zqe) 79) = w1 at *;generalize hg8 : w.heap.size + 1 + 1 = g8 at *;generalize hg6 : w.heap.size + 1 = g6 at *;have hlt8 : w.heap.size <= g8 := by omega
 clear hg8 hg6;have lfl := zqa fl;have lfr := zqa fr;have lfz := zqa fz;go_wp2_with fail;refine (c1 _ hG).mono ?_
 rintro e v0 ⟨rfl, hb⟩;replace fl := zqi (.cells (ints .u8 32 pp) 44) (zqc hb fl);replace fr := zqi (.cells (ints .u8 32 pp) 44) (zqc hb fr);replace fz := zqi (.cells (ints .u8 32 pp) 44) (zqc hb fz);have fp : zqd (v0.alloc (.cells (ints .u8 32 pp) 44)) v0.heap.size = some (.cells (ints .u8 32 pp) 44) := zqg _ _ _ rfl;replace hG := Grew.alloc (Grew.trans hG hb) (.cells (ints .u8 32 pp) 44);clear hb c1 lfl lfr lfz;go_wp2_with fail;generalize v0.alloc (.cells (ints .u8 32 pp) 44) = w2 at *;generalize v0.heap.size = gb0 at *;have lfl := zqa fl;have lfr := zqa fr;have lfz := zqa fz;have lfp := zqa fp;go_wp2_with fail;refine (c2 _ hG).mono ?_
 rintro e v1 ⟨rfl, hb⟩;replace fl := zqi (.cells (ints .u8 32 kk) 44) (zqc hb fl);replace fr := zqi (.cells (ints .u8 32 kk) 44) (zqc hb fr);replace fz := zqi (.cells (ints .u8 32 kk) 44) (zqc hb fz);replace fp := zqi (.cells (ints .u8 32 kk) 44) (zqc hb fp);have fk : zqd (v1.alloc (.cells (ints .u8 32 kk) 44)) v1.heap.size = some (.cells (ints .u8 32 kk) 44) := zqg _ _ _ rfl;replace hG := Grew.alloc (Grew.trans hG hb) (.cells (ints .u8 32 kk) 44);clear hb c2 lfl lfr lfz lfp;go_wp2_with fail;generalize v1.alloc (.cells (ints .u8 32 kk) 44) = w3 at *;generalize v1.heap.size = gb1 at *;have lfl := zqa fl;have lfr := zqa fr;have lfz := zqa fz;have lfp := zqa fp;have lfk := zqa fk
 (refine zqha 6 zqb zqb zqb zqb zqb ?_; simp only [List.take_succ_cons, List.take_zero]; (repeat (first | refine zqx rfl ?_ | (refine zqn rfl ?_; apply Exists.intro))); refine zqbn ?_; intro γ hinj hbase; (repeat (first | (refine zqy rfl ?_; ((first | go_big_quiet_skip | (go_big_quiet_want; go_big_quiet_op; go_big_quiet_on)); refine wpQuiet_nil ?_)) | ((first | refine zqk rfl (fun _ => rfl) ?_ | ((try simp only [Nat.zero_add, Nat.reduceAdd]); apply zqci zqt; (focus rfl); (focus (first | exact zq7 _ | exact zqac _ _ | exact zq4 _ | rfl)); (focus (exact zq2))) | ((try simp only [Nat.zero_add, Nat.reduceAdd]); apply zqa9 _ _ zqt; (focus rfl); (focus (intro W; (first | exact zqbp _ | exact zqa7 _ | exact zero_num _ | exact zqbc _ | exact zero_rnode _ | exact zqax _))); (focus (first | exact zqay _ _ _ | exact zqa6 _ _ | rfl)); (focus (exact zq2))) | ((try simp only [Nat.zero_add, Nat.reduceAdd]); apply zqbd zqt; (focus rfl); (focus (intro W; simp only [List.map_toArray, List.map_cons, List.map_nil]; first | fail)); (focus (exact zq2))) | (apply zqab; (focus rfl); (focus rfl); (focus rfl); (focus (intro W hC hF; (have hbW : Below w.heap.size w W := by obtain ⟨mm, rfl⟩ := hC; exact Grew.more hG mm); go_big_quiet_want; go_big_quiet_op; (first | go_big_quiet_on | (apply Exists.intro; refine ⟨fun _ => ?_, ?_⟩; (focus ((with_reducible exact Calls.of_more (c3 _ (Grew.more hbW _))))); go_big_quiet_on)); exact wpQuiet_nil rfl)); (focus (first | exact fun _ => ⟨rfl, rfl⟩ | exact fun h => absurd h (by decide))))); ((first | go_big_quiet_skip | (go_big_quiet_want; go_big_quiet_op; go_big_quiet_on)); refine wpQuiet_nil ?_)) | refine zql rfl (fun _ => rfl) ?_ | ((try simp only [Nat.zero_add, Nat.reduceAdd]); apply zqbb (zqaw (hbase _)); (focus rfl); (focus rfl); (focus rfl); (focus (first | exact zq7 _ | exact zqac _ _ | exact zq4 _ | rfl)); rotate_left 3; (focus (exact zqc3)); rotate_right 3; (focus kernel_rfl); (focus (first | exact zqj _ _ _ | rfl)); (focus (first | exact zqaz _ _ _ | exact zqbj _ _ _ _ | kernel_rfl)); (focus (decide +kernel)); (focus (exact zq2))))))
 refine zqdz ?_
 rintro _ ⟨mq, rfl⟩ -;refine zqu (i := 6) (fuel := 0) zqb rfl ?_
 intro K hK;have fz8 := zqq mq (zqr (lkC s2 kk yy pp) fz);have hG8 := Grew.more (Grew.setRow hG g8 (lkC s2 kk yy pp) hlt8) mq;replace fz := zqq mq fz;have lz := zqa fz;replace hG := Grew.more hG mq
 go_simp
 refine hK _ _ ?_
 clear hK K;refine wpAny_done zqb ?_ _
 go_wp2;refine zqaf rfl _ 79 (lkC s2 kk yy pp) (0, 0) _ rfl fz8 Tryz.underlying79 rfl (by rw [zqcy]; kernel_rfl) rfl ⟨rfl, hG8⟩
theorem zqnu (s : Int) (k y p r : Nat -> Int) (x : ByteArray) (w : World) (hx : x.size <= 100000) :
  Calls Tryz.prog 32 #[.agg (lkC s k y p), .agg (ints .u8 32 r), .string x] w (Rt w (.agg (lkC (IntKind.u32.wrap (s + 1)) (zqcr k r (zqdr p x)) (tagF (zqcr k r (zqdr p x))) (zqdr p x)))) := by
 obtain ⟨pp, hpp⟩ : ∃ pp, zqdr p x = pp := ⟨_, rfl⟩
 obtain ⟨kk, hkk⟩ : ∃ kk, zqcr k r pp = kk := ⟨_, rfl⟩
 obtain ⟨yy, hyy⟩ : ∃ yy, tagF kk = yy := ⟨_, rfl⟩
 rw [hpp, hkk, hyy];have c1 : ∀ (W : World), Below w.heap.size w W -> Calls Tryz.prog 77 #[.agg (ints .u8 32 p), .string x] W (Rt W (.agg (ints .u8 32 pp))) := fun W hb => by rw [<- hpp]; exact zqrn p x W hx
 have c2 : ∀ (W : World), Below w.heap.size w W -> Calls Tryz.prog 78 #[.agg (ints .u8 32 k), .agg (ints .u8 32 r), .agg (ints .u8 32 pp)] W (Rt W (.agg (ints .u8 32 kk))) := fun W hb => by rw [<- hkk]; exact zqoq k r pp W
 have c3 : ∀ (W : World), Below w.heap.size w W -> Calls Tryz.prog 79 #[.agg (ints .u8 32 kk)] W (Rt W (.agg (ints .u8 32 yy))) := fun W hb => by rw [<- hyy]; exact zqw1 kk W
 clear hpp hkk hyy
 go_enter Tryz.func32, Tryz.ntmps32
 go_wp2_with fail;have fl : zqd ((((w).alloc (.cells (lkC s k y p) 81)).alloc (.cells (ints .u8 32 r) 43)).alloc (.cells (lkC 0 zqe zqe zqe) 81)) w.heap.size = some (.cells (lkC s k y p) 81) := zqi _ (zqi _ (zqg _ _ _ rfl));have fr : zqd ((((w).alloc (.cells (lkC s k y p) 81)).alloc (.cells (ints .u8 32 r) 43)).alloc (.cells (lkC 0 zqe zqe zqe) 81)) (w.heap.size + 1) = some (.cells (ints .u8 32 r) 43) := zqi _ (zqg _ _ _ (by simp));have fz : zqd ((((w).alloc (.cells (lkC s k y p) 81)).alloc (.cells (ints .u8 32 r) 43)).alloc (.cells (lkC 0 zqe zqe zqe) 81)) (w.heap.size + 1 + 1) = some (.cells (lkC 0 zqe zqe zqe) 81) := zqg _ _ _ (by simp)
 have hG : Below w.heap.size w ((((w).alloc (.cells (lkC s k y p) 81)).alloc (.cells (ints .u8 32 r) 43)).alloc (.cells (lkC 0 zqe zqe zqe) 81)) := Grew.alloc (Grew.alloc (Grew.alloc (Grew.refl _) _) _) _;generalize (((w).alloc (.cells (lkC s k y p) 81)).alloc (.cells (ints .u8 32 r) 43)).alloc (.cells (lkC 0 zqe zqe zqe) 81) = w1 at *;generalize hg8 : w.heap.size + 1 + 1 = g8 at *;generalize hg6 : w.heap.size + 1 = g6 at *;have hlt8 : w.heap.size <= g8 := by omega
 clear hg8 hg6;have lfl := zqa fl;have lfr := zqa fr;have lfz := zqa fz;go_wp2_with fail;refine (c1 _ hG).mono ?_
 rintro e v0 ⟨rfl, hb⟩;replace fl := zqi (.cells (ints .u8 32 pp) 43) (zqc hb fl);replace fr := zqi (.cells (ints .u8 32 pp) 43) (zqc hb fr);replace fz := zqi (.cells (ints .u8 32 pp) 43) (zqc hb fz);have fp : zqd (v0.alloc (.cells (ints .u8 32 pp) 43)) v0.heap.size = some (.cells (ints .u8 32 pp) 43) := zqg _ _ _ rfl;replace hG := Grew.alloc (Grew.trans hG hb) (.cells (ints .u8 32 pp) 43);clear hb c1 lfl lfr lfz;go_wp2_with fail;generalize v0.alloc (.cells (ints .u8 32 pp) 43) = w2 at *;generalize v0.heap.size = gb0 at *;have lfl := zqa fl;have lfr := zqa fr;have lfz := zqa fz;have lfp := zqa fp;go_wp2_with fail;refine (c2 _ hG).mono ?_
 rintro e v1 ⟨rfl, hb⟩;replace fl := zqi (.cells (ints .u8 32 kk) 43) (zqc hb fl);replace fr := zqi (.cells (ints .u8 32 kk) 43) (zqc hb fr);replace fz := zqi (.cells (ints .u8 32 kk) 43) (zqc hb fz);replace fp := zqi (.cells (ints .u8 32 kk) 43) (zqc hb fp);have fk : zqd (v1.alloc (.cells (ints .u8 32 kk) 43)) v1.heap.size = some (.cells (ints .u8 32 kk) 43) := zqg _ _ _ rfl;replace hG := Grew.alloc (Grew.trans hG hb) (.cells (ints .u8 32 kk) 43);clear hb c2 lfl lfr lfz lfp;go_wp2_with fail;generalize v1.alloc (.cells (ints .u8 32 kk) 43) = w3 at *;generalize v1.heap.size = gb1 at *;have lfl := zqa fl;have lfr := zqa fr;have lfz := zqa fz;have lfp := zqa fp;have lfk := zqa fk
 (refine zqha 8 zqb zqb zqb zqb zqb ?_; simp only [List.take_succ_cons, List.take_zero]; (repeat (first | refine zqx rfl ?_ | (refine zqn rfl ?_; apply Exists.intro))); refine zqbn ?_; intro γ hinj hbase; (repeat (first | (refine zqy rfl ?_; ((first | go_big_quiet_skip | (go_big_quiet_want; go_big_quiet_op; go_big_quiet_on)); refine wpQuiet_nil ?_)) | ((first | refine zqk rfl (fun _ => rfl) ?_ | ((try simp only [Nat.zero_add, Nat.reduceAdd]); apply zqci zqt; (focus rfl); (focus (first | exact zq7 _ | exact zqac _ _ | exact zq4 _ | rfl)); (focus (exact zq2))) | ((try simp only [Nat.zero_add, Nat.reduceAdd]); apply zqa9 _ _ zqt; (focus rfl); (focus (intro W; (first | exact zqbp _ | exact zqa7 _ | exact zero_num _ | exact zqbc _ | exact zero_rnode _ | exact zqax _))); (focus (first | exact zqay _ _ _ | exact zqa6 _ _ | rfl)); (focus (exact zq2))) | ((try simp only [Nat.zero_add, Nat.reduceAdd]); apply zqbd zqt; (focus rfl); (focus (intro W; simp only [List.map_toArray, List.map_cons, List.map_nil]; first | fail)); (focus (exact zq2))) | (apply zqab; (focus rfl); (focus rfl); (focus rfl); (focus (intro W hC hF; (have hbW : Below w.heap.size w W := by obtain ⟨mm, rfl⟩ := hC; exact Grew.more hG mm); go_big_quiet_want; go_big_quiet_op; (first | go_big_quiet_on | (apply Exists.intro; refine ⟨fun _ => ?_, ?_⟩; (focus ((with_reducible exact Calls.of_more (c3 _ (Grew.more hbW _))))); go_big_quiet_on)); exact wpQuiet_nil rfl)); (focus (first | exact fun _ => ⟨rfl, rfl⟩ | exact fun h => absurd h (by decide))))); ((first | go_big_quiet_skip | (go_big_quiet_want; go_big_quiet_op; go_big_quiet_on)); refine wpQuiet_nil ?_)) | refine zql rfl (fun _ => rfl) ?_ | ((try simp only [Nat.zero_add, Nat.reduceAdd]); apply zqbb (zqaw (hbase _)); (focus rfl); (focus rfl); (focus rfl); (focus (first | exact zq7 _ | exact zqac _ _ | exact zq4 _ | rfl)); rotate_left 3; (focus (exact zqc3)); rotate_right 3; (focus kernel_rfl); (focus (first | exact zqj _ _ _ | rfl)); (focus (first | exact zqaz _ _ _ | exact zqbj _ _ _ _ | kernel_rfl)); (focus (decide +kernel)); (focus (exact zq2))))))
 refine zqdz ?_
 rintro _ ⟨mq, rfl⟩ -;refine zqu (i := 8) (fuel := 0) zqb rfl ?_
 intro K hK;have fz8 := zqq mq (zqr (lkC (IntKind.u32.wrap (s + 1)) kk yy pp) fz);have hG8 := Grew.more (Grew.setRow hG g8 (lkC (IntKind.u32.wrap (s + 1)) kk yy pp) hlt8) mq;replace fz := zqq mq fz;have lz := zqa fz;replace hG := Grew.more hG mq
 go_simp
 refine hK _ _ ?_
 clear hK K;refine wpAny_done zqb ?_ _
 go_wp2;refine zqaf rfl _ 81 (lkC (IntKind.u32.wrap (s + 1)) kk yy pp) (0, 0) _ rfl fz8 Tryz.underlying81 rfl (by rw [zqcy]; kernel_rfl) rfl ⟨rfl, hG8⟩
theorem zqrz (s : Int) (k y p r : Nat -> Int) (x : ByteArray) (w : World) (hx : x.size <= 100000) :
  Calls Tryz.prog 31 #[.agg (ints .u8 32 r), .string x] w (Rt w (.agg (lkC 0 (zqcr zqe r (zqdr zqe x)) (tagF (zqcr zqe r (zqdr zqe x))) (zqdr zqe x)))) := by
 obtain ⟨pp, hpp⟩ : ∃ pp, zqdr zqe x = pp := ⟨_, rfl⟩
 obtain ⟨kk, hkk⟩ : ∃ kk, zqcr zqe r pp = kk := ⟨_, rfl⟩
 obtain ⟨yy, hyy⟩ : ∃ yy, tagF kk = yy := ⟨_, rfl⟩
 rw [hpp, hkk, hyy];have c1 : ∀ (W : World), Below w.heap.size w W -> Calls Tryz.prog 77 #[.agg (ints .u8 32 zqe), .string x] W (Rt W (.agg (ints .u8 32 pp))) := fun W hb => by rw [<- hpp]; exact zqrn zqe x W hx
 have c2 : ∀ (W : World), Below w.heap.size w W -> Calls Tryz.prog 78 #[.agg (ints .u8 32 zqe), .agg (ints .u8 32 r), .agg (ints .u8 32 pp)] W (Rt W (.agg (ints .u8 32 kk))) := fun W hb => by rw [<- hkk]; exact zqoq zqe r pp W
 have c3 : ∀ (W : World), Below w.heap.size w W -> Calls Tryz.prog 79 #[.agg (ints .u8 32 kk)] W (Rt W (.agg (ints .u8 32 yy))) := fun W hb => by rw [<- hyy]; exact zqw1 kk W
 clear hpp hkk hyy
 go_enter Tryz.func31, Tryz.ntmps31
 go_wp2_with fail;have fr : zqd (((w).alloc (.cells (ints .u8 32 r) 43)).alloc (.cells (lkC 0 zqe zqe zqe) 81)) w.heap.size = some (.cells (ints .u8 32 r) 43) := zqi _ (zqg _ _ _ rfl);have fz : zqd (((w).alloc (.cells (ints .u8 32 r) 43)).alloc (.cells (lkC 0 zqe zqe zqe) 81)) (w.heap.size + 1) = some (.cells (lkC 0 zqe zqe zqe) 81) := zqg _ _ _ (by simp);have hG : Below w.heap.size w (((w).alloc (.cells (ints .u8 32 r) 43)).alloc (.cells (lkC 0 zqe zqe zqe) 81)) := Grew.alloc (Grew.alloc (Grew.refl _) _) _;generalize ((w).alloc (.cells (ints .u8 32 r) 43)).alloc (.cells (lkC 0 zqe zqe zqe) 81) = w1 at *;generalize hg8 : w.heap.size + 1 = g8 at *;have hlt8 : w.heap.size <= g8 := by omega
 clear hg8;have lfr := zqa fr;have lfz := zqa fz;go_wp2_with fail;refine (c1 _ hG).mono ?_
 rintro e v0 ⟨rfl, hb⟩;replace fr := zqi (.cells (ints .u8 32 pp) 43) (zqc hb fr);replace fz := zqi (.cells (ints .u8 32 pp) 43) (zqc hb fz);have fp : zqd (v0.alloc (.cells (ints .u8 32 pp) 43)) v0.heap.size = some (.cells (ints .u8 32 pp) 43) := zqg _ _ _ rfl;replace hG := Grew.alloc (Grew.trans hG hb) (.cells (ints .u8 32 pp) 43);clear hb c1 lfr lfz;go_wp2_with fail;generalize v0.alloc (.cells (ints .u8 32 pp) 43) = w2 at *;generalize v0.heap.size = gb0 at *;have lfr := zqa fr;have lfz := zqa fz;have lfp := zqa fp;go_wp2_with fail;refine (c2 _ hG).mono ?_
 rintro e v1 ⟨rfl, hb⟩;replace fr := zqi (.cells (ints .u8 32 kk) 43) (zqc hb fr);replace fz := zqi (.cells (ints .u8 32 kk) 43) (zqc hb fz);replace fp := zqi (.cells (ints .u8 32 kk) 43) (zqc hb fp);have fk : zqd (v1.alloc (.cells (ints .u8 32 kk) 43)) v1.heap.size = some (.cells (ints .u8 32 kk) 43) := zqg _ _ _ rfl;replace hG := Grew.alloc (Grew.trans hG hb) (.cells (ints .u8 32 kk) 43);clear hb c2 lfr lfz lfp;go_wp2_with fail;generalize v1.alloc (.cells (ints .u8 32 kk) 43) = w3 at *;generalize v1.heap.size = gb1 at *;have lfr := zqa fr;have lfz := zqa fz;have lfp := zqa fp;have lfk := zqa fk
 (refine zqha 5 zqb zqb zqb zqb zqb ?_; simp only [List.take_succ_cons, List.take_zero]; (repeat (first | refine zqx rfl ?_ | (refine zqn rfl ?_; apply Exists.intro))); refine zqbn ?_; intro γ hinj hbase; (repeat (first | (refine zqy rfl ?_; ((first | go_big_quiet_skip | (go_big_quiet_want; go_big_quiet_op; go_big_quiet_on)); refine wpQuiet_nil ?_)) | ((first | refine zqk rfl (fun _ => rfl) ?_ | ((try simp only [Nat.zero_add, Nat.reduceAdd]); apply zqci zqt; (focus rfl); (focus (first | exact zq7 _ | exact zqac _ _ | exact zq4 _ | rfl)); (focus (exact zq2))) | ((try simp only [Nat.zero_add, Nat.reduceAdd]); apply zqa9 _ _ zqt; (focus rfl); (focus (intro W; (first | exact zqbp _ | exact zqa7 _ | exact zero_num _ | exact zqbc _ | exact zero_rnode _ | exact zqax _))); (focus (first | exact zqay _ _ _ | exact zqa6 _ _ | rfl)); (focus (exact zq2))) | ((try simp only [Nat.zero_add, Nat.reduceAdd]); apply zqbd zqt; (focus rfl); (focus (intro W; simp only [List.map_toArray, List.map_cons, List.map_nil]; first | fail)); (focus (exact zq2))) | (apply zqab; (focus rfl); (focus rfl); (focus rfl); (focus (intro W hC hF; (have hbW : Below w.heap.size w W := by obtain ⟨mm, rfl⟩ := hC; exact Grew.more hG mm); go_big_quiet_want; go_big_quiet_op; (first | go_big_quiet_on | (apply Exists.intro; refine ⟨fun _ => ?_, ?_⟩; (focus ((with_reducible exact Calls.of_more (c3 _ (Grew.more hbW _))))); go_big_quiet_on)); exact wpQuiet_nil rfl)); (focus (first | exact fun _ => ⟨rfl, rfl⟩ | exact fun h => absurd h (by decide))))); ((first | go_big_quiet_skip | (go_big_quiet_want; go_big_quiet_op; go_big_quiet_on)); refine wpQuiet_nil ?_)) | refine zql rfl (fun _ => rfl) ?_ | ((try simp only [Nat.zero_add, Nat.reduceAdd]); apply zqbb (zqaw (hbase _)); (focus rfl); (focus rfl); (focus rfl); (focus (first | exact zq7 _ | exact zqac _ _ | exact zq4 _ | rfl)); rotate_left 3; (focus (exact zqc3)); rotate_right 3; (focus kernel_rfl); (focus (first | exact zqj _ _ _ | rfl)); (focus (first | exact zqaz _ _ _ | exact zqbj _ _ _ _ | kernel_rfl)); (focus (decide +kernel)); (focus (exact zq2))))))
 refine zqdz ?_
 rintro _ ⟨mq, rfl⟩ -;refine zqu (i := 5) (fuel := 0) zqb rfl ?_
 intro K hK;have fz8 := zqq mq (zqr (lkC 0 kk yy pp) fz);have hG8 := Grew.more (Grew.setRow hG g8 (lkC 0 kk yy pp) hlt8) mq;replace fz := zqq mq fz;have lz := zqa fz;replace hG := Grew.more hG mq
 go_simp
 refine hK _ _ ?_
 clear hK K;refine wpAny_done zqb ?_ _
 go_wp2;refine zqaf rfl _ 81 (lkC 0 kk yy pp) (0, 0) _ rfl fz8 Tryz.underlying81 rfl (by rw [zqcy]; kernel_rfl) rfl ⟨rfl, hG8⟩
end Go.Proofs.YtnjghcnhcbobhaaGreatDoor
namespace Go.Proofs.YtnjghcnhcbobhaaGreatDoor
open Go.RowKit Go.Lib
theorem zqsi (s : Int) (k y p r : Nat -> Int) (x : ByteArray) (w : World) (hx : x.size <= 100000) (hT : Tabs w) :
  Calls Tryz.prog 38 #[.agg (lkC s k y p), .agg (ints .u8 32 r), .string x] w (Rt w (.agg (lkC (IntKind.u32.wrap (s + 1)) (zqcr k r (zqdr p x)) (tagF (zqcr k r (zqdr p x))) (zqdr p x)))) := by
 have cA := fun (W : World) (hb : Below w.heap.size w W) => zq1n s k y p r x (IntKind.u32.wrap (s + 1)) W hx (hT.later hb);obtain ⟨pp, hpp⟩ : ∃ pp, zqdr p x = pp := ⟨_, rfl⟩
 obtain ⟨kk, hkk⟩ : ∃ kk, zqcr k r pp = kk := ⟨_, rfl⟩
 obtain ⟨yy, hyy⟩ : ∃ yy, tagF kk = yy := ⟨_, rfl⟩
 rw [hpp, hkk, hyy] at cA ⊢;clear hpp hkk hyy hT
 go_enter Tryz.func38, Tryz.ntmps38
 go_wp2_with fail;have fl : zqd (((w.alloc (.cells (lkC s k y p) 79)).alloc (.cells (ints .u8 32 r) 44)).alloc (.cells (lkC 0 zqe zqe zqe) 79)) w.heap.size = some (.cells (lkC s k y p) 79) := zqi _ (zqi _ (zqg _ _ _ rfl));have fr : zqd (((w.alloc (.cells (lkC s k y p) 79)).alloc (.cells (ints .u8 32 r) 44)).alloc (.cells (lkC 0 zqe zqe zqe) 79)) (w.heap.size + 1) = some (.cells (ints .u8 32 r) 44) := zqi _ (zqg _ _ _ (by simp));have fz : zqd (((w.alloc (.cells (lkC s k y p) 79)).alloc (.cells (ints .u8 32 r) 44)).alloc (.cells (lkC 0 zqe zqe zqe) 79)) (w.heap.size + 1 + 1) = some (.cells (lkC 0 zqe zqe zqe) 79) := zqg _ _ _ (by simp)
 have hG : Below w.heap.size w (((w.alloc (.cells (lkC s k y p) 79)).alloc (.cells (ints .u8 32 r) 44)).alloc (.cells (lkC 0 zqe zqe zqe) 79)) := Grew.alloc (Grew.alloc (Grew.alloc (Grew.refl _) _) _) _;generalize ((w.alloc (.cells (lkC s k y p) 79)).alloc (.cells (ints .u8 32 r) 44)).alloc (.cells (lkC 0 zqe zqe zqe) 79) = w1 at *;generalize hg8 : w.heap.size + 1 + 1 = g8 at *;generalize hg6 : w.heap.size + 1 = g6 at *;have hlt8 : w.heap.size <= g8 := by omega
 clear hg8 hg6;have ll := zqa fl;have lr := zqa fr;have lz := zqa fz;go_wp2_with fail;refine (cA _ hG).mono ?_
 rintro e w2 ⟨rfl, hb⟩;replace fz := zqc hb fz;replace hG := Grew.trans hG hb;clear hb cA ll lr lz;have lz := zqa fz;go_wp2;refine zqaf rfl _ 79 (lkC (IntKind.u32.wrap (s + 1)) kk yy pp) (0, 0) _ rfl (zqr _ fz) Tryz.underlying79 rfl (by rw [zqcy]; kernel_rfl) rfl ⟨rfl, Grew.setRow hG _ _ hlt8⟩
theorem zqxc (r : Nat -> Int) (x : ByteArray) (w : World) (hx : x.size <= 100000) (hT : Tabs w) :
  Calls Tryz.prog 76 #[.agg (ints .u8 32 r), .string x] w (Rt w (.agg (lkC 0 (zqcr zqe r (zqdr zqe x)) (tagF (zqcr zqe r (zqdr zqe x))) (zqdr zqe x)))) := by
 have cA := fun (W : World) (hb : Below w.heap.size w W) => zq1n 0 zqe zqe zqe r x 0 W hx (hT.later hb);obtain ⟨pp, hpp⟩ : ∃ pp, zqdr zqe x = pp := ⟨_, rfl⟩
 obtain ⟨kk, hkk⟩ : ∃ kk, zqcr zqe r pp = kk := ⟨_, rfl⟩
 obtain ⟨yy, hyy⟩ : ∃ yy, tagF kk = yy := ⟨_, rfl⟩
 rw [hpp, hkk, hyy] at cA ⊢;clear hpp hkk hyy hT
 go_enter Tryz.func76, Tryz.ntmps76
 go_wp2_with fail;have fr : zqd ((w.alloc (.cells (ints .u8 32 r) 44)).alloc (.cells (lkC 0 zqe zqe zqe) 79)) w.heap.size = some (.cells (ints .u8 32 r) 44) := zqi _ (zqg _ _ _ rfl);have fz : zqd ((w.alloc (.cells (ints .u8 32 r) 44)).alloc (.cells (lkC 0 zqe zqe zqe) 79)) (w.heap.size + 1) = some (.cells (lkC 0 zqe zqe zqe) 79) := zqg _ _ _ (by simp);have hG : Below w.heap.size w ((w.alloc (.cells (ints .u8 32 r) 44)).alloc (.cells (lkC 0 zqe zqe zqe) 79)) := Grew.alloc (Grew.alloc (Grew.refl _) _) _;generalize (w.alloc (.cells (ints .u8 32 r) 44)).alloc (.cells (lkC 0 zqe zqe zqe) 79) = w1 at *;generalize hg8 : w.heap.size + 1 = g8 at *;have hlt8 : w.heap.size <= g8 := by omega
 clear hg8;have lr := zqa fr;have lz := zqa fz;go_wp2_with fail;refine (cA _ hG).mono ?_
 rintro e w2 ⟨rfl, hb⟩;replace fz := zqc hb fz;replace hG := Grew.trans hG hb;clear hb cA lr lz;have lz := zqa fz;go_wp2;refine zqaf rfl _ 79 (lkC 0 kk yy pp) (0, 0) _ rfl (zqr _ fz) Tryz.underlying79 rfl (by rw [zqcy]; kernel_rfl) rfl ⟨rfl, Grew.setRow hG _ _ hlt8⟩
theorem zqpu (s : Int) (k y p : Nat -> Int) (w : World) :
  Calls Tryz.prog 34 #[.agg (lkC s k y p)] w (Rt w (.agg (lkC s k y p))) := by
 go_enter Tryz.func34, Tryz.ntmps34
 go_wp2_with fail;go_wp2;refine zqaf rfl _ 81 (lkC s k y p) (0, 0) _ rfl (zqg _ _ _ (by simp)) Tryz.underlying81 rfl (by rw [zqcy]; kernel_rfl) rfl ⟨rfl, Grew.alloc (Grew.alloc (Grew.refl _) _) _⟩
end Go.Proofs.YtnjghcnhcbobhaaGreatDoor
namespace Go.Proofs.YtnjghcnhcbobhaaGreatDoor
open Go.RowKit Go.Lib
theorem zrbo (s : Int) (k y p : Nat -> Int) (q : Nat) (h : q < 32) : (lkC s k y p)[33 + q]? = some (.int .u8 (y q)) := by
 unfold lkC;have h1 : ((#[Value.int .u32 s] : Array Value) ++ ints .u8 32 k).size = 33 := by simp [zqj]
 have h2 : ((#[Value.int .u32 s] : Array Value) ++ ints .u8 32 k ++ ints .u8 32 y).size = 65 := by simp [zqj]
 rw [Array.getElem?_append_left (by omega), Array.getElem?_append_right (by omega), h1, show 33 + q - 33 = q by omega, zqal _ _ _ _ h]
theorem zqvg {s : Int} {k y p : Nat -> Int} {W : World} {g : Nat} {t : TypeId} {fr : Nat × Nat} (h : zqd W g = some (.cells (lkC s k y p) t fr)) : (convert 144 9 (.slice (some ⟨g, 33, none⟩) 32 32)).run Tryz.prog W = .ok (.string (strOf 32 y)) W := by
 have hg := h;unfold zqd at hg;rw [run_convert_bytes_string _ _ _ _ _ _ _ Tryz.underlying144 Tryz.underlying5 Tryz.underlying9];unfold strOf;refine run_bytesToString _ _ _ _ ((List.range 32).map y) ?_
 have h2 := run_loadCells_list (P := Tryz.prog) W ⟨g, 33, none⟩ (((List.range 32).map y).map (Value.int .u8)) (fun j u hu => by
  have hj : j < 32 := by
   rcases Nat.lt_or_ge j 32 with h | h
   ·exact h
   ·rw [List.getElem?_eq_none (by simpa using h)] at hu; cases hu
  have hadd : (⟨g, 33, none⟩ : Addr).add j = ⟨g, 33 + j, none⟩ := by unfold Addr.add; split <;> simp_all
  rw [hadd, cell_of_row W g (33 + j) _ _ _ hg];rw [List.map_map, List.getElem?_map, List.getElem?_range hj] at hu;rw [<- hu, zrbo _ _ _ _ _ hj]
  rfl)
 simpa using h2
theorem zqq1 (s : Int) (k y p : Nat -> Int) (x : ByteArray) (w : World) (hx : x.size <= 100000) (hT : Tabs w) :
  Calls Tryz.prog 36 #[.agg (lkC s k y p), .string x] w (Rt w (.agg (ints .u8 32 (macF (strOf 32 y) x)))) := by
 have hz : (strOf 32 y).size = 32 := zq1 _ _;have cM := fun (g : Nat) (W : World) (h : StrsAt W (some ⟨g, 0, none⟩) 1 (oneS x)) (hb : Below w.heap.size w W) => zq1a (strOf 32 y) x g W (by omega) (by omega) h (hT.later hb);have hcv := fun (W : World) (g : Nat) (h : zqd W g = some (.cells (lkC s k y p) 79)) => zqvg h;generalize macF (strOf 32 y) x = M at *;generalize strOf 32 y = Y at *;clear hT hz
 go_enter Tryz.func36, Tryz.ntmps36
 go_wp2_with fail;have fl : zqd ((w.alloc (.cells (lkC s k y p) 79)).alloc (.cells (ints .u8 32 zqe) 44)) w.heap.size = some (.cells (lkC s k y p) 79) := zqi _ (zqg _ _ _ rfl);have fz : zqd ((w.alloc (.cells (lkC s k y p) 79)).alloc (.cells (ints .u8 32 zqe) 44)) (w.heap.size + 1) = some (.cells (ints .u8 32 zqe) 44) := zqg _ _ _ (by simp);have hG : Below w.heap.size w ((w.alloc (.cells (lkC s k y p) 79)).alloc (.cells (ints .u8 32 zqe) 44)) := Grew.alloc (Grew.alloc (Grew.refl _) _) _;have hsz : Hid (((w.alloc (.cells (lkC s k y p) 79)).alloc (.cells (ints .u8 32 zqe) 44)).heap.size = w.heap.size + 1 + 1) := by show _ = _; simp
 generalize (w.alloc (.cells (lkC s k y p) 79)).alloc (.cells (ints .u8 32 zqe) 44) = w1 at *;generalize hg8 : w.heap.size + 1 = g8 at *;have hlt8 : w.heap.size <= g8 := by omega
 clear hg8;have ll := zqa fl;have lz := zqa fz;have hc := hcv _ _ fl;clear hcv;go_wp2_with fail;have fx : zqd (w1.alloc (.cells #[.string x] 9)) (g8 + 1) = some (.cells #[.string x] 9) := zqg _ _ _ hsz.out.symm;replace fz := zqi (.cells #[.string x] 9) fz;replace hG := Grew.alloc hG (.cells #[.string x] 9);refine (cM _ _ (zqh0 fx) hG).mono ?_
 rintro e w2 ⟨rfl, hb⟩;replace fz := zqc hb fz;replace hG := Grew.trans hG hb;clear hb cM fl ll lz hc fx;have lz := zqa fz;go_wp2;refine zqaf rfl _ 44 (ints .u8 32 M) (0, 0) _ rfl (zqr _ fz) Tryz.underlying44 rfl (by rw [zqj]; kernel_rfl) rfl ⟨rfl, Grew.setRow hG _ _ hlt8⟩
theorem zquq (s : Int) (k y p : Nat -> Int) (x : ByteArray) (w : World) (hx : x.size <= 100000) :
  Calls Tryz.prog 35 #[.agg (lkC s k y p), .string x] w (Rt w (.agg (ints .u8 32 (macF (strOf 32 y) x)))) := by
 have hz : (strOf 32 y).size = 32 := zq1 _ _;have cM := fun (W : World) => zqkw (strOf 32 y) x W (by omega) (by omega);have cT := fun (W : World) => zqek y W;generalize macF (strOf 32 y) x = M at *;generalize strOf 32 y = Y at *;clear hz
 go_enter Tryz.func35, Tryz.ntmps35
 go_wp2_with fail;have fl : zqd ((w.alloc (.cells (lkC s k y p) 81)).alloc (.cells (ints .u8 32 zqe) 43)) w.heap.size = some (.cells (lkC s k y p) 81) := zqi _ (zqg _ _ _ rfl);have fz : zqd ((w.alloc (.cells (lkC s k y p) 81)).alloc (.cells (ints .u8 32 zqe) 43)) (w.heap.size + 1) = some (.cells (ints .u8 32 zqe) 43) := zqg _ _ _ (by simp);have hG : Below w.heap.size w ((w.alloc (.cells (lkC s k y p) 81)).alloc (.cells (ints .u8 32 zqe) 43)) := Grew.alloc (Grew.alloc (Grew.refl _) _) _;generalize (w.alloc (.cells (lkC s k y p) 81)).alloc (.cells (ints .u8 32 zqe) 43) = w1 at *;generalize hg8 : w.heap.size + 1 = g8 at *;have hlt8 : w.heap.size <= g8 := by omega
 clear hg8;have ll := zqa fl;have lz := zqa fz;go_wp2_with fail;refine (cT _).mono ?_
 rintro e w2 ⟨rfl, hb⟩;replace fz := zqc hb fz;replace hG := Grew.trans hG hb;clear hb cT fl ll lz;have lz := zqa fz;go_wp2_with fail;refine (cM _).mono ?_
 rintro e w3 ⟨rfl, hb⟩;replace fz := zqc hb fz;replace hG := Grew.trans hG hb;clear hb cM lz;have lz := zqa fz;go_wp2;refine zqaf rfl _ 43 (ints .u8 32 M) (0, 0) _ rfl (zqr _ fz) Tryz.underlying43 rfl (by rw [zqj]; kernel_rfl) rfl ⟨rfl, Grew.setRow hG _ _ hlt8⟩
end Go.Proofs.YtnjghcnhcbobhaaGreatDoor
namespace Go.Proofs.YtnjghcnhcbobhaaGreatDoor
open Go.RowKit Go.Lib
theorem zqil (s : Int) (k y p tg : Nat -> Int) (x : ByteArray) (w : World) (hx : x.size <= 100000) (ht : Bytes 32 tg) (hT : Tabs w) :
  Calls Tryz.prog 37 #[.agg (lkC s k y p), .string x, .agg (ints .u8 32 tg)] w (Rt w (.bool (same 32 tg (macF (strOf 32 y) x)))) := by
 have hz : (strOf 32 y).size = 32 := zq1 _ _;have hTT : Hid (Tabs w) := hT;have cM : ∀ (g : Nat) (W : World), StrsAt W (some ⟨g, 0, none⟩) 1 (oneS x) -> Tabs W -> Calls Tryz.prog 83 #[.string (strOf 32 y), .agg (ints .u8 32 tg), .slice (some ⟨g, 0, none⟩) 1 1] W (Rt W (.bool (same 32 tg (macF (strOf 32 y) x)))) := fun g W h hT2 => by
  have := check_any (strOf 32 y) tg (some ⟨g, 0, none⟩) 1 1 (oneS x) W ht (by omega) (by rw [zqfs]; omega) (by decide) h hT2;rw [zqfs] at this;exact this
 generalize same 32 tg (macF (strOf 32 y) x) = B at *;have hcv := fun (W : World) (g : Nat) (h : zqd W g = some (.cells (lkC s k y p) 79)) => zqvg h;generalize strOf 32 y = Y at *;clear hT hz
 go_enter Tryz.func37, Tryz.ntmps37
 go_wp2_with fail;have fl : zqd ((w.alloc (.cells (lkC s k y p) 79)).alloc (.cells (ints .u8 32 tg) 44)) w.heap.size = some (.cells (lkC s k y p) 79) := zqi _ (zqg _ _ _ rfl);have fr : zqd ((w.alloc (.cells (lkC s k y p) 79)).alloc (.cells (ints .u8 32 tg) 44)) (w.heap.size + 1) = some (.cells (ints .u8 32 tg) 44) := zqg _ _ _ (by simp);have hG : Below w.heap.size w ((w.alloc (.cells (lkC s k y p) 79)).alloc (.cells (ints .u8 32 tg) 44)) := Grew.alloc (Grew.alloc (Grew.refl _) _) _;generalize (w.alloc (.cells (lkC s k y p) 79)).alloc (.cells (ints .u8 32 tg) 44) = w1 at *;generalize w.heap.size + 1 = gr at *;have ll := zqa fl;have lr := zqa fr;have hc := fun m : More => hcv (more w1 m) _ (zqq m fl);clear hcv
 (refine zqg4 zqb zqb ?_; (repeat (first | refine zqx rfl ?_ | (refine zqn rfl ?_; apply Exists.intro))); refine zqbn ?_; intro γ hinj hbase; (repeat (first | (refine zqy rfl ?_; ((first | go_big_quiet_skip | (go_big_quiet_want; go_big_quiet_op; go_big_quiet_on)); refine wpQuiet_nil ?_)) | ((first | refine zqk rfl (fun _ => rfl) ?_ | ((try simp only [Nat.zero_add, Nat.reduceAdd]); apply zqci zqt; (focus rfl); (focus (first | exact zq7 _ | exact zqac _ _ | exact zq4 _ | rfl)); (focus (exact zq2))) | ((try simp only [Nat.zero_add, Nat.reduceAdd]); apply zqa9 _ _ zqt; (focus rfl); (focus (intro W; (first | exact zqbp _ | exact zqa7 _ | exact zero_num _ | exact zqbc _ | exact zero_rnode _ | exact zqax _))); (focus (first | exact zqay _ _ _ | exact zqa6 _ _ | rfl)); (focus (exact zq2))) | ((try simp only [Nat.zero_add, Nat.reduceAdd]); apply zqbd zqt; (focus rfl); (focus (intro W; simp only [List.map_toArray, List.map_cons, List.map_nil]; first | (with_reducible exact zqm7 _ W) | exact zqm7 _ W)); (focus (exact zq2))) | (apply zqab; (focus rfl); (focus rfl); (focus rfl); (focus (intro W hC hF; (have hGW : Below w.heap.size w W := (by obtain ⟨m, rfl⟩ := hC; exact Grew.more hG m); try (have hE : StrsAt W (some ⟨γ 5, 0, none⟩) 1 (oneS x) := zqh0 (known hF (List.mem_cons_self ..) (by decide +kernel)))); go_big_quiet_want; go_big_quiet_op; (first | go_big_quiet_on | (apply Exists.intro; refine ⟨fun _ => ?_, ?_⟩; (focus ((with_reducible exact Calls.of_more (cM _ _ (hE.later (zqo W _)) (hTT.out.later (Grew.trans hGW (zqo W _))))))); go_big_quiet_on)); exact wpQuiet_nil rfl)); (focus (first | exact fun _ => ⟨rfl, rfl⟩ | exact fun h => absurd h (by decide))))); ((first | go_big_quiet_skip | (go_big_quiet_want; go_big_quiet_op; go_big_quiet_on)); refine wpQuiet_nil ?_)) | refine zql rfl (fun _ => rfl) ?_ | ((try simp only [Nat.zero_add, Nat.reduceAdd]); apply zqbb (zqaw (hbase _)); (focus rfl); (focus rfl); (focus rfl); (focus (first | exact zq7 _ | exact zqac _ _ | exact zq4 _ | rfl)); rotate_left 3; (focus (exact zqc3)); rotate_right 3; (focus kernel_rfl); (focus (first | exact zqj _ _ _ | rfl)); (focus (first | exact zqaz _ _ _ | exact zqbj _ _ _ _ | kernel_rfl)); (focus (decide +kernel)); (focus (exact zq2))))))
 (refine zqcb ?_; rintro _ ⟨mq, rfl⟩ hF; simp only [List.forall_mem_cons] at hF; obtain - := hF)
 go_wp2;go_ret;exact ⟨rfl, Grew.more hG _⟩
end Go.Proofs.YtnjghcnhcbobhaaGreatDoor
namespace Go.Proofs.YtnjghcnhcbobhaaGreatDoor
open Go.RowKit Go.Lib
def celL (C : Nat -> Array Value) : Nat -> List Value
 | 0 => []
 | n + 1 => celL C n ++ (C n).toList
theorem zqlj {z : Nat} {C : Nat -> Array Value} (hC : ∀ j, (C j).size = z) : ∀ n, (celL C n).length = n * z
 | 0 => by rw [Nat.zero_mul]; rfl
 | n + 1 => by
  show (celL C n ++ _).length = _
  rw [List.length_append, zqlj hC n, Array.length_toList, hC, Nat.succ_mul]
theorem zqwg {z : Nat} {C : Nat -> Array Value} (hC : ∀ j, (C j).size = z) (j i : Nat) (hi : i < z) : ∀ n, j < n -> (celL C n)[j * z + i]? = (C j)[i]?
 | 0, h => absurd h (Nat.not_lt_zero _)
 | n + 1, h => by
  show (celL C n ++ _)[_]? = _
  by_cases hj : j < n
  ·have h1 : (j + 1) * z <= n * z := Nat.mul_le_mul_right _ hj
   rw [Nat.succ_mul] at h1;rw [List.getElem?_append_left (by rw [zqlj hC]; omega)];exact zqwg hC j i hi n hj
  ·obtain rfl : j = n := by omega
   rw [List.getElem?_append_right (by rw [zqlj hC]; omega), zqlj hC, show j * z + i - j * z = i by omega, Array.getElem?_toList]
def CAt (z : Nat) (w : World) (oa : Option Addr) (n : Nat) (C : Nat -> Array Value) : Prop :=
 n = 0 \/ ∃ ad : Addr, oa = some ad /\ ad.block < w.heap.size /\ ∀ j, j < n -> ∀ i, i < z -> w.cell? ((ad.add (j * z)).add i) = (C j)[i]?
theorem CAt.blk {z : Nat} {w : World} {oa : Option Addr} {n : Nat} {C : Nat -> Array Value} (h : CAt z w oa n C) (hn : 0 < n) : ∃ ad, oa = some ad /\ ad.block < w.heap.size := by
 rcases h with h | ⟨ad, ho, hl, _⟩
 ·omega
 ·exact ⟨ad, ho, hl⟩
theorem CAt.later {z : Nat} {w w' : World} {oa : Option Addr} {n : Nat} {C : Nat -> Array Value} (h : CAt z w oa n C) (hb : Below w.heap.size w w') : CAt z w' oa n C := by
 rcases h with h | ⟨ad, ho, hl, hc⟩
 ·exact .inl h
 ·refine .inr ⟨ad, ho, Nat.lt_of_lt_of_le hl hb.size, fun j hj i hi => ?_⟩
  rw [hb.cell (by rw [zqeq, zqeq]; exact hl)];exact hc j hj i hi
theorem CAt.congr {z : Nat} {w : World} {oa : Option Addr} {n m : Nat} {C D : Nat -> Array Value} (h : CAt z w oa n C) (hm : m <= n) (e : ∀ j, j < m -> C j = D j) : CAt z w oa m D := by
 rcases h with h | ⟨ad, ho, hl, hc⟩
 ·exact .inl (by omega)
 ·refine .inr ⟨ad, ho, hl, fun j hj i hi => ?_⟩
  rw [<- e j hj];exact hc j (by omega) i hi
theorem CAt.rest {z : Nat} {w : World} {ad : Addr} {n k : Nat} {C : Nat -> Array Value} (h : CAt z w (some ad) n C) (hk : k <= n) : CAt z w (some (ad.add (k * z))) (n - k) (fun j => C (k + j)) := by
 rcases h with h | ⟨ad', ho, hl, hc⟩
 ·exact .inl (by omega)
 ·cases ho
  refine .inr ⟨_, rfl, by rw [zqeq]; exact hl, fun j hj i hi => ?_⟩;have e : (ad.add (k * z)).add (j * z) = ad.add ((k + j) * z) := by rw [Go.Deep.add_add, Nat.add_mul]
  rw [e];exact hc (k + j) (by omega) i hi
theorem zqr2 {w : World} {base g z : Nat} {t : TypeId} {C : Nat -> Array Value} (hz : (C 0).size = z) (h : zqd w g = some (.cells (C 0) t)) (hb : base <= g) : w.ownsRow base t z (.slice (some ⟨g, 0, none⟩) 1 1) 1 (celL C 1) := by
 have e : celL C 1 = (C 0).toList := List.nil_append _;rw [e];exact zrcp h hb (by rw [hz, Nat.one_mul]) (by decide)
theorem zqpf {z : Nat} {w : World} {base n : Nat} {v : Value} {C : Nat -> Array Value} {t : TypeId} (hC : ∀ j, (C j).size = z) (h : w.ownsRow base t z v n (celL C n)) (hn : 0 < n) : ∃ g c, v = .slice (some ⟨g, 0, none⟩) n c /\ n <= c /\ CAt z w (some ⟨g, 0, none⟩) n C /\ base <= g /\ g < w.heap.size := by
 rcases h.2 with ⟨rfl, h0⟩ | ⟨g, cap, cur, rfl, hb, hg, hnc, hcm, hcs, htake⟩
 ·omega
 ·refine ⟨g, _, rfl, hnc, .inr ⟨_, rfl, zqa hg, fun j hj i hi => ?_⟩, hb, zqa hg⟩
  have e1 : ((⟨g, 0, none⟩ : Addr).add (j * z)).add i = ⟨g, j * z + i, none⟩ := by
   rw [Go.Deep.add_add];unfold Addr.add
   split <;> simp_all
  have h1 : (j + 1) * z <= n * z := Nat.mul_le_mul_right _ hj;rw [Nat.succ_mul] at h1;rw [e1, cell_of_row w g (j * z + i) _ _ _ hg, <- zqwg hC j i hi n hj, <- htake, List.getElem?_take, if_pos (by omega), Array.getElem?_toList]
def paF (x : ByteArray) (X : Nat -> ByteArray) : Nat -> Nat -> Int
 | 0 => zqdr zqe x
 | j + 1 => zqdr (paF x X j) (X j)
def keF (r : Nat -> Int) (x : ByteArray) (R : Nat -> Nat -> Int) (X : Nat -> ByteArray) : Nat -> Nat -> Int
 | 0 => zqcr zqe r (paF x X 0)
 | j + 1 => zqcr (keF r x R X j) (R j) (paF x X (j + 1))
def lkN (r : Nat -> Int) (x : ByteArray) (R : Nat -> Nat -> Int) (X : Nat -> ByteArray) (j : Nat) : Array Value := lkC (j : Int) (keF r x R X j) (tagF (keF r x R X j)) (paF x X j)
theorem zqc8 (r : Nat -> Int) (x : ByteArray) (R : Nat -> Nat -> Int) (X : Nat -> ByteArray) : ∀ j, (lkN r x R X j).size = 97 := fun j => zqcy _ _ _ _
theorem zqwm (r : Nat -> Int) (x : ByteArray) (R : Nat -> Nat -> Int) (X : Nat -> ByteArray) : ∀ j, zqai (lkN r x R X j) = true := fun j => zq2r _ _ _ _
@[go_sem] theorem zqwu (r : Nat -> Int) (x : ByteArray) (R : Nat -> Nat -> Int) (X : Nat -> ByteArray) (j : Nat) : (lkN r x R X j).size = 97 := zqcy _ _ _ _
@[go_sem] theorem zron (r : Nat -> Int) (x : ByteArray) (R : Nat -> Nat -> Int) (X : Nat -> ByteArray) (j : Nat) : zqai (lkN r x R X j) = true := zq2r _ _ _ _
@[go_sem] theorem zroo (r : Nat -> Int) (x : ByteArray) (R : Nat -> Nat -> Int) (X : Nat -> ByteArray) (j : Nat) : (lkN r x R X j)[0]? = some (.int .u32 (j : Int)) := zreb _ _ _ _
@[go_sem] theorem zrp9 (r : Nat -> Int) (x : ByteArray) (R : Nat -> Nat -> Int) (X : Nat -> ByteArray) (j : Nat) (h : 0 < (lkN r x R X j).size) : (lkN r x R X j)[0] = .int .u32 (j : Int) := Option.some.inj ((Array.getElem?_eq_getElem h).symm.trans (zroo r x R X j))
theorem zqep (k : Nat -> Int) (w : World) : (Op.equalIn 9999 44 (.agg (ints .u8 32 k)) (.agg (ints .u8 32 k))).run Tryz.prog w = .ok true w := by
 obtain ⟨i, hi, hs⟩ : ∃ i, Tryz.prog.info? 5 = some i /\ i.size = 1 := ⟨(Tryz.prog.info? 5).get zqb, by kernel_rfl, by kernel_rfl⟩
 have hc : Tryz.prog.cellsOf 5 = 1 := by simp [Program.cellsOf, hi, hs]
 have hr := zqdu 32 k;unfold same at hr;rw [show (9999 : Nat) = 9997 + 1 + 1 from rfl, run_equalIn_array w (9997 + 1) _ _ Tryz.underlying44 hi, zqi1 w 9997 5 .u8 32 k k Tryz.underlying5 hc (List.range 32) (by simp)]
 first | rw [hr] | simp
theorem zq3m (s : Int) (k y p : Nat -> Int) (w : World) : (binOp .eql 79 (.agg (lkC s k y p)) (.agg (lkC s k y p))).run Tryz.prog w = .ok (.bool true) w := by
 have h : ∀ c : Int, (c == c) = true := fun c => by simp
 have e1 := zqhv s k y p;have e2 := zqf2 s k y p;have e3 := zqf5 s k y p;have q1 := zqgq k w;have q2 := zqgq y w;have q3 := zqgq p w;have p1 := zqep k w;have p2 := zqep y w;have p3 := zqep p w
 simp [go_sem, h, e1, e2, e3, q1, q2, q3, p1, p2, p3]
@[go_sem ↓ high] theorem zrmd (r : Nat -> Int) (x : ByteArray) (R : Nat -> Nat -> Int) (X : Nat -> ByteArray) (j : Nat) (w : World) : (binOp .eql 79 (.agg (lkN r x R X j)) (.agg (lkN r x R X j))).run Tryz.prog w = .ok (.bool true) w := zq3m _ _ _ _ w
theorem zqog (s : Int) (k y p : Nat -> Int) (w : World) : (binOp .eql 81 (.agg (lkC s k y p)) (.agg (lkC s k y p))).run Tryz.prog w = .ok (.bool true) w := by
 have h : ∀ c : Int, (c == c) = true := fun c => by simp
 have e1 := zqhv s k y p;have e2 := zqf2 s k y p;have e3 := zqf5 s k y p;have q1 := zqgq k w;have q2 := zqgq y w;have q3 := zqgq p w;have p1 := zqep k w;have p2 := zqep y w;have p3 := zqep p w
 simp [go_sem, h, e1, e2, e3, q1, q2, q3, p1, p2, p3]
@[go_sem ↓ high] theorem zrim (r : Nat -> Int) (x : ByteArray) (R : Nat -> Nat -> Int) (X : Nat -> ByteArray) (j : Nat) (w : World) : (binOp .eql 81 (.agg (lkN r x R X j)) (.agg (lkN r x R X j))).run Tryz.prog w = .ok (.bool true) w := zqog _ _ _ _ w
theorem zq4r (s : Int) (k y p : Nat -> Int) (w : World) : (binOp .neq 79 (.agg (lkC s k y p)) (.agg (lkC s k y p))).run Tryz.prog w = .ok (.bool false) w := by
 have h : ∀ c : Int, (c == c) = true := fun c => by simp
 have e1 := zqhv s k y p;have e2 := zqf2 s k y p;have e3 := zqf5 s k y p;have q1 := zqgq k w;have q2 := zqgq y w;have q3 := zqgq p w;have p1 := zqep k w;have p2 := zqep y w;have p3 := zqep p w
 simp [go_sem, h, e1, e2, e3, q1, q2, q3, p1, p2, p3]
@[go_sem ↓ high] theorem zrl3 (r : Nat -> Int) (x : ByteArray) (R : Nat -> Nat -> Int) (X : Nat -> ByteArray) (j : Nat) (w : World) : (binOp .neq 79 (.agg (lkN r x R X j)) (.agg (lkN r x R X j))).run Tryz.prog w = .ok (.bool false) w := zq4r _ _ _ _ w
theorem zqy1 (s : Int) (k y p : Nat -> Int) (w : World) : (binOp .neq 81 (.agg (lkC s k y p)) (.agg (lkC s k y p))).run Tryz.prog w = .ok (.bool false) w := by
 have h : ∀ c : Int, (c == c) = true := fun c => by simp
 have e1 := zqhv s k y p;have e2 := zqf2 s k y p;have e3 := zqf5 s k y p;have q1 := zqgq k w;have q2 := zqgq y w;have q3 := zqgq p w;have p1 := zqep k w;have p2 := zqep y w;have p3 := zqep p w
 simp [go_sem, h, e1, e2, e3, q1, q2, q3, p1, p2, p3]
@[go_sem ↓ high] theorem zrif (r : Nat -> Int) (x : ByteArray) (R : Nat -> Nat -> Int) (X : Nat -> ByteArray) (j : Nat) (w : World) : (binOp .neq 81 (.agg (lkN r x R X j)) (.agg (lkN r x R X j))).run Tryz.prog w = .ok (.bool false) w := zqy1 _ _ _ _ w
theorem CAt.load_link {w : World} {ad : Addr} {n : Nat} {C : Nat -> Array Value} (hC : ∀ j, (C j).size = 97) (h : CAt 97 w (some ad) n C) {j : Nat} (hj : j < n) : (zqp 79 (.pointer (some (ad.add (j * 97))))).run Tryz.prog w = .ok (.value (.agg (C j))) w := by
 rcases h with h | ⟨ad', ho, hl, hc⟩
 ·omega
 ·cases ho
  exact zqck Tryz.underlying79 rfl zqb w _ _ (hC j) (hc j hj)
theorem CAt.load_rlink {w : World} {ad : Addr} {n : Nat} {C : Nat -> Array Value} (hC : ∀ j, (C j).size = 97) (h : CAt 97 w (some ad) n C) {j : Nat} (hj : j < n) : (zqp 81 (.pointer (some (ad.add (j * 97))))).run Tryz.prog w = .ok (.value (.agg (C j))) w := by
 rcases h with h | ⟨ad', ho, hl, hc⟩
 ·omega
 ·cases ho
  exact zqck Tryz.underlying81 rfl zqb w _ _ (hC j) (hc j hj)
theorem CAt.load_cstep {w : World} {ad : Addr} {n : Nat} {C : Nat -> Array Value} (hC : ∀ j, (C j).size = 33) (h : CAt 33 w (some ad) n C) {j : Nat} (hj : j < n) : (zqp 85 (.pointer (some (ad.add (j * 33))))).run Tryz.prog w = .ok (.value (.agg (C j))) w := by
 rcases h with h | ⟨ad', ho, hl, hc⟩
 ·omega
 ·cases ho
  exact zqck Tryz.underlying85 rfl zqb w _ _ (hC j) (hc j hj)
theorem zqub (s : Int) (k y p : Nat -> Int) (W : World) : (Instr.buildSlice 87 1 #[(0, .agg (lkC s k y p))]).run Tryz.prog W = .ok (.slice (some ⟨W.heap.size, 0, none⟩) 1 1) (W.alloc (.cells (lkC s k y p) 79)) := by kernel_rfl
def zqo8 (v : Value) : Sem Next := do pure (.value (<- Instr.buildSlice 87 1 #[(0, v)]))
@[go_sem ↓ high] theorem zq4c (ρ : Operand -> Value) (d : Option Tmp) (x : Operand) (t : TypeId) (pos : String) (af : Array Edge) (g : Option (Nat × Bool)) :
  execOp ρ ⟨d, .buildSlice 87 1 #[(0, x)], t, pos, af, g⟩ = zqo8 (ρ x) := by
 unfold execOp zqo8
 simp
@[go_sem high] theorem zrhk (ρ : Operand -> Value) (d : Option Tmp) (x : Operand) (t : TypeId) (pos : String) (af : Array Edge) (g : Option (Nat × Bool)) :
  execOp ρ ⟨d, .buildSlice 87 1 #[(0, x)], t, pos, af, g⟩ = zqo8 (ρ x) := zq4c ρ d x t pos af g
@[go_sem] theorem zrg0 (r : Nat -> Int) (x : ByteArray) (R : Nat -> Nat -> Int) (X : Nat -> ByteArray) (j : Nat) (W : World) : (zqo8 (.agg (lkN r x R X j))).run Tryz.prog W = .ok (.value (.slice (some ⟨W.heap.size, 0, none⟩) 1 1)) (W.alloc (.cells (lkN r x R X j) 79)) := by
 unfold zqo8 lkN
 simp only [Sem.run_bind, zqub, Result.andThen_ok, Sem.run_pure]
@[go_sem ↓ high] theorem zrbd (ty : TypeId) (cs : Array Bool) (args : Array Value) : builtin .append #[87, 87] ty cs args = zqw #[87, 87] ty args := by unfold zqw; rfl
theorem zqt9 (w W : World) (base : Nat) (v : Value) (n : Nat) (C : Nat -> Array Value) (g2 : Nat) (t2 : TypeId) (fr : Nat × Nat) (hC : ∀ j, (C j).size = 97) (hO : ∀ j, zqai (C j) = true) (own : W.ownsRow base 79 97 v n (celL C n)) (hn : n <= 1048576)
  (hg2 : zqd W g2 = some (.cells (C n) t2 fr)) (hG : Below w.heap.size w W) (hwb : w.heap.size <= base) (hbW : base <= W.heap.size) :
  ∃ g cap w', (zqw #[87, 87] 87 #[v, .slice (some ⟨g2, 0, none⟩) 1 1]).run Tryz.prog W = .ok (.value (.slice (some ⟨g, 0, none⟩) (n + 1) cap)) w' /\ w'.ownsRow base 79 97 (.slice (some ⟨g, 0, none⟩) (n + 1) cap) (n + 1) (celL C (n + 1)) /\
   Below w.heap.size w w' /\ (∀ m o, m < base -> zqd W m = some o -> zqd w' m = some o) := by
 obtain ⟨g, cap, w', hr, ho, hb, hk, _⟩ := zqfb (i := (Tryz.prog.info? 79).get zqb) (z := ((Tryz.prog.info? 79).get zqb).zero.get zqb) 97 100 Tryz.underlying87 zqb zqb zqb zqb zqb (by decide) (by decide) 87 w W base v n (celL C n) ⟨g2, 0, none⟩ 1 1 (C n).toList own (by omega) (by decide) (by rw [Array.length_toList, hC])
  (fun j u hu => by
   rw [Array.getElem?_toList] at hu;have hadd : (⟨g2, 0, none⟩ : Addr).add j = ⟨g2, j, none⟩ := by unfold Addr.add; split <;> simp_all
   rw [hadd, cell_of_row W g2 j _ _ _ hg2];exact hu)
  (fun u hu => by
   have h1 := hO n;unfold zqai at h1;rw [Array.all_eq_true'] at h1;exact h1 u (by simpa using hu)) hG hwb hbW
 exact ⟨g, cap, w', hr, ho, hb, hk⟩
theorem zqsq (s : Int) (k y p : Nat -> Int) (W : World) : (Instr.buildSlice 83 1 #[(0, .agg (lkC s k y p))]).run Tryz.prog W = .ok (.slice (some ⟨W.heap.size, 0, none⟩) 1 1) (W.alloc (.cells (lkC s k y p) 81)) := by kernel_rfl
def zqjz (v : Value) : Sem Next := do pure (.value (<- Instr.buildSlice 83 1 #[(0, v)]))
@[go_sem ↓ high] theorem zqz2 (ρ : Operand -> Value) (d : Option Tmp) (x : Operand) (t : TypeId) (pos : String) (af : Array Edge) (g : Option (Nat × Bool)) :
  execOp ρ ⟨d, .buildSlice 83 1 #[(0, x)], t, pos, af, g⟩ = zqjz (ρ x) := by
 unfold execOp zqjz
 simp
@[go_sem high] theorem zrcx (ρ : Operand -> Value) (d : Option Tmp) (x : Operand) (t : TypeId) (pos : String) (af : Array Edge) (g : Option (Nat × Bool)) :
  execOp ρ ⟨d, .buildSlice 83 1 #[(0, x)], t, pos, af, g⟩ = zqjz (ρ x) := zqz2 ρ d x t pos af g
@[go_sem] theorem zre8 (r : Nat -> Int) (x : ByteArray) (R : Nat -> Nat -> Int) (X : Nat -> ByteArray) (j : Nat) (W : World) : (zqjz (.agg (lkN r x R X j))).run Tryz.prog W = .ok (.value (.slice (some ⟨W.heap.size, 0, none⟩) 1 1)) (W.alloc (.cells (lkN r x R X j) 81)) := by
 unfold zqjz lkN
 simp only [Sem.run_bind, zqsq, Result.andThen_ok, Sem.run_pure]
@[go_sem ↓ high] theorem zq7r (ty : TypeId) (cs : Array Bool) (args : Array Value) : builtin .append #[83, 83] ty cs args = zqw #[83, 83] ty args := by unfold zqw; rfl
theorem zqrb (w W : World) (base : Nat) (v : Value) (n : Nat) (C : Nat -> Array Value) (g2 : Nat) (t2 : TypeId) (fr : Nat × Nat) (hC : ∀ j, (C j).size = 97) (hO : ∀ j, zqai (C j) = true) (own : W.ownsRow base 81 97 v n (celL C n)) (hn : n <= 1048576)
  (hg2 : zqd W g2 = some (.cells (C n) t2 fr)) (hG : Below w.heap.size w W) (hwb : w.heap.size <= base) (hbW : base <= W.heap.size) :
  ∃ g cap w', (zqw #[83, 83] 83 #[v, .slice (some ⟨g2, 0, none⟩) 1 1]).run Tryz.prog W = .ok (.value (.slice (some ⟨g, 0, none⟩) (n + 1) cap)) w' /\ w'.ownsRow base 81 97 (.slice (some ⟨g, 0, none⟩) (n + 1) cap) (n + 1) (celL C (n + 1)) /\
   Below w.heap.size w w' /\ (∀ m o, m < base -> zqd W m = some o -> zqd w' m = some o) := by
 obtain ⟨g, cap, w', hr, ho, hb, hk, _⟩ := zqfb (i := (Tryz.prog.info? 81).get zqb) (z := ((Tryz.prog.info? 81).get zqb).zero.get zqb) 97 100 Tryz.underlying83 zqb zqb zqb zqb zqb (by decide) (by decide) 83 w W base v n (celL C n) ⟨g2, 0, none⟩ 1 1 (C n).toList own (by omega) (by decide) (by rw [Array.length_toList, hC])
  (fun j u hu => by
   rw [Array.getElem?_toList] at hu;have hadd : (⟨g2, 0, none⟩ : Addr).add j = ⟨g2, j, none⟩ := by unfold Addr.add; split <;> simp_all
   rw [hadd, cell_of_row W g2 j _ _ _ hg2];exact hu)
  (fun u hu => by
   have h1 := hO n;unfold zqai at h1;rw [Array.all_eq_true'] at h1;exact h1 u (by simpa using hu)) hG hwb hbW
 exact ⟨g, cap, w', hr, ho, hb, hk⟩
attribute [irreducible] zqo8 zqjz
theorem zqwk (j : Nat) (h : j < 4294967295) : IntKind.u32.wrap ((j : Int) + 1) = ((j + 1 : Nat) : Int) := by rw [IntKind.wrap_u32]; omega
theorem zqvt (r : Nat -> Int) (x : ByteArray) (R : Nat -> Nat -> Int) (X : Nat -> ByteArray) (w : World) (hx : x.size <= 100000) (hT : Tabs w) :
  Calls Tryz.prog 76 #[.agg (ints .u8 32 r), .string x] w (Rt w (.agg (lkN r x R X 0))) := zqxc r x w hx hT
theorem zq29 (r : Nat -> Int) (x : ByteArray) (R : Nat -> Nat -> Int) (X : Nat -> ByteArray) (w : World) (hx : x.size <= 100000) :
  Calls Tryz.prog 31 #[.agg (ints .u8 32 r), .string x] w (Rt w (.agg (lkN r x R X 0))) := zqrz 0 zqe zqe zqe r x w hx
theorem zq2n (r : Nat -> Int) (x : ByteArray) (R : Nat -> Nat -> Int) (X : Nat -> ByteArray) (j : Nat) (w : World) (hx : (X j).size <= 100000) (hj : j < 100000) (hT : Tabs w) :
  Calls Tryz.prog 38 #[.agg (lkN r x R X j), .agg (ints .u8 32 (R j)), .string (X j)] w (Rt w (.agg (lkN r x R X (j + 1)))) := by
 have h := zqsi (j : Int) (keF r x R X j) (tagF (keF r x R X j)) (paF x X j) (R j) (X j) w hx hT;rw [zqwk j (by omega)] at h;exact h
theorem zq7j (r : Nat -> Int) (x : ByteArray) (R : Nat -> Nat -> Int) (X : Nat -> ByteArray) (j : Nat) (w : World) (hx : (X j).size <= 100000) (hj : j < 100000) :
  Calls Tryz.prog 32 #[.agg (lkN r x R X j), .agg (ints .u8 32 (R j)), .string (X j)] w (Rt w (.agg (lkN r x R X (j + 1)))) := by
 have h := zqnu (j : Int) (keF r x R X j) (tagF (keF r x R X j)) (paF x X j) (R j) (X j) w hx;rw [zqwk j (by omega)] at h;exact h
theorem zrol (r : Nat -> Int) (x : ByteArray) (R : Nat -> Nat -> Int) (X : Nat -> ByteArray) (j : Nat) (w : World) :
  Calls Tryz.prog 34 #[.agg (lkN r x R X j)] w (Rt w (.agg (lkN r x R X j))) := zqpu _ _ _ _ w
attribute [irreducible] lkN
end Go.Proofs.YtnjghcnhcbobhaaGreatDoor
namespace Go.Proofs.YtnjghcnhcbobhaaGreatDoor
open Go.RowKit Go.Lib
theorem zqqc (r : Nat -> Int) (x : ByteArray) (oa : Option Addr) (n c : Nat) (R : Nat -> Nat -> Int) (X : Nat -> ByteArray) (w : World) (hx : x.size <= 100000) (hn : n <= 1000) (hX : ∀ j, j < n -> (X j).size <= 100000) (hS : CAt 33 w oa n (fun j => spC (R j) (X j))) (hT : Tabs w) :
  Calls Tryz.prog 33 #[.agg (ints .u8 32 r), .string x, .slice oa n c] w fun e w' => ∃ ad c2, e = .returned (.slice (some ad) (n + 1) c2) /\ n + 1 <= c2 /\ CAt 97 w' (some ad) (n + 1) (lkN r x R X) /\ Below w.heap.size w w' := by
 have HS : Hid (CAt 33 w oa n (fun j => spC (R j) (X j))) := hS;have cN := fun (j : Nat) (hj : j < n) (W : World) (hb : Below w.heap.size w W) => zq2n r x R X j W (hX j hj) (by omega) (hT.later hb);have cF := fun (W : World) (hb : Below w.heap.size w W) => zqvt r x R X W hx (hT.later hb);clear hS hX hT
 go_enter Tryz.func33, Tryz.ntmps33
 go_wp2_with fail;have hG : Below w.heap.size w (w.alloc (.cells (ints .u8 32 r) 44)) := Grew.alloc (Grew.refl _) _;refine (cF _ hG).mono ?_
 rintro e w2 ⟨rfl, hb⟩;replace hG := Grew.trans hG hb;clear hb cF;go_wp2_with fail;have fl : zqd ((w2.alloc (.cells (lkN r x R X 0) 79)).alloc (.cells (lkN r x R X 0) 79)) w2.heap.size = some (.cells (lkN r x R X 0) 79) := zqi _ (zqg _ _ _ rfl);have fo : zqd ((w2.alloc (.cells (lkN r x R X 0) 79)).alloc (.cells (lkN r x R X 0) 79)) (w2.heap.size + 1) = some (.cells (lkN r x R X 0) 79) := zqg _ _ _ (by simp);have hlt0 : w.heap.size <= w2.heap.size := hG.size;have OWN : Hid (((w2.alloc (.cells (lkN r x R X 0) 79)).alloc (.cells (lkN r x R X 0) 79)).ownsRow (w2.heap.size + 1) 79 97 (.slice (some ⟨w2.heap.size + 1, 0, none⟩) 1 1) 1 (celL (lkN r x R X) 1)) := zqr2 (C := lkN r x R X) (zqwu _ _ _ _ _) fo (Nat.le_refl _);replace hG := Grew.alloc (Grew.alloc hG (.cells (lkN r x R X 0) 79)) (.cells (lkN r x R X 0) 79);clear fo
 generalize (w2.alloc (.cells (lkN r x R X 0) 79)).alloc (.cells (lkN r x R X 0) 79) = w3 at *;generalize w2.heap.size = gl at *;have lfl := zqa fl
 go_loopw [18, 8, 10] (fun i v _ wr => ∃ (k : Nat) (v0 : Value), v0 = v /\ k <= n /\ i = .int .i64 k /\ zqd wr gl = some (.cells (lkN r x R X k) 79) /\ Below w.heap.size w wr /\ Hid (wr.ownsRow (gl + 1) 79 97 v0 (k + 1) (celL (lkN r x R X) (k + 1)))) (fun i _ _ _ => n - (intOf i).toNat)
 case atStart => exact ⟨0, _, rfl, by omega, rfl, fl, hG, OWN⟩
 case round =>
  clear hG fl lfl OWN;obtain ⟨k, v0, rfl, hk, rfl, fl, hG, OWN⟩ := hrel;have lfl := zqa fl
  by_cases hlt : k < n
  ·have hi1 : (k : Int) < (n : Int) := by omega
   have hi0 : (0 : Int) <= (k : Int) := by omega
   obtain ⟨ad, rfl, -⟩ := HS.out.blk (by omega);have hl : (zqp 85 (.pointer (some (ad.add (k * 33))))).run Tryz.prog wr = .ok (.value (.agg (spC (R k) (X k)))) wr := (HS.out.later hG).load_cstep (fun j => zqjq _ _) hlt;have cN1 := cN k hlt;have hGa := Grew.alloc hG (.cells (spC (R k) (X k)) 85);have fl1 := zqi (.cells (spC (R k) (X k)) 85) fl;have OWN1 := World.ownsRow.alloc OWN.out (.cells (spC (R k) (X k)) 85);go_wp2_with fail;refine (cN1 _ hGa).mono ?_
   rintro e w4 ⟨rfl, hb⟩;have fl2 := zqc hb fl1;have lfl2 := zqa fl2;have OWN2 := zqh2 (zqc2 OWN1 hb) (Nat.lt_succ_self gl) (cs := lkN r x R X (k + 1));have OWN3 := World.ownsRow.alloc OWN2 (.cells (lkN r x R X (k + 1)) 79);have hG4 := Grew.alloc (Grew.setRow (Grew.trans hGa hb) gl (lkN r x R X (k + 1)) hlt0) (.cells (lkN r x R X (k + 1)) 79);have fl3 := zqi (.cells (lkN r x R X (k + 1)) 79) (zqr (lkN r x R X (k + 1)) fl2);have hs4 : gl + 1 <= (w4.setRow gl (lkN r x R X (k + 1))).heap.size := by rw [zq5]; omega
   obtain ⟨g3, c3, w7, hr3, own7, hb7, hk7⟩ := zqt9 w ((w4.setRow gl (lkN r x R X (k + 1))).alloc (.cells (lkN r x R X (k + 1)) 79)) (gl + 1) _ (k + 1) (lkN r x R X) w4.heap.size _ _ (zqc8 r x R X) (zqwm r x R X) OWN3 (by omega) (zqg _ _ _ (by rw [zq5])) hG4 (by omega) (Nat.le_trans hs4 (by simp));have fl7 := hk7 gl _ (Nat.lt_succ_self gl) fl3;have OWN7 := hid1 own7;clear own7 hk7 OWN3 OWN2 OWN1 OWN hl hGa fl1 fl cN1 hG4 fl3 hs4 hb;go_wp2
   go_roundw
   case rel => first | exact ⟨k + 1, _, rfl, by omega, by go_num, fl7, hb7, OWN7⟩ | ((repeat' apply Exists.intro) <;> first | exact ⟨⟨k + 1, _, rfl, by omega, by go_num, fl7, hb7, OWN7⟩, rfl⟩ | exact undef)
   case measure => (simp [intOf]; omega)
  ·obtain rfl : k = n := by omega
   have hi1 : ¬ ((k : Int) < (k : Int)) := by omega
   obtain ⟨g, c2, rfl, hc2, hC, hgb, -⟩ := zqpf (zqc8 r x R X) OWN.out (Nat.succ_pos k);have HC := hid1 hC;clear OWN hC;go_wp2;go_ret
   first | exact ⟨_, _, rfl, hc2, HC.out, hG⟩ | exact ⟨_, ⟨_, rfl⟩, hc2, HC.out, hG⟩
end Go.Proofs.YtnjghcnhcbobhaaGreatDoor
namespace Go.Proofs.YtnjghcnhcbobhaaGreatDoor
open Go.RowKit Go.Lib
theorem CAt.load0_link {w : World} {ad : Addr} {n : Nat} {C : Nat -> Array Value} (hC : ∀ j, (C j).size = 97) (h : CAt 97 w (some ad) n C) (hj : 0 < n) : (zqp 79 (.pointer (some ad))).run Tryz.prog w = .ok (.value (.agg (C 0))) w := by
 have h1 := h.load_link hC hj;rw [Nat.zero_mul] at h1;have e : ad.add 0 = ad := by unfold Addr.add; split <;> simp_all
 rwa [e] at h1
theorem zqy0 (ad bd : Addr) (n c d : Nat) (r : Nat -> Int) (x : ByteArray) (R : Nat -> Nat -> Int) (X : Nat -> ByteArray) (w : World) (hn : n <= 100000) (hA : CAt 97 w (some ad) n (lkN r x R X)) (hB : CAt 97 w (some bd) n (lkN r x R X)) :
  Calls Tryz.prog 39 #[.slice (some ad) n c, .slice (some bd) n d] w (Rt w (.bool true)) := by
 have HA : Hid (CAt 97 w (some ad) n (lkN r x R X)) := hA;have HB : Hid (CAt 97 w (some bd) n (lkN r x R X)) := hB;clear hA hB
 go_enter Tryz.func39, Tryz.ntmps39
 go_wp2_with fail
 go_loopw [13, 5] (fun i _ wr => ∃ k : Nat, k <= n /\ i = .int .i64 k /\ Below w.heap.size w wr) (fun i _ _ => n - (intOf i).toNat)
 case atStart => exact ⟨0, by omega, rfl, Grew.refl _⟩
 case round =>
  obtain ⟨k, hk, rfl, hM⟩ := hrel
  by_cases hlt : k < n
  ·have l1 := fun q : More => (HA.out.later (Grew.more hM q)).load_link (zqc8 r x R X) hlt
   have l2 := fun q : More => (HB.out.later (Grew.more hM q)).load_link (zqc8 r x R X) hlt;have hi1 : (k : Int) < (n : Int) := by omega
   have hi0 : (0 : Int) <= (k : Int) := by omega
   go_wp2_with fail
   ((first | (with_reducible refine zq8 zqb zqb ?_) | refine zqz zqb zqb ?_); (repeat (first | go_big_quiet_skip | (go_big_quiet_want; go_big_quiet_op; go_big_quiet_on))); refine wpQuiet_nil ?_; rintro _ ⟨mq, rfl⟩)
   have hM2 := Grew.trans hM (zqo wr mq);clear l1 l2;generalize more wr mq = w2 at *;go_wp2
   go_roundw
   case rel => first | exact ⟨k + 1, by omega, by go_num, hM2⟩ | ((repeat' apply Exists.intro) <;> first | exact ⟨⟨k + 1, by omega, by go_num, hM2⟩, rfl⟩ | exact undef)
   case measure => (simp [intOf] <;> omega)
  ·obtain rfl : k = n := by omega
   go_wp2;go_ret;exact ⟨rfl, hM⟩
def sgF (r : Nat -> Int) (x : ByteArray) (R : Nat -> Nat -> Int) (X : Nat -> ByteArray) (j : Nat) (b : ByteArray) : Nat -> Int := macF (strOf 32 (tagF (keF r x R X j))) b
theorem zrca (r : Nat -> Int) (x : ByteArray) (R : Nat -> Nat -> Int) (X : Nat -> ByteArray) (j : Nat) (b : ByteArray) (w : World) (hb : b.size <= 100000) (hT : Tabs w) :
  Calls Tryz.prog 36 #[.agg (lkN r x R X j), .string b] w (Rt w (.agg (ints .u8 32 (sgF r x R X j b)))) := by
 unfold lkN sgF;exact zqq1 _ _ _ _ _ _ hb hT
theorem zq4j (r : Nat -> Int) (x : ByteArray) (R : Nat -> Nat -> Int) (X : Nat -> ByteArray) (j : Nat) (b : ByteArray) (w : World) (hb : b.size <= 100000) (hT : Tabs w) :
  Calls Tryz.prog 37 #[.agg (lkN r x R X j), .string b, .agg (ints .u8 32 (sgF r x R X j b))] w (Rt w (.bool true)) := by
 have h := zqil (j : Int) (keF r x R X j) (tagF (keF r x R X j)) (paF x X j) (sgF r x R X j b) b w hb (zqg6 _ _) hT;have e : same 32 (sgF r x R X j b) (macF (strOf 32 (tagF (keF r x R X j))) b) = true := zqdu 32 _;rw [e] at h;unfold lkN;exact h
attribute [irreducible] sgF
theorem zqnc (aw : ∀ (w : World), Tabs w -> EtAt w -> Calls Tryz.prog 106 #[] w (Rt w (.bool true))) (w : World) (hT : Tabs w) (hE : EtAt w) :
  Calls Tryz.prog 75 #[] w (Rt w (.bool true)) := by
 go_enter Tryz.func75, Tryz.ntmps75
 go_wp2_with fail;refine (aw _ hT hE).mono ?_
 rintro e w2 ⟨rfl, hb⟩;go_wp2;go_ret;exact ⟨rfl, hb⟩
theorem zqnr (aw : ∀ (w : World), Tabs w -> EtAt w -> Calls Tryz.prog 75 #[] w (Rt w (.bool true))) (w : World) (hT : Tabs w) (hE : EtAt w) :
  Calls Tryz.prog 30 #[] w (Rt w (.bool true)) := by
 have HE : Hid (EtAt w) := hE;have HT : Hid (Tabs w) := hT;have cA : Calls Tryz.prog 33 #[.agg (ints .u8 32 (upd zqe 0 1)), .string ⟨#[120]⟩, .slice none 0 0] w fun e w' => ∃ ad c2, e = .returned (.slice (some ad) 1 c2) /\ 1 <= c2 /\ CAt 97 w' (some ad) 1 (lkN (upd zqe 0 1) ⟨#[120]⟩ (fun _ _ => 0) (fun _ => ⟨#[]⟩)) /\ Below w.heap.size w w' := zqqc (upd zqe 0 1) ⟨#[120]⟩ none 0 0 (fun _ _ => 0) (fun _ => ⟨#[]⟩) w (by decide) (by decide) (fun j hj => by omega) (.inl rfl) hT;have cF := fun (W : World) (hb : Below w.heap.size w W) => zqvt (upd zqe 0 1) ⟨#[120]⟩ (fun _ _ => 0) (fun _ => ⟨#[]⟩) W (by decide) (HT.out.later hb);have cS := fun (W : World) (hb : Below w.heap.size w W) => zrca (upd zqe 0 1) ⟨#[120]⟩ (fun _ _ => 0) (fun _ => ⟨#[]⟩) 0 ⟨#[121]⟩ W (by decide) (HT.out.later hb)
 have cV := fun (W : World) (hb : Below w.heap.size w W) => zq4j (upd zqe 0 1) ⟨#[120]⟩ (fun _ _ => 0) (fun _ => ⟨#[]⟩) 0 ⟨#[121]⟩ W (by decide) (HT.out.later hb);have cW := fun (W : World) (hb : Below w.heap.size w W) => aw W (HT.out.later hb) (HE.out.later hb);have hZ := fun (W : World) (ad : Addr) (h : CAt 97 W (some ad) 1 (lkN (upd zqe 0 1) ⟨#[120]⟩ (fun _ _ => 0) (fun _ => ⟨#[]⟩))) => h.load0_link (zqc8 (upd zqe 0 1) ⟨#[120]⟩ (fun _ _ => 0) (fun _ => ⟨#[]⟩)) (by decide);generalize sgF (upd zqe 0 1) ⟨#[120]⟩ (fun _ _ => 0) (fun _ => ⟨#[]⟩) 0 ⟨#[121]⟩ = M at *;generalize (fun _ _ => 0 : Nat -> Nat -> Int) = R at *;generalize (fun _ => ⟨#[]⟩ : Nat -> ByteArray) = X at *;clear hT hE aw
 go_enter Tryz.func30, Tryz.ntmps30
 go_wp2_with fail;refine cA.mono ?_
 rintro e w1 ⟨ad, c2, rfl, hc2, hC, hG⟩;have hl := fun q : More => hZ (more w1 q) ad (hC.later (zqo w1 q));clear hC hZ cA;go_wp2_with fail
 ((first | (with_reducible refine zq8 zqb zqb ?_) | refine zqz zqb zqb ?_); (repeat (first | go_big_quiet_skip | (go_big_quiet_want; go_big_quiet_op; first | go_big_quiet_on | (apply Exists.intro; refine ⟨fun _ => ?_, ?_⟩; (focus (first | (with_reducible exact Calls.of_more (cW _ (Grew.more hG _))) | (with_reducible exact Calls.of_more (cF _ (Grew.more hG _))) | (with_reducible exact Calls.of_more (cS _ (Grew.more hG _))) | (with_reducible exact Calls.of_more (cV _ (Grew.more hG _))))); go_big_quiet_on)))); refine wpQuiet_nil ?_; rintro _ ⟨mq, rfl⟩)
 have hG2 := Grew.more hG mq;go_wp2;go_ret;exact ⟨rfl, hG2⟩
end Go.Proofs.YtnjghcnhcbobhaaGreatDoor
namespace Go.Proofs.YtnjghcnhcbobhaaGreatDoor
open Go.ChangeShapes Go.WideShapes Go.ChangeAt Go.RowKit
theorem zri9 (s : Int) (k y p : Nat -> Int) (q : Nat) (h : q < 32) : (lkC s k y p)[1 + q]? = some (.int .u8 (k q)) := by
 unfold lkC;rw [Array.append_assoc, Array.append_assoc, Array.getElem?_append_right (by simp), show 1 + q - (#[Value.int .u32 s] : Array Value).size = q by simp, Array.getElem?_append_left (by rw [zqj]; exact h), zqal _ _ _ _ h]
theorem zrkm (s : Int) (k y p : Nat -> Int) (q : Nat) (h : q < 32) : (lkC s k y p)[65 + q]? = some (.int .u8 (p q)) := by
 unfold lkC;have h2 : ((#[Value.int .u32 s] : Array Value) ++ ints .u8 32 k ++ ints .u8 32 y).size = 65 := by simp [zqj]
 rw [Array.getElem?_append_right (by omega), h2, show 65 + q - 65 = q by omega, zqal _ _ _ _ h]
theorem zrjo (r : Nat -> Int) (x : ByteArray) (q : Nat) (h : q < 32) : (spC r x)[q]? = some (.int .u8 (r q)) := by
 unfold spC;rw [Array.getElem?_append_left (by rw [zqj]; exact h), zqal _ _ _ _ h]
theorem zqu5 {H : Type} {enc : TypeId × Value -> H} {P : Program} {W : World} {base : Nat} {sp : Nat -> Bool} {held : Bool} {t e : TypeId} {v : Value} {d : DataW H} {ps : List MemPlace}
  (ht : P.underlying t = some (.slice e)) (hsl : ∃ o l c, v = .slice o l c) (hd : DataW.Trod enc P W base sp held t v d ps) :
  ∃ (oa : Option Addr) (len cap : Nat), v = .slice oa len cap /\ (len <= cap /\ cap <= maxLen) /\ (len = 0 \/ ∃ a : Addr, oa = some a /\ ∀ i, i < len -> ∃ cs m y, cs.length = P.cellsOf e /\ (∀ j, j < P.cellsOf e -> W.cell? (a.add (i * P.cellsOf e + j)) = cs[j]?) /\ DataW.trod enc P W base sp held m e cs = some y) := by
 obtain ⟨o, l, c, rfl⟩ := hsl;obtain ⟨fuel, hf⟩ := hd
 rcases Go.Deep.open_slice ht hf with ⟨h0, _⟩ | ⟨a, len, cap, m, n', D, Pl, hcs, hb, hl, hm, hmm, hx, hi⟩
 ·have e0 : (Value.slice o l c).cells.toList = [.slice o l c] := rfl
  rw [e0] at h0
  cases h0
  exact ⟨none, 0, 0, rfl, ⟨Nat.le_refl _, Nat.zero_le _⟩, .inl rfl⟩
 ·have e0 : (Value.slice o l c).cells.toList = [.slice o l c] := rfl
  rw [e0] at hcs
  cases hcs
  have hlm : l <= m := by subst hmm; split <;> omega
  refine ⟨some a, l, c, rfl, ⟨hl, hm⟩, .inr ⟨a, rfl, fun i hil => ?_⟩⟩;obtain ⟨cs', h1, h2⟩ := hi i (by omega);obtain ⟨_, hcl, hat⟩ := World.cells?_some h1
  refine ⟨cs', _, _, hcl, fun j hj => ?_, h2⟩;rw [<- Go.Deep.add_add, hat j hj]
theorem zq8x {H : Type} {enc : TypeId × Value -> H} {W : World} {base : Nat} {sp : Nat -> Bool} {held : Bool} {fuel : Nat} {cs : List Value} {x : DataW H × List MemPlace}
  (hl : cs.length = 33) (h : DataW.trod enc Tryz.prog W base sp held fuel 85 cs = some x) : ∃ (r : Nat -> Int) (s : ByteArray), Bytes 32 r /\ ∀ j, j < 33 -> cs[j]? = (spC r s)[j]? := by
 obtain ⟨y0, y1, n, _, _, e0, e1⟩ := trod_struct2 Tryz.underlying85 h;have c0 : Tryz.prog.cellsOf 44 = 32 := by kernel_rfl
 have c1 : Tryz.prog.cellsOf 9 = 1 := by kernel_rfl
 have E0 : DataW.trod enc Tryz.prog W base sp held n 44 ((cs.drop 0).take (Tryz.prog.cellsOf 44)) = some y0 := e0;have E1 : DataW.trod enc Tryz.prog W base sp held n 9 ((cs.drop 32).take (Tryz.prog.cellsOf 9)) = some y1 := e1;rw [c0] at E0;rw [c1, one_of _ 32 (by omega)] at E1;obtain ⟨r, hr⟩ := zqd8 (n := 32) (k := .u8) Tryz.underlying44 Tryz.underlying5 zqb (by simp [hl]) E0;obtain ⟨s, hs, -, _⟩ := DataW.trod_string Tryz.underlying9 E1;refine ⟨r, s, fun j hj => bounds_u8 (hr j hj).2, fun j hj => ?_⟩
 by_cases hq : j < 32
 ·rw [zrjo _ _ _ hq]
  have h2 := (hr j hq).1;rw [List.getElem?_take, if_pos hq, List.getElem?_drop, Nat.zero_add] at h2;exact h2
 ·obtain rfl : j = 32 := by omega
  rw [zq4t, List.getElem?_eq_getElem (by omega)];exact congrArg some (List.cons.inj hs).1
theorem zqof {H : Type} {enc : TypeId × Value -> H} {W : World} {base : Nat} {sp : Nat -> Bool} {held : Bool} {r : Reach} {b0 : Nat} {v : Value} {d : DataW H} {ps : List MemPlace}
  (hval : Value.okWide Tryz.prog W r b0 77 v) (hd : DataW.Trod enc Tryz.prog W base sp held 77 v d ps) :
  ∃ (oa : Option Addr) (n c : Nat) (R : Nat -> Nat -> Int) (X : Nat -> ByteArray), v = .slice oa n c /\ (n <= c /\ c <= maxLen) /\ (∀ j, j < n -> Bytes 32 (R j)) /\ CAt 33 W oa n (fun j => spC (R j) (X j)) := by
 obtain ⟨oa0, n0, c0, rfl⟩ := zqmx Tryz.underlying77 hval;obtain ⟨oa, m, c, hv, hm, hF⟩ := zqu5 Tryz.underlying77 ⟨_, _, _, rfl⟩ hd;have c3 : Tryz.prog.cellsOf 85 = 33 := by kernel_rfl
 rw [c3] at hF;have key : m = 0 \/ ∃ a : Addr, oa = some a /\ ∀ i, i < m -> ∃ (z : Nat -> Int) (y : ByteArray), Bytes 32 z /\ ∀ j, j < 33 -> W.cell? (a.add (i * 33 + j)) = (spC z y)[j]? := by
  rcases hF with h | ⟨a, ho, hc⟩
  ·exact .inl h
  ·refine .inr ⟨a, ho, fun i hi => ?_⟩
   obtain ⟨cs', m', y, hl, hat, hy⟩ := hc i hi;obtain ⟨z, k, hz, hcs⟩ := zq8x hl hy;exact ⟨z, k, hz, fun j hj => (hat j hj).trans (hcs j hj)⟩
 rcases key with rfl | ⟨a, rfl, hc⟩
 ·exact ⟨oa, 0, c, fun _ _ => 0, fun _ => ByteArray.empty, hv, hm, fun j hj => by omega, .inl rfl⟩
 ·refine ⟨some a, m, c, fun i => if h : i < m then Classical.choose (hc i h) else fun _ => 0, fun i => if h : i < m then Classical.choose (Classical.choose_spec (hc i h)) else ByteArray.empty, hv, hm, fun j hj => ?_, ?_⟩
  ·simp only [hj, dif_pos]
   exact (Classical.choose_spec (Classical.choose_spec (hc j hj))).1
  ·rcases Nat.eq_zero_or_pos m with rfl | hp
   ·exact .inl rfl
   refine .inr ⟨a, rfl, ?_, fun j hj i hi => ?_⟩
   ·have h0 := (Classical.choose_spec (Classical.choose_spec (hc 0 hp))).2 32 (by decide)
    rw [zq4t] at h0;have h1 := cell_lt h0;rwa [zqeq] at h1
   ·simp only [hj, dif_pos]
    rw [Go.Deep.add_add];exact (Classical.choose_spec (Classical.choose_spec (hc j hj))).2 i hi
theorem zq2b {H : Type} {enc : TypeId × Value -> H} {W : World} {base : Nat} {sp : Nat -> Bool} {held : Bool} {r : Reach} {b0 : Nat} {v : Value} {d : DataW H} {ps : List MemPlace}
  (hval : Value.okWide Tryz.prog W r b0 79 v) (hd : DataW.Trod enc Tryz.prog W base sp held 79 v d ps) :
  ∃ (s : Int) (k y p : Nat -> Int), v = .agg (lkC s k y p) /\ (0 <= s /\ s < 4294967296) /\ Bytes 32 k /\ Bytes 32 y /\ Bytes 32 p := by
 unfold Value.okWide at hval;rw [Tryz.underlying79] at hval;obtain ⟨cs, rfl, hsz, _⟩ := hval;rw [show Tryz.prog.cellsOf 79 = 97 by kernel_rfl] at hsz;obtain ⟨fuel, hf⟩ := hd;have hlen : cs.toList.length = 97 := by simpa using hsz
 have hc0 : (Value.agg cs).cells.toList = cs.toList := rfl;rw [hc0] at hf;obtain ⟨xs, n', _, _, _, hxl, hel⟩ := DataW.trod_struct Tryz.underlying79 hf;obtain ⟨y0, y1, y2, y3, rfl⟩ : ∃ y0 y1 y2 y3, xs = [y0, y1, y2, y3] := by
  match xs, hxl with
  | [y0, y1, y2, y3], _ => exact ⟨y0, y1, y2, y3, rfl⟩
 have c0 : Tryz.prog.cellsOf 22 = 1 := by kernel_rfl
 have c3 : Tryz.prog.cellsOf 44 = 32 := by kernel_rfl
 have F0 : DataW.trod enc Tryz.prog W base sp held n' 22 ((cs.toList.drop 0).take (Tryz.prog.cellsOf 22)) = some y0 := hel 0 _ rfl;have F1 : DataW.trod enc Tryz.prog W base sp held n' 44 ((cs.toList.drop 1).take (Tryz.prog.cellsOf 44)) = some y1 := hel 1 _ rfl;have F2 : DataW.trod enc Tryz.prog W base sp held n' 44 ((cs.toList.drop 33).take (Tryz.prog.cellsOf 44)) = some y2 := hel 2 _ rfl;have F3 : DataW.trod enc Tryz.prog W base sp held n' 44 ((cs.toList.drop 65).take (Tryz.prog.cellsOf 44)) = some y3 := hel 3 _ rfl;rw [c0, one_of _ 0 (by omega)] at F0;rw [c3] at F1 F2 F3;obtain ⟨s, es, -, ws⟩ := DataW.trod_int Tryz.underlying22 F0;obtain ⟨k, hk⟩ := zqd8 (n := 32) (k := .u8) Tryz.underlying44 Tryz.underlying5 zqb (by simp [hsz]) F1;obtain ⟨y, hy⟩ := zqd8 (n := 32) (k := .u8) Tryz.underlying44 Tryz.underlying5 zqb (by simp [hsz]) F2
 obtain ⟨p, hp⟩ := zqd8 (n := 32) (k := .u8) Tryz.underlying44 Tryz.underlying5 zqb (by simp [hsz]) F3;have e0 : cs[0]? = some (.int .u32 s) := by rw [<- Array.getElem?_toList, List.getElem?_eq_getElem (by omega)]; exact congrArg some (List.cons.inj es).1
 refine ⟨s, k, y, p, ?_, zris ws, fun i hi => bounds_u8 (hk i hi).2, fun i hi => bounds_u8 (hy i hi).2, fun i hi => bounds_u8 (hp i hi).2⟩
 congr 1
 apply Array.ext_getElem?
 intro i
 rcases (by omega : i = 0 \/ (1 <= i /\ i < 33) \/ (33 <= i /\ i < 65) \/ 65 <= i) with rfl | ⟨h1, h2⟩ | ⟨h1, h2⟩ | h3
 ·rw [e0, zreb]
 ·obtain ⟨q, rfl⟩ : ∃ q, i = 1 + q := ⟨i - 1, by omega⟩
  have hq : q < 32 := by omega
  rw [zri9 _ _ _ _ _ hq];have h2 := (hk q hq).1;rw [List.getElem?_take, if_pos hq, List.getElem?_drop] at h2;rw [<- Array.getElem?_toList];exact h2
 ·obtain ⟨q, rfl⟩ : ∃ q, i = 33 + q := ⟨i - 33, by omega⟩
  have hq : q < 32 := by omega
  rw [zrbo _ _ _ _ _ hq];have h2 := (hy q hq).1;rw [List.getElem?_take, if_pos hq, List.getElem?_drop] at h2;rw [<- Array.getElem?_toList];exact h2
 ·obtain ⟨q, rfl⟩ : ∃ q, i = 65 + q := ⟨i - 65, by omega⟩
  by_cases hq : q < 32
  ·rw [zrkm _ _ _ _ _ hq]
   have h2 := (hp q hq).1;rw [List.getElem?_take, if_pos hq, List.getElem?_drop] at h2;rw [<- Array.getElem?_toList];exact h2
  ·rw [Array.getElem?_eq_none (by omega), Array.getElem?_eq_none (by rw [zqcy]; omega)]
end Go.Proofs.YtnjghcnhcbobhaaGreatDoor
