/- Sm -/
import Derived.Test.YtconieddcjpbjaaGreatDoorMem
import Derived.Test.YtconieddcjpbjaaGreatDoorCt
set_option linter.unusedVariables false
set_option linter.unusedSimpArgs false
namespace Go.Proofs.YtconieddcjpbjaaGreatDoor
open Go.RowKit
@[go_sem ↓ high] theorem zrlm (ρ : Operand -> Value) (d : Option Tmp) (x : Operand) (t : TypeId) (pos : String) (af : Array Edge) (g : Option (Nat × Bool)) :
  execOp ρ ⟨d, .load 192 x, t, pos, af, g⟩ = zq6 192 (ρ x) := zqb0 _ ρ d x t pos af g
@[go_sem high] theorem zrje (ρ : Operand -> Value) (d : Option Tmp) (x : Operand) (t : TypeId) (pos : String) (af : Array Edge) (g : Option (Nat × Bool)) :
  execOp ρ ⟨d, .load 192 x, t, pos, af, g⟩ = zq6 192 (ρ x) := zqb0 _ ρ d x t pos af g
@[go_sem] theorem zre9 (g : Nat) (w : World) : (zq6 192 (.pointer (some ⟨g, 0, none⟩))).run Tryz.prog w = (zqbv Tryz.prog 192 g 8 w (zqd w g)).andThen fun v w' => .ok (.value v) w' := by
 rw [zqa2, zqb9 Tryz.underlying192 rfl zqc g w]
@[go_sem] theorem zre4 (g : Nat) (w : World) (cs : Array Value) (t' : TypeId) (fr : Nat × Nat) (h : cs.size = 8) : zqbv Tryz.prog 192 g 8 w (some (.cells cs t' fr)) = .ok (.agg cs) w := zqbo cs t' fr h
@[go_sem ↓ high] theorem zrjt (ρ : Operand -> Value) (d : Option Tmp) (x y : Operand) (t : TypeId) (pos : String) (af : Array Edge) (g : Option (Nat × Bool)) :
  execOp ρ ⟨d, .store 192 x y, t, pos, af, g⟩ = zq7 192 (ρ x) (ρ y) := zqbj _ ρ d x y t pos af g
@[go_sem high] theorem zrhb (ρ : Operand -> Value) (d : Option Tmp) (x y : Operand) (t : TypeId) (pos : String) (af : Array Edge) (g : Option (Nat × Bool)) :
  execOp ρ ⟨d, .store 192 x y, t, pos, af, g⟩ = zq7 192 (ρ x) (ρ y) := zqbj _ ρ d x y t pos af g
@[go_sem] theorem zrcu (g : Nat) (cs : Array Value) (w : World) : (zq7 192 (.pointer (some ⟨g, 0, none⟩)) (.agg cs)).run Tryz.prog w = (zqbb Tryz.prog 192 g 8 (.agg cs) w (zqd w g)).andThen fun _ w' => .ok .skip w' := by
 rw [zqax, zqb3 zqc g cs w]
@[go_sem] theorem zrbe (g : Nat) (w : World) (old cs : Array Value) (t' : TypeId) (h1 : old.size = 8) (h2 : cs.size = 8) (h3 : zqa5 cs = true) :
  zqbb Tryz.prog 192 g 8 (.agg cs) w (some (.cells old t' (0, 0))) = .ok () (w.setRow g cs) := zqbg old cs t' h1 h2 h3
@[go_sem high] theorem zrjy (w : World) : (zeroValue 192).run Tryz.prog w = .ok (.agg (ints .u32 8 zqg)) w := by kernel_rfl
@[go_sem ↓ high] theorem zrkz (w : World) : (zeroValue 192).run Tryz.prog w = .ok (.agg (ints .u32 8 zqg)) w := by kernel_rfl
@[go_sem] theorem zrjo (k' : IntKind) (f : Nat -> Int) (j : Int) (w : World) (h0 : 0 <= j) (h1 : j < 8) : (Instr.index 192 (.agg (ints .u32 8 f)) (.int k' j)).run Tryz.prog w = .ok (.int .u32 (f j.toNat)) w :=
 zqb2 w .u32 k' f j Tryz.underlying192 Tryz.underlying120 (i := (Tryz.prog.info? 120).get zqc) zqc zqc h0 h1
@[go_sem high] theorem zrlu (f g : Nat -> Int) (w : World) : (binOp .eql 192 (.agg (ints .u32 8 f)) (.agg (ints .u32 8 g))).run Tryz.prog w = .ok (.bool (same 8 f g)) w :=
 zqcu w .u32 f g Tryz.underlying192 Tryz.underlying120 (i := (Tryz.prog.info? 120).get zqc) zqc zqc
@[go_sem high] theorem zrlr (f g : Nat -> Int) (w : World) : (binOp .neq 192 (.agg (ints .u32 8 f)) (.agg (ints .u32 8 g))).run Tryz.prog w = .ok (.bool (!same 8 f g)) w :=
 zqcs w .u32 f g Tryz.underlying192 Tryz.underlying120 (i := (Tryz.prog.info? 120).get zqc) zqc zqc
@[go_sem ↓ high] theorem zrjf (ρ : Operand -> Value) (d : Option Tmp) (x : Operand) (t : TypeId) (pos : String) (af : Array Edge) (g : Option (Nat × Bool)) :
  execOp ρ ⟨d, .load 193 x, t, pos, af, g⟩ = zq6 193 (ρ x) := zqb0 _ ρ d x t pos af g
@[go_sem high] theorem zrix (ρ : Operand -> Value) (d : Option Tmp) (x : Operand) (t : TypeId) (pos : String) (af : Array Edge) (g : Option (Nat × Bool)) :
  execOp ρ ⟨d, .load 193 x, t, pos, af, g⟩ = zq6 193 (ρ x) := zqb0 _ ρ d x t pos af g
@[go_sem] theorem zrb8 (g : Nat) (w : World) : (zq6 193 (.pointer (some ⟨g, 0, none⟩))).run Tryz.prog w = (zqbv Tryz.prog 193 g 64 w (zqd w g)).andThen fun v w' => .ok (.value v) w' := by
 rw [zqa2, zqb9 Tryz.underlying193 rfl zqc g w]
@[go_sem] theorem zra4 (g : Nat) (w : World) (cs : Array Value) (t' : TypeId) (fr : Nat × Nat) (h : cs.size = 64) : zqbv Tryz.prog 193 g 64 w (some (.cells cs t' fr)) = .ok (.agg cs) w := zqbo cs t' fr h
@[go_sem ↓ high] theorem zri3 (ρ : Operand -> Value) (d : Option Tmp) (x y : Operand) (t : TypeId) (pos : String) (af : Array Edge) (g : Option (Nat × Bool)) :
  execOp ρ ⟨d, .store 193 x y, t, pos, af, g⟩ = zq7 193 (ρ x) (ρ y) := zqbj _ ρ d x y t pos af g
@[go_sem high] theorem zre3 (ρ : Operand -> Value) (d : Option Tmp) (x y : Operand) (t : TypeId) (pos : String) (af : Array Edge) (g : Option (Nat × Bool)) :
  execOp ρ ⟨d, .store 193 x y, t, pos, af, g⟩ = zq7 193 (ρ x) (ρ y) := zqbj _ ρ d x y t pos af g
@[go_sem] theorem zraw (g : Nat) (cs : Array Value) (w : World) : (zq7 193 (.pointer (some ⟨g, 0, none⟩)) (.agg cs)).run Tryz.prog w = (zqbb Tryz.prog 193 g 64 (.agg cs) w (zqd w g)).andThen fun _ w' => .ok .skip w' := by
 rw [zqax, zqb3 zqc g cs w]
@[go_sem] theorem zrah (g : Nat) (w : World) (old cs : Array Value) (t' : TypeId) (h1 : old.size = 64) (h2 : cs.size = 64) (h3 : zqa5 cs = true) :
  zqbb Tryz.prog 193 g 64 (.agg cs) w (some (.cells old t' (0, 0))) = .ok () (w.setRow g cs) := zqbg old cs t' h1 h2 h3
@[go_sem high] theorem zrhf (w : World) : (zeroValue 193).run Tryz.prog w = .ok (.agg (ints .u8 64 zqg)) w := by kernel_rfl
@[go_sem ↓ high] theorem zrke (w : World) : (zeroValue 193).run Tryz.prog w = .ok (.agg (ints .u8 64 zqg)) w := by kernel_rfl
@[go_sem] theorem zrhz (k' : IntKind) (f : Nat -> Int) (j : Int) (w : World) (h0 : 0 <= j) (h1 : j < 64) : (Instr.index 193 (.agg (ints .u8 64 f)) (.int k' j)).run Tryz.prog w = .ok (.int .u8 (f j.toNat)) w :=
 zqb2 w .u8 k' f j Tryz.underlying193 Tryz.underlying5 (i := (Tryz.prog.info? 5).get zqc) zqc zqc h0 h1
@[go_sem high] theorem zrlg (f g : Nat -> Int) (w : World) : (binOp .eql 193 (.agg (ints .u8 64 f)) (.agg (ints .u8 64 g))).run Tryz.prog w = .ok (.bool (same 64 f g)) w :=
 zqcu w .u8 f g Tryz.underlying193 Tryz.underlying5 (i := (Tryz.prog.info? 5).get zqc) zqc zqc
@[go_sem high] theorem zrkn (f g : Nat -> Int) (w : World) : (binOp .neq 193 (.agg (ints .u8 64 f)) (.agg (ints .u8 64 g))).run Tryz.prog w = .ok (.bool (!same 64 f g)) w :=
 zqcs w .u8 f g Tryz.underlying193 Tryz.underlying5 (i := (Tryz.prog.info? 5).get zqc) zqc zqc
@[go_sem ↓ high] theorem zrj0 (ρ : Operand -> Value) (d : Option Tmp) (x : Operand) (t : TypeId) (pos : String) (af : Array Edge) (g : Option (Nat × Bool)) :
  execOp ρ ⟨d, .load 224 x, t, pos, af, g⟩ = zq6 224 (ρ x) := zqb0 _ ρ d x t pos af g
@[go_sem high] theorem zrh6 (ρ : Operand -> Value) (d : Option Tmp) (x : Operand) (t : TypeId) (pos : String) (af : Array Edge) (g : Option (Nat × Bool)) :
  execOp ρ ⟨d, .load 224 x, t, pos, af, g⟩ = zq6 224 (ρ x) := zqb0 _ ρ d x t pos af g
@[go_sem] theorem zref (g : Nat) (w : World) : (zq6 224 (.pointer (some ⟨g, 0, none⟩))).run Tryz.prog w = (zqbv Tryz.prog 224 g 64 w (zqd w g)).andThen fun v w' => .ok (.value v) w' := by
 rw [zqa2, zqb9 Tryz.underlying224 rfl zqc g w]
@[go_sem] theorem zrcs (g : Nat) (w : World) (cs : Array Value) (t' : TypeId) (fr : Nat × Nat) (h : cs.size = 64) : zqbv Tryz.prog 224 g 64 w (some (.cells cs t' fr)) = .ok (.agg cs) w := zqbo cs t' fr h
@[go_sem ↓ high] theorem zri5 (ρ : Operand -> Value) (d : Option Tmp) (x y : Operand) (t : TypeId) (pos : String) (af : Array Edge) (g : Option (Nat × Bool)) :
  execOp ρ ⟨d, .store 224 x y, t, pos, af, g⟩ = zq7 224 (ρ x) (ρ y) := zqbj _ ρ d x y t pos af g
@[go_sem high] theorem zrev (ρ : Operand -> Value) (d : Option Tmp) (x y : Operand) (t : TypeId) (pos : String) (af : Array Edge) (g : Option (Nat × Bool)) :
  execOp ρ ⟨d, .store 224 x y, t, pos, af, g⟩ = zq7 224 (ρ x) (ρ y) := zqbj _ ρ d x y t pos af g
@[go_sem] theorem zraa (g : Nat) (cs : Array Value) (w : World) : (zq7 224 (.pointer (some ⟨g, 0, none⟩)) (.agg cs)).run Tryz.prog w = (zqbb Tryz.prog 224 g 64 (.agg cs) w (zqd w g)).andThen fun _ w' => .ok .skip w' := by
 rw [zqax, zqb3 zqc g cs w]
@[go_sem] theorem zrat (g : Nat) (w : World) (old cs : Array Value) (t' : TypeId) (h1 : old.size = 64) (h2 : cs.size = 64) (h3 : zqa5 cs = true) :
  zqbb Tryz.prog 224 g 64 (.agg cs) w (some (.cells old t' (0, 0))) = .ok () (w.setRow g cs) := zqbg old cs t' h1 h2 h3
@[go_sem high] theorem zrht (w : World) : (zeroValue 224).run Tryz.prog w = .ok (.agg (ints .u32 64 zqg)) w := by kernel_rfl
@[go_sem ↓ high] theorem zrjc (w : World) : (zeroValue 224).run Tryz.prog w = .ok (.agg (ints .u32 64 zqg)) w := by kernel_rfl
@[go_sem] theorem zrgo (k' : IntKind) (f : Nat -> Int) (j : Int) (w : World) (h0 : 0 <= j) (h1 : j < 64) : (Instr.index 224 (.agg (ints .u32 64 f)) (.int k' j)).run Tryz.prog w = .ok (.int .u32 (f j.toNat)) w :=
 zqb2 w .u32 k' f j Tryz.underlying224 Tryz.underlying120 (i := (Tryz.prog.info? 120).get zqc) zqc zqc h0 h1
@[go_sem high] theorem zrlh (f g : Nat -> Int) (w : World) : (binOp .eql 224 (.agg (ints .u32 64 f)) (.agg (ints .u32 64 g))).run Tryz.prog w = .ok (.bool (same 64 f g)) w :=
 zqcu w .u32 f g Tryz.underlying224 Tryz.underlying120 (i := (Tryz.prog.info? 120).get zqc) zqc zqc
@[go_sem high] theorem zrlf (f g : Nat -> Int) (w : World) : (binOp .neq 224 (.agg (ints .u32 64 f)) (.agg (ints .u32 64 g))).run Tryz.prog w = .ok (.bool (!same 64 f g)) w :=
 zqcs w .u32 f g Tryz.underlying224 Tryz.underlying120 (i := (Tryz.prog.info? 120).get zqc) zqc zqc
@[go_sem ↓ high] theorem zrk2 (ρ : Operand -> Value) (d : Option Tmp) (x : Operand) (t : TypeId) (pos : String) (af : Array Edge) (g : Option (Nat × Bool)) :
  execOp ρ ⟨d, .load 220 x, t, pos, af, g⟩ = zq6 220 (ρ x) := zqb0 _ ρ d x t pos af g
@[go_sem high] theorem zrj6 (ρ : Operand -> Value) (d : Option Tmp) (x : Operand) (t : TypeId) (pos : String) (af : Array Edge) (g : Option (Nat × Bool)) :
  execOp ρ ⟨d, .load 220 x, t, pos, af, g⟩ = zq6 220 (ρ x) := zqb0 _ ρ d x t pos af g
@[go_sem] theorem zrfk (g : Nat) (w : World) : (zq6 220 (.pointer (some ⟨g, 0, none⟩))).run Tryz.prog w = (zqbv Tryz.prog 220 g 8 w (zqd w g)).andThen fun v w' => .ok (.value v) w' := by
 rw [zqa2, zqb9 Tryz.underlying220 rfl zqc g w]
@[go_sem] theorem zrfz (g : Nat) (w : World) (cs : Array Value) (t' : TypeId) (fr : Nat × Nat) (h : cs.size = 8) : zqbv Tryz.prog 220 g 8 w (some (.cells cs t' fr)) = .ok (.agg cs) w := zqbo cs t' fr h
@[go_sem ↓ high] theorem zrj1 (ρ : Operand -> Value) (d : Option Tmp) (x y : Operand) (t : TypeId) (pos : String) (af : Array Edge) (g : Option (Nat × Bool)) :
  execOp ρ ⟨d, .store 220 x y, t, pos, af, g⟩ = zq7 220 (ρ x) (ρ y) := zqbj _ ρ d x y t pos af g
@[go_sem high] theorem zrga (ρ : Operand -> Value) (d : Option Tmp) (x y : Operand) (t : TypeId) (pos : String) (af : Array Edge) (g : Option (Nat × Bool)) :
  execOp ρ ⟨d, .store 220 x y, t, pos, af, g⟩ = zq7 220 (ρ x) (ρ y) := zqbj _ ρ d x y t pos af g
@[go_sem] theorem zrcb (g : Nat) (cs : Array Value) (w : World) : (zq7 220 (.pointer (some ⟨g, 0, none⟩)) (.agg cs)).run Tryz.prog w = (zqbb Tryz.prog 220 g 8 (.agg cs) w (zqd w g)).andThen fun _ w' => .ok .skip w' := by
 rw [zqax, zqb3 zqc g cs w]
@[go_sem] theorem zrcz (g : Nat) (w : World) (old cs : Array Value) (t' : TypeId) (h1 : old.size = 8) (h2 : cs.size = 8) (h3 : zqa5 cs = true) :
  zqbb Tryz.prog 220 g 8 (.agg cs) w (some (.cells old t' (0, 0))) = .ok () (w.setRow g cs) := zqbg old cs t' h1 h2 h3
@[go_sem high] theorem zrjg (w : World) : (zeroValue 220).run Tryz.prog w = .ok (.agg (ints .u8 8 zqg)) w := by kernel_rfl
@[go_sem ↓ high] theorem zrll (w : World) : (zeroValue 220).run Tryz.prog w = .ok (.agg (ints .u8 8 zqg)) w := by kernel_rfl
@[go_sem] theorem zrjd (k' : IntKind) (f : Nat -> Int) (j : Int) (w : World) (h0 : 0 <= j) (h1 : j < 8) : (Instr.index 220 (.agg (ints .u8 8 f)) (.int k' j)).run Tryz.prog w = .ok (.int .u8 (f j.toNat)) w :=
 zqb2 w .u8 k' f j Tryz.underlying220 Tryz.underlying5 (i := (Tryz.prog.info? 5).get zqc) zqc zqc h0 h1
@[go_sem high] theorem zrls (f g : Nat -> Int) (w : World) : (binOp .eql 220 (.agg (ints .u8 8 f)) (.agg (ints .u8 8 g))).run Tryz.prog w = .ok (.bool (same 8 f g)) w :=
 zqcu w .u8 f g Tryz.underlying220 Tryz.underlying5 (i := (Tryz.prog.info? 5).get zqc) zqc zqc
@[go_sem high] theorem zrlv (f g : Nat -> Int) (w : World) : (binOp .neq 220 (.agg (ints .u8 8 f)) (.agg (ints .u8 8 g))).run Tryz.prog w = .ok (.bool (!same 8 f g)) w :=
 zqcs w .u8 f g Tryz.underlying220 Tryz.underlying5 (i := (Tryz.prog.info? 5).get zqc) zqc zqc
@[go_sem ↓ high] theorem zrg0 (ρ : Operand -> Value) (d : Option Tmp) (x : Operand) (t : TypeId) (pos : String) (af : Array Edge) (g : Option (Nat × Bool)) :
  execOp ρ ⟨d, .load 195 x, t, pos, af, g⟩ = zq6 195 (ρ x) := zqb0 _ ρ d x t pos af g
@[go_sem high] theorem zreu (ρ : Operand -> Value) (d : Option Tmp) (x : Operand) (t : TypeId) (pos : String) (af : Array Edge) (g : Option (Nat × Bool)) :
  execOp ρ ⟨d, .load 195 x, t, pos, af, g⟩ = zq6 195 (ρ x) := zqb0 _ ρ d x t pos af g
@[go_sem] theorem zq95 (g : Nat) (w : World) : (zq6 195 (.pointer (some ⟨g, 0, none⟩))).run Tryz.prog w = (zqbv Tryz.prog 195 g 73 w (zqd w g)).andThen fun v w' => .ok (.value v) w' := by
 rw [zqa2, zqb9 Tryz.underlying195 rfl zqc g w]
@[go_sem] theorem zq9f (g : Nat) (w : World) (cs : Array Value) (t' : TypeId) (fr : Nat × Nat) (h : cs.size = 73) : zqbv Tryz.prog 195 g 73 w (some (.cells cs t' fr)) = .ok (.agg cs) w := zqbo cs t' fr h
@[go_sem ↓ high] theorem zrey (ρ : Operand -> Value) (d : Option Tmp) (x y : Operand) (t : TypeId) (pos : String) (af : Array Edge) (g : Option (Nat × Bool)) :
  execOp ρ ⟨d, .store 195 x y, t, pos, af, g⟩ = zq7 195 (ρ x) (ρ y) := zqbj _ ρ d x y t pos af g
@[go_sem high] theorem zrdm (ρ : Operand -> Value) (d : Option Tmp) (x y : Operand) (t : TypeId) (pos : String) (af : Array Edge) (g : Option (Nat × Bool)) :
  execOp ρ ⟨d, .store 195 x y, t, pos, af, g⟩ = zq7 195 (ρ x) (ρ y) := zqbj _ ρ d x y t pos af g
@[go_sem] theorem zq8k (g : Nat) (cs : Array Value) (w : World) : (zq7 195 (.pointer (some ⟨g, 0, none⟩)) (.agg cs)).run Tryz.prog w = (zqbb Tryz.prog 195 g 73 (.agg cs) w (zqd w g)).andThen fun _ w' => .ok .skip w' := by
 rw [zqax, zqb3 zqc g cs w]
@[go_sem] theorem zq8h (g : Nat) (w : World) (old cs : Array Value) (t' : TypeId) (h1 : old.size = 73) (h2 : cs.size = 73) (h3 : zqa5 cs = true) :
  zqbb Tryz.prog 195 g 73 (.agg cs) w (some (.cells old t' (0, 0))) = .ok () (w.setRow g cs) := zqbg old cs t' h1 h2 h3
def zqa7 (A R : Nat -> Int) (n : Int) : Array Value := (ints .u32 8 A ++ ints .u8 64 R).push (.int .u64 n)
@[go_sem] theorem zqbi (A R : Nat -> Int) (n : Int) : (zqa7 A R n).size = 73 := by simp [zqa7, zqh]
@[go_sem] theorem zq3e (A R : Nat -> Int) (n : Int) : zqa5 (zqa7 A R n) = true := by
 have h1 := zqed .u32 8 A;have h2 := zqed .u8 64 R;unfold zqa5 at *;unfold zqa7;rw [Array.all_push, Array.all_append, h1, h2]
 rfl
@[go_sem] theorem zqn3 (A R : Nat -> Int) (n : Int) : (zqa7 A R n)[72]? = some (.int .u64 n) := by
 unfold zqa7;rw [Array.getElem?_push, if_pos (by simp [zqh])]
@[go_sem] theorem zrjm (A R : Nat -> Int) (n : Int) (h : 72 < (zqa7 A R n).size) : (zqa7 A R n)[72] = .int .u64 n := by
 have := zqn3 A R n;rw [Array.getElem?_eq_getElem h] at this;exact Option.some.inj this
@[go_sem] theorem zqko (A R : Nat -> Int) (n : Int) (i : Nat) (h : i < 8) : (zqa7 A R n)[i]? = some (.int .u32 (A i)) := by
 unfold zqa7;rw [Array.getElem?_push, if_neg (by simp [zqh]; omega), Array.getElem?_append_left (by rw [zqh]; exact h), zqa9 _ _ _ _ h]
@[go_sem] theorem zrkc (A R : Nat -> Int) (n : Int) (i : Nat) (h : i < 8) (h' : i < (zqa7 A R n).size) : (zqa7 A R n)[i] = .int .u32 (A i) := by
 have := zqko A R n i h;rw [Array.getElem?_eq_getElem h'] at this;exact Option.some.inj this
theorem zqlq (A R : Nat -> Int) (n : Int) (i : Nat) (h : i < 64) : (zqa7 A R n)[8 + i]? = some (.int .u8 (R i)) := by
 unfold zqa7;rw [Array.getElem?_push, if_neg (by simp [zqh]; omega), Array.getElem?_append_right (by rw [zqh]; omega), zqh, show 8 + i - 8 = i by omega, zqa9 _ _ _ _ h]
theorem zqkf {cs : Array Value} {A R : Nat -> Int} {n : Int} (hs : cs.size = 73) (ha : ∀ i, i < 8 -> cs[i]? = some (.int .u32 (A i))) (hr : ∀ i, i < 64 -> cs[8 + i]? = some (.int .u8 (R i))) (hn : cs[72]? = some (.int .u64 n)) : cs = zqa7 A R n := by
 apply Array.ext_getElem?
 intro i
 rcases (by omega : i < 8 \/ (8 <= i /\ i < 72) \/ i = 72 \/ 73 <= i) with h | h | h | h
 ·rw [ha i h, zqko _ _ _ _ h]
 ·have := hr (i - 8) (by omega)
  have h2 := zqlq A R n (i - 8) (by omega);rw [show 8 + (i - 8) = i by omega] at this h2;rw [this, h2]
 ·subst h; rw [hn, zqn3]
 ·rw [Array.getElem?_eq_none (by omega), Array.getElem?_eq_none (by rw [zqbi]; omega)]
theorem zqja {A A' R R' : Nat -> Int} {n : Int} (ha : ∀ i, i < 8 -> A i = A' i) (hr : ∀ i, i < 64 -> R i = R' i) : zqa7 A R n = zqa7 A' R' n := by
 unfold zqa7;rw [zqa4 ha, zqa4 hr]
@[go_sem] theorem zre7 (A R : Nat -> Int) (n m : Int) : (zqa7 A R n).setIfInBounds 72 (.int .u64 m) = zqa7 A R m := by
 refine zqkf (by simp [zqbi]) (fun i hi => ?_) (fun i hi => ?_) ?_
 ·rw [Array.getElem?_setIfInBounds, if_neg (by omega), zqko _ _ _ _ hi]
 ·rw [Array.getElem?_setIfInBounds, if_neg (by omega), zqlq _ _ _ _ hi]
 ·rw [Array.getElem?_setIfInBounds, if_pos rfl, zqbi]; rfl
@[go_sem high] theorem zrfp (w : World) : (zeroValue 195).run Tryz.prog w = .ok (.agg (zqa7 zqg zqg 0)) w := by kernel_rfl
@[go_sem ↓ high] theorem zrhy (w : World) : (zeroValue 195).run Tryz.prog w = .ok (.agg (zqa7 zqg zqg 0)) w := by kernel_rfl
theorem zrla (A R : Nat -> Int) (n : Int) : (zqa7 A R n).extract 0 8 = ints .u32 8 A := by
 apply Array.ext_getElem?
 intro i
 by_cases h : i < 8
 ·rw [zqa9 _ _ _ _ h, Array.getElem?_extract, if_pos (by rw [zqbi]; omega), Nat.zero_add, zqko _ _ _ _ h]
 ·rw [Array.getElem?_eq_none (by simp [zqbi]; omega), Array.getElem?_eq_none (by rw [zqh]; omega)]
theorem zrk1 (A R : Nat -> Int) (n : Int) : (zqa7 A R n).extract 8 (8 + 64) = ints .u8 64 R := by
 apply Array.ext_getElem?
 intro i
 by_cases h : i < 64
 ·rw [zqa9 _ _ _ _ h, Array.getElem?_extract, if_pos (by rw [zqbi]; omega), zqlq _ _ _ _ h]
 ·rw [Array.getElem?_eq_none (by simp [zqbi]; omega), Array.getElem?_eq_none (by rw [zqh]; omega)]
theorem zqg0 (vs : List Value) : ∀ (o : Nat) (A : Array Value), (zqcp A o vs).size = A.size := by
 induction vs with
 | nil => intro o A; rfl
 | cons v r ih => intro o A; simp [zqcp, ih]
theorem zqic (vs : List Value) : ∀ (o : Nat) (A : Array Value) (i : Nat), o + vs.length <= A.size -> (zqcp A o vs)[i]? = if o <= i /\ i < o + vs.length then vs[i - o]? else A[i]? := by
 induction vs with
 | nil => intro o A i _; simp [zqcp]; omega
 | cons v r ih =>
  intro o A i hs
  simp only [List.length_cons] at hs
  have hs' : o + 1 + r.length <= (A.setIfInBounds o v).size := by simp; omega
  simp only [zqcp, List.length_cons]
  rw [ih (o + 1) _ i hs']
  by_cases h1 : o + 1 <= i /\ i < o + 1 + r.length
  ·rw [if_pos h1, if_pos (by omega), show i - o = (i - (o + 1)) + 1 by omega, List.getElem?_cons_succ]
  ·rw [if_neg h1, Array.getElem?_setIfInBounds]
   by_cases h2 : o = i
   ·subst h2
    rw [if_pos rfl, if_pos (by omega), if_pos (by omega), Nat.sub_self, List.getElem?_cons_zero]
   ·rw [if_neg h2, if_neg (by omega)]
theorem zrk7 (A R A' : Nat -> Int) (n : Int) : zqcp (zqa7 A R n) 0 (ints .u32 8 A').toList = zqa7 A' R n := by
 have hl : (ints .u32 8 A').toList.length = 8 := by simp [zqh]
 refine zqkf (by rw [zqg0, zqbi]) (fun i hi => ?_) (fun i hi => ?_) ?_ <;> rw [zqic _ _ _ _ (by rw [hl, zqbi]; omega), hl]
 ·rw [if_pos (by omega), Nat.sub_zero, Array.getElem?_toList, zqa9 _ _ _ _ hi]
 ·rw [if_neg (by omega), zqlq _ _ _ _ hi]
 ·rw [if_neg (by omega), zqn3]
theorem zrlk (A R R' : Nat -> Int) (n : Int) : zqcp (zqa7 A R n) 8 (ints .u8 64 R').toList = zqa7 A R' n := by
 have hl : (ints .u8 64 R').toList.length = 64 := by simp [zqh]
 refine zqkf (by rw [zqg0, zqbi]) (fun i hi => ?_) (fun i hi => ?_) ?_ <;> rw [zqic _ _ _ _ (by rw [hl, zqbi]; omega), hl]
 ·rw [if_neg (by omega), zqko _ _ _ _ hi]
 ·rw [if_pos (by omega), Nat.add_sub_cancel_left, Array.getElem?_toList, zqa9 _ _ _ _ hi]
 ·rw [if_neg (by omega), zqn3]
@[go_sem] theorem zrdn (g : Nat) (w : World) (A R : Nat -> Int) (n : Int) (t' : TypeId) (fr : Nat × Nat) : zqbv Tryz.prog 192 g 8 w (some (.cells (zqa7 A R n) t' fr)) = .ok (.agg (ints .u32 8 A)) w := by
 unfold zqbv
 simp only [zqbi]
 rw [if_neg (by decide), if_pos (by decide), zrla]
@[go_sem] theorem zq91 (g : Nat) (w : World) (A R A' : Nat -> Int) (n : Int) (t' : TypeId) : zqbb Tryz.prog 192 g 8 (.agg (ints .u32 8 A')) w (some (.cells (zqa7 A R n) t' (0, 0))) = .ok () (w.setRow g (zqa7 A' R n)) := by
 unfold zqbb
 simp only [zqbi, zqh]
 rw [if_neg (fun h => absurd h.1 (by decide)), if_pos ⟨by decide, by trivial, zqed _ _ _⟩, zrk7]
@[go_sem] theorem zrap (g : Nat) (w : World) : (zq6 193 (.pointer (some ⟨g, 8, none⟩))).run Tryz.prog w = (zqd2 Tryz.prog 193 g 8 64 w (zqd w g)).andThen fun v w' => .ok (.value v) w' := by
 rw [zqa2, zqh3 Tryz.underlying193 rfl zqc g 8 w]
@[go_sem] theorem zrbd (g : Nat) (w : World) (A R : Nat -> Int) (n : Int) (t' : TypeId) (fr : Nat × Nat) : zqd2 Tryz.prog 193 g 8 64 w (some (.cells (zqa7 A R n) t' fr)) = .ok (.agg (ints .u8 64 R)) w := by
 unfold zqd2
 simp only [zqbi]
 rw [if_pos (by decide), zrk1]
@[go_sem] theorem zq69 (g : Nat) (cs : Array Value) (w : World) : (zq7 193 (.pointer (some ⟨g, 8, none⟩)) (.agg cs)).run Tryz.prog w = (zqde Tryz.prog 193 g 8 64 (.agg cs) w (zqd w g)).andThen fun _ w' => .ok .skip w' := by
 rw [zqax, zqfn zqc g 8 cs w]
@[go_sem] theorem zq9q (g : Nat) (w : World) (A R R' : Nat -> Int) (n : Int) (t' : TypeId) : zqde Tryz.prog 193 g 8 64 (.agg (ints .u8 64 R')) w (some (.cells (zqa7 A R n) t' (0, 0))) = .ok () (w.setRow g (zqa7 A R' n)) := by
 unfold zqde
 simp only [zqbi, zqh]
 rw [if_pos ⟨by decide, by trivial, zqed _ _ _⟩, zrlk]
attribute [irreducible] zqa7
def zq9k (a b c d e f g h : Int) : Nat -> Int := fun i => [a, b, c, d, e, f, g, h].getD i 0
def zqgf (a b c d e f g h : Value) : Sem Next := do pure (.value (<- Instr.build 192 #[(0, a), (1, b), (2, c), (3, d), (4, e), (5, f), (6, g), (7, h)]))
@[go_sem ↓ high] theorem zrka (ρ : Operand -> Value) (dd : Option Tmp) (a b c d e f g h : Operand) (t : TypeId) (pos : String) (af : Array Edge) (gg : Option (Nat × Bool)) :
  execOp ρ ⟨dd, .build 192 #[(0, a), (1, b), (2, c), (3, d), (4, e), (5, f), (6, g), (7, h)], t, pos, af, gg⟩ = zqgf (ρ a) (ρ b) (ρ c) (ρ d) (ρ e) (ρ f) (ρ g) (ρ h) := by simp [execOp, zqgf]
@[go_sem high] theorem zrhv (ρ : Operand -> Value) (dd : Option Tmp) (a b c d e f g h : Operand) (t : TypeId) (pos : String) (af : Array Edge) (gg : Option (Nat × Bool)) :
  execOp ρ ⟨dd, .build 192 #[(0, a), (1, b), (2, c), (3, d), (4, e), (5, f), (6, g), (7, h)], t, pos, af, gg⟩ = zqgf (ρ a) (ρ b) (ρ c) (ρ d) (ρ e) (ρ f) (ρ g) (ρ h) := by simp [execOp, zqgf]
@[go_sem] theorem zri0 (a b c d e f g h : Int) (w : World) : (zqgf (.int .u32 a) (.int .u32 b) (.int .u32 c) (.int .u32 d) (.int .u32 e) (.int .u32 f) (.int .u32 g) (.int .u32 h)).run Tryz.prog w = .ok (.value (.agg (ints .u32 8 (zq9k a b c d e f g h)))) w := by kernel_rfl
attribute [irreducible] zqgf
def zqd0 (ty : TypeId) : Sem Next := do pure (.value (<- Instr.build ty #[]))
@[go_sem ↓ high] theorem zrln (ty : TypeId) (ρ : Operand -> Value) (dd : Option Tmp) (t : TypeId) (pos : String) (af : Array Edge) (gg : Option (Nat × Bool)) :
  execOp ρ ⟨dd, .build ty #[], t, pos, af, gg⟩ = zqd0 ty := by simp [execOp, zqd0]
@[go_sem high] theorem zrkf (ty : TypeId) (ρ : Operand -> Value) (dd : Option Tmp) (t : TypeId) (pos : String) (af : Array Edge) (gg : Option (Nat × Bool)) :
  execOp ρ ⟨dd, .build ty #[], t, pos, af, gg⟩ = zqd0 ty := by simp [execOp, zqd0]
@[go_sem] theorem zrhj (w : World) : (zqd0 195).run Tryz.prog w = .ok (.value (.agg (zqa7 zqg zqg 0))) w := by kernel_rfl
@[go_sem] theorem zrjh (w : World) : (zqd0 193).run Tryz.prog w = .ok (.value (.agg (ints .u8 64 zqg))) w := by kernel_rfl
@[go_sem] theorem zri8 (w : World) : (zqd0 24).run Tryz.prog w = .ok (.value (.agg (ints .u8 32 zqg))) w := by kernel_rfl
attribute [irreducible] zqd0
end Go.Proofs.YtconieddcjpbjaaGreatDoor
namespace Go.Proofs.YtconieddcjpbjaaGreatDoor
open Go.RowKit
attribute [go_sem] setRow_setRow
theorem zq5b {t e : TypeId} {n : Nat} {k : IntKind} (w : World) (g o r : Nat) (ht : Tryz.prog.underlying t = some (.array (Tryz.prog.arrayLen t) (Tryz.prog.elem t))) (hn : Tryz.prog.arrayLen t = n) (hs : (sizeOf (Tryz.prog.elem t)).run Tryz.prog w = .ok 1 w) (hr : r < n) :
  (Instr.sliceAt t (.pointer (some ⟨g, o, none⟩)) (some (.int k r)) none none).run Tryz.prog w = .ok (.slice (some ⟨g, o + r, none⟩) (n - r) (n - r)) w := by
 rw [run_sliceAt_array_l w t _ ht k r (by omega) (by omega), hs, Result.andThen_ok, hn];unfold slicedAt;have e : (⟨g, o, none⟩ : Addr).add (r * 1) = ⟨g, o + r, none⟩ := by unfold Addr.add; split <;> simp_all
 rw [if_neg (by omega), show ((r : Int)).toNat = r by omega, e]
@[go_sem high] theorem zrg3 (w : World) (g o r : Nat) (hr : r < 64) :
  (Instr.sliceAt 193 (.pointer (some ⟨g, o, none⟩)) (some (.int .i64 r)) none none).run Tryz.prog w = .ok (.slice (some ⟨g, o + r, none⟩) (64 - r) (64 - r)) w :=
 zq5b (t := 193) (e := 5) (n := 64) (k := .i64) w g o r zqc zqc zqc hr
theorem zqj6 {P : Program} (w : World) (dT sT ty elem : TypeId) (g o dLen dCap m : Nat) (s : ByteArray) (cur : Array Value) (t : TypeId)
  (hu : P.underlying dT = some (.slice elem)) (hs : (P.info? elem).map (·.size) = some 1) (hg : w.heap[g]? = some (.cells cur t (0, 0))) (hm : Nat.min s.size dLen = m) (hfit : o + m <= cur.size) :
  (Builtin.copy_ #[dT, sT] ty #[.slice (some ⟨g, o, none⟩) dLen dCap, .string s]).run P w =
   .ok (goInt m) (w.setRow g (cur.toList.take o ++ (List.map (fun b : UInt8 => Value.int .u8 b.toNat) s.data.toList).take m ++ cur.toList.drop (o + m)).toArray) := by
 have hle : m <= s.size := by rw [<- hm]; exact Nat.min_le_left _ _
 have hlen : ((List.map (fun b : UInt8 => Value.int .u8 b.toNat) s.data.toList).take m).length = m := by
  rw [List.length_take, List.length_map];exact Nat.min_eq_left hle
 have hst := run_storeCells_at P g o t ((List.map (fun b : UInt8 => Value.int .u8 b.toNat) s.data.toList).take m) 0 cur w hg (by rw [hlen]; simpa using hfit) (by
  intro v hv;obtain ⟨b, _, rfl⟩ := List.mem_map.1 (List.mem_of_mem_take hv)
  rfl)
 rw [hlen] at hst
 simp only [Nat.add_zero] at hst
 cases hq : P.info? elem with
 | none => simp [hq] at hs
 | some i =>
  simp [Builtin.copy_, run_underlying hu, Builtin.lenOf, Builtin.firstCells, sizeOf, typeInfo, hq, hm]
  rw [hst]
  simp [Result.andThen]
def putT (R : Nat -> Int) (r m : Nat) (s : ByteArray) : Nat -> Int := fun i => if r <= i /\ i < r + m then byteAt s (i - r) else R i
def zqf6 (ats : Array TypeId) (ty : TypeId) (args : Array Value) : Sem Next := do pure (.value (<- Builtin.copy_ ats ty args))
def zqr8 (P : Program) (ty : TypeId) (g o L C : Nat) (s : ByteArray) (w : World) : Option Obj -> Result Next
 | _ => (zqf6 #[135, 9] ty #[.slice (some ⟨g, o, none⟩) L C, .string s]).run P w
@[go_sem ↓ high] theorem zrfy (ty : TypeId) (cs : Array Bool) (args : Array Value) : builtin .copy #[135, 9] ty cs args = zqf6 #[135, 9] ty args := by unfold zqf6; rfl
@[go_sem] theorem zq8f (ty : TypeId) (g o L C : Nat) (s : ByteArray) (w : World) : (zqf6 #[135, 9] ty #[.slice (some ⟨g, o, none⟩) L C, .string s]).run Tryz.prog w = zqr8 Tryz.prog ty g o L C s w (zqd w g) := rfl
@[go_sem] theorem zrbn (ty : TypeId) (g r C : Nat) (s : ByteArray) (w : World) (A R : Nat -> Int) (n : Int) (t : TypeId) (h : zqd w g = some (.cells (zqa7 A R n) t (0, 0))) (hr : r < 64) :
  zqr8 Tryz.prog ty g (8 + r) (64 - r) C s w (some (.cells (zqa7 A R n) t (0, 0))) = .ok (.value (.int .i64 (min s.size (64 - r) : Nat))) (w.setRow g (zqa7 A (putT R r (min s.size (64 - r)) s) n)) := by
 have hm : min s.size (64 - r) <= 64 - r := Nat.min_le_right _ _;have hm' : min s.size (64 - r) <= s.size := Nat.min_le_left _ _;generalize hq : min s.size (64 - r) = m at *
 show (zqf6 #[135, 9] ty #[.slice (some ⟨g, 8 + r, none⟩) (64 - r) C, .string s]).run Tryz.prog w = _
 unfold zqf6 zqd at *
 simp only [Sem.run_bind, zqj6 w 135 9 ty 5 g (8 + r) (64 - r) C m s _ t Tryz.underlying135 zqc h hq (by rw [zqbi]; omega), Result.andThen_ok, Sem.run_pure]
 have e : ((zqa7 A R n).toList.take (8 + r) ++ (List.map (fun b : UInt8 => Value.int .u8 b.toNat) s.data.toList).take m ++ (zqa7 A R n).toList.drop (8 + r + m)).toArray = zqa7 A (putT R r m s) n := by
  have l1 : ((zqa7 A R n).toList.take (8 + r)).length = 8 + r := by rw [List.length_take, Array.length_toList, zqbi]; omega
  have l2 : ((List.map (fun b : UInt8 => Value.int .u8 b.toNat) s.data.toList).take m).length = m := by
   rw [List.length_take, List.length_map];exact Nat.min_eq_left hm'
  have a1 : ∀ i, i < 8 + r -> ((zqa7 A R n).toList.take (8 + r) ++ (List.map (fun b : UInt8 => Value.int .u8 b.toNat) s.data.toList).take m ++ (zqa7 A R n).toList.drop (8 + r + m))[i]? = (zqa7 A R n)[i]? := fun i hi => by
   rw [List.append_assoc, List.getElem?_append_left (by omega), List.getElem?_take_of_lt hi, Array.getElem?_toList]
  have a2 : ∀ i, i < m -> ((zqa7 A R n).toList.take (8 + r) ++ (List.map (fun b : UInt8 => Value.int .u8 b.toNat) s.data.toList).take m ++ (zqa7 A R n).toList.drop (8 + r + m))[8 + r + i]? = some (.int .u8 (byteAt s i)) := fun i hi => by
   rw [List.append_assoc, List.getElem?_append_right (by omega), l1, List.getElem?_append_left (by omega), show 8 + r + i - (8 + r) = i by omega, List.getElem?_take_of_lt hi, List.getElem?_map];have hs : i < s.size := by omega
   have : s.data.toList[i]? = some s[i] := by
    rw [Array.getElem?_toList];exact Array.getElem?_eq_getElem hs
   rw [this, <- zqeg s i hs]
   rfl
  have a3 : ∀ i, 8 + r + m <= i -> ((zqa7 A R n).toList.take (8 + r) ++ (List.map (fun b : UInt8 => Value.int .u8 b.toNat) s.data.toList).take m ++ (zqa7 A R n).toList.drop (8 + r + m))[i]? = (zqa7 A R n)[i]? := fun i hi => by
   rw [List.getElem?_append_right (by rw [List.length_append]; omega), List.length_append, l1, l2, List.getElem?_drop, show 8 + r + m + (i - (8 + r + m)) = i by omega, Array.getElem?_toList]
  refine zqkf ?_ (fun i hi => ?_) (fun i hi => ?_) ?_
  ·simp only [List.size_toArray, List.length_append, l1, l2, List.length_drop, Array.length_toList, zqbi]; omega
  ·rw [List.getElem?_toArray, a1 i (by omega), zqko _ _ _ _ hi]
  ·rw [List.getElem?_toArray]
   unfold putT
   by_cases h1 : r <= i /\ i < r + m
   ·rw [if_pos h1, show 8 + i = 8 + r + (i - r) by omega, a2 _ (by omega)]
   ·rw [if_neg h1]
    by_cases h2 : i < r
    ·rw [a1 _ (by omega), zqlq _ _ _ _ hi]
    ·rw [a3 _ (by omega), zqlq _ _ _ _ hi]
  ·rw [List.getElem?_toArray, a3 _ (by omega), zqn3]
 rw [e]
 rfl
attribute [irreducible] zqf6 zqr8
end Go.Proofs.YtconieddcjpbjaaGreatDoor
