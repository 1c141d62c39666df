/- Sm -/
import Derived.Test.YtnjghcnhcbobhaaGreatDoorMem
import Derived.Test.YtnjghcnhcbobhaaGreatDoorCt
set_option linter.unusedVariables false
set_option linter.unusedSimpArgs false
namespace Go.Proofs.YtnjghcnhcbobhaaGreatDoor
open Go.RowKit
@[go_sem ↓ high] theorem zrpi (ρ : Operand -> Value) (d : Option Tmp) (x : Operand) (t : TypeId) (pos : String) (af : Array Edge) (g : Option (Nat × Bool)) :
  execOp ρ ⟨d, .load 192 x, t, pos, af, g⟩ = zqp 192 (ρ x) := zqa4 _ ρ d x t pos af g
@[go_sem high] theorem zrnj (ρ : Operand -> Value) (d : Option Tmp) (x : Operand) (t : TypeId) (pos : String) (af : Array Edge) (g : Option (Nat × Bool)) :
  execOp ρ ⟨d, .load 192 x, t, pos, af, g⟩ = zqp 192 (ρ x) := zqa4 _ ρ d x t pos af g
@[go_sem] theorem zrhi (g : Nat) (w : World) : (zqp 192 (.pointer (some ⟨g, 0, none⟩))).run Tryz.prog w = (zqa0 Tryz.prog 192 g 8 w (zqd w g)).andThen fun v w' => .ok (.value v) w' := by
 rw [zq6, zqbh Tryz.underlying192 rfl zqb g w]
@[go_sem] theorem zrh3 (g : Nat) (w : World) (cs : Array Value) (t' : TypeId) (fr : Nat × Nat) (h : cs.size = 8) : zqa0 Tryz.prog 192 g 8 w (some (.cells cs t' fr)) = .ok (.agg cs) w := zqat cs t' fr h
@[go_sem ↓ high] theorem zrnk (ρ : Operand -> Value) (d : Option Tmp) (x y : Operand) (t : TypeId) (pos : String) (af : Array Edge) (g : Option (Nat × Bool)) :
  execOp ρ ⟨d, .store 192 x y, t, pos, af, g⟩ = zqv 192 (ρ x) (ρ y) := zqav _ ρ d x y t pos af g
@[go_sem high] theorem zrlm (ρ : Operand -> Value) (d : Option Tmp) (x y : Operand) (t : TypeId) (pos : String) (af : Array Edge) (g : Option (Nat × Bool)) :
  execOp ρ ⟨d, .store 192 x y, t, pos, af, g⟩ = zqv 192 (ρ x) (ρ y) := zqav _ ρ d x y t pos af g
@[go_sem] theorem zrel (g : Nat) (cs : Array Value) (w : World) : (zqv 192 (.pointer (some ⟨g, 0, none⟩)) (.agg cs)).run Tryz.prog w = (zqaq Tryz.prog 192 g 8 (.agg cs) w (zqd w g)).andThen fun _ w' => .ok .skip w' := by
 rw [zqae, zqbf zqb g cs w]
@[go_sem] theorem zrcg (g : Nat) (w : World) (old cs : Array Value) (t' : TypeId) (h1 : old.size = 8) (h2 : cs.size = 8) (h3 : zqai cs = true) :
  zqaq Tryz.prog 192 g 8 (.agg cs) w (some (.cells old t' (0, 0))) = .ok () (w.setRow g cs) := zqas old cs t' h1 h2 h3
@[go_sem high] theorem zrn0 (w : World) : (zeroValue 192).run Tryz.prog w = .ok (.agg (ints .u32 8 zqe)) w := by kernel_rfl
@[go_sem ↓ high] theorem zroh (w : World) : (zeroValue 192).run Tryz.prog w = .ok (.agg (ints .u32 8 zqe)) w := by kernel_rfl
@[go_sem] theorem zrl1 (k' : IntKind) (f : Nat -> Int) (j : Int) (w : World) (h0 : 0 <= j) (h1 : j < 8) : (Instr.index 192 (.agg (ints .u32 8 f)) (.int k' j)).run Tryz.prog w = .ok (.int .u32 (f j.toNat)) w :=
 zqby w .u32 k' f j Tryz.underlying192 Tryz.underlying22 (i := (Tryz.prog.info? 22).get zqb) zqb zqb h0 h1
@[go_sem high] theorem zrqq (f g : Nat -> Int) (w : World) : (binOp .eql 192 (.agg (ints .u32 8 f)) (.agg (ints .u32 8 g))).run Tryz.prog w = .ok (.bool (same 8 f g)) w :=
 zqcn w .u32 f g Tryz.underlying192 Tryz.underlying22 (i := (Tryz.prog.info? 22).get zqb) zqb zqb
@[go_sem high] theorem zrql (f g : Nat -> Int) (w : World) : (binOp .neq 192 (.agg (ints .u32 8 f)) (.agg (ints .u32 8 g))).run Tryz.prog w = .ok (.bool (!same 8 f g)) w :=
 zqcl w .u32 f g Tryz.underlying192 Tryz.underlying22 (i := (Tryz.prog.info? 22).get zqb) zqb zqb
@[go_sem ↓ high] theorem zrna (ρ : Operand -> Value) (d : Option Tmp) (x : Operand) (t : TypeId) (pos : String) (af : Array Edge) (g : Option (Nat × Bool)) :
  execOp ρ ⟨d, .load 193 x, t, pos, af, g⟩ = zqp 193 (ρ x) := zqa4 _ ρ d x t pos af g
@[go_sem high] theorem zrku (ρ : Operand -> Value) (d : Option Tmp) (x : Operand) (t : TypeId) (pos : String) (af : Array Edge) (g : Option (Nat × Bool)) :
  execOp ρ ⟨d, .load 193 x, t, pos, af, g⟩ = zqp 193 (ρ x) := zqa4 _ ρ d x t pos af g
@[go_sem] theorem zre3 (g : Nat) (w : World) : (zqp 193 (.pointer (some ⟨g, 0, none⟩))).run Tryz.prog w = (zqa0 Tryz.prog 193 g 64 w (zqd w g)).andThen fun v w' => .ok (.value v) w' := by
 rw [zq6, zqbh Tryz.underlying193 rfl zqb g w]
@[go_sem] theorem zrek (g : Nat) (w : World) (cs : Array Value) (t' : TypeId) (fr : Nat × Nat) (h : cs.size = 64) : zqa0 Tryz.prog 193 g 64 w (some (.cells cs t' fr)) = .ok (.agg cs) w := zqat cs t' fr h
@[go_sem ↓ high] theorem zrj4 (ρ : Operand -> Value) (d : Option Tmp) (x y : Operand) (t : TypeId) (pos : String) (af : Array Edge) (g : Option (Nat × Bool)) :
  execOp ρ ⟨d, .store 193 x y, t, pos, af, g⟩ = zqv 193 (ρ x) (ρ y) := zqav _ ρ d x y t pos af g
@[go_sem high] theorem zrgw (ρ : Operand -> Value) (d : Option Tmp) (x y : Operand) (t : TypeId) (pos : String) (af : Array Edge) (g : Option (Nat × Bool)) :
  execOp ρ ⟨d, .store 193 x y, t, pos, af, g⟩ = zqv 193 (ρ x) (ρ y) := zqav _ ρ d x y t pos af g
@[go_sem] theorem zra1 (g : Nat) (cs : Array Value) (w : World) : (zqv 193 (.pointer (some ⟨g, 0, none⟩)) (.agg cs)).run Tryz.prog w = (zqaq Tryz.prog 193 g 64 (.agg cs) w (zqd w g)).andThen fun _ w' => .ok .skip w' := by
 rw [zqae, zqbf zqb g cs w]
@[go_sem] theorem zrbw (g : Nat) (w : World) (old cs : Array Value) (t' : TypeId) (h1 : old.size = 64) (h2 : cs.size = 64) (h3 : zqai cs = true) :
  zqaq Tryz.prog 193 g 64 (.agg cs) w (some (.cells old t' (0, 0))) = .ok () (w.setRow g cs) := zqas old cs t' h1 h2 h3
@[go_sem high] theorem zrji (w : World) : (zeroValue 193).run Tryz.prog w = .ok (.agg (ints .u8 64 zqe)) w := by kernel_rfl
@[go_sem ↓ high] theorem zrmt (w : World) : (zeroValue 193).run Tryz.prog w = .ok (.agg (ints .u8 64 zqe)) w := by kernel_rfl
@[go_sem] theorem zrjj (k' : IntKind) (f : Nat -> Int) (j : Int) (w : World) (h0 : 0 <= j) (h1 : j < 64) : (Instr.index 193 (.agg (ints .u8 64 f)) (.int k' j)).run Tryz.prog w = .ok (.int .u8 (f j.toNat)) w :=
 zqby w .u8 k' f j Tryz.underlying193 Tryz.underlying5 (i := (Tryz.prog.info? 5).get zqb) zqb zqb h0 h1
@[go_sem high] theorem zrov (f g : Nat -> Int) (w : World) : (binOp .eql 193 (.agg (ints .u8 64 f)) (.agg (ints .u8 64 g))).run Tryz.prog w = .ok (.bool (same 64 f g)) w :=
 zqcn w .u8 f g Tryz.underlying193 Tryz.underlying5 (i := (Tryz.prog.info? 5).get zqb) zqb zqb
@[go_sem high] theorem zrph (f g : Nat -> Int) (w : World) : (binOp .neq 193 (.agg (ints .u8 64 f)) (.agg (ints .u8 64 g))).run Tryz.prog w = .ok (.bool (!same 64 f g)) w :=
 zqcl w .u8 f g Tryz.underlying193 Tryz.underlying5 (i := (Tryz.prog.info? 5).get zqb) zqb zqb
@[go_sem ↓ high] theorem zrmp (ρ : Operand -> Value) (d : Option Tmp) (x : Operand) (t : TypeId) (pos : String) (af : Array Edge) (g : Option (Nat × Bool)) :
  execOp ρ ⟨d, .load 253 x, t, pos, af, g⟩ = zqp 253 (ρ x) := zqa4 _ ρ d x t pos af g
@[go_sem high] theorem zrjb (ρ : Operand -> Value) (d : Option Tmp) (x : Operand) (t : TypeId) (pos : String) (af : Array Edge) (g : Option (Nat × Bool)) :
  execOp ρ ⟨d, .load 253 x, t, pos, af, g⟩ = zqp 253 (ρ x) := zqa4 _ ρ d x t pos af g
@[go_sem] theorem zrff (g : Nat) (w : World) : (zqp 253 (.pointer (some ⟨g, 0, none⟩))).run Tryz.prog w = (zqa0 Tryz.prog 253 g 64 w (zqd w g)).andThen fun v w' => .ok (.value v) w' := by
 rw [zq6, zqbh Tryz.underlying253 rfl zqb g w]
@[go_sem] theorem zrd2 (g : Nat) (w : World) (cs : Array Value) (t' : TypeId) (fr : Nat × Nat) (h : cs.size = 64) : zqa0 Tryz.prog 253 g 64 w (some (.cells cs t' fr)) = .ok (.agg cs) w := zqat cs t' fr h
@[go_sem ↓ high] theorem zriw (ρ : Operand -> Value) (d : Option Tmp) (x y : Operand) (t : TypeId) (pos : String) (af : Array Edge) (g : Option (Nat × Bool)) :
  execOp ρ ⟨d, .store 253 x y, t, pos, af, g⟩ = zqv 253 (ρ x) (ρ y) := zqav _ ρ d x y t pos af g
@[go_sem high] theorem zrg6 (ρ : Operand -> Value) (d : Option Tmp) (x y : Operand) (t : TypeId) (pos : String) (af : Array Edge) (g : Option (Nat × Bool)) :
  execOp ρ ⟨d, .store 253 x y, t, pos, af, g⟩ = zqv 253 (ρ x) (ρ y) := zqav _ ρ d x y t pos af g
@[go_sem] theorem zraz (g : Nat) (cs : Array Value) (w : World) : (zqv 253 (.pointer (some ⟨g, 0, none⟩)) (.agg cs)).run Tryz.prog w = (zqaq Tryz.prog 253 g 64 (.agg cs) w (zqd w g)).andThen fun _ w' => .ok .skip w' := by
 rw [zqae, zqbf zqb g cs w]
@[go_sem] theorem zq92 (g : Nat) (w : World) (old cs : Array Value) (t' : TypeId) (h1 : old.size = 64) (h2 : cs.size = 64) (h3 : zqai cs = true) :
  zqaq Tryz.prog 253 g 64 (.agg cs) w (some (.cells old t' (0, 0))) = .ok () (w.setRow g cs) := zqas old cs t' h1 h2 h3
@[go_sem high] theorem zri4 (w : World) : (zeroValue 253).run Tryz.prog w = .ok (.agg (ints .u32 64 zqe)) w := by kernel_rfl
@[go_sem ↓ high] theorem zrmh (w : World) : (zeroValue 253).run Tryz.prog w = .ok (.agg (ints .u32 64 zqe)) w := by kernel_rfl
@[go_sem] theorem zrk9 (k' : IntKind) (f : Nat -> Int) (j : Int) (w : World) (h0 : 0 <= j) (h1 : j < 64) : (Instr.index 253 (.agg (ints .u32 64 f)) (.int k' j)).run Tryz.prog w = .ok (.int .u32 (f j.toNat)) w :=
 zqby w .u32 k' f j Tryz.underlying253 Tryz.underlying22 (i := (Tryz.prog.info? 22).get zqb) zqb zqb h0 h1
@[go_sem high] theorem zro9 (f g : Nat -> Int) (w : World) : (binOp .eql 253 (.agg (ints .u32 64 f)) (.agg (ints .u32 64 g))).run Tryz.prog w = .ok (.bool (same 64 f g)) w :=
 zqcn w .u32 f g Tryz.underlying253 Tryz.underlying22 (i := (Tryz.prog.info? 22).get zqb) zqb zqb
@[go_sem high] theorem zrok (f g : Nat -> Int) (w : World) : (binOp .neq 253 (.agg (ints .u32 64 f)) (.agg (ints .u32 64 g))).run Tryz.prog w = .ok (.bool (!same 64 f g)) w :=
 zqcl w .u32 f g Tryz.underlying253 Tryz.underlying22 (i := (Tryz.prog.info? 22).get zqb) zqb zqb
@[go_sem ↓ high] theorem zroa (ρ : Operand -> Value) (d : Option Tmp) (x : Operand) (t : TypeId) (pos : String) (af : Array Edge) (g : Option (Nat × Bool)) :
  execOp ρ ⟨d, .load 149 x, t, pos, af, g⟩ = zqp 149 (ρ x) := zqa4 _ ρ d x t pos af g
@[go_sem high] theorem zrnd (ρ : Operand -> Value) (d : Option Tmp) (x : Operand) (t : TypeId) (pos : String) (af : Array Edge) (g : Option (Nat × Bool)) :
  execOp ρ ⟨d, .load 149 x, t, pos, af, g⟩ = zqp 149 (ρ x) := zqa4 _ ρ d x t pos af g
@[go_sem] theorem zrh7 (g : Nat) (w : World) : (zqp 149 (.pointer (some ⟨g, 0, none⟩))).run Tryz.prog w = (zqa0 Tryz.prog 149 g 8 w (zqd w g)).andThen fun v w' => .ok (.value v) w' := by
 rw [zq6, zqbh Tryz.underlying149 rfl zqb g w]
@[go_sem] theorem zrhz (g : Nat) (w : World) (cs : Array Value) (t' : TypeId) (fr : Nat × Nat) (h : cs.size = 8) : zqa0 Tryz.prog 149 g 8 w (some (.cells cs t' fr)) = .ok (.agg cs) w := zqat cs t' fr h
@[go_sem ↓ high] theorem zrmx (ρ : Operand -> Value) (d : Option Tmp) (x y : Operand) (t : TypeId) (pos : String) (af : Array Edge) (g : Option (Nat × Bool)) :
  execOp ρ ⟨d, .store 149 x y, t, pos, af, g⟩ = zqv 149 (ρ x) (ρ y) := zqav _ ρ d x y t pos af g
@[go_sem high] theorem zrkn (ρ : Operand -> Value) (d : Option Tmp) (x y : Operand) (t : TypeId) (pos : String) (af : Array Edge) (g : Option (Nat × Bool)) :
  execOp ρ ⟨d, .store 149 x y, t, pos, af, g⟩ = zqv 149 (ρ x) (ρ y) := zqav _ ρ d x y t pos af g
@[go_sem] theorem zrfg (g : Nat) (cs : Array Value) (w : World) : (zqv 149 (.pointer (some ⟨g, 0, none⟩)) (.agg cs)).run Tryz.prog w = (zqaq Tryz.prog 149 g 8 (.agg cs) w (zqd w g)).andThen fun _ w' => .ok .skip w' := by
 rw [zqae, zqbf zqb g cs w]
@[go_sem] theorem zrcn (g : Nat) (w : World) (old cs : Array Value) (t' : TypeId) (h1 : old.size = 8) (h2 : cs.size = 8) (h3 : zqai cs = true) :
  zqaq Tryz.prog 149 g 8 (.agg cs) w (some (.cells old t' (0, 0))) = .ok () (w.setRow g cs) := zqas old cs t' h1 h2 h3
@[go_sem high] theorem zrm3 (w : World) : (zeroValue 149).run Tryz.prog w = .ok (.agg (ints .u8 8 zqe)) w := by kernel_rfl
@[go_sem ↓ high] theorem zrpc (w : World) : (zeroValue 149).run Tryz.prog w = .ok (.agg (ints .u8 8 zqe)) w := by kernel_rfl
@[go_sem] theorem zrmn (k' : IntKind) (f : Nat -> Int) (j : Int) (w : World) (h0 : 0 <= j) (h1 : j < 8) : (Instr.index 149 (.agg (ints .u8 8 f)) (.int k' j)).run Tryz.prog w = .ok (.int .u8 (f j.toNat)) w :=
 zqby w .u8 k' f j Tryz.underlying149 Tryz.underlying5 (i := (Tryz.prog.info? 5).get zqb) zqb zqb h0 h1
@[go_sem high] theorem zrqo (f g : Nat -> Int) (w : World) : (binOp .eql 149 (.agg (ints .u8 8 f)) (.agg (ints .u8 8 g))).run Tryz.prog w = .ok (.bool (same 8 f g)) w :=
 zqcn w .u8 f g Tryz.underlying149 Tryz.underlying5 (i := (Tryz.prog.info? 5).get zqb) zqb zqb
@[go_sem high] theorem zrqm (f g : Nat -> Int) (w : World) : (binOp .neq 149 (.agg (ints .u8 8 f)) (.agg (ints .u8 8 g))).run Tryz.prog w = .ok (.bool (!same 8 f g)) w :=
 zqcl w .u8 f g Tryz.underlying149 Tryz.underlying5 (i := (Tryz.prog.info? 5).get zqb) zqb zqb
@[go_sem ↓ high] theorem zrkr (ρ : Operand -> Value) (d : Option Tmp) (x : Operand) (t : TypeId) (pos : String) (af : Array Edge) (g : Option (Nat × Bool)) :
  execOp ρ ⟨d, .load 195 x, t, pos, af, g⟩ = zqp 195 (ρ x) := zqa4 _ ρ d x t pos af g
@[go_sem high] theorem zrh0 (ρ : Operand -> Value) (d : Option Tmp) (x : Operand) (t : TypeId) (pos : String) (af : Array Edge) (g : Option (Nat × Bool)) :
  execOp ρ ⟨d, .load 195 x, t, pos, af, g⟩ = zqp 195 (ρ x) := zqa4 _ ρ d x t pos af g
@[go_sem] theorem zq9z (g : Nat) (w : World) : (zqp 195 (.pointer (some ⟨g, 0, none⟩))).run Tryz.prog w = (zqa0 Tryz.prog 195 g 73 w (zqd w g)).andThen fun v w' => .ok (.value v) w' := by
 rw [zq6, zqbh Tryz.underlying195 rfl zqb g w]
@[go_sem] theorem zrba (g : Nat) (w : World) (cs : Array Value) (t' : TypeId) (fr : Nat × Nat) (h : cs.size = 73) : zqa0 Tryz.prog 195 g 73 w (some (.cells cs t' fr)) = .ok (.agg cs) w := zqat cs t' fr h
@[go_sem ↓ high] theorem zrhh (ρ : Operand -> Value) (d : Option Tmp) (x y : Operand) (t : TypeId) (pos : String) (af : Array Edge) (g : Option (Nat × Bool)) :
  execOp ρ ⟨d, .store 195 x y, t, pos, af, g⟩ = zqv 195 (ρ x) (ρ y) := zqav _ ρ d x y t pos af g
@[go_sem high] theorem zrce (ρ : Operand -> Value) (d : Option Tmp) (x y : Operand) (t : TypeId) (pos : String) (af : Array Edge) (g : Option (Nat × Bool)) :
  execOp ρ ⟨d, .store 195 x y, t, pos, af, g⟩ = zqv 195 (ρ x) (ρ y) := zqav _ ρ d x y t pos af g
@[go_sem] theorem zq55 (g : Nat) (cs : Array Value) (w : World) : (zqv 195 (.pointer (some ⟨g, 0, none⟩)) (.agg cs)).run Tryz.prog w = (zqaq Tryz.prog 195 g 73 (.agg cs) w (zqd w g)).andThen fun _ w' => .ok .skip w' := by
 rw [zqae, zqbf zqb g cs w]
@[go_sem] theorem zq8e (g : Nat) (w : World) (old cs : Array Value) (t' : TypeId) (h1 : old.size = 73) (h2 : cs.size = 73) (h3 : zqai cs = true) :
  zqaq Tryz.prog 195 g 73 (.agg cs) w (some (.cells old t' (0, 0))) = .ok () (w.setRow g cs) := zqas old cs t' h1 h2 h3
def zqa1 (A R : Nat -> Int) (n : Int) : Array Value := (ints .u32 8 A ++ ints .u8 64 R).push (.int .u64 n)
@[go_sem] theorem zqbi (A R : Nat -> Int) (n : Int) : (zqa1 A R n).size = 73 := by simp [zqa1, zqj]
@[go_sem] theorem zq45 (A R : Nat -> Int) (n : Int) : zqai (zqa1 A R n) = true := by
 have h1 := zqdn .u32 8 A;have h2 := zqdn .u8 64 R;unfold zqai at *;unfold zqa1;rw [Array.all_push, Array.all_append, h1, h2]
 rfl
@[go_sem] theorem zqm0 (A R : Nat -> Int) (n : Int) : (zqa1 A R n)[72]? = some (.int .u64 n) := by
 unfold zqa1;rw [Array.getElem?_push, if_pos (by simp [zqj])]
@[go_sem] theorem zrl7 (A R : Nat -> Int) (n : Int) (h : 72 < (zqa1 A R n).size) : (zqa1 A R n)[72] = .int .u64 n := by
 have := zqm0 A R n;rw [Array.getElem?_eq_getElem h] at this;exact Option.some.inj this
@[go_sem] theorem zqkt (A R : Nat -> Int) (n : Int) (i : Nat) (h : i < 8) : (zqa1 A R n)[i]? = some (.int .u32 (A i)) := by
 unfold zqa1;rw [Array.getElem?_push, if_neg (by simp [zqj]; omega), Array.getElem?_append_left (by rw [zqj]; exact h), zqal _ _ _ _ h]
@[go_sem] theorem zrml (A R : Nat -> Int) (n : Int) (i : Nat) (h : i < 8) (h' : i < (zqa1 A R n).size) : (zqa1 A R n)[i] = .int .u32 (A i) := by
 have := zqkt A R n i h;rw [Array.getElem?_eq_getElem h'] at this;exact Option.some.inj this
theorem zqjy (A R : Nat -> Int) (n : Int) (i : Nat) (h : i < 64) : (zqa1 A R n)[8 + i]? = some (.int .u8 (R i)) := by
 unfold zqa1;rw [Array.getElem?_push, if_neg (by simp [zqj]; omega), Array.getElem?_append_right (by rw [zqj]; omega), zqj, show 8 + i - 8 = i by omega, zqal _ _ _ _ h]
theorem zqje {cs : Array Value} {A R : Nat -> Int} {n : Int} (hs : cs.size = 73) (ha : ∀ i, i < 8 -> cs[i]? = some (.int .u32 (A i))) (hr : ∀ i, i < 64 -> cs[8 + i]? = some (.int .u8 (R i))) (hn : cs[72]? = some (.int .u64 n)) : cs = zqa1 A R n := by
 apply Array.ext_getElem?
 intro i
 rcases (by omega : i < 8 \/ (8 <= i /\ i < 72) \/ i = 72 \/ 73 <= i) with h | h | h | h
 ·rw [ha i h, zqkt _ _ _ _ h]
 ·have := hr (i - 8) (by omega)
  have h2 := zqjy A R n (i - 8) (by omega);rw [show 8 + (i - 8) = i by omega] at this h2;rw [this, h2]
 ·subst h; rw [hn, zqm0]
 ·rw [Array.getElem?_eq_none (by omega), Array.getElem?_eq_none (by rw [zqbi]; omega)]
theorem zqii {A A' R R' : Nat -> Int} {n : Int} (ha : ∀ i, i < 8 -> A i = A' i) (hr : ∀ i, i < 64 -> R i = R' i) : zqa1 A R n = zqa1 A' R' n := by
 unfold zqa1;rw [zqbr ha, zqbr hr]
@[go_sem] theorem zrg2 (A R : Nat -> Int) (n m : Int) : (zqa1 A R n).setIfInBounds 72 (.int .u64 m) = zqa1 A R m := by
 refine zqje (by simp [zqbi]) (fun i hi => ?_) (fun i hi => ?_) ?_
 ·rw [Array.getElem?_setIfInBounds, if_neg (by omega), zqkt _ _ _ _ hi]
 ·rw [Array.getElem?_setIfInBounds, if_neg (by omega), zqjy _ _ _ _ hi]
 ·rw [Array.getElem?_setIfInBounds, if_pos rfl, zqbi]; rfl
@[go_sem high] theorem zrgs (w : World) : (zeroValue 195).run Tryz.prog w = .ok (.agg (zqa1 zqe zqe 0)) w := by kernel_rfl
@[go_sem ↓ high] theorem zrkc (w : World) : (zeroValue 195).run Tryz.prog w = .ok (.agg (zqa1 zqe zqe 0)) w := by kernel_rfl
theorem zrot (A R : Nat -> Int) (n : Int) : (zqa1 A R n).extract 0 8 = ints .u32 8 A := by
 apply Array.ext_getElem?
 intro i
 by_cases h : i < 8
 ·rw [zqal _ _ _ _ h, Array.getElem?_extract, if_pos (by rw [zqbi]; omega), Nat.zero_add, zqkt _ _ _ _ h]
 ·rw [Array.getElem?_eq_none (by simp [zqbi]; omega), Array.getElem?_eq_none (by rw [zqj]; omega)]
theorem zrob (A R : Nat -> Int) (n : Int) : (zqa1 A R n).extract 8 (8 + 64) = ints .u8 64 R := by
 apply Array.ext_getElem?
 intro i
 by_cases h : i < 64
 ·rw [zqal _ _ _ _ h, Array.getElem?_extract, if_pos (by rw [zqbi]; omega), zqjy _ _ _ _ h]
 ·rw [Array.getElem?_eq_none (by simp [zqbi]; omega), Array.getElem?_eq_none (by rw [zqj]; omega)]
theorem zqgb (vs : List Value) : ∀ (o : Nat) (A : Array Value), (zqb4 A o vs).size = A.size := by
 induction vs with
 | nil => intro o A; rfl
 | cons v r ih => intro o A; simp [zqb4, ih]
theorem zqhm (vs : List Value) : ∀ (o : Nat) (A : Array Value) (i : Nat), o + vs.length <= A.size -> (zqb4 A o vs)[i]? = if o <= i /\ i < o + vs.length then vs[i - o]? else A[i]? := by
 induction vs with
 | nil => intro o A i _; simp [zqb4]; omega
 | cons v r ih =>
  intro o A i hs
  simp only [List.length_cons] at hs
  have hs' : o + 1 + r.length <= (A.setIfInBounds o v).size := by simp; omega
  simp only [zqb4, List.length_cons]
  rw [ih (o + 1) _ i hs']
  by_cases h1 : o + 1 <= i /\ i < o + 1 + r.length
  ·rw [if_pos h1, if_pos (by omega), show i - o = (i - (o + 1)) + 1 by omega, List.getElem?_cons_succ]
  ·rw [if_neg h1, Array.getElem?_setIfInBounds]
   by_cases h2 : o = i
   ·subst h2
    rw [if_pos rfl, if_pos (by omega), if_pos (by omega), Nat.sub_self, List.getElem?_cons_zero]
   ·rw [if_neg h2, if_neg (by omega)]
theorem zrp6 (A R A' : Nat -> Int) (n : Int) : zqb4 (zqa1 A R n) 0 (ints .u32 8 A').toList = zqa1 A' R n := by
 have hl : (ints .u32 8 A').toList.length = 8 := by simp [zqj]
 refine zqje (by rw [zqgb, zqbi]) (fun i hi => ?_) (fun i hi => ?_) ?_ <;> rw [zqhm _ _ _ _ (by rw [hl, zqbi]; omega), hl]
 ·rw [if_pos (by omega), Nat.sub_zero, Array.getElem?_toList, zqal _ _ _ _ hi]
 ·rw [if_neg (by omega), zqjy _ _ _ _ hi]
 ·rw [if_neg (by omega), zqm0]
theorem zrpe (A R R' : Nat -> Int) (n : Int) : zqb4 (zqa1 A R n) 8 (ints .u8 64 R').toList = zqa1 A R' n := by
 have hl : (ints .u8 64 R').toList.length = 64 := by simp [zqj]
 refine zqje (by rw [zqgb, zqbi]) (fun i hi => ?_) (fun i hi => ?_) ?_ <;> rw [zqhm _ _ _ _ (by rw [hl, zqbi]; omega), hl]
 ·rw [if_neg (by omega), zqkt _ _ _ _ hi]
 ·rw [if_pos (by omega), Nat.add_sub_cancel_left, Array.getElem?_toList, zqal _ _ _ _ hi]
 ·rw [if_neg (by omega), zqm0]
@[go_sem] theorem zrdy (g : Nat) (w : World) (A R : Nat -> Int) (n : Int) (t' : TypeId) (fr : Nat × Nat) : zqa0 Tryz.prog 192 g 8 w (some (.cells (zqa1 A R n) t' fr)) = .ok (.agg (ints .u32 8 A)) w := by
 unfold zqa0
 simp only [zqbi]
 rw [if_neg (by decide), if_pos (by decide), zrot]
@[go_sem] theorem zrbh (g : Nat) (w : World) (A R A' : Nat -> Int) (n : Int) (t' : TypeId) : zqaq Tryz.prog 192 g 8 (.agg (ints .u32 8 A')) w (some (.cells (zqa1 A R n) t' (0, 0))) = .ok () (w.setRow g (zqa1 A' R n)) := by
 unfold zqaq
 simp only [zqbi, zqj]
 rw [if_neg (fun h => absurd h.1 (by decide)), if_pos ⟨by decide, by trivial, zqdn _ _ _⟩, zrp6]
@[go_sem] theorem zrbj (g : Nat) (w : World) : (zqp 193 (.pointer (some ⟨g, 8, none⟩))).run Tryz.prog w = (zqao Tryz.prog 193 g 8 64 w (zqd w g)).andThen fun v w' => .ok (.value v) w' := by
 rw [zq6, zqca Tryz.underlying193 rfl zqb g 8 w]
@[go_sem] theorem zrfs (g : Nat) (w : World) (A R : Nat -> Int) (n : Int) (t' : TypeId) (fr : Nat × Nat) : zqao Tryz.prog 193 g 8 64 w (some (.cells (zqa1 A R n) t' fr)) = .ok (.agg (ints .u8 64 R)) w := by
 unfold zqao
 simp only [zqbi]
 rw [if_pos (by decide), zrob]
@[go_sem] theorem zq7s (g : Nat) (cs : Array Value) (w : World) : (zqv 193 (.pointer (some ⟨g, 8, none⟩)) (.agg cs)).run Tryz.prog w = (zqb0 Tryz.prog 193 g 8 64 (.agg cs) w (zqd w g)).andThen fun _ w' => .ok .skip w' := by
 rw [zqae, zqd3 zqb g 8 cs w]
@[go_sem] theorem zrbk (g : Nat) (w : World) (A R R' : Nat -> Int) (n : Int) (t' : TypeId) : zqb0 Tryz.prog 193 g 8 64 (.agg (ints .u8 64 R')) w (some (.cells (zqa1 A R n) t' (0, 0))) = .ok () (w.setRow g (zqa1 A R' n)) := by
 unfold zqb0
 simp only [zqbi, zqj]
 rw [if_pos ⟨by decide, by trivial, zqdn _ _ _⟩, zrpe]
attribute [irreducible] zqa1
def zras (a b c d e f g h : Int) : Nat -> Int := fun i => [a, b, c, d, e, f, g, h].getD i 0
def zqfw (a b c d e f g h : Value) : Sem Next := do pure (.value (<- Instr.build 192 #[(0, a), (1, b), (2, c), (3, d), (4, e), (5, f), (6, g), (7, h)]))
@[go_sem ↓ high] theorem zrnv (ρ : Operand -> Value) (dd : Option Tmp) (a b c d e f g h : Operand) (t : TypeId) (pos : String) (af : Array Edge) (gg : Option (Nat × Bool)) :
  execOp ρ ⟨dd, .build 192 #[(0, a), (1, b), (2, c), (3, d), (4, e), (5, f), (6, g), (7, h)], t, pos, af, gg⟩ = zqfw (ρ a) (ρ b) (ρ c) (ρ d) (ρ e) (ρ f) (ρ g) (ρ h) := by simp [execOp, zqfw]
@[go_sem high] theorem zrlw (ρ : Operand -> Value) (dd : Option Tmp) (a b c d e f g h : Operand) (t : TypeId) (pos : String) (af : Array Edge) (gg : Option (Nat × Bool)) :
  execOp ρ ⟨dd, .build 192 #[(0, a), (1, b), (2, c), (3, d), (4, e), (5, f), (6, g), (7, h)], t, pos, af, gg⟩ = zqfw (ρ a) (ρ b) (ρ c) (ρ d) (ρ e) (ρ f) (ρ g) (ρ h) := by simp [execOp, zqfw]
@[go_sem] theorem zrih (a b c d e f g h : Int) (w : World) : (zqfw (.int .u32 a) (.int .u32 b) (.int .u32 c) (.int .u32 d) (.int .u32 e) (.int .u32 f) (.int .u32 g) (.int .u32 h)).run Tryz.prog w = .ok (.value (.agg (ints .u32 8 (zras a b c d e f g h)))) w := by kernel_rfl
attribute [irreducible] zqfw
def zqb6 (ty : TypeId) : Sem Next := do pure (.value (<- Instr.build ty #[]))
@[go_sem ↓ high] theorem zrn5 (ty : TypeId) (ρ : Operand -> Value) (dd : Option Tmp) (t : TypeId) (pos : String) (af : Array Edge) (gg : Option (Nat × Bool)) :
  execOp ρ ⟨dd, .build ty #[], t, pos, af, gg⟩ = zqb6 ty := by simp [execOp, zqb6]
@[go_sem high] theorem zrnx (ty : TypeId) (ρ : Operand -> Value) (dd : Option Tmp) (t : TypeId) (pos : String) (af : Array Edge) (gg : Option (Nat × Bool)) :
  execOp ρ ⟨dd, .build ty #[], t, pos, af, gg⟩ = zqb6 ty := by simp [execOp, zqb6]
@[go_sem] theorem zrj8 (w : World) : (zqb6 195).run Tryz.prog w = .ok (.value (.agg (zqa1 zqe zqe 0))) w := by kernel_rfl
@[go_sem] theorem zrl2 (w : World) : (zqb6 193).run Tryz.prog w = .ok (.value (.agg (ints .u8 64 zqe))) w := by kernel_rfl
@[go_sem] theorem zrmw (w : World) : (zqb6 44).run Tryz.prog w = .ok (.value (.agg (ints .u8 32 zqe))) w := by kernel_rfl
attribute [irreducible] zqb6
end Go.Proofs.YtnjghcnhcbobhaaGreatDoor
namespace Go.Proofs.YtnjghcnhcbobhaaGreatDoor
open Go.RowKit
attribute [go_sem] setRow_setRow
theorem zq23 {t e : TypeId} {n : Nat} {k : IntKind} (w : World) (g o r : Nat) (ht : Tryz.prog.underlying t = some (.array (Tryz.prog.arrayLen t) (Tryz.prog.elem t))) (hn : Tryz.prog.arrayLen t = n) (hs : (sizeOf (Tryz.prog.elem t)).run Tryz.prog w = .ok 1 w) (hr : r < n) :
  (Instr.sliceAt t (.pointer (some ⟨g, o, none⟩)) (some (.int k r)) none none).run Tryz.prog w = .ok (.slice (some ⟨g, o + r, none⟩) (n - r) (n - r)) w := by
 rw [run_sliceAt_array_l w t _ ht k r (by omega) (by omega), hs, Result.andThen_ok, hn];unfold slicedAt;have e : (⟨g, o, none⟩ : Addr).add (r * 1) = ⟨g, o + r, none⟩ := by unfold Addr.add; split <;> simp_all
 rw [if_neg (by omega), show ((r : Int)).toNat = r by omega, e]
@[go_sem high] theorem zriu (w : World) (g o r : Nat) (hr : r < 64) :
  (Instr.sliceAt 193 (.pointer (some ⟨g, o, none⟩)) (some (.int .i64 r)) none none).run Tryz.prog w = .ok (.slice (some ⟨g, o + r, none⟩) (64 - r) (64 - r)) w :=
 zq23 (t := 193) (e := 5) (n := 64) (k := .i64) w g o r zqb zqb zqb hr
theorem zqgi {P : Program} (w : World) (dT sT ty elem : TypeId) (g o dLen dCap m : Nat) (s : ByteArray) (cur : Array Value) (t : TypeId)
  (hu : P.underlying dT = some (.slice elem)) (hs : (P.info? elem).map (·.size) = some 1) (hg : w.heap[g]? = some (.cells cur t (0, 0))) (hm : Nat.min s.size dLen = m) (hfit : o + m <= cur.size) :
  (Builtin.copy_ #[dT, sT] ty #[.slice (some ⟨g, o, none⟩) dLen dCap, .string s]).run P w =
   .ok (goInt m) (w.setRow g (cur.toList.take o ++ (List.map (fun b : UInt8 => Value.int .u8 b.toNat) s.data.toList).take m ++ cur.toList.drop (o + m)).toArray) := by
 have hle : m <= s.size := by rw [<- hm]; exact Nat.min_le_left _ _
 have hlen : ((List.map (fun b : UInt8 => Value.int .u8 b.toNat) s.data.toList).take m).length = m := by
  rw [List.length_take, List.length_map];exact Nat.min_eq_left hle
 have hst := run_storeCells_at P g o t ((List.map (fun b : UInt8 => Value.int .u8 b.toNat) s.data.toList).take m) 0 cur w hg (by rw [hlen]; simpa using hfit) (by
  intro v hv;obtain ⟨b, _, rfl⟩ := List.mem_map.1 (List.mem_of_mem_take hv)
  rfl)
 rw [hlen] at hst
 simp only [Nat.add_zero] at hst
 cases hq : P.info? elem with
 | none => simp [hq] at hs
 | some i =>
  simp [Builtin.copy_, run_underlying hu, Builtin.lenOf, Builtin.firstCells, sizeOf, typeInfo, hq, hm]
  rw [hst]
  simp [Result.andThen]
def putT (R : Nat -> Int) (r m : Nat) (s : ByteArray) : Nat -> Int := fun i => if r <= i /\ i < r + m then byteAt s (i - r) else R i
def zqez (ats : Array TypeId) (ty : TypeId) (args : Array Value) : Sem Next := do pure (.value (<- Builtin.copy_ ats ty args))
def zqnb (P : Program) (ty : TypeId) (g o L C : Nat) (s : ByteArray) (w : World) : Option Obj -> Result Next
 | _ => (zqez #[144, 9] ty #[.slice (some ⟨g, o, none⟩) L C, .string s]).run P w
@[go_sem ↓ high] theorem zrgy (ty : TypeId) (cs : Array Bool) (args : Array Value) : builtin .copy #[144, 9] ty cs args = zqez #[144, 9] ty args := by unfold zqez; rfl
@[go_sem] theorem zq8g (ty : TypeId) (g o L C : Nat) (s : ByteArray) (w : World) : (zqez #[144, 9] ty #[.slice (some ⟨g, o, none⟩) L C, .string s]).run Tryz.prog w = zqnb Tryz.prog ty g o L C s w (zqd w g) := rfl
@[go_sem] theorem zres (ty : TypeId) (g r C : Nat) (s : ByteArray) (w : World) (A R : Nat -> Int) (n : Int) (t : TypeId) (h : zqd w g = some (.cells (zqa1 A R n) t (0, 0))) (hr : r < 64) :
  zqnb Tryz.prog ty g (8 + r) (64 - r) C s w (some (.cells (zqa1 A R n) t (0, 0))) = .ok (.value (.int .i64 (min s.size (64 - r) : Nat))) (w.setRow g (zqa1 A (putT R r (min s.size (64 - r)) s) n)) := by
 have hm : min s.size (64 - r) <= 64 - r := Nat.min_le_right _ _;have hm' : min s.size (64 - r) <= s.size := Nat.min_le_left _ _;generalize hq : min s.size (64 - r) = m at *
 show (zqez #[144, 9] ty #[.slice (some ⟨g, 8 + r, none⟩) (64 - r) C, .string s]).run Tryz.prog w = _
 unfold zqez zqd at *
 simp only [Sem.run_bind, zqgi w 144 9 ty 5 g (8 + r) (64 - r) C m s _ t Tryz.underlying144 zqb h hq (by rw [zqbi]; omega), Result.andThen_ok, Sem.run_pure]
 have e : ((zqa1 A R n).toList.take (8 + r) ++ (List.map (fun b : UInt8 => Value.int .u8 b.toNat) s.data.toList).take m ++ (zqa1 A R n).toList.drop (8 + r + m)).toArray = zqa1 A (putT R r m s) n := by
  have l1 : ((zqa1 A R n).toList.take (8 + r)).length = 8 + r := by rw [List.length_take, Array.length_toList, zqbi]; omega
  have l2 : ((List.map (fun b : UInt8 => Value.int .u8 b.toNat) s.data.toList).take m).length = m := by
   rw [List.length_take, List.length_map];exact Nat.min_eq_left hm'
  have a1 : ∀ i, i < 8 + r -> ((zqa1 A R n).toList.take (8 + r) ++ (List.map (fun b : UInt8 => Value.int .u8 b.toNat) s.data.toList).take m ++ (zqa1 A R n).toList.drop (8 + r + m))[i]? = (zqa1 A R n)[i]? := fun i hi => by
   rw [List.append_assoc, List.getElem?_append_left (by omega), List.getElem?_take_of_lt hi, Array.getElem?_toList]
  have a2 : ∀ i, i < m -> ((zqa1 A R n).toList.take (8 + r) ++ (List.map (fun b : UInt8 => Value.int .u8 b.toNat) s.data.toList).take m ++ (zqa1 A R n).toList.drop (8 + r + m))[8 + r + i]? = some (.int .u8 (byteAt s i)) := fun i hi => by
   rw [List.append_assoc, List.getElem?_append_right (by omega), l1, List.getElem?_append_left (by omega), show 8 + r + i - (8 + r) = i by omega, List.getElem?_take_of_lt hi, List.getElem?_map];have hs : i < s.size := by omega
   have : s.data.toList[i]? = some s[i] := by
    rw [Array.getElem?_toList];exact Array.getElem?_eq_getElem hs
   rw [this, <- zqde s i hs]
   rfl
  have a3 : ∀ i, 8 + r + m <= i -> ((zqa1 A R n).toList.take (8 + r) ++ (List.map (fun b : UInt8 => Value.int .u8 b.toNat) s.data.toList).take m ++ (zqa1 A R n).toList.drop (8 + r + m))[i]? = (zqa1 A R n)[i]? := fun i hi => by
   rw [List.getElem?_append_right (by rw [List.length_append]; omega), List.length_append, l1, l2, List.getElem?_drop, show 8 + r + m + (i - (8 + r + m)) = i by omega, Array.getElem?_toList]
  refine zqje ?_ (fun i hi => ?_) (fun i hi => ?_) ?_
  ·simp only [List.size_toArray, List.length_append, l1, l2, List.length_drop, Array.length_toList, zqbi]; omega
  ·rw [List.getElem?_toArray, a1 i (by omega), zqkt _ _ _ _ hi]
  ·rw [List.getElem?_toArray]
   unfold putT
   by_cases h1 : r <= i /\ i < r + m
   ·rw [if_pos h1, show 8 + i = 8 + r + (i - r) by omega, a2 _ (by omega)]
   ·rw [if_neg h1]
    by_cases h2 : i < r
    ·rw [a1 _ (by omega), zqjy _ _ _ _ hi]
    ·rw [a3 _ (by omega), zqjy _ _ _ _ hi]
  ·rw [List.getElem?_toArray, a3 _ (by omega), zqm0]
 rw [e]
 rfl
attribute [irreducible] zqez zqnb
end Go.Proofs.YtnjghcnhcbobhaaGreatDoor
