/- Sm -/
import Derived.Test.YtnjghcnhcbobhaaGreatDoorMem
import Derived.Test.YtnjghcnhcbobhaaGreatDoorCt
set_option linter.unusedVariables false
set_option linter.unusedSimpArgs false
namespace Go.Proofs.YtnjghcnhcbobhaaGreatDoor
open Go.RowKit
@[go_sem ↓ high] theorem zrm6 (ρ : Operand -> Value) (d : Option Tmp) (x : Operand) (t : TypeId) (pos : String) (af : Array Edge) (g : Option (Nat × Bool)) :
  execOp ρ ⟨d, .load 192 x, t, pos, af, g⟩ = zqq 192 (ρ x) := zqax _ ρ d x t pos af g
@[go_sem high] theorem zrll (ρ : Operand -> Value) (d : Option Tmp) (x : Operand) (t : TypeId) (pos : String) (af : Array Edge) (g : Option (Nat × Bool)) :
  execOp ρ ⟨d, .load 192 x, t, pos, af, g⟩ = zqq 192 (ρ x) := zqax _ ρ d x t pos af g
@[go_sem] theorem zreq (g : Nat) (w : World) : (zqq 192 (.pointer (some ⟨g, 0, none⟩))).run Tryz.prog w = (zqau Tryz.prog 192 g 8 w (zqd w g)).andThen fun v w' => .ok (.value v) w' := by
 rw [zq7, zqa6 Tryz.underlying192 rfl zqc g w]
@[go_sem] theorem zrf7 (g : Nat) (w : World) (cs : Array Value) (t' : TypeId) (fr : Nat × Nat) (h : cs.size = 8) : zqau Tryz.prog 192 g 8 w (some (.cells cs t' fr)) = .ok (.agg cs) w := zqal cs t' fr h
@[go_sem ↓ high] theorem zrli (ρ : Operand -> Value) (d : Option Tmp) (x y : Operand) (t : TypeId) (pos : String) (af : Array Edge) (g : Option (Nat × Bool)) :
  execOp ρ ⟨d, .store 192 x y, t, pos, af, g⟩ = zqu 192 (ρ x) (ρ y) := zqat _ ρ d x y t pos af g
@[go_sem high] theorem zrgv (ρ : Operand -> Value) (d : Option Tmp) (x y : Operand) (t : TypeId) (pos : String) (af : Array Edge) (g : Option (Nat × Bool)) :
  execOp ρ ⟨d, .store 192 x y, t, pos, af, g⟩ = zqu 192 (ρ x) (ρ y) := zqat _ ρ d x y t pos af g
@[go_sem] theorem zreg (g : Nat) (cs : Array Value) (w : World) : (zqu 192 (.pointer (some ⟨g, 0, none⟩)) (.agg cs)).run Tryz.prog w = (zqam Tryz.prog 192 g 8 (.agg cs) w (zqd w g)).andThen fun _ w' => .ok .skip w' := by
 rw [zqae, zqbb zqc g cs w]
@[go_sem] theorem zrdy (g : Nat) (w : World) (old cs : Array Value) (t' : TypeId) (h1 : old.size = 8) (h2 : cs.size = 8) (h3 : zqak cs = true) :
  zqam Tryz.prog 192 g 8 (.agg cs) w (some (.cells old t' (0, 0))) = .ok () (w.setRow g cs) := zqar old cs t' h1 h2 h3
@[go_sem high] theorem zrlg (w : World) : (zeroValue 192).run Tryz.prog w = .ok (.agg (ints .u32 8 zqg)) w := by kernel_rfl
@[go_sem ↓ high] theorem zrmx (w : World) : (zeroValue 192).run Tryz.prog w = .ok (.agg (ints .u32 8 zqg)) w := by kernel_rfl
@[go_sem] theorem zrlh (k' : IntKind) (f : Nat -> Int) (j : Int) (w : World) (h0 : 0 <= j) (h1 : j < 8) : (Instr.index 192 (.agg (ints .u32 8 f)) (.int k' j)).run Tryz.prog w = .ok (.int .u32 (f j.toNat)) w :=
 zqbz w .u32 k' f j Tryz.underlying192 Tryz.underlying22 (i := (Tryz.prog.info? 22).get zqc) zqc zqc h0 h1
@[go_sem high] theorem zrn4 (f g : Nat -> Int) (w : World) : (binOp .eql 192 (.agg (ints .u32 8 f)) (.agg (ints .u32 8 g))).run Tryz.prog w = .ok (.bool (same 8 f g)) w :=
 zqcn w .u32 f g Tryz.underlying192 Tryz.underlying22 (i := (Tryz.prog.info? 22).get zqc) zqc zqc
@[go_sem high] theorem zrn1 (f g : Nat -> Int) (w : World) : (binOp .neq 192 (.agg (ints .u32 8 f)) (.agg (ints .u32 8 g))).run Tryz.prog w = .ok (.bool (!same 8 f g)) w :=
 zqcq w .u32 f g Tryz.underlying192 Tryz.underlying22 (i := (Tryz.prog.info? 22).get zqc) zqc zqc
@[go_sem ↓ high] theorem zrj4 (ρ : Operand -> Value) (d : Option Tmp) (x : Operand) (t : TypeId) (pos : String) (af : Array Edge) (g : Option (Nat × Bool)) :
  execOp ρ ⟨d, .load 193 x, t, pos, af, g⟩ = zqq 193 (ρ x) := zqax _ ρ d x t pos af g
@[go_sem high] theorem zrgn (ρ : Operand -> Value) (d : Option Tmp) (x : Operand) (t : TypeId) (pos : String) (af : Array Edge) (g : Option (Nat × Bool)) :
  execOp ρ ⟨d, .load 193 x, t, pos, af, g⟩ = zqq 193 (ρ x) := zqax _ ρ d x t pos af g
@[go_sem] theorem zrdm (g : Nat) (w : World) : (zqq 193 (.pointer (some ⟨g, 0, none⟩))).run Tryz.prog w = (zqau Tryz.prog 193 g 64 w (zqd w g)).andThen fun v w' => .ok (.value v) w' := by
 rw [zq7, zqa6 Tryz.underlying193 rfl zqc g w]
@[go_sem] theorem zrad (g : Nat) (w : World) (cs : Array Value) (t' : TypeId) (fr : Nat × Nat) (h : cs.size = 64) : zqau Tryz.prog 193 g 64 w (some (.cells cs t' fr)) = .ok (.agg cs) w := zqal cs t' fr h
@[go_sem ↓ high] theorem zrhp (ρ : Operand -> Value) (d : Option Tmp) (x y : Operand) (t : TypeId) (pos : String) (af : Array Edge) (g : Option (Nat × Bool)) :
  execOp ρ ⟨d, .store 193 x y, t, pos, af, g⟩ = zqu 193 (ρ x) (ρ y) := zqat _ ρ d x y t pos af g
@[go_sem high] theorem zrfv (ρ : Operand -> Value) (d : Option Tmp) (x y : Operand) (t : TypeId) (pos : String) (af : Array Edge) (g : Option (Nat × Bool)) :
  execOp ρ ⟨d, .store 193 x y, t, pos, af, g⟩ = zqu 193 (ρ x) (ρ y) := zqat _ ρ d x y t pos af g
@[go_sem] theorem zq9z (g : Nat) (cs : Array Value) (w : World) : (zqu 193 (.pointer (some ⟨g, 0, none⟩)) (.agg cs)).run Tryz.prog w = (zqam Tryz.prog 193 g 64 (.agg cs) w (zqd w g)).andThen fun _ w' => .ok .skip w' := by
 rw [zqae, zqbb zqc g cs w]
@[go_sem] theorem zq8k (g : Nat) (w : World) (old cs : Array Value) (t' : TypeId) (h1 : old.size = 64) (h2 : cs.size = 64) (h3 : zqak cs = true) :
  zqam Tryz.prog 193 g 64 (.agg cs) w (some (.cells old t' (0, 0))) = .ok () (w.setRow g cs) := zqar old cs t' h1 h2 h3
@[go_sem high] theorem zrg2 (w : World) : (zeroValue 193).run Tryz.prog w = .ok (.agg (ints .u8 64 zqg)) w := by kernel_rfl
@[go_sem ↓ high] theorem zrkm (w : World) : (zeroValue 193).run Tryz.prog w = .ok (.agg (ints .u8 64 zqg)) w := by kernel_rfl
@[go_sem] theorem zrhd (k' : IntKind) (f : Nat -> Int) (j : Int) (w : World) (h0 : 0 <= j) (h1 : j < 64) : (Instr.index 193 (.agg (ints .u8 64 f)) (.int k' j)).run Tryz.prog w = .ok (.int .u8 (f j.toNat)) w :=
 zqbz w .u8 k' f j Tryz.underlying193 Tryz.underlying5 (i := (Tryz.prog.info? 5).get zqc) zqc zqc h0 h1
@[go_sem high] theorem zrmj (f g : Nat -> Int) (w : World) : (binOp .eql 193 (.agg (ints .u8 64 f)) (.agg (ints .u8 64 g))).run Tryz.prog w = .ok (.bool (same 64 f g)) w :=
 zqcn w .u8 f g Tryz.underlying193 Tryz.underlying5 (i := (Tryz.prog.info? 5).get zqc) zqc zqc
@[go_sem high] theorem zrmp (f g : Nat -> Int) (w : World) : (binOp .neq 193 (.agg (ints .u8 64 f)) (.agg (ints .u8 64 g))).run Tryz.prog w = .ok (.bool (!same 64 f g)) w :=
 zqcq w .u8 f g Tryz.underlying193 Tryz.underlying5 (i := (Tryz.prog.info? 5).get zqc) zqc zqc
@[go_sem ↓ high] theorem zrku (ρ : Operand -> Value) (d : Option Tmp) (x : Operand) (t : TypeId) (pos : String) (af : Array Edge) (g : Option (Nat × Bool)) :
  execOp ρ ⟨d, .load 253 x, t, pos, af, g⟩ = zqq 253 (ρ x) := zqax _ ρ d x t pos af g
@[go_sem high] theorem zrgp (ρ : Operand -> Value) (d : Option Tmp) (x : Operand) (t : TypeId) (pos : String) (af : Array Edge) (g : Option (Nat × Bool)) :
  execOp ρ ⟨d, .load 253 x, t, pos, af, g⟩ = zqq 253 (ρ x) := zqax _ ρ d x t pos af g
@[go_sem] theorem zrdo (g : Nat) (w : World) : (zqq 253 (.pointer (some ⟨g, 0, none⟩))).run Tryz.prog w = (zqau Tryz.prog 253 g 64 w (zqd w g)).andThen fun v w' => .ok (.value v) w' := by
 rw [zq7, zqa6 Tryz.underlying253 rfl zqc g w]
@[go_sem] theorem zrdp (g : Nat) (w : World) (cs : Array Value) (t' : TypeId) (fr : Nat × Nat) (h : cs.size = 64) : zqau Tryz.prog 253 g 64 w (some (.cells cs t' fr)) = .ok (.agg cs) w := zqal cs t' fr h
@[go_sem ↓ high] theorem zrip (ρ : Operand -> Value) (d : Option Tmp) (x y : Operand) (t : TypeId) (pos : String) (af : Array Edge) (g : Option (Nat × Bool)) :
  execOp ρ ⟨d, .store 253 x y, t, pos, af, g⟩ = zqu 253 (ρ x) (ρ y) := zqat _ ρ d x y t pos af g
@[go_sem high] theorem zrfi (ρ : Operand -> Value) (d : Option Tmp) (x y : Operand) (t : TypeId) (pos : String) (af : Array Edge) (g : Option (Nat × Bool)) :
  execOp ρ ⟨d, .store 253 x y, t, pos, af, g⟩ = zqu 253 (ρ x) (ρ y) := zqat _ ρ d x y t pos af g
@[go_sem] theorem zq80 (g : Nat) (cs : Array Value) (w : World) : (zqu 253 (.pointer (some ⟨g, 0, none⟩)) (.agg cs)).run Tryz.prog w = (zqam Tryz.prog 253 g 64 (.agg cs) w (zqd w g)).andThen fun _ w' => .ok .skip w' := by
 rw [zqae, zqbb zqc g cs w]
@[go_sem] theorem zq9a (g : Nat) (w : World) (old cs : Array Value) (t' : TypeId) (h1 : old.size = 64) (h2 : cs.size = 64) (h3 : zqak cs = true) :
  zqam Tryz.prog 253 g 64 (.agg cs) w (some (.cells old t' (0, 0))) = .ok () (w.setRow g cs) := zqar old cs t' h1 h2 h3
@[go_sem high] theorem zrib (w : World) : (zeroValue 253).run Tryz.prog w = .ok (.agg (ints .u32 64 zqg)) w := by kernel_rfl
@[go_sem ↓ high] theorem zrj2 (w : World) : (zeroValue 253).run Tryz.prog w = .ok (.agg (ints .u32 64 zqg)) w := by kernel_rfl
@[go_sem] theorem zrg4 (k' : IntKind) (f : Nat -> Int) (j : Int) (w : World) (h0 : 0 <= j) (h1 : j < 64) : (Instr.index 253 (.agg (ints .u32 64 f)) (.int k' j)).run Tryz.prog w = .ok (.int .u32 (f j.toNat)) w :=
 zqbz w .u32 k' f j Tryz.underlying253 Tryz.underlying22 (i := (Tryz.prog.info? 22).get zqc) zqc zqc h0 h1
@[go_sem high] theorem zrnk (f g : Nat -> Int) (w : World) : (binOp .eql 253 (.agg (ints .u32 64 f)) (.agg (ints .u32 64 g))).run Tryz.prog w = .ok (.bool (same 64 f g)) w :=
 zqcn w .u32 f g Tryz.underlying253 Tryz.underlying22 (i := (Tryz.prog.info? 22).get zqc) zqc zqc
@[go_sem high] theorem zrmc (f g : Nat -> Int) (w : World) : (binOp .neq 253 (.agg (ints .u32 64 f)) (.agg (ints .u32 64 g))).run Tryz.prog w = .ok (.bool (!same 64 f g)) w :=
 zqcq w .u32 f g Tryz.underlying253 Tryz.underlying22 (i := (Tryz.prog.info? 22).get zqc) zqc zqc
@[go_sem ↓ high] theorem zrl6 (ρ : Operand -> Value) (d : Option Tmp) (x : Operand) (t : TypeId) (pos : String) (af : Array Edge) (g : Option (Nat × Bool)) :
  execOp ρ ⟨d, .load 149 x, t, pos, af, g⟩ = zqq 149 (ρ x) := zqax _ ρ d x t pos af g
@[go_sem high] theorem zrkb (ρ : Operand -> Value) (d : Option Tmp) (x : Operand) (t : TypeId) (pos : String) (af : Array Edge) (g : Option (Nat × Bool)) :
  execOp ρ ⟨d, .load 149 x, t, pos, af, g⟩ = zqq 149 (ρ x) := zqax _ ρ d x t pos af g
@[go_sem] theorem zrey (g : Nat) (w : World) : (zqq 149 (.pointer (some ⟨g, 0, none⟩))).run Tryz.prog w = (zqau Tryz.prog 149 g 8 w (zqd w g)).andThen fun v w' => .ok (.value v) w' := by
 rw [zq7, zqa6 Tryz.underlying149 rfl zqc g w]
@[go_sem] theorem zre5 (g : Nat) (w : World) (cs : Array Value) (t' : TypeId) (fr : Nat × Nat) (h : cs.size = 8) : zqau Tryz.prog 149 g 8 w (some (.cells cs t' fr)) = .ok (.agg cs) w := zqal cs t' fr h
@[go_sem ↓ high] theorem zrkj (ρ : Operand -> Value) (d : Option Tmp) (x y : Operand) (t : TypeId) (pos : String) (af : Array Edge) (g : Option (Nat × Bool)) :
  execOp ρ ⟨d, .store 149 x y, t, pos, af, g⟩ = zqu 149 (ρ x) (ρ y) := zqat _ ρ d x y t pos af g
@[go_sem high] theorem zrjd (ρ : Operand -> Value) (d : Option Tmp) (x y : Operand) (t : TypeId) (pos : String) (af : Array Edge) (g : Option (Nat × Bool)) :
  execOp ρ ⟨d, .store 149 x y, t, pos, af, g⟩ = zqu 149 (ρ x) (ρ y) := zqat _ ρ d x y t pos af g
@[go_sem] theorem zrd0 (g : Nat) (cs : Array Value) (w : World) : (zqu 149 (.pointer (some ⟨g, 0, none⟩)) (.agg cs)).run Tryz.prog w = (zqam Tryz.prog 149 g 8 (.agg cs) w (zqd w g)).andThen fun _ w' => .ok .skip w' := by
 rw [zqae, zqbb zqc g cs w]
@[go_sem] theorem zrc3 (g : Nat) (w : World) (old cs : Array Value) (t' : TypeId) (h1 : old.size = 8) (h2 : cs.size = 8) (h3 : zqak cs = true) :
  zqam Tryz.prog 149 g 8 (.agg cs) w (some (.cells old t' (0, 0))) = .ok () (w.setRow g cs) := zqar old cs t' h1 h2 h3
@[go_sem high] theorem zrkg (w : World) : (zeroValue 149).run Tryz.prog w = .ok (.agg (ints .u8 8 zqg)) w := by kernel_rfl
@[go_sem ↓ high] theorem zrmk (w : World) : (zeroValue 149).run Tryz.prog w = .ok (.agg (ints .u8 8 zqg)) w := by kernel_rfl
@[go_sem] theorem zrky (k' : IntKind) (f : Nat -> Int) (j : Int) (w : World) (h0 : 0 <= j) (h1 : j < 8) : (Instr.index 149 (.agg (ints .u8 8 f)) (.int k' j)).run Tryz.prog w = .ok (.int .u8 (f j.toNat)) w :=
 zqbz w .u8 k' f j Tryz.underlying149 Tryz.underlying5 (i := (Tryz.prog.info? 5).get zqc) zqc zqc h0 h1
@[go_sem high] theorem zrn6 (f g : Nat -> Int) (w : World) : (binOp .eql 149 (.agg (ints .u8 8 f)) (.agg (ints .u8 8 g))).run Tryz.prog w = .ok (.bool (same 8 f g)) w :=
 zqcn w .u8 f g Tryz.underlying149 Tryz.underlying5 (i := (Tryz.prog.info? 5).get zqc) zqc zqc
@[go_sem high] theorem zrn0 (f g : Nat -> Int) (w : World) : (binOp .neq 149 (.agg (ints .u8 8 f)) (.agg (ints .u8 8 g))).run Tryz.prog w = .ok (.bool (!same 8 f g)) w :=
 zqcq w .u8 f g Tryz.underlying149 Tryz.underlying5 (i := (Tryz.prog.info? 5).get zqc) zqc zqc
@[go_sem ↓ high] theorem zrgj (ρ : Operand -> Value) (d : Option Tmp) (x : Operand) (t : TypeId) (pos : String) (af : Array Edge) (g : Option (Nat × Bool)) :
  execOp ρ ⟨d, .load 195 x, t, pos, af, g⟩ = zqq 195 (ρ x) := zqax _ ρ d x t pos af g
@[go_sem high] theorem zres (ρ : Operand -> Value) (d : Option Tmp) (x : Operand) (t : TypeId) (pos : String) (af : Array Edge) (g : Option (Nat × Bool)) :
  execOp ρ ⟨d, .load 195 x, t, pos, af, g⟩ = zqq 195 (ρ x) := zqax _ ρ d x t pos af g
@[go_sem] theorem zq8f (g : Nat) (w : World) : (zqq 195 (.pointer (some ⟨g, 0, none⟩))).run Tryz.prog w = (zqau Tryz.prog 195 g 73 w (zqd w g)).andThen fun v w' => .ok (.value v) w' := by
 rw [zq7, zqa6 Tryz.underlying195 rfl zqc g w]
@[go_sem] theorem zq93 (g : Nat) (w : World) (cs : Array Value) (t' : TypeId) (fr : Nat × Nat) (h : cs.size = 73) : zqau Tryz.prog 195 g 73 w (some (.cells cs t' fr)) = .ok (.agg cs) w := zqal cs t' fr h
@[go_sem ↓ high] theorem zrgd (ρ : Operand -> Value) (d : Option Tmp) (x y : Operand) (t : TypeId) (pos : String) (af : Array Edge) (g : Option (Nat × Bool)) :
  execOp ρ ⟨d, .store 195 x y, t, pos, af, g⟩ = zqu 195 (ρ x) (ρ y) := zqat _ ρ d x y t pos af g
@[go_sem high] theorem zrcl (ρ : Operand -> Value) (d : Option Tmp) (x y : Operand) (t : TypeId) (pos : String) (af : Array Edge) (g : Option (Nat × Bool)) :
  execOp ρ ⟨d, .store 195 x y, t, pos, af, g⟩ = zqu 195 (ρ x) (ρ y) := zqat _ ρ d x y t pos af g
@[go_sem] theorem zq6j (g : Nat) (cs : Array Value) (w : World) : (zqu 195 (.pointer (some ⟨g, 0, none⟩)) (.agg cs)).run Tryz.prog w = (zqam Tryz.prog 195 g 73 (.agg cs) w (zqd w g)).andThen fun _ w' => .ok .skip w' := by
 rw [zqae, zqbb zqc g cs w]
@[go_sem] theorem zq56 (g : Nat) (w : World) (old cs : Array Value) (t' : TypeId) (h1 : old.size = 73) (h2 : cs.size = 73) (h3 : zqak cs = true) :
  zqam Tryz.prog 195 g 73 (.agg cs) w (some (.cells old t' (0, 0))) = .ok () (w.setRow g cs) := zqar old cs t' h1 h2 h3
def zqav (A R : Nat -> Int) (n : Int) : Array Value := (ints .u32 8 A ++ ints .u8 64 R).push (.int .u64 n)
@[go_sem] theorem zqba (A R : Nat -> Int) (n : Int) : (zqav A R n).size = 73 := by simp [zqav, zqj]
@[go_sem] theorem zqz3 (A R : Nat -> Int) (n : Int) : zqak (zqav A R n) = true := by
 have h1 := zqdf .u32 8 A;have h2 := zqdf .u8 64 R;unfold zqak at *;unfold zqav;rw [Array.all_push, Array.all_append, h1, h2]
 rfl
@[go_sem] theorem zql5 (A R : Nat -> Int) (n : Int) : (zqav A R n)[72]? = some (.int .u64 n) := by
 unfold zqav;rw [Array.getElem?_push, if_pos (by simp [zqj])]
@[go_sem] theorem zrlp (A R : Nat -> Int) (n : Int) (h : 72 < (zqav A R n).size) : (zqav A R n)[72] = .int .u64 n := by
 have := zql5 A R n;rw [Array.getElem?_eq_getElem h] at this;exact Option.some.inj this
@[go_sem] theorem zqjz (A R : Nat -> Int) (n : Int) (i : Nat) (h : i < 8) : (zqav A R n)[i]? = some (.int .u32 (A i)) := by
 unfold zqav;rw [Array.getElem?_push, if_neg (by simp [zqj]; omega), Array.getElem?_append_left (by rw [zqj]; exact h), zqao _ _ _ _ h]
@[go_sem] theorem zrkh (A R : Nat -> Int) (n : Int) (i : Nat) (h : i < 8) (h' : i < (zqav A R n).size) : (zqav A R n)[i] = .int .u32 (A i) := by
 have := zqjz A R n i h;rw [Array.getElem?_eq_getElem h'] at this;exact Option.some.inj this
theorem zqjk (A R : Nat -> Int) (n : Int) (i : Nat) (h : i < 64) : (zqav A R n)[8 + i]? = some (.int .u8 (R i)) := by
 unfold zqav;rw [Array.getElem?_push, if_neg (by simp [zqj]; omega), Array.getElem?_append_right (by rw [zqj]; omega), zqj, show 8 + i - 8 = i by omega, zqao _ _ _ _ h]
theorem zqi2 {cs : Array Value} {A R : Nat -> Int} {n : Int} (hs : cs.size = 73) (ha : ∀ i, i < 8 -> cs[i]? = some (.int .u32 (A i))) (hr : ∀ i, i < 64 -> cs[8 + i]? = some (.int .u8 (R i))) (hn : cs[72]? = some (.int .u64 n)) : cs = zqav A R n := by
 apply Array.ext_getElem?
 intro i
 rcases (by omega : i < 8 \/ (8 <= i /\ i < 72) \/ i = 72 \/ 73 <= i) with h | h | h | h
 ·rw [ha i h, zqjz _ _ _ _ h]
 ·have := hr (i - 8) (by omega)
  have h2 := zqjk A R n (i - 8) (by omega);rw [show 8 + (i - 8) = i by omega] at this h2;rw [this, h2]
 ·subst h; rw [hn, zql5]
 ·rw [Array.getElem?_eq_none (by omega), Array.getElem?_eq_none (by rw [zqba]; omega)]
theorem zqhy {A A' R R' : Nat -> Int} {n : Int} (ha : ∀ i, i < 8 -> A i = A' i) (hr : ∀ i, i < 64 -> R i = R' i) : zqav A R n = zqav A' R' n := by
 unfold zqav;rw [zqbd ha, zqbd hr]
@[go_sem] theorem zrev (A R : Nat -> Int) (n m : Int) : (zqav A R n).setIfInBounds 72 (.int .u64 m) = zqav A R m := by
 refine zqi2 (by simp [zqba]) (fun i hi => ?_) (fun i hi => ?_) ?_
 ·rw [Array.getElem?_setIfInBounds, if_neg (by omega), zqjz _ _ _ _ hi]
 ·rw [Array.getElem?_setIfInBounds, if_neg (by omega), zqjk _ _ _ _ hi]
 ·rw [Array.getElem?_setIfInBounds, if_pos rfl, zqba]; rfl
@[go_sem high] theorem zrfh (w : World) : (zeroValue 195).run Tryz.prog w = .ok (.agg (zqav zqg zqg 0)) w := by kernel_rfl
@[go_sem ↓ high] theorem zrhw (w : World) : (zeroValue 195).run Tryz.prog w = .ok (.agg (zqav zqg zqg 0)) w := by kernel_rfl
theorem zrnp (A R : Nat -> Int) (n : Int) : (zqav A R n).extract 0 8 = ints .u32 8 A := by
 apply Array.ext_getElem?
 intro i
 by_cases h : i < 8
 ·rw [zqao _ _ _ _ h, Array.getElem?_extract, if_pos (by rw [zqba]; omega), Nat.zero_add, zqjz _ _ _ _ h]
 ·rw [Array.getElem?_eq_none (by simp [zqba]; omega), Array.getElem?_eq_none (by rw [zqj]; omega)]
theorem zrm4 (A R : Nat -> Int) (n : Int) : (zqav A R n).extract 8 (8 + 64) = ints .u8 64 R := by
 apply Array.ext_getElem?
 intro i
 by_cases h : i < 64
 ·rw [zqao _ _ _ _ h, Array.getElem?_extract, if_pos (by rw [zqba]; omega), zqjk _ _ _ _ h]
 ·rw [Array.getElem?_eq_none (by simp [zqba]; omega), Array.getElem?_eq_none (by rw [zqj]; omega)]
theorem zqga (vs : List Value) : ∀ (o : Nat) (A : Array Value), (zqb6 A o vs).size = A.size := by
 induction vs with
 | nil => intro o A; rfl
 | cons v r ih => intro o A; simp [zqb6, ih]
theorem zqhj (vs : List Value) : ∀ (o : Nat) (A : Array Value) (i : Nat), o + vs.length <= A.size -> (zqb6 A o vs)[i]? = if o <= i /\ i < o + vs.length then vs[i - o]? else A[i]? := by
 induction vs with
 | nil => intro o A i _; simp [zqb6]; omega
 | cons v r ih =>
  intro o A i hs
  simp only [List.length_cons] at hs
  have hs' : o + 1 + r.length <= (A.setIfInBounds o v).size := by simp; omega
  simp only [zqb6, List.length_cons]
  rw [ih (o + 1) _ i hs']
  by_cases h1 : o + 1 <= i /\ i < o + 1 + r.length
  ·rw [if_pos h1, if_pos (by omega), show i - o = (i - (o + 1)) + 1 by omega, List.getElem?_cons_succ]
  ·rw [if_neg h1, Array.getElem?_setIfInBounds]
   by_cases h2 : o = i
   ·subst h2
    rw [if_pos rfl, if_pos (by omega), if_pos (by omega), Nat.sub_self, List.getElem?_cons_zero]
   ·rw [if_neg h2, if_neg (by omega)]
theorem zrl5 (A R A' : Nat -> Int) (n : Int) : zqb6 (zqav A R n) 0 (ints .u32 8 A').toList = zqav A' R n := by
 have hl : (ints .u32 8 A').toList.length = 8 := by simp [zqj]
 refine zqi2 (by rw [zqga, zqba]) (fun i hi => ?_) (fun i hi => ?_) ?_ <;> rw [zqhj _ _ _ _ (by rw [hl, zqba]; omega), hl]
 ·rw [if_pos (by omega), Nat.sub_zero, Array.getElem?_toList, zqao _ _ _ _ hi]
 ·rw [if_neg (by omega), zqjk _ _ _ _ hi]
 ·rw [if_neg (by omega), zql5]
theorem zrm5 (A R R' : Nat -> Int) (n : Int) : zqb6 (zqav A R n) 8 (ints .u8 64 R').toList = zqav A R' n := by
 have hl : (ints .u8 64 R').toList.length = 64 := by simp [zqj]
 refine zqi2 (by rw [zqga, zqba]) (fun i hi => ?_) (fun i hi => ?_) ?_ <;> rw [zqhj _ _ _ _ (by rw [hl, zqba]; omega), hl]
 ·rw [if_neg (by omega), zqjz _ _ _ _ hi]
 ·rw [if_pos (by omega), Nat.add_sub_cancel_left, Array.getElem?_toList, zqao _ _ _ _ hi]
 ·rw [if_neg (by omega), zql5]
@[go_sem] theorem zrb6 (g : Nat) (w : World) (A R : Nat -> Int) (n : Int) (t' : TypeId) (fr : Nat × Nat) : zqau Tryz.prog 192 g 8 w (some (.cells (zqav A R n) t' fr)) = .ok (.agg (ints .u32 8 A)) w := by
 unfold zqau
 simp only [zqba]
 rw [if_neg (by decide), if_pos (by decide), zrnp]
@[go_sem] theorem zq8r (g : Nat) (w : World) (A R A' : Nat -> Int) (n : Int) (t' : TypeId) : zqam Tryz.prog 192 g 8 (.agg (ints .u32 8 A')) w (some (.cells (zqav A R n) t' (0, 0))) = .ok () (w.setRow g (zqav A' R n)) := by
 unfold zqam
 simp only [zqba, zqj]
 rw [if_neg (fun h => absurd h.1 (by decide)), if_pos ⟨by decide, by trivial, zqdf _ _ _⟩, zrl5]
@[go_sem] theorem zq9n (g : Nat) (w : World) : (zqq 193 (.pointer (some ⟨g, 8, none⟩))).run Tryz.prog w = (zqbf Tryz.prog 193 g 8 64 w (zqd w g)).andThen fun v w' => .ok (.value v) w' := by
 rw [zq7, zqdd Tryz.underlying193 rfl zqc g 8 w]
@[go_sem] theorem zrdg (g : Nat) (w : World) (A R : Nat -> Int) (n : Int) (t' : TypeId) (fr : Nat × Nat) : zqbf Tryz.prog 193 g 8 64 w (some (.cells (zqav A R n) t' fr)) = .ok (.agg (ints .u8 64 R)) w := by
 unfold zqbf
 simp only [zqba]
 rw [if_pos (by decide), zrm4]
@[go_sem] theorem zq4g (g : Nat) (cs : Array Value) (w : World) : (zqu 193 (.pointer (some ⟨g, 8, none⟩)) (.agg cs)).run Tryz.prog w = (zqby Tryz.prog 193 g 8 64 (.agg cs) w (zqd w g)).andThen fun _ w' => .ok .skip w' := by
 rw [zqae, zqdt zqc g 8 cs w]
@[go_sem] theorem zq8t (g : Nat) (w : World) (A R R' : Nat -> Int) (n : Int) (t' : TypeId) : zqby Tryz.prog 193 g 8 64 (.agg (ints .u8 64 R')) w (some (.cells (zqav A R n) t' (0, 0))) = .ok () (w.setRow g (zqav A R' n)) := by
 unfold zqby
 simp only [zqba, zqj]
 rw [if_pos ⟨by decide, by trivial, zqdf _ _ _⟩, zrm5]
attribute [irreducible] zqav
def zq9v (a b c d e f g h : Int) : Nat -> Int := fun i => [a, b, c, d, e, f, g, h].getD i 0
def zqf3 (a b c d e f g h : Value) : Sem Next := do pure (.value (<- Instr.build 192 #[(0, a), (1, b), (2, c), (3, d), (4, e), (5, f), (6, g), (7, h)]))
@[go_sem ↓ high] theorem zrkz (ρ : Operand -> Value) (dd : Option Tmp) (a b c d e f g h : Operand) (t : TypeId) (pos : String) (af : Array Edge) (gg : Option (Nat × Bool)) :
  execOp ρ ⟨dd, .build 192 #[(0, a), (1, b), (2, c), (3, d), (4, e), (5, f), (6, g), (7, h)], t, pos, af, gg⟩ = zqf3 (ρ a) (ρ b) (ρ c) (ρ d) (ρ e) (ρ f) (ρ g) (ρ h) := by simp [execOp, zqf3]
@[go_sem high] theorem zrg3 (ρ : Operand -> Value) (dd : Option Tmp) (a b c d e f g h : Operand) (t : TypeId) (pos : String) (af : Array Edge) (gg : Option (Nat × Bool)) :
  execOp ρ ⟨dd, .build 192 #[(0, a), (1, b), (2, c), (3, d), (4, e), (5, f), (6, g), (7, h)], t, pos, af, gg⟩ = zqf3 (ρ a) (ρ b) (ρ c) (ρ d) (ρ e) (ρ f) (ρ g) (ρ h) := by simp [execOp, zqf3]
@[go_sem] theorem zrjm (a b c d e f g h : Int) (w : World) : (zqf3 (.int .u32 a) (.int .u32 b) (.int .u32 c) (.int .u32 d) (.int .u32 e) (.int .u32 f) (.int .u32 g) (.int .u32 h)).run Tryz.prog w = .ok (.value (.agg (ints .u32 8 (zq9v a b c d e f g h)))) w := by kernel_rfl
attribute [irreducible] zqf3
def zqb8 (ty : TypeId) : Sem Next := do pure (.value (<- Instr.build ty #[]))
@[go_sem ↓ high] theorem zrms (ty : TypeId) (ρ : Operand -> Value) (dd : Option Tmp) (t : TypeId) (pos : String) (af : Array Edge) (gg : Option (Nat × Bool)) :
  execOp ρ ⟨dd, .build ty #[], t, pos, af, gg⟩ = zqb8 ty := by simp [execOp, zqb8]
@[go_sem high] theorem zrk2 (ty : TypeId) (ρ : Operand -> Value) (dd : Option Tmp) (t : TypeId) (pos : String) (af : Array Edge) (gg : Option (Nat × Bool)) :
  execOp ρ ⟨dd, .build ty #[], t, pos, af, gg⟩ = zqb8 ty := by simp [execOp, zqb8]
@[go_sem] theorem zrhu (w : World) : (zqb8 195).run Tryz.prog w = .ok (.value (.agg (zqav zqg zqg 0))) w := by kernel_rfl
@[go_sem] theorem zrk0 (w : World) : (zqb8 193).run Tryz.prog w = .ok (.value (.agg (ints .u8 64 zqg))) w := by kernel_rfl
@[go_sem] theorem zrlj (w : World) : (zqb8 44).run Tryz.prog w = .ok (.value (.agg (ints .u8 32 zqg))) w := by kernel_rfl
attribute [irreducible] zqb8
end Go.Proofs.YtnjghcnhcbobhaaGreatDoor
namespace Go.Proofs.YtnjghcnhcbobhaaGreatDoor
open Go.RowKit
attribute [go_sem] setRow_setRow
theorem zq29 {t e : TypeId} {n : Nat} {k : IntKind} (w : World) (g o r : Nat) (ht : Tryz.prog.underlying t = some (.array (Tryz.prog.arrayLen t) (Tryz.prog.elem t))) (hn : Tryz.prog.arrayLen t = n) (hs : (sizeOf (Tryz.prog.elem t)).run Tryz.prog w = .ok 1 w) (hr : r < n) :
  (Instr.sliceAt t (.pointer (some ⟨g, o, none⟩)) (some (.int k r)) none none).run Tryz.prog w = .ok (.slice (some ⟨g, o + r, none⟩) (n - r) (n - r)) w := by
 rw [run_sliceAt_array_l w t _ ht k r (by omega) (by omega), hs, Result.andThen_ok, hn];unfold slicedAt;have e : (⟨g, o, none⟩ : Addr).add (r * 1) = ⟨g, o + r, none⟩ := by unfold Addr.add; split <;> simp_all
 rw [if_neg (by omega), show ((r : Int)).toNat = r by omega, e]
@[go_sem high] theorem zria (w : World) (g o r : Nat) (hr : r < 64) :
  (Instr.sliceAt 193 (.pointer (some ⟨g, o, none⟩)) (some (.int .i64 r)) none none).run Tryz.prog w = .ok (.slice (some ⟨g, o + r, none⟩) (64 - r) (64 - r)) w :=
 zq29 (t := 193) (e := 5) (n := 64) (k := .i64) w g o r zqc zqc zqc hr
theorem zqgd {P : Program} (w : World) (dT sT ty elem : TypeId) (g o dLen dCap m : Nat) (s : ByteArray) (cur : Array Value) (t : TypeId)
  (hu : P.underlying dT = some (.slice elem)) (hs : (P.info? elem).map (·.size) = some 1) (hg : w.heap[g]? = some (.cells cur t (0, 0))) (hm : Nat.min s.size dLen = m) (hfit : o + m <= cur.size) :
  (Builtin.copy_ #[dT, sT] ty #[.slice (some ⟨g, o, none⟩) dLen dCap, .string s]).run P w =
   .ok (goInt m) (w.setRow g (cur.toList.take o ++ (List.map (fun b : UInt8 => Value.int .u8 b.toNat) s.data.toList).take m ++ cur.toList.drop (o + m)).toArray) := by
 have hle : m <= s.size := by rw [<- hm]; exact Nat.min_le_left _ _
 have hlen : ((List.map (fun b : UInt8 => Value.int .u8 b.toNat) s.data.toList).take m).length = m := by
  rw [List.length_take, List.length_map];exact Nat.min_eq_left hle
 have hst := run_storeCells_at P g o t ((List.map (fun b : UInt8 => Value.int .u8 b.toNat) s.data.toList).take m) 0 cur w hg (by rw [hlen]; simpa using hfit) (by
  intro v hv;obtain ⟨b, _, rfl⟩ := List.mem_map.1 (List.mem_of_mem_take hv)
  rfl)
 rw [hlen] at hst
 simp only [Nat.add_zero] at hst
 cases hq : P.info? elem with
 | none => simp [hq] at hs
 | some i =>
  simp [Builtin.copy_, run_underlying hu, Builtin.lenOf, Builtin.firstCells, sizeOf, typeInfo, hq, hm]
  rw [hst]
  simp [Result.andThen]
def putT (R : Nat -> Int) (r m : Nat) (s : ByteArray) : Nat -> Int := fun i => if r <= i /\ i < r + m then byteAt s (i - r) else R i
def zqeo (ats : Array TypeId) (ty : TypeId) (args : Array Value) : Sem Next := do pure (.value (<- Builtin.copy_ ats ty args))
def zqmc (P : Program) (ty : TypeId) (g o L C : Nat) (s : ByteArray) (w : World) : Option Obj -> Result Next
 | _ => (zqeo #[144, 9] ty #[.slice (some ⟨g, o, none⟩) L C, .string s]).run P w
@[go_sem ↓ high] theorem zrf2 (ty : TypeId) (cs : Array Bool) (args : Array Value) : builtin .copy #[144, 9] ty cs args = zqeo #[144, 9] ty args := by unfold zqeo; rfl
@[go_sem] theorem zq7g (ty : TypeId) (g o L C : Nat) (s : ByteArray) (w : World) : (zqeo #[144, 9] ty #[.slice (some ⟨g, o, none⟩) L C, .string s]).run Tryz.prog w = zqmc Tryz.prog ty g o L C s w (zqd w g) := rfl
@[go_sem] theorem zrei (ty : TypeId) (g r C : Nat) (s : ByteArray) (w : World) (A R : Nat -> Int) (n : Int) (t : TypeId) (h : zqd w g = some (.cells (zqav A R n) t (0, 0))) (hr : r < 64) :
  zqmc Tryz.prog ty g (8 + r) (64 - r) C s w (some (.cells (zqav A R n) t (0, 0))) = .ok (.value (.int .i64 (min s.size (64 - r) : Nat))) (w.setRow g (zqav A (putT R r (min s.size (64 - r)) s) n)) := by
 have hm : min s.size (64 - r) <= 64 - r := Nat.min_le_right _ _;have hm' : min s.size (64 - r) <= s.size := Nat.min_le_left _ _;generalize hq : min s.size (64 - r) = m at *
 show (zqeo #[144, 9] ty #[.slice (some ⟨g, 8 + r, none⟩) (64 - r) C, .string s]).run Tryz.prog w = _
 unfold zqeo zqd at *
 simp only [Sem.run_bind, zqgd w 144 9 ty 5 g (8 + r) (64 - r) C m s _ t Tryz.underlying144 zqc h hq (by rw [zqba]; omega), Result.andThen_ok, Sem.run_pure]
 have e : ((zqav A R n).toList.take (8 + r) ++ (List.map (fun b : UInt8 => Value.int .u8 b.toNat) s.data.toList).take m ++ (zqav A R n).toList.drop (8 + r + m)).toArray = zqav A (putT R r m s) n := by
  have l1 : ((zqav A R n).toList.take (8 + r)).length = 8 + r := by rw [List.length_take, Array.length_toList, zqba]; omega
  have l2 : ((List.map (fun b : UInt8 => Value.int .u8 b.toNat) s.data.toList).take m).length = m := by
   rw [List.length_take, List.length_map];exact Nat.min_eq_left hm'
  have a1 : ∀ i, i < 8 + r -> ((zqav A R n).toList.take (8 + r) ++ (List.map (fun b : UInt8 => Value.int .u8 b.toNat) s.data.toList).take m ++ (zqav A R n).toList.drop (8 + r + m))[i]? = (zqav A R n)[i]? := fun i hi => by
   rw [List.append_assoc, List.getElem?_append_left (by omega), List.getElem?_take_of_lt hi, Array.getElem?_toList]
  have a2 : ∀ i, i < m -> ((zqav A R n).toList.take (8 + r) ++ (List.map (fun b : UInt8 => Value.int .u8 b.toNat) s.data.toList).take m ++ (zqav A R n).toList.drop (8 + r + m))[8 + r + i]? = some (.int .u8 (byteAt s i)) := fun i hi => by
   rw [List.append_assoc, List.getElem?_append_right (by omega), l1, List.getElem?_append_left (by omega), show 8 + r + i - (8 + r) = i by omega, List.getElem?_take_of_lt hi, List.getElem?_map];have hs : i < s.size := by omega
   have : s.data.toList[i]? = some s[i] := by
    rw [Array.getElem?_toList];exact Array.getElem?_eq_getElem hs
   rw [this, <- zqd1 s i hs]
   rfl
  have a3 : ∀ i, 8 + r + m <= i -> ((zqav A R n).toList.take (8 + r) ++ (List.map (fun b : UInt8 => Value.int .u8 b.toNat) s.data.toList).take m ++ (zqav A R n).toList.drop (8 + r + m))[i]? = (zqav A R n)[i]? := fun i hi => by
   rw [List.getElem?_append_right (by rw [List.length_append]; omega), List.length_append, l1, l2, List.getElem?_drop, show 8 + r + m + (i - (8 + r + m)) = i by omega, Array.getElem?_toList]
  refine zqi2 ?_ (fun i hi => ?_) (fun i hi => ?_) ?_
  ·simp only [List.size_toArray, List.length_append, l1, l2, List.length_drop, Array.length_toList, zqba]; omega
  ·rw [List.getElem?_toArray, a1 i (by omega), zqjz _ _ _ _ hi]
  ·rw [List.getElem?_toArray]
   unfold putT
   by_cases h1 : r <= i /\ i < r + m
   ·rw [if_pos h1, show 8 + i = 8 + r + (i - r) by omega, a2 _ (by omega)]
   ·rw [if_neg h1]
    by_cases h2 : i < r
    ·rw [a1 _ (by omega), zqjk _ _ _ _ hi]
    ·rw [a3 _ (by omega), zqjk _ _ _ _ hi]
  ·rw [List.getElem?_toArray, a3 _ (by omega), zql5]
 rw [e]
 rfl
attribute [irreducible] zqeo zqmc
end Go.Proofs.YtnjghcnhcbobhaaGreatDoor
