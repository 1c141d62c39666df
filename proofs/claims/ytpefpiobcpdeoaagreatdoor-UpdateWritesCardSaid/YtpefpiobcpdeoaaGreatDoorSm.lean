/- Sm -/
import Derived.Test.YtpefpiobcpdeoaaGreatDoorMem
import Derived.Test.YtpefpiobcpdeoaaGreatDoorCt
set_option linter.unusedVariables false
set_option linter.unusedSimpArgs false
namespace Go.Proofs.YtpefpiobcpdeoaaGreatDoor
open Go.RowKit
@[go_sem ↓ high] theorem zrh2 (ρ : Operand -> Value) (d : Option Tmp) (x : Operand) (t : TypeId) (pos : String) (af : Array Edge) (g : Option (Nat × Bool)) :
  execOp ρ ⟨d, .load 215 x, t, pos, af, g⟩ = zqq 215 (ρ x) := zqax _ ρ d x t pos af g
@[go_sem high] theorem zrf7 (ρ : Operand -> Value) (d : Option Tmp) (x : Operand) (t : TypeId) (pos : String) (af : Array Edge) (g : Option (Nat × Bool)) :
  execOp ρ ⟨d, .load 215 x, t, pos, af, g⟩ = zqq 215 (ρ x) := zqax _ ρ d x t pos af g
@[go_sem] theorem zrcq (g : Nat) (w : World) : (zqq 215 (.pointer (some ⟨g, 0, none⟩))).run Tryz.prog w = (zqau Tryz.prog 215 g 8 w (zqd w g)).andThen fun v w' => .ok (.value v) w' := by
 rw [zq7, zqa4 Tryz.underlying215 rfl zqb g w]
@[go_sem] theorem zrb7 (g : Nat) (w : World) (cs : Array Value) (t' : TypeId) (fr : Nat × Nat) (h : cs.size = 8) : zqau Tryz.prog 215 g 8 w (some (.cells cs t' fr)) = .ok (.agg cs) w := zqao cs t' fr h
@[go_sem ↓ high] theorem zrgi (ρ : Operand -> Value) (d : Option Tmp) (x y : Operand) (t : TypeId) (pos : String) (af : Array Edge) (g : Option (Nat × Bool)) :
  execOp ρ ⟨d, .store 215 x y, t, pos, af, g⟩ = zqu 215 (ρ x) (ρ y) := zqas _ ρ d x y t pos af g
@[go_sem high] theorem zrc7 (ρ : Operand -> Value) (d : Option Tmp) (x y : Operand) (t : TypeId) (pos : String) (af : Array Edge) (g : Option (Nat × Bool)) :
  execOp ρ ⟨d, .store 215 x y, t, pos, af, g⟩ = zqu 215 (ρ x) (ρ y) := zqas _ ρ d x y t pos af g
@[go_sem] theorem zra2 (g : Nat) (cs : Array Value) (w : World) : (zqu 215 (.pointer (some ⟨g, 0, none⟩)) (.agg cs)).run Tryz.prog w = (zqap Tryz.prog 215 g 8 (.agg cs) w (zqd w g)).andThen fun _ w' => .ok .skip w' := by
 rw [zqaa, zqa8 zqb g cs w]
@[go_sem] theorem zq8l (g : Nat) (w : World) (old cs : Array Value) (t' : TypeId) (h1 : old.size = 8) (h2 : cs.size = 8) (h3 : zqam cs = true) :
  zqap Tryz.prog 215 g 8 (.agg cs) w (some (.cells old t' (0, 0))) = .ok () (w.setRow g cs) := zqaq old cs t' h1 h2 h3
@[go_sem high] theorem zrg4 (w : World) : (zeroValue 215).run Tryz.prog w = .ok (.agg (ints .u32 8 zqe)) w := by kernel_rfl
@[go_sem ↓ high] theorem zrh0 (w : World) : (zeroValue 215).run Tryz.prog w = .ok (.agg (ints .u32 8 zqe)) w := by kernel_rfl
@[go_sem] theorem zrhd (k' : IntKind) (f : Nat -> Int) (j : Int) (w : World) (h0 : 0 <= j) (h1 : j < 8) : (Instr.index 215 (.agg (ints .u32 8 f)) (.int k' j)).run Tryz.prog w = .ok (.int .u32 (f j.toNat)) w :=
 zqb4 w .u32 k' f j Tryz.underlying215 Tryz.underlying22 (i := (Tryz.prog.info? 22).get zqb) zqb zqb h0 h1
@[go_sem high] theorem zrjp (f g : Nat -> Int) (w : World) : (binOp .eql 215 (.agg (ints .u32 8 f)) (.agg (ints .u32 8 g))).run Tryz.prog w = .ok (.bool (same 8 f g)) w :=
 zqcp w .u32 f g Tryz.underlying215 Tryz.underlying22 (i := (Tryz.prog.info? 22).get zqb) zqb zqb
@[go_sem high] theorem zrjh (f g : Nat -> Int) (w : World) : (binOp .neq 215 (.agg (ints .u32 8 f)) (.agg (ints .u32 8 g))).run Tryz.prog w = .ok (.bool (!same 8 f g)) w :=
 zqco w .u32 f g Tryz.underlying215 Tryz.underlying22 (i := (Tryz.prog.info? 22).get zqb) zqb zqb
@[go_sem ↓ high] theorem zrg6 (ρ : Operand -> Value) (d : Option Tmp) (x : Operand) (t : TypeId) (pos : String) (af : Array Edge) (g : Option (Nat × Bool)) :
  execOp ρ ⟨d, .load 216 x, t, pos, af, g⟩ = zqq 216 (ρ x) := zqax _ ρ d x t pos af g
@[go_sem high] theorem zrem (ρ : Operand -> Value) (d : Option Tmp) (x : Operand) (t : TypeId) (pos : String) (af : Array Edge) (g : Option (Nat × Bool)) :
  execOp ρ ⟨d, .load 216 x, t, pos, af, g⟩ = zqq 216 (ρ x) := zqax _ ρ d x t pos af g
@[go_sem] theorem zq8c (g : Nat) (w : World) : (zqq 216 (.pointer (some ⟨g, 0, none⟩))).run Tryz.prog w = (zqau Tryz.prog 216 g 64 w (zqd w g)).andThen fun v w' => .ok (.value v) w' := by
 rw [zq7, zqa4 Tryz.underlying216 rfl zqb g w]
@[go_sem] theorem zq78 (g : Nat) (w : World) (cs : Array Value) (t' : TypeId) (fr : Nat × Nat) (h : cs.size = 64) : zqau Tryz.prog 216 g 64 w (some (.cells cs t' fr)) = .ok (.agg cs) w := zqao cs t' fr h
@[go_sem ↓ high] theorem zre1 (ρ : Operand -> Value) (d : Option Tmp) (x y : Operand) (t : TypeId) (pos : String) (af : Array Edge) (g : Option (Nat × Bool)) :
  execOp ρ ⟨d, .store 216 x y, t, pos, af, g⟩ = zqu 216 (ρ x) (ρ y) := zqas _ ρ d x y t pos af g
@[go_sem high] theorem zrc1 (ρ : Operand -> Value) (d : Option Tmp) (x y : Operand) (t : TypeId) (pos : String) (af : Array Edge) (g : Option (Nat × Bool)) :
  execOp ρ ⟨d, .store 216 x y, t, pos, af, g⟩ = zqu 216 (ρ x) (ρ y) := zqas _ ρ d x y t pos af g
@[go_sem] theorem zq56 (g : Nat) (cs : Array Value) (w : World) : (zqu 216 (.pointer (some ⟨g, 0, none⟩)) (.agg cs)).run Tryz.prog w = (zqap Tryz.prog 216 g 64 (.agg cs) w (zqd w g)).andThen fun _ w' => .ok .skip w' := by
 rw [zqaa, zqa8 zqb g cs w]
@[go_sem] theorem zq7d (g : Nat) (w : World) (old cs : Array Value) (t' : TypeId) (h1 : old.size = 64) (h2 : cs.size = 64) (h3 : zqam cs = true) :
  zqap Tryz.prog 216 g 64 (.agg cs) w (some (.cells old t' (0, 0))) = .ok () (w.setRow g cs) := zqaq old cs t' h1 h2 h3
@[go_sem high] theorem zrfg (w : World) : (zeroValue 216).run Tryz.prog w = .ok (.agg (ints .u8 64 zqe)) w := by kernel_rfl
@[go_sem ↓ high] theorem zrgn (w : World) : (zeroValue 216).run Tryz.prog w = .ok (.agg (ints .u8 64 zqe)) w := by kernel_rfl
@[go_sem] theorem zrf4 (k' : IntKind) (f : Nat -> Int) (j : Int) (w : World) (h0 : 0 <= j) (h1 : j < 64) : (Instr.index 216 (.agg (ints .u8 64 f)) (.int k' j)).run Tryz.prog w = .ok (.int .u8 (f j.toNat)) w :=
 zqb4 w .u8 k' f j Tryz.underlying216 Tryz.underlying5 (i := (Tryz.prog.info? 5).get zqb) zqb zqb h0 h1
@[go_sem high] theorem zrih (f g : Nat -> Int) (w : World) : (binOp .eql 216 (.agg (ints .u8 64 f)) (.agg (ints .u8 64 g))).run Tryz.prog w = .ok (.bool (same 64 f g)) w :=
 zqcp w .u8 f g Tryz.underlying216 Tryz.underlying5 (i := (Tryz.prog.info? 5).get zqb) zqb zqb
@[go_sem high] theorem zrid (f g : Nat -> Int) (w : World) : (binOp .neq 216 (.agg (ints .u8 64 f)) (.agg (ints .u8 64 g))).run Tryz.prog w = .ok (.bool (!same 64 f g)) w :=
 zqco w .u8 f g Tryz.underlying216 Tryz.underlying5 (i := (Tryz.prog.info? 5).get zqb) zqb zqb
@[go_sem ↓ high] theorem zrgb (ρ : Operand -> Value) (d : Option Tmp) (x : Operand) (t : TypeId) (pos : String) (af : Array Edge) (g : Option (Nat × Bool)) :
  execOp ρ ⟨d, .load 274 x, t, pos, af, g⟩ = zqq 274 (ρ x) := zqax _ ρ d x t pos af g
@[go_sem high] theorem zrdg (ρ : Operand -> Value) (d : Option Tmp) (x : Operand) (t : TypeId) (pos : String) (af : Array Edge) (g : Option (Nat × Bool)) :
  execOp ρ ⟨d, .load 274 x, t, pos, af, g⟩ = zqq 274 (ρ x) := zqax _ ρ d x t pos af g
@[go_sem] theorem zq9j (g : Nat) (w : World) : (zqq 274 (.pointer (some ⟨g, 0, none⟩))).run Tryz.prog w = (zqau Tryz.prog 274 g 64 w (zqd w g)).andThen fun v w' => .ok (.value v) w' := by
 rw [zq7, zqa4 Tryz.underlying274 rfl zqb g w]
@[go_sem] theorem zrbd (g : Nat) (w : World) (cs : Array Value) (t' : TypeId) (fr : Nat × Nat) (h : cs.size = 64) : zqau Tryz.prog 274 g 64 w (some (.cells cs t' fr)) = .ok (.agg cs) w := zqao cs t' fr h
@[go_sem ↓ high] theorem zrf2 (ρ : Operand -> Value) (d : Option Tmp) (x y : Operand) (t : TypeId) (pos : String) (af : Array Edge) (g : Option (Nat × Bool)) :
  execOp ρ ⟨d, .store 274 x y, t, pos, af, g⟩ = zqu 274 (ρ x) (ρ y) := zqas _ ρ d x y t pos af g
@[go_sem high] theorem zrb3 (ρ : Operand -> Value) (d : Option Tmp) (x y : Operand) (t : TypeId) (pos : String) (af : Array Edge) (g : Option (Nat × Bool)) :
  execOp ρ ⟨d, .store 274 x y, t, pos, af, g⟩ = zqu 274 (ρ x) (ρ y) := zqas _ ρ d x y t pos af g
@[go_sem] theorem zq6s (g : Nat) (cs : Array Value) (w : World) : (zqu 274 (.pointer (some ⟨g, 0, none⟩)) (.agg cs)).run Tryz.prog w = (zqap Tryz.prog 274 g 64 (.agg cs) w (zqd w g)).andThen fun _ w' => .ok .skip w' := by
 rw [zqaa, zqa8 zqb g cs w]
@[go_sem] theorem zq6d (g : Nat) (w : World) (old cs : Array Value) (t' : TypeId) (h1 : old.size = 64) (h2 : cs.size = 64) (h3 : zqam cs = true) :
  zqap Tryz.prog 274 g 64 (.agg cs) w (some (.cells old t' (0, 0))) = .ok () (w.setRow g cs) := zqaq old cs t' h1 h2 h3
@[go_sem high] theorem zre0 (w : World) : (zeroValue 274).run Tryz.prog w = .ok (.agg (ints .u32 64 zqe)) w := by kernel_rfl
@[go_sem ↓ high] theorem zrgc (w : World) : (zeroValue 274).run Tryz.prog w = .ok (.agg (ints .u32 64 zqe)) w := by kernel_rfl
@[go_sem] theorem zrfv (k' : IntKind) (f : Nat -> Int) (j : Int) (w : World) (h0 : 0 <= j) (h1 : j < 64) : (Instr.index 274 (.agg (ints .u32 64 f)) (.int k' j)).run Tryz.prog w = .ok (.int .u32 (f j.toNat)) w :=
 zqb4 w .u32 k' f j Tryz.underlying274 Tryz.underlying22 (i := (Tryz.prog.info? 22).get zqb) zqb zqb h0 h1
@[go_sem high] theorem zri1 (f g : Nat -> Int) (w : World) : (binOp .eql 274 (.agg (ints .u32 64 f)) (.agg (ints .u32 64 g))).run Tryz.prog w = .ok (.bool (same 64 f g)) w :=
 zqcp w .u32 f g Tryz.underlying274 Tryz.underlying22 (i := (Tryz.prog.info? 22).get zqb) zqb zqb
@[go_sem high] theorem zrho (f g : Nat -> Int) (w : World) : (binOp .neq 274 (.agg (ints .u32 64 f)) (.agg (ints .u32 64 g))).run Tryz.prog w = .ok (.bool (!same 64 f g)) w :=
 zqco w .u32 f g Tryz.underlying274 Tryz.underlying22 (i := (Tryz.prog.info? 22).get zqb) zqb zqb
@[go_sem ↓ high] theorem zrh7 (ρ : Operand -> Value) (d : Option Tmp) (x : Operand) (t : TypeId) (pos : String) (af : Array Edge) (g : Option (Nat × Bool)) :
  execOp ρ ⟨d, .load 172 x, t, pos, af, g⟩ = zqq 172 (ρ x) := zqax _ ρ d x t pos af g
@[go_sem high] theorem zrgw (ρ : Operand -> Value) (d : Option Tmp) (x : Operand) (t : TypeId) (pos : String) (af : Array Edge) (g : Option (Nat × Bool)) :
  execOp ρ ⟨d, .load 172 x, t, pos, af, g⟩ = zqq 172 (ρ x) := zqax _ ρ d x t pos af g
@[go_sem] theorem zrcp (g : Nat) (w : World) : (zqq 172 (.pointer (some ⟨g, 0, none⟩))).run Tryz.prog w = (zqau Tryz.prog 172 g 8 w (zqd w g)).andThen fun v w' => .ok (.value v) w' := by
 rw [zq7, zqa4 Tryz.underlying172 rfl zqb g w]
@[go_sem] theorem zrcy (g : Nat) (w : World) (cs : Array Value) (t' : TypeId) (fr : Nat × Nat) (h : cs.size = 8) : zqau Tryz.prog 172 g 8 w (some (.cells cs t' fr)) = .ok (.agg cs) w := zqao cs t' fr h
@[go_sem ↓ high] theorem zrg9 (ρ : Operand -> Value) (d : Option Tmp) (x y : Operand) (t : TypeId) (pos : String) (af : Array Edge) (g : Option (Nat × Bool)) :
  execOp ρ ⟨d, .store 172 x y, t, pos, af, g⟩ = zqu 172 (ρ x) (ρ y) := zqas _ ρ d x y t pos af g
@[go_sem high] theorem zrex (ρ : Operand -> Value) (d : Option Tmp) (x y : Operand) (t : TypeId) (pos : String) (af : Array Edge) (g : Option (Nat × Bool)) :
  execOp ρ ⟨d, .store 172 x y, t, pos, af, g⟩ = zqu 172 (ρ x) (ρ y) := zqas _ ρ d x y t pos af g
@[go_sem] theorem zq76 (g : Nat) (cs : Array Value) (w : World) : (zqu 172 (.pointer (some ⟨g, 0, none⟩)) (.agg cs)).run Tryz.prog w = (zqap Tryz.prog 172 g 8 (.agg cs) w (zqd w g)).andThen fun _ w' => .ok .skip w' := by
 rw [zqaa, zqa8 zqb g cs w]
@[go_sem] theorem zq9d (g : Nat) (w : World) (old cs : Array Value) (t' : TypeId) (h1 : old.size = 8) (h2 : cs.size = 8) (h3 : zqam cs = true) :
  zqap Tryz.prog 172 g 8 (.agg cs) w (some (.cells old t' (0, 0))) = .ok () (w.setRow g cs) := zqaq old cs t' h1 h2 h3
@[go_sem high] theorem zrhi (w : World) : (zeroValue 172).run Tryz.prog w = .ok (.agg (ints .u8 8 zqe)) w := by kernel_rfl
@[go_sem ↓ high] theorem zriv (w : World) : (zeroValue 172).run Tryz.prog w = .ok (.agg (ints .u8 8 zqe)) w := by kernel_rfl
@[go_sem] theorem zrga (k' : IntKind) (f : Nat -> Int) (j : Int) (w : World) (h0 : 0 <= j) (h1 : j < 8) : (Instr.index 172 (.agg (ints .u8 8 f)) (.int k' j)).run Tryz.prog w = .ok (.int .u8 (f j.toNat)) w :=
 zqb4 w .u8 k' f j Tryz.underlying172 Tryz.underlying5 (i := (Tryz.prog.info? 5).get zqb) zqb zqb h0 h1
@[go_sem high] theorem zrju (f g : Nat -> Int) (w : World) : (binOp .eql 172 (.agg (ints .u8 8 f)) (.agg (ints .u8 8 g))).run Tryz.prog w = .ok (.bool (same 8 f g)) w :=
 zqcp w .u8 f g Tryz.underlying172 Tryz.underlying5 (i := (Tryz.prog.info? 5).get zqb) zqb zqb
@[go_sem high] theorem zrjf (f g : Nat -> Int) (w : World) : (binOp .neq 172 (.agg (ints .u8 8 f)) (.agg (ints .u8 8 g))).run Tryz.prog w = .ok (.bool (!same 8 f g)) w :=
 zqco w .u8 f g Tryz.underlying172 Tryz.underlying5 (i := (Tryz.prog.info? 5).get zqb) zqb zqb
@[go_sem ↓ high] theorem zrff (ρ : Operand -> Value) (d : Option Tmp) (x : Operand) (t : TypeId) (pos : String) (af : Array Edge) (g : Option (Nat × Bool)) :
  execOp ρ ⟨d, .load 218 x, t, pos, af, g⟩ = zqq 218 (ρ x) := zqax _ ρ d x t pos af g
@[go_sem high] theorem zrce (ρ : Operand -> Value) (d : Option Tmp) (x : Operand) (t : TypeId) (pos : String) (af : Array Edge) (g : Option (Nat × Bool)) :
  execOp ρ ⟨d, .load 218 x, t, pos, af, g⟩ = zqq 218 (ρ x) := zqax _ ρ d x t pos af g
@[go_sem] theorem zq5y (g : Nat) (w : World) : (zqq 218 (.pointer (some ⟨g, 0, none⟩))).run Tryz.prog w = (zqau Tryz.prog 218 g 73 w (zqd w g)).andThen fun v w' => .ok (.value v) w' := by
 rw [zq7, zqa4 Tryz.underlying218 rfl zqb g w]
@[go_sem] theorem zq6p (g : Nat) (w : World) (cs : Array Value) (t' : TypeId) (fr : Nat × Nat) (h : cs.size = 73) : zqau Tryz.prog 218 g 73 w (some (.cells cs t' fr)) = .ok (.agg cs) w := zqao cs t' fr h
@[go_sem ↓ high] theorem zrb4 (ρ : Operand -> Value) (d : Option Tmp) (x y : Operand) (t : TypeId) (pos : String) (af : Array Edge) (g : Option (Nat × Bool)) :
  execOp ρ ⟨d, .store 218 x y, t, pos, af, g⟩ = zqu 218 (ρ x) (ρ y) := zqas _ ρ d x y t pos af g
@[go_sem high] theorem zq82 (ρ : Operand -> Value) (d : Option Tmp) (x y : Operand) (t : TypeId) (pos : String) (af : Array Edge) (g : Option (Nat × Bool)) :
  execOp ρ ⟨d, .store 218 x y, t, pos, af, g⟩ = zqu 218 (ρ x) (ρ y) := zqas _ ρ d x y t pos af g
@[go_sem] theorem zq3w (g : Nat) (cs : Array Value) (w : World) : (zqu 218 (.pointer (some ⟨g, 0, none⟩)) (.agg cs)).run Tryz.prog w = (zqap Tryz.prog 218 g 73 (.agg cs) w (zqd w g)).andThen fun _ w' => .ok .skip w' := by
 rw [zqaa, zqa8 zqb g cs w]
@[go_sem] theorem zq40 (g : Nat) (w : World) (old cs : Array Value) (t' : TypeId) (h1 : old.size = 73) (h2 : cs.size = 73) (h3 : zqam cs = true) :
  zqap Tryz.prog 218 g 73 (.agg cs) w (some (.cells old t' (0, 0))) = .ok () (w.setRow g cs) := zqaq old cs t' h1 h2 h3
def zqay (A R : Nat -> Int) (n : Int) : Array Value := (ints .u32 8 A ++ ints .u8 64 R).push (.int .u64 n)
@[go_sem] theorem zqbb (A R : Nat -> Int) (n : Int) : (zqay A R n).size = 73 := by simp [zqay, zqi]
@[go_sem] theorem zq1k (A R : Nat -> Int) (n : Int) : zqam (zqay A R n) = true := by
 have h1 := zqdj .u32 8 A;have h2 := zqdj .u8 64 R;unfold zqam at *;unfold zqay;rw [Array.all_push, Array.all_append, h1, h2]
 rfl
@[go_sem] theorem zqmk (A R : Nat -> Int) (n : Int) : (zqay A R n)[72]? = some (.int .u64 n) := by
 unfold zqay;rw [Array.getElem?_push, if_pos (by simp [zqi])]
@[go_sem] theorem zrha (A R : Nat -> Int) (n : Int) (h : 72 < (zqay A R n).size) : (zqay A R n)[72] = .int .u64 n := by
 have := zqmk A R n;rw [Array.getElem?_eq_getElem h] at this;exact Option.some.inj this
@[go_sem] theorem zqjv (A R : Nat -> Int) (n : Int) (i : Nat) (h : i < 8) : (zqay A R n)[i]? = some (.int .u32 (A i)) := by
 unfold zqay;rw [Array.getElem?_push, if_neg (by simp [zqi]; omega), Array.getElem?_append_left (by rw [zqi]; exact h), zqat _ _ _ _ h]
@[go_sem] theorem zrgs (A R : Nat -> Int) (n : Int) (i : Nat) (h : i < 8) (h' : i < (zqay A R n).size) : (zqay A R n)[i] = .int .u32 (A i) := by
 have := zqjv A R n i h;rw [Array.getElem?_eq_getElem h'] at this;exact Option.some.inj this
theorem zqko (A R : Nat -> Int) (n : Int) (i : Nat) (h : i < 64) : (zqay A R n)[8 + i]? = some (.int .u8 (R i)) := by
 unfold zqay;rw [Array.getElem?_push, if_neg (by simp [zqi]; omega), Array.getElem?_append_right (by rw [zqi]; omega), zqi, show 8 + i - 8 = i by omega, zqat _ _ _ _ h]
theorem zqix {cs : Array Value} {A R : Nat -> Int} {n : Int} (hs : cs.size = 73) (ha : ∀ i, i < 8 -> cs[i]? = some (.int .u32 (A i))) (hr : ∀ i, i < 64 -> cs[8 + i]? = some (.int .u8 (R i))) (hn : cs[72]? = some (.int .u64 n)) : cs = zqay A R n := by
 apply Array.ext_getElem?
 intro i
 rcases (by omega : i < 8 \/ (8 <= i /\ i < 72) \/ i = 72 \/ 73 <= i) with h | h | h | h
 ·rw [ha i h, zqjv _ _ _ _ h]
 ·have := hr (i - 8) (by omega)
  have h2 := zqko A R n (i - 8) (by omega);rw [show 8 + (i - 8) = i by omega] at this h2;rw [this, h2]
 ·subst h; rw [hn, zqmk]
 ·rw [Array.getElem?_eq_none (by omega), Array.getElem?_eq_none (by rw [zqbb]; omega)]
theorem zqik {A A' R R' : Nat -> Int} {n : Int} (ha : ∀ i, i < 8 -> A i = A' i) (hr : ∀ i, i < 64 -> R i = R' i) : zqay A R n = zqay A' R' n := by
 unfold zqay;rw [zqa6 ha, zqa6 hr]
@[go_sem] theorem zrcw (A R : Nat -> Int) (n m : Int) : (zqay A R n).setIfInBounds 72 (.int .u64 m) = zqay A R m := by
 refine zqix (by simp [zqbb]) (fun i hi => ?_) (fun i hi => ?_) ?_
 ·rw [Array.getElem?_setIfInBounds, if_neg (by omega), zqjv _ _ _ _ hi]
 ·rw [Array.getElem?_setIfInBounds, if_neg (by omega), zqko _ _ _ _ hi]
 ·rw [Array.getElem?_setIfInBounds, if_pos rfl, zqbb]; rfl
@[go_sem high] theorem zrbu (w : World) : (zeroValue 218).run Tryz.prog w = .ok (.agg (zqay zqe zqe 0)) w := by kernel_rfl
@[go_sem ↓ high] theorem zren (w : World) : (zeroValue 218).run Tryz.prog w = .ok (.agg (zqay zqe zqe 0)) w := by kernel_rfl
theorem zri9 (A R : Nat -> Int) (n : Int) : (zqay A R n).extract 0 8 = ints .u32 8 A := by
 apply Array.ext_getElem?
 intro i
 by_cases h : i < 8
 ·rw [zqat _ _ _ _ h, Array.getElem?_extract, if_pos (by rw [zqbb]; omega), Nat.zero_add, zqjv _ _ _ _ h]
 ·rw [Array.getElem?_eq_none (by simp [zqbb]; omega), Array.getElem?_eq_none (by rw [zqi]; omega)]
theorem zrh1 (A R : Nat -> Int) (n : Int) : (zqay A R n).extract 8 (8 + 64) = ints .u8 64 R := by
 apply Array.ext_getElem?
 intro i
 by_cases h : i < 64
 ·rw [zqat _ _ _ _ h, Array.getElem?_extract, if_pos (by rw [zqbb]; omega), zqko _ _ _ _ h]
 ·rw [Array.getElem?_eq_none (by simp [zqbb]; omega), Array.getElem?_eq_none (by rw [zqi]; omega)]
theorem zqgb (vs : List Value) : ∀ (o : Nat) (A : Array Value), (zqb7 A o vs).size = A.size := by
 induction vs with
 | nil => intro o A; rfl
 | cons v r ih => intro o A; simp [zqb7, ih]
theorem zqht (vs : List Value) : ∀ (o : Nat) (A : Array Value) (i : Nat), o + vs.length <= A.size -> (zqb7 A o vs)[i]? = if o <= i /\ i < o + vs.length then vs[i - o]? else A[i]? := by
 induction vs with
 | nil => intro o A i _; simp [zqb7]; omega
 | cons v r ih =>
  intro o A i hs
  simp only [List.length_cons] at hs
  have hs' : o + 1 + r.length <= (A.setIfInBounds o v).size := by simp; omega
  simp only [zqb7, List.length_cons]
  rw [ih (o + 1) _ i hs']
  by_cases h1 : o + 1 <= i /\ i < o + 1 + r.length
  ·rw [if_pos h1, if_pos (by omega), show i - o = (i - (o + 1)) + 1 by omega, List.getElem?_cons_succ]
  ·rw [if_neg h1, Array.getElem?_setIfInBounds]
   by_cases h2 : o = i
   ·subst h2
    rw [if_pos rfl, if_pos (by omega), if_pos (by omega), Nat.sub_self, List.getElem?_cons_zero]
   ·rw [if_neg h2, if_neg (by omega)]
theorem zrh4 (A R A' : Nat -> Int) (n : Int) : zqb7 (zqay A R n) 0 (ints .u32 8 A').toList = zqay A' R n := by
 have hl : (ints .u32 8 A').toList.length = 8 := by simp [zqi]
 refine zqix (by rw [zqgb, zqbb]) (fun i hi => ?_) (fun i hi => ?_) ?_ <;> rw [zqht _ _ _ _ (by rw [hl, zqbb]; omega), hl]
 ·rw [if_pos (by omega), Nat.sub_zero, Array.getElem?_toList, zqat _ _ _ _ hi]
 ·rw [if_neg (by omega), zqko _ _ _ _ hi]
 ·rw [if_neg (by omega), zqmk]
theorem zrja (A R R' : Nat -> Int) (n : Int) : zqb7 (zqay A R n) 8 (ints .u8 64 R').toList = zqay A R' n := by
 have hl : (ints .u8 64 R').toList.length = 64 := by simp [zqi]
 refine zqix (by rw [zqgb, zqbb]) (fun i hi => ?_) (fun i hi => ?_) ?_ <;> rw [zqht _ _ _ _ (by rw [hl, zqbb]; omega), hl]
 ·rw [if_neg (by omega), zqjv _ _ _ _ hi]
 ·rw [if_pos (by omega), Nat.add_sub_cancel_left, Array.getElem?_toList, zqat _ _ _ _ hi]
 ·rw [if_neg (by omega), zqmk]
@[go_sem] theorem zrbg (g : Nat) (w : World) (A R : Nat -> Int) (n : Int) (t' : TypeId) (fr : Nat × Nat) : zqau Tryz.prog 215 g 8 w (some (.cells (zqay A R n) t' fr)) = .ok (.agg (ints .u32 8 A)) w := by
 unfold zqau
 simp only [zqbb]
 rw [if_neg (by decide), if_pos (by decide), zri9]
@[go_sem] theorem zq6u (g : Nat) (w : World) (A R A' : Nat -> Int) (n : Int) (t' : TypeId) : zqap Tryz.prog 215 g 8 (.agg (ints .u32 8 A')) w (some (.cells (zqay A R n) t' (0, 0))) = .ok () (w.setRow g (zqay A' R n)) := by
 unfold zqap
 simp only [zqbb, zqi]
 rw [if_neg (fun h => absurd h.1 (by decide)), if_pos ⟨by decide, by trivial, zqdj _ _ _⟩, zrh4]
@[go_sem] theorem zq6h (g : Nat) (w : World) : (zqq 216 (.pointer (some ⟨g, 8, none⟩))).run Tryz.prog w = (zqbh Tryz.prog 216 g 8 64 w (zqd w g)).andThen fun v w' => .ok (.value v) w' := by
 rw [zq7, zqdi Tryz.underlying216 rfl zqb g 8 w]
@[go_sem] theorem zrbk (g : Nat) (w : World) (A R : Nat -> Int) (n : Int) (t' : TypeId) (fr : Nat × Nat) : zqbh Tryz.prog 216 g 8 64 w (some (.cells (zqay A R n) t' fr)) = .ok (.agg (ints .u8 64 R)) w := by
 unfold zqbh
 simp only [zqbb]
 rw [if_pos (by decide), zrh1]
@[go_sem] theorem zq31 (g : Nat) (cs : Array Value) (w : World) : (zqu 216 (.pointer (some ⟨g, 8, none⟩)) (.agg cs)).run Tryz.prog w = (zqb5 Tryz.prog 216 g 8 64 (.agg cs) w (zqd w g)).andThen fun _ w' => .ok .skip w' := by
 rw [zqaa, zqdy zqb g 8 cs w]
@[go_sem] theorem zq6a (g : Nat) (w : World) (A R R' : Nat -> Int) (n : Int) (t' : TypeId) : zqb5 Tryz.prog 216 g 8 64 (.agg (ints .u8 64 R')) w (some (.cells (zqay A R n) t' (0, 0))) = .ok () (w.setRow g (zqay A R' n)) := by
 unfold zqb5
 simp only [zqbb, zqi]
 rw [if_pos ⟨by decide, by trivial, zqdj _ _ _⟩, zrja]
attribute [irreducible] zqay
def zq6w (a b c d e f g h : Int) : Nat -> Int := fun i => [a, b, c, d, e, f, g, h].getD i 0
def zqfu (a b c d e f g h : Value) : Sem Next := do pure (.value (<- Instr.build 215 #[(0, a), (1, b), (2, c), (3, d), (4, e), (5, f), (6, g), (7, h)]))
@[go_sem ↓ high] theorem zrg7 (ρ : Operand -> Value) (dd : Option Tmp) (a b c d e f g h : Operand) (t : TypeId) (pos : String) (af : Array Edge) (gg : Option (Nat × Bool)) :
  execOp ρ ⟨dd, .build 215 #[(0, a), (1, b), (2, c), (3, d), (4, e), (5, f), (6, g), (7, h)], t, pos, af, gg⟩ = zqfu (ρ a) (ρ b) (ρ c) (ρ d) (ρ e) (ρ f) (ρ g) (ρ h) := by simp [execOp, zqfu]
@[go_sem high] theorem zrdb (ρ : Operand -> Value) (dd : Option Tmp) (a b c d e f g h : Operand) (t : TypeId) (pos : String) (af : Array Edge) (gg : Option (Nat × Bool)) :
  execOp ρ ⟨dd, .build 215 #[(0, a), (1, b), (2, c), (3, d), (4, e), (5, f), (6, g), (7, h)], t, pos, af, gg⟩ = zqfu (ρ a) (ρ b) (ρ c) (ρ d) (ρ e) (ρ f) (ρ g) (ρ h) := by simp [execOp, zqfu]
@[go_sem] theorem zrd6 (a b c d e f g h : Int) (w : World) : (zqfu (.int .u32 a) (.int .u32 b) (.int .u32 c) (.int .u32 d) (.int .u32 e) (.int .u32 f) (.int .u32 g) (.int .u32 h)).run Tryz.prog w = .ok (.value (.agg (ints .u32 8 (zq6w a b c d e f g h)))) w := by kernel_rfl
attribute [irreducible] zqfu
def zqb3 (ty : TypeId) : Sem Next := do pure (.value (<- Instr.build ty #[]))
@[go_sem ↓ high] theorem zrhz (ty : TypeId) (ρ : Operand -> Value) (dd : Option Tmp) (t : TypeId) (pos : String) (af : Array Edge) (gg : Option (Nat × Bool)) :
  execOp ρ ⟨dd, .build ty #[], t, pos, af, gg⟩ = zqb3 ty := by simp [execOp, zqb3]
@[go_sem high] theorem zrgm (ty : TypeId) (ρ : Operand -> Value) (dd : Option Tmp) (t : TypeId) (pos : String) (af : Array Edge) (gg : Option (Nat × Bool)) :
  execOp ρ ⟨dd, .build ty #[], t, pos, af, gg⟩ = zqb3 ty := by simp [execOp, zqb3]
@[go_sem] theorem zrda (w : World) : (zqb3 218).run Tryz.prog w = .ok (.value (.agg (zqay zqe zqe 0))) w := by kernel_rfl
@[go_sem] theorem zrgj (w : World) : (zqb3 216).run Tryz.prog w = .ok (.value (.agg (ints .u8 64 zqe))) w := by kernel_rfl
@[go_sem] theorem zrhl (w : World) : (zqb3 44).run Tryz.prog w = .ok (.value (.agg (ints .u8 32 zqe))) w := by kernel_rfl
attribute [irreducible] zqb3
end Go.Proofs.YtpefpiobcpdeoaaGreatDoor
namespace Go.Proofs.YtpefpiobcpdeoaaGreatDoor
open Go.RowKit
attribute [go_sem] setRow_setRow
theorem zq04 {t e : TypeId} {n : Nat} {k : IntKind} (w : World) (g o r : Nat) (ht : Tryz.prog.underlying t = some (.array (Tryz.prog.arrayLen t) (Tryz.prog.elem t))) (hn : Tryz.prog.arrayLen t = n) (hs : (sizeOf (Tryz.prog.elem t)).run Tryz.prog w = .ok 1 w) (hr : r < n) :
  (Instr.sliceAt t (.pointer (some ⟨g, o, none⟩)) (some (.int k r)) none none).run Tryz.prog w = .ok (.slice (some ⟨g, o + r, none⟩) (n - r) (n - r)) w := by
 rw [run_sliceAt_array_l w t _ ht k r (by omega) (by omega), hs, Result.andThen_ok, hn];unfold slicedAt;have e : (⟨g, o, none⟩ : Addr).add (r * 1) = ⟨g, o + r, none⟩ := by unfold Addr.add; split <;> simp_all
 rw [if_neg (by omega), show ((r : Int)).toNat = r by omega, e]
@[go_sem high] theorem zrft (w : World) (g o r : Nat) (hr : r < 64) :
  (Instr.sliceAt 216 (.pointer (some ⟨g, o, none⟩)) (some (.int .i64 r)) none none).run Tryz.prog w = .ok (.slice (some ⟨g, o + r, none⟩) (64 - r) (64 - r)) w :=
 zq04 (t := 216) (e := 5) (n := 64) (k := .i64) w g o r zqb zqb zqb hr
theorem zqf6 {P : Program} (w : World) (dT sT ty elem : TypeId) (g o dLen dCap m : Nat) (s : ByteArray) (cur : Array Value) (t : TypeId)
  (hu : P.underlying dT = some (.slice elem)) (hs : (P.info? elem).map (·.size) = some 1) (hg : w.heap[g]? = some (.cells cur t (0, 0))) (hm : Nat.min s.size dLen = m) (hfit : o + m <= cur.size) :
  (Builtin.copy_ #[dT, sT] ty #[.slice (some ⟨g, o, none⟩) dLen dCap, .string s]).run P w =
   .ok (goInt m) (w.setRow g (cur.toList.take o ++ (List.map (fun b : UInt8 => Value.int .u8 b.toNat) s.data.toList).take m ++ cur.toList.drop (o + m)).toArray) := by
 have hle : m <= s.size := by rw [<- hm]; exact Nat.min_le_left _ _
 have hlen : ((List.map (fun b : UInt8 => Value.int .u8 b.toNat) s.data.toList).take m).length = m := by
  rw [List.length_take, List.length_map];exact Nat.min_eq_left hle
 have hst := run_storeCells_at P g o t ((List.map (fun b : UInt8 => Value.int .u8 b.toNat) s.data.toList).take m) 0 cur w hg (by rw [hlen]; simpa using hfit) (by
  intro v hv;obtain ⟨b, _, rfl⟩ := List.mem_map.1 (List.mem_of_mem_take hv)
  rfl)
 rw [hlen] at hst
 simp only [Nat.add_zero] at hst
 cases hq : P.info? elem with
 | none => simp [hq] at hs
 | some i =>
  simp [Builtin.copy_, run_underlying hu, Builtin.lenOf, Builtin.firstCells, sizeOf, typeInfo, hq, hm]
  rw [hst]
  simp [Result.andThen]
def putT (R : Nat -> Int) (r m : Nat) (s : ByteArray) : Nat -> Int := fun i => if r <= i /\ i < r + m then byteAt s (i - r) else R i
def zqeu (ats : Array TypeId) (ty : TypeId) (args : Array Value) : Sem Next := do pure (.value (<- Builtin.copy_ ats ty args))
def zqmf (P : Program) (ty : TypeId) (g o L C : Nat) (s : ByteArray) (w : World) : Option Obj -> Result Next
 | _ => (zqeu #[167, 9] ty #[.slice (some ⟨g, o, none⟩) L C, .string s]).run P w
@[go_sem ↓ high] theorem zrb1 (ty : TypeId) (cs : Array Bool) (args : Array Value) : builtin .copy #[167, 9] ty cs args = zqeu #[167, 9] ty args := by unfold zqeu; rfl
@[go_sem] theorem zq24 (ty : TypeId) (g o L C : Nat) (s : ByteArray) (w : World) : (zqeu #[167, 9] ty #[.slice (some ⟨g, o, none⟩) L C, .string s]).run Tryz.prog w = zqmf Tryz.prog ty g o L C s w (zqd w g) := rfl
@[go_sem] theorem zq8d (ty : TypeId) (g r C : Nat) (s : ByteArray) (w : World) (A R : Nat -> Int) (n : Int) (t : TypeId) (h : zqd w g = some (.cells (zqay A R n) t (0, 0))) (hr : r < 64) :
  zqmf Tryz.prog ty g (8 + r) (64 - r) C s w (some (.cells (zqay A R n) t (0, 0))) = .ok (.value (.int .i64 (min s.size (64 - r) : Nat))) (w.setRow g (zqay A (putT R r (min s.size (64 - r)) s) n)) := by
 have hm : min s.size (64 - r) <= 64 - r := Nat.min_le_right _ _;have hm' : min s.size (64 - r) <= s.size := Nat.min_le_left _ _;generalize hq : min s.size (64 - r) = m at *
 show (zqeu #[167, 9] ty #[.slice (some ⟨g, 8 + r, none⟩) (64 - r) C, .string s]).run Tryz.prog w = _
 unfold zqeu zqd at *
 simp only [Sem.run_bind, zqf6 w 167 9 ty 5 g (8 + r) (64 - r) C m s _ t Tryz.underlying167 zqb h hq (by rw [zqbb]; omega), Result.andThen_ok, Sem.run_pure]
 have e : ((zqay A R n).toList.take (8 + r) ++ (List.map (fun b : UInt8 => Value.int .u8 b.toNat) s.data.toList).take m ++ (zqay A R n).toList.drop (8 + r + m)).toArray = zqay A (putT R r m s) n := by
  have l1 : ((zqay A R n).toList.take (8 + r)).length = 8 + r := by rw [List.length_take, Array.length_toList, zqbb]; omega
  have l2 : ((List.map (fun b : UInt8 => Value.int .u8 b.toNat) s.data.toList).take m).length = m := by
   rw [List.length_take, List.length_map];exact Nat.min_eq_left hm'
  have a1 : ∀ i, i < 8 + r -> ((zqay A R n).toList.take (8 + r) ++ (List.map (fun b : UInt8 => Value.int .u8 b.toNat) s.data.toList).take m ++ (zqay A R n).toList.drop (8 + r + m))[i]? = (zqay A R n)[i]? := fun i hi => by
   rw [List.append_assoc, List.getElem?_append_left (by omega), List.getElem?_take_of_lt hi, Array.getElem?_toList]
  have a2 : ∀ i, i < m -> ((zqay A R n).toList.take (8 + r) ++ (List.map (fun b : UInt8 => Value.int .u8 b.toNat) s.data.toList).take m ++ (zqay A R n).toList.drop (8 + r + m))[8 + r + i]? = some (.int .u8 (byteAt s i)) := fun i hi => by
   rw [List.append_assoc, List.getElem?_append_right (by omega), l1, List.getElem?_append_left (by omega), show 8 + r + i - (8 + r) = i by omega, List.getElem?_take_of_lt hi, List.getElem?_map];have hs : i < s.size := by omega
   have : s.data.toList[i]? = some s[i] := by
    rw [Array.getElem?_toList];exact Array.getElem?_eq_getElem hs
   rw [this, <- zqd2 s i hs]
   rfl
  have a3 : ∀ i, 8 + r + m <= i -> ((zqay A R n).toList.take (8 + r) ++ (List.map (fun b : UInt8 => Value.int .u8 b.toNat) s.data.toList).take m ++ (zqay A R n).toList.drop (8 + r + m))[i]? = (zqay A R n)[i]? := fun i hi => by
   rw [List.getElem?_append_right (by rw [List.length_append]; omega), List.length_append, l1, l2, List.getElem?_drop, show 8 + r + m + (i - (8 + r + m)) = i by omega, Array.getElem?_toList]
  refine zqix ?_ (fun i hi => ?_) (fun i hi => ?_) ?_
  ·simp only [List.size_toArray, List.length_append, l1, l2, List.length_drop, Array.length_toList, zqbb]; omega
  ·rw [List.getElem?_toArray, a1 i (by omega), zqjv _ _ _ _ hi]
  ·rw [List.getElem?_toArray]
   unfold putT
   by_cases h1 : r <= i /\ i < r + m
   ·rw [if_pos h1, show 8 + i = 8 + r + (i - r) by omega, a2 _ (by omega)]
   ·rw [if_neg h1]
    by_cases h2 : i < r
    ·rw [a1 _ (by omega), zqko _ _ _ _ hi]
    ·rw [a3 _ (by omega), zqko _ _ _ _ hi]
  ·rw [List.getElem?_toArray, a3 _ (by omega), zqmk]
 rw [e]
 rfl
attribute [irreducible] zqeu zqmf
end Go.Proofs.YtpefpiobcpdeoaaGreatDoor
