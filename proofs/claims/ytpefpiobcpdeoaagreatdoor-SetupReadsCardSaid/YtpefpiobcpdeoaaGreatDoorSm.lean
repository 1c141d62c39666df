/- Sm -/
import Derived.Test.YtpefpiobcpdeoaaGreatDoorMem
import Derived.Test.YtpefpiobcpdeoaaGreatDoorCt
set_option linter.unusedVariables false
set_option linter.unusedSimpArgs false
namespace Go.Proofs.YtpefpiobcpdeoaaGreatDoor
open Go.RowKit
@[go_sem ↓ high] theorem zris (ρ : Operand -> Value) (d : Option Tmp) (x : Operand) (t : TypeId) (pos : String) (af : Array Edge) (g : Option (Nat × Bool)) :
  execOp ρ ⟨d, .load 215 x, t, pos, af, g⟩ = zqq 215 (ρ x) := zqax _ ρ d x t pos af g
@[go_sem high] theorem zrgh (ρ : Operand -> Value) (d : Option Tmp) (x : Operand) (t : TypeId) (pos : String) (af : Array Edge) (g : Option (Nat × Bool)) :
  execOp ρ ⟨d, .load 215 x, t, pos, af, g⟩ = zqq 215 (ρ x) := zqax _ ρ d x t pos af g
@[go_sem] theorem zrbu (g : Nat) (w : World) : (zqq 215 (.pointer (some ⟨g, 0, none⟩))).run Tryz.prog w = (zqau Tryz.prog 215 g 8 w (zqe w g)).andThen fun v w' => .ok (.value v) w' := by
 rw [zq6, zqa4 Tryz.underlying215 rfl zqb g w]
@[go_sem] theorem zrci (g : Nat) (w : World) (cs : Array Value) (t' : TypeId) (fr : Nat × Nat) (h : cs.size = 8) : zqau Tryz.prog 215 g 8 w (some (.cells cs t' fr)) = .ok (.agg cs) w := zqan cs t' fr h
@[go_sem ↓ high] theorem zrge (ρ : Operand -> Value) (d : Option Tmp) (x y : Operand) (t : TypeId) (pos : String) (af : Array Edge) (g : Option (Nat × Bool)) :
  execOp ρ ⟨d, .store 215 x y, t, pos, af, g⟩ = zqu 215 (ρ x) (ρ y) := zqas _ ρ d x y t pos af g
@[go_sem high] theorem zrdl (ρ : Operand -> Value) (d : Option Tmp) (x y : Operand) (t : TypeId) (pos : String) (af : Array Edge) (g : Option (Nat × Bool)) :
  execOp ρ ⟨d, .store 215 x y, t, pos, af, g⟩ = zqu 215 (ρ x) (ρ y) := zqas _ ρ d x y t pos af g
@[go_sem] theorem zq99 (g : Nat) (cs : Array Value) (w : World) : (zqu 215 (.pointer (some ⟨g, 0, none⟩)) (.agg cs)).run Tryz.prog w = (zqao Tryz.prog 215 g 8 (.agg cs) w (zqe w g)).andThen fun _ w' => .ok .skip w' := by
 rw [zq9, zqa6 zqb g cs w]
@[go_sem] theorem zq80 (g : Nat) (w : World) (old cs : Array Value) (t' : TypeId) (h1 : old.size = 8) (h2 : cs.size = 8) (h3 : zqal cs = true) :
  zqao Tryz.prog 215 g 8 (.agg cs) w (some (.cells old t' (0, 0))) = .ok () (w.setRow g cs) := zqaq old cs t' h1 h2 h3
@[go_sem high] theorem zrf8 (w : World) : (zeroValue 215).run Tryz.prog w = .ok (.agg (ints .u32 8 zqc)) w := by kernel_rfl
@[go_sem ↓ high] theorem zrhp (w : World) : (zeroValue 215).run Tryz.prog w = .ok (.agg (ints .u32 8 zqc)) w := by kernel_rfl
@[go_sem] theorem zrfv (k' : IntKind) (f : Nat -> Int) (j : Int) (w : World) (h0 : 0 <= j) (h1 : j < 8) : (Instr.index 215 (.agg (ints .u32 8 f)) (.int k' j)).run Tryz.prog w = .ok (.int .u32 (f j.toNat)) w :=
 zqb0 w .u32 k' f j Tryz.underlying215 Tryz.underlying22 (i := (Tryz.prog.info? 22).get zqb) zqb zqb h0 h1
@[go_sem high] theorem zrjd (f g : Nat -> Int) (w : World) : (binOp .eql 215 (.agg (ints .u32 8 f)) (.agg (ints .u32 8 g))).run Tryz.prog w = .ok (.bool (same 8 f g)) w :=
 zqco w .u32 f g Tryz.underlying215 Tryz.underlying22 (i := (Tryz.prog.info? 22).get zqb) zqb zqb
@[go_sem high] theorem zrjb (f g : Nat -> Int) (w : World) : (binOp .neq 215 (.agg (ints .u32 8 f)) (.agg (ints .u32 8 g))).run Tryz.prog w = .ok (.bool (!same 8 f g)) w :=
 zqck w .u32 f g Tryz.underlying215 Tryz.underlying22 (i := (Tryz.prog.info? 22).get zqb) zqb zqb
@[go_sem ↓ high] theorem zrf4 (ρ : Operand -> Value) (d : Option Tmp) (x : Operand) (t : TypeId) (pos : String) (af : Array Edge) (g : Option (Nat × Bool)) :
  execOp ρ ⟨d, .load 216 x, t, pos, af, g⟩ = zqq 216 (ρ x) := zqax _ ρ d x t pos af g
@[go_sem high] theorem zref (ρ : Operand -> Value) (d : Option Tmp) (x : Operand) (t : TypeId) (pos : String) (af : Array Edge) (g : Option (Nat × Bool)) :
  execOp ρ ⟨d, .load 216 x, t, pos, af, g⟩ = zqq 216 (ρ x) := zqax _ ρ d x t pos af g
@[go_sem] theorem zq91 (g : Nat) (w : World) : (zqq 216 (.pointer (some ⟨g, 0, none⟩))).run Tryz.prog w = (zqau Tryz.prog 216 g 64 w (zqe w g)).andThen fun v w' => .ok (.value v) w' := by
 rw [zq6, zqa4 Tryz.underlying216 rfl zqb g w]
@[go_sem] theorem zraa (g : Nat) (w : World) (cs : Array Value) (t' : TypeId) (fr : Nat × Nat) (h : cs.size = 64) : zqau Tryz.prog 216 g 64 w (some (.cells cs t' fr)) = .ok (.agg cs) w := zqan cs t' fr h
@[go_sem ↓ high] theorem zrc7 (ρ : Operand -> Value) (d : Option Tmp) (x y : Operand) (t : TypeId) (pos : String) (af : Array Edge) (g : Option (Nat × Bool)) :
  execOp ρ ⟨d, .store 216 x y, t, pos, af, g⟩ = zqu 216 (ρ x) (ρ y) := zqas _ ρ d x y t pos af g
@[go_sem high] theorem zrbb (ρ : Operand -> Value) (d : Option Tmp) (x y : Operand) (t : TypeId) (pos : String) (af : Array Edge) (g : Option (Nat × Bool)) :
  execOp ρ ⟨d, .store 216 x y, t, pos, af, g⟩ = zqu 216 (ρ x) (ρ y) := zqas _ ρ d x y t pos af g
@[go_sem] theorem zq5y (g : Nat) (cs : Array Value) (w : World) : (zqu 216 (.pointer (some ⟨g, 0, none⟩)) (.agg cs)).run Tryz.prog w = (zqao Tryz.prog 216 g 64 (.agg cs) w (zqe w g)).andThen fun _ w' => .ok .skip w' := by
 rw [zq9, zqa6 zqb g cs w]
@[go_sem] theorem zq54 (g : Nat) (w : World) (old cs : Array Value) (t' : TypeId) (h1 : old.size = 64) (h2 : cs.size = 64) (h3 : zqal cs = true) :
  zqao Tryz.prog 216 g 64 (.agg cs) w (some (.cells old t' (0, 0))) = .ok () (w.setRow g cs) := zqaq old cs t' h1 h2 h3
@[go_sem high] theorem zrc4 (w : World) : (zeroValue 216).run Tryz.prog w = .ok (.agg (ints .u8 64 zqc)) w := by kernel_rfl
@[go_sem ↓ high] theorem zrgg (w : World) : (zeroValue 216).run Tryz.prog w = .ok (.agg (ints .u8 64 zqc)) w := by kernel_rfl
@[go_sem] theorem zrdj (k' : IntKind) (f : Nat -> Int) (j : Int) (w : World) (h0 : 0 <= j) (h1 : j < 64) : (Instr.index 216 (.agg (ints .u8 64 f)) (.int k' j)).run Tryz.prog w = .ok (.int .u8 (f j.toNat)) w :=
 zqb0 w .u8 k' f j Tryz.underlying216 Tryz.underlying5 (i := (Tryz.prog.info? 5).get zqb) zqb zqb h0 h1
@[go_sem high] theorem zrhe (f g : Nat -> Int) (w : World) : (binOp .eql 216 (.agg (ints .u8 64 f)) (.agg (ints .u8 64 g))).run Tryz.prog w = .ok (.bool (same 64 f g)) w :=
 zqco w .u8 f g Tryz.underlying216 Tryz.underlying5 (i := (Tryz.prog.info? 5).get zqb) zqb zqb
@[go_sem high] theorem zrhz (f g : Nat -> Int) (w : World) : (binOp .neq 216 (.agg (ints .u8 64 f)) (.agg (ints .u8 64 g))).run Tryz.prog w = .ok (.bool (!same 64 f g)) w :=
 zqck w .u8 f g Tryz.underlying216 Tryz.underlying5 (i := (Tryz.prog.info? 5).get zqb) zqb zqb
@[go_sem ↓ high] theorem zrg2 (ρ : Operand -> Value) (d : Option Tmp) (x : Operand) (t : TypeId) (pos : String) (af : Array Edge) (g : Option (Nat × Bool)) :
  execOp ρ ⟨d, .load 274 x, t, pos, af, g⟩ = zqq 274 (ρ x) := zqax _ ρ d x t pos af g
@[go_sem high] theorem zrez (ρ : Operand -> Value) (d : Option Tmp) (x : Operand) (t : TypeId) (pos : String) (af : Array Edge) (g : Option (Nat × Bool)) :
  execOp ρ ⟨d, .load 274 x, t, pos, af, g⟩ = zqq 274 (ρ x) := zqax _ ρ d x t pos af g
@[go_sem] theorem zq82 (g : Nat) (w : World) : (zqq 274 (.pointer (some ⟨g, 0, none⟩))).run Tryz.prog w = (zqau Tryz.prog 274 g 64 w (zqe w g)).andThen fun v w' => .ok (.value v) w' := by
 rw [zq6, zqa4 Tryz.underlying274 rfl zqb g w]
@[go_sem] theorem zq7s (g : Nat) (w : World) (cs : Array Value) (t' : TypeId) (fr : Nat × Nat) (h : cs.size = 64) : zqau Tryz.prog 274 g 64 w (some (.cells cs t' fr)) = .ok (.agg cs) w := zqan cs t' fr h
@[go_sem ↓ high] theorem zrfc (ρ : Operand -> Value) (d : Option Tmp) (x y : Operand) (t : TypeId) (pos : String) (af : Array Edge) (g : Option (Nat × Bool)) :
  execOp ρ ⟨d, .store 274 x y, t, pos, af, g⟩ = zqu 274 (ρ x) (ρ y) := zqas _ ρ d x y t pos af g
@[go_sem high] theorem zrcb (ρ : Operand -> Value) (d : Option Tmp) (x y : Operand) (t : TypeId) (pos : String) (af : Array Edge) (g : Option (Nat × Bool)) :
  execOp ρ ⟨d, .store 274 x y, t, pos, af, g⟩ = zqu 274 (ρ x) (ρ y) := zqas _ ρ d x y t pos af g
@[go_sem] theorem zq63 (g : Nat) (cs : Array Value) (w : World) : (zqu 274 (.pointer (some ⟨g, 0, none⟩)) (.agg cs)).run Tryz.prog w = (zqao Tryz.prog 274 g 64 (.agg cs) w (zqe w g)).andThen fun _ w' => .ok .skip w' := by
 rw [zq9, zqa6 zqb g cs w]
@[go_sem] theorem zq5w (g : Nat) (w : World) (old cs : Array Value) (t' : TypeId) (h1 : old.size = 64) (h2 : cs.size = 64) (h3 : zqal cs = true) :
  zqao Tryz.prog 274 g 64 (.agg cs) w (some (.cells old t' (0, 0))) = .ok () (w.setRow g cs) := zqaq old cs t' h1 h2 h3
@[go_sem high] theorem zrds (w : World) : (zeroValue 274).run Tryz.prog w = .ok (.agg (ints .u32 64 zqc)) w := by kernel_rfl
@[go_sem ↓ high] theorem zrgx (w : World) : (zeroValue 274).run Tryz.prog w = .ok (.agg (ints .u32 64 zqc)) w := by kernel_rfl
@[go_sem] theorem zrcx (k' : IntKind) (f : Nat -> Int) (j : Int) (w : World) (h0 : 0 <= j) (h1 : j < 64) : (Instr.index 274 (.agg (ints .u32 64 f)) (.int k' j)).run Tryz.prog w = .ok (.int .u32 (f j.toNat)) w :=
 zqb0 w .u32 k' f j Tryz.underlying274 Tryz.underlying22 (i := (Tryz.prog.info? 22).get zqb) zqb zqb h0 h1
@[go_sem high] theorem zrit (f g : Nat -> Int) (w : World) : (binOp .eql 274 (.agg (ints .u32 64 f)) (.agg (ints .u32 64 g))).run Tryz.prog w = .ok (.bool (same 64 f g)) w :=
 zqco w .u32 f g Tryz.underlying274 Tryz.underlying22 (i := (Tryz.prog.info? 22).get zqb) zqb zqb
@[go_sem high] theorem zrik (f g : Nat -> Int) (w : World) : (binOp .neq 274 (.agg (ints .u32 64 f)) (.agg (ints .u32 64 g))).run Tryz.prog w = .ok (.bool (!same 64 f g)) w :=
 zqck w .u32 f g Tryz.underlying274 Tryz.underlying22 (i := (Tryz.prog.info? 22).get zqb) zqb zqb
@[go_sem ↓ high] theorem zrij (ρ : Operand -> Value) (d : Option Tmp) (x : Operand) (t : TypeId) (pos : String) (af : Array Edge) (g : Option (Nat × Bool)) :
  execOp ρ ⟨d, .load 172 x, t, pos, af, g⟩ = zqq 172 (ρ x) := zqax _ ρ d x t pos af g
@[go_sem high] theorem zrgn (ρ : Operand -> Value) (d : Option Tmp) (x : Operand) (t : TypeId) (pos : String) (af : Array Edge) (g : Option (Nat × Bool)) :
  execOp ρ ⟨d, .load 172 x, t, pos, af, g⟩ = zqq 172 (ρ x) := zqax _ ρ d x t pos af g
@[go_sem] theorem zrbi (g : Nat) (w : World) : (zqq 172 (.pointer (some ⟨g, 0, none⟩))).run Tryz.prog w = (zqau Tryz.prog 172 g 8 w (zqe w g)).andThen fun v w' => .ok (.value v) w' := by
 rw [zq6, zqa4 Tryz.underlying172 rfl zqb g w]
@[go_sem] theorem zrcl (g : Nat) (w : World) (cs : Array Value) (t' : TypeId) (fr : Nat × Nat) (h : cs.size = 8) : zqau Tryz.prog 172 g 8 w (some (.cells cs t' fr)) = .ok (.agg cs) w := zqan cs t' fr h
@[go_sem ↓ high] theorem zrfx (ρ : Operand -> Value) (d : Option Tmp) (x y : Operand) (t : TypeId) (pos : String) (af : Array Edge) (g : Option (Nat × Bool)) :
  execOp ρ ⟨d, .store 172 x y, t, pos, af, g⟩ = zqu 172 (ρ x) (ρ y) := zqas _ ρ d x y t pos af g
@[go_sem high] theorem zreu (ρ : Operand -> Value) (d : Option Tmp) (x y : Operand) (t : TypeId) (pos : String) (af : Array Edge) (g : Option (Nat × Bool)) :
  execOp ρ ⟨d, .store 172 x y, t, pos, af, g⟩ = zqu 172 (ρ x) (ρ y) := zqas _ ρ d x y t pos af g
@[go_sem] theorem zq9i (g : Nat) (cs : Array Value) (w : World) : (zqu 172 (.pointer (some ⟨g, 0, none⟩)) (.agg cs)).run Tryz.prog w = (zqao Tryz.prog 172 g 8 (.agg cs) w (zqe w g)).andThen fun _ w' => .ok .skip w' := by
 rw [zq9, zqa6 zqb g cs w]
@[go_sem] theorem zraj (g : Nat) (w : World) (old cs : Array Value) (t' : TypeId) (h1 : old.size = 8) (h2 : cs.size = 8) (h3 : zqal cs = true) :
  zqao Tryz.prog 172 g 8 (.agg cs) w (some (.cells old t' (0, 0))) = .ok () (w.setRow g cs) := zqaq old cs t' h1 h2 h3
@[go_sem high] theorem zrgq (w : World) : (zeroValue 172).run Tryz.prog w = .ok (.agg (ints .u8 8 zqc)) w := by kernel_rfl
@[go_sem ↓ high] theorem zrig (w : World) : (zeroValue 172).run Tryz.prog w = .ok (.agg (ints .u8 8 zqc)) w := by kernel_rfl
@[go_sem] theorem zrf0 (k' : IntKind) (f : Nat -> Int) (j : Int) (w : World) (h0 : 0 <= j) (h1 : j < 8) : (Instr.index 172 (.agg (ints .u8 8 f)) (.int k' j)).run Tryz.prog w = .ok (.int .u8 (f j.toNat)) w :=
 zqb0 w .u8 k' f j Tryz.underlying172 Tryz.underlying5 (i := (Tryz.prog.info? 5).get zqb) zqb zqb h0 h1
@[go_sem high] theorem zrje (f g : Nat -> Int) (w : World) : (binOp .eql 172 (.agg (ints .u8 8 f)) (.agg (ints .u8 8 g))).run Tryz.prog w = .ok (.bool (same 8 f g)) w :=
 zqco w .u8 f g Tryz.underlying172 Tryz.underlying5 (i := (Tryz.prog.info? 5).get zqb) zqb zqb
@[go_sem high] theorem zri6 (f g : Nat -> Int) (w : World) : (binOp .neq 172 (.agg (ints .u8 8 f)) (.agg (ints .u8 8 g))).run Tryz.prog w = .ok (.bool (!same 8 f g)) w :=
 zqck w .u8 f g Tryz.underlying172 Tryz.underlying5 (i := (Tryz.prog.info? 5).get zqb) zqb zqb
@[go_sem ↓ high] theorem zrdu (ρ : Operand -> Value) (d : Option Tmp) (x : Operand) (t : TypeId) (pos : String) (af : Array Edge) (g : Option (Nat × Bool)) :
  execOp ρ ⟨d, .load 218 x, t, pos, af, g⟩ = zqq 218 (ρ x) := zqax _ ρ d x t pos af g
@[go_sem high] theorem zrch (ρ : Operand -> Value) (d : Option Tmp) (x : Operand) (t : TypeId) (pos : String) (af : Array Edge) (g : Option (Nat × Bool)) :
  execOp ρ ⟨d, .load 218 x, t, pos, af, g⟩ = zqq 218 (ρ x) := zqax _ ρ d x t pos af g
@[go_sem] theorem zq5x (g : Nat) (w : World) : (zqq 218 (.pointer (some ⟨g, 0, none⟩))).run Tryz.prog w = (zqau Tryz.prog 218 g 73 w (zqe w g)).andThen fun v w' => .ok (.value v) w' := by
 rw [zq6, zqa4 Tryz.underlying218 rfl zqb g w]
@[go_sem] theorem zq52 (g : Nat) (w : World) (cs : Array Value) (t' : TypeId) (fr : Nat × Nat) (h : cs.size = 73) : zqau Tryz.prog 218 g 73 w (some (.cells cs t' fr)) = .ok (.agg cs) w := zqan cs t' fr h
@[go_sem ↓ high] theorem zrb0 (ρ : Operand -> Value) (d : Option Tmp) (x y : Operand) (t : TypeId) (pos : String) (af : Array Edge) (g : Option (Nat × Bool)) :
  execOp ρ ⟨d, .store 218 x y, t, pos, af, g⟩ = zqu 218 (ρ x) (ρ y) := zqas _ ρ d x y t pos af g
@[go_sem high] theorem zq9x (ρ : Operand -> Value) (d : Option Tmp) (x y : Operand) (t : TypeId) (pos : String) (af : Array Edge) (g : Option (Nat × Bool)) :
  execOp ρ ⟨d, .store 218 x y, t, pos, af, g⟩ = zqu 218 (ρ x) (ρ y) := zqas _ ρ d x y t pos af g
@[go_sem] theorem zq2y (g : Nat) (cs : Array Value) (w : World) : (zqu 218 (.pointer (some ⟨g, 0, none⟩)) (.agg cs)).run Tryz.prog w = (zqao Tryz.prog 218 g 73 (.agg cs) w (zqe w g)).andThen fun _ w' => .ok .skip w' := by
 rw [zq9, zqa6 zqb g cs w]
@[go_sem] theorem zq4x (g : Nat) (w : World) (old cs : Array Value) (t' : TypeId) (h1 : old.size = 73) (h2 : cs.size = 73) (h3 : zqal cs = true) :
  zqao Tryz.prog 218 g 73 (.agg cs) w (some (.cells old t' (0, 0))) = .ok () (w.setRow g cs) := zqaq old cs t' h1 h2 h3
def zqay (A R : Nat -> Int) (n : Int) : Array Value := (ints .u32 8 A ++ ints .u8 64 R).push (.int .u64 n)
@[go_sem] theorem zqa9 (A R : Nat -> Int) (n : Int) : (zqay A R n).size = 73 := by simp [zqay, zqi]
@[go_sem] theorem zq0r (A R : Nat -> Int) (n : Int) : zqal (zqay A R n) = true := by
 have h1 := zqdg .u32 8 A;have h2 := zqdg .u8 64 R;unfold zqal at *;unfold zqay;rw [Array.all_push, Array.all_append, h1, h2]
 rfl
@[go_sem] theorem zqln (A R : Nat -> Int) (n : Int) : (zqay A R n)[72]? = some (.int .u64 n) := by
 unfold zqay;rw [Array.getElem?_push, if_pos (by simp [zqi])]
@[go_sem] theorem zrgp (A R : Nat -> Int) (n : Int) (h : 72 < (zqay A R n).size) : (zqay A R n)[72] = .int .u64 n := by
 have := zqln A R n;rw [Array.getElem?_eq_getElem h] at this;exact Option.some.inj this
@[go_sem] theorem zqje (A R : Nat -> Int) (n : Int) (i : Nat) (h : i < 8) : (zqay A R n)[i]? = some (.int .u32 (A i)) := by
 unfold zqay;rw [Array.getElem?_push, if_neg (by simp [zqi]; omega), Array.getElem?_append_left (by rw [zqi]; exact h), zqar _ _ _ _ h]
@[go_sem] theorem zrfz (A R : Nat -> Int) (n : Int) (i : Nat) (h : i < 8) (h' : i < (zqay A R n).size) : (zqay A R n)[i] = .int .u32 (A i) := by
 have := zqje A R n i h;rw [Array.getElem?_eq_getElem h'] at this;exact Option.some.inj this
theorem zqjf (A R : Nat -> Int) (n : Int) (i : Nat) (h : i < 64) : (zqay A R n)[8 + i]? = some (.int .u8 (R i)) := by
 unfold zqay;rw [Array.getElem?_push, if_neg (by simp [zqi]; omega), Array.getElem?_append_right (by rw [zqi]; omega), zqi, show 8 + i - 8 = i by omega, zqar _ _ _ _ h]
theorem zqig {cs : Array Value} {A R : Nat -> Int} {n : Int} (hs : cs.size = 73) (ha : ∀ i, i < 8 -> cs[i]? = some (.int .u32 (A i))) (hr : ∀ i, i < 64 -> cs[8 + i]? = some (.int .u8 (R i))) (hn : cs[72]? = some (.int .u64 n)) : cs = zqay A R n := by
 apply Array.ext_getElem?
 intro i
 rcases (by omega : i < 8 \/ (8 <= i /\ i < 72) \/ i = 72 \/ 73 <= i) with h | h | h | h
 ·rw [ha i h, zqje _ _ _ _ h]
 ·have := hr (i - 8) (by omega)
  have h2 := zqjf A R n (i - 8) (by omega);rw [show 8 + (i - 8) = i by omega] at this h2;rw [this, h2]
 ·subst h; rw [hn, zqln]
 ·rw [Array.getElem?_eq_none (by omega), Array.getElem?_eq_none (by rw [zqa9]; omega)]
theorem zqhx {A A' R R' : Nat -> Int} {n : Int} (ha : ∀ i, i < 8 -> A i = A' i) (hr : ∀ i, i < 64 -> R i = R' i) : zqay A R n = zqay A' R' n := by
 unfold zqay;rw [zqaz ha, zqaz hr]
@[go_sem] theorem zrbd (A R : Nat -> Int) (n m : Int) : (zqay A R n).setIfInBounds 72 (.int .u64 m) = zqay A R m := by
 refine zqig (by simp [zqa9]) (fun i hi => ?_) (fun i hi => ?_) ?_
 ·rw [Array.getElem?_setIfInBounds, if_neg (by omega), zqje _ _ _ _ hi]
 ·rw [Array.getElem?_setIfInBounds, if_neg (by omega), zqjf _ _ _ _ hi]
 ·rw [Array.getElem?_setIfInBounds, if_pos rfl, zqa9]; rfl
@[go_sem high] theorem zrb1 (w : World) : (zeroValue 218).run Tryz.prog w = .ok (.agg (zqay zqc zqc 0)) w := by kernel_rfl
@[go_sem ↓ high] theorem zrfe (w : World) : (zeroValue 218).run Tryz.prog w = .ok (.agg (zqay zqc zqc 0)) w := by kernel_rfl
theorem zrif (A R : Nat -> Int) (n : Int) : (zqay A R n).extract 0 8 = ints .u32 8 A := by
 apply Array.ext_getElem?
 intro i
 by_cases h : i < 8
 ·rw [zqar _ _ _ _ h, Array.getElem?_extract, if_pos (by rw [zqa9]; omega), Nat.zero_add, zqje _ _ _ _ h]
 ·rw [Array.getElem?_eq_none (by simp [zqa9]; omega), Array.getElem?_eq_none (by rw [zqi]; omega)]
theorem zrhc (A R : Nat -> Int) (n : Int) : (zqay A R n).extract 8 (8 + 64) = ints .u8 64 R := by
 apply Array.ext_getElem?
 intro i
 by_cases h : i < 64
 ·rw [zqar _ _ _ _ h, Array.getElem?_extract, if_pos (by rw [zqa9]; omega), zqjf _ _ _ _ h]
 ·rw [Array.getElem?_eq_none (by simp [zqa9]; omega), Array.getElem?_eq_none (by rw [zqi]; omega)]
theorem zqf6 (vs : List Value) : ∀ (o : Nat) (A : Array Value), (zqb8 A o vs).size = A.size := by
 induction vs with
 | nil => intro o A; rfl
 | cons v r ih => intro o A; simp [zqb8, ih]
theorem zqg8 (vs : List Value) : ∀ (o : Nat) (A : Array Value) (i : Nat), o + vs.length <= A.size -> (zqb8 A o vs)[i]? = if o <= i /\ i < o + vs.length then vs[i - o]? else A[i]? := by
 induction vs with
 | nil => intro o A i _; simp [zqb8]; omega
 | cons v r ih =>
  intro o A i hs
  simp only [List.length_cons] at hs
  have hs' : o + 1 + r.length <= (A.setIfInBounds o v).size := by simp; omega
  simp only [zqb8, List.length_cons]
  rw [ih (o + 1) _ i hs']
  by_cases h1 : o + 1 <= i /\ i < o + 1 + r.length
  ·rw [if_pos h1, if_pos (by omega), show i - o = (i - (o + 1)) + 1 by omega, List.getElem?_cons_succ]
  ·rw [if_neg h1, Array.getElem?_setIfInBounds]
   by_cases h2 : o = i
   ·subst h2
    rw [if_pos rfl, if_pos (by omega), if_pos (by omega), Nat.sub_self, List.getElem?_cons_zero]
   ·rw [if_neg h2, if_neg (by omega)]
theorem zrid (A R A' : Nat -> Int) (n : Int) : zqb8 (zqay A R n) 0 (ints .u32 8 A').toList = zqay A' R n := by
 have hl : (ints .u32 8 A').toList.length = 8 := by simp [zqi]
 refine zqig (by rw [zqf6, zqa9]) (fun i hi => ?_) (fun i hi => ?_) ?_ <;> rw [zqg8 _ _ _ _ (by rw [hl, zqa9]; omega), hl]
 ·rw [if_pos (by omega), Nat.sub_zero, Array.getElem?_toList, zqar _ _ _ _ hi]
 ·rw [if_neg (by omega), zqjf _ _ _ _ hi]
 ·rw [if_neg (by omega), zqln]
theorem zrhd (A R R' : Nat -> Int) (n : Int) : zqb8 (zqay A R n) 8 (ints .u8 64 R').toList = zqay A R' n := by
 have hl : (ints .u8 64 R').toList.length = 64 := by simp [zqi]
 refine zqig (by rw [zqf6, zqa9]) (fun i hi => ?_) (fun i hi => ?_) ?_ <;> rw [zqg8 _ _ _ _ (by rw [hl, zqa9]; omega), hl]
 ·rw [if_neg (by omega), zqje _ _ _ _ hi]
 ·rw [if_pos (by omega), Nat.add_sub_cancel_left, Array.getElem?_toList, zqar _ _ _ _ hi]
 ·rw [if_neg (by omega), zqln]
@[go_sem] theorem zq8m (g : Nat) (w : World) (A R : Nat -> Int) (n : Int) (t' : TypeId) (fr : Nat × Nat) : zqau Tryz.prog 215 g 8 w (some (.cells (zqay A R n) t' fr)) = .ok (.agg (ints .u32 8 A)) w := by
 unfold zqau
 simp only [zqa9]
 rw [if_neg (by decide), if_pos (by decide), zrif]
@[go_sem] theorem zq5g (g : Nat) (w : World) (A R A' : Nat -> Int) (n : Int) (t' : TypeId) : zqao Tryz.prog 215 g 8 (.agg (ints .u32 8 A')) w (some (.cells (zqay A R n) t' (0, 0))) = .ok () (w.setRow g (zqay A' R n)) := by
 unfold zqao
 simp only [zqa9, zqi]
 rw [if_neg (fun h => absurd h.1 (by decide)), if_pos ⟨by decide, by trivial, zqdg _ _ _⟩, zrid]
@[go_sem] theorem zq57 (g : Nat) (w : World) : (zqq 216 (.pointer (some ⟨g, 8, none⟩))).run Tryz.prog w = (zqbe Tryz.prog 216 g 8 64 w (zqe w g)).andThen fun v w' => .ok (.value v) w' := by
 rw [zq6, zqdd Tryz.underlying216 rfl zqb g 8 w]
@[go_sem] theorem zra0 (g : Nat) (w : World) (A R : Nat -> Int) (n : Int) (t' : TypeId) (fr : Nat × Nat) : zqbe Tryz.prog 216 g 8 64 w (some (.cells (zqay A R n) t' fr)) = .ok (.agg (ints .u8 64 R)) w := by
 unfold zqbe
 simp only [zqa9]
 rw [if_pos (by decide), zrhc]
@[go_sem] theorem zq3j (g : Nat) (cs : Array Value) (w : World) : (zqu 216 (.pointer (some ⟨g, 8, none⟩)) (.agg cs)).run Tryz.prog w = (zqb2 Tryz.prog 216 g 8 64 (.agg cs) w (zqe w g)).andThen fun _ w' => .ok .skip w' := by
 rw [zq9, zqdv zqb g 8 cs w]
@[go_sem] theorem zq6v (g : Nat) (w : World) (A R R' : Nat -> Int) (n : Int) (t' : TypeId) : zqb2 Tryz.prog 216 g 8 64 (.agg (ints .u8 64 R')) w (some (.cells (zqay A R n) t' (0, 0))) = .ok () (w.setRow g (zqay A R' n)) := by
 unfold zqb2
 simp only [zqa9, zqi]
 rw [if_pos ⟨by decide, by trivial, zqdg _ _ _⟩, zrhd]
attribute [irreducible] zqay
def zq6j (a b c d e f g h : Int) : Nat -> Int := fun i => [a, b, c, d, e, f, g, h].getD i 0
def zqfy (a b c d e f g h : Value) : Sem Next := do pure (.value (<- Instr.build 215 #[(0, a), (1, b), (2, c), (3, d), (4, e), (5, f), (6, g), (7, h)]))
@[go_sem ↓ high] theorem zrgz (ρ : Operand -> Value) (dd : Option Tmp) (a b c d e f g h : Operand) (t : TypeId) (pos : String) (af : Array Edge) (gg : Option (Nat × Bool)) :
  execOp ρ ⟨dd, .build 215 #[(0, a), (1, b), (2, c), (3, d), (4, e), (5, f), (6, g), (7, h)], t, pos, af, gg⟩ = zqfy (ρ a) (ρ b) (ρ c) (ρ d) (ρ e) (ρ f) (ρ g) (ρ h) := by simp [execOp, zqfy]
@[go_sem high] theorem zre8 (ρ : Operand -> Value) (dd : Option Tmp) (a b c d e f g h : Operand) (t : TypeId) (pos : String) (af : Array Edge) (gg : Option (Nat × Bool)) :
  execOp ρ ⟨dd, .build 215 #[(0, a), (1, b), (2, c), (3, d), (4, e), (5, f), (6, g), (7, h)], t, pos, af, gg⟩ = zqfy (ρ a) (ρ b) (ρ c) (ρ d) (ρ e) (ρ f) (ρ g) (ρ h) := by simp [execOp, zqfy]
@[go_sem] theorem zrfo (a b c d e f g h : Int) (w : World) : (zqfy (.int .u32 a) (.int .u32 b) (.int .u32 c) (.int .u32 d) (.int .u32 e) (.int .u32 f) (.int .u32 g) (.int .u32 h)).run Tryz.prog w = .ok (.value (.agg (ints .u32 8 (zq6j a b c d e f g h)))) w := by kernel_rfl
attribute [irreducible] zqfy
def zqbz (ty : TypeId) : Sem Next := do pure (.value (<- Instr.build ty #[]))
@[go_sem ↓ high] theorem zrib (ty : TypeId) (ρ : Operand -> Value) (dd : Option Tmp) (t : TypeId) (pos : String) (af : Array Edge) (gg : Option (Nat × Bool)) :
  execOp ρ ⟨dd, .build ty #[], t, pos, af, gg⟩ = zqbz ty := by simp [execOp, zqbz]
@[go_sem high] theorem zrf1 (ty : TypeId) (ρ : Operand -> Value) (dd : Option Tmp) (t : TypeId) (pos : String) (af : Array Edge) (gg : Option (Nat × Bool)) :
  execOp ρ ⟨dd, .build ty #[], t, pos, af, gg⟩ = zqbz ty := by simp [execOp, zqbz]
@[go_sem] theorem zreq (w : World) : (zqbz 218).run Tryz.prog w = .ok (.value (.agg (zqay zqc zqc 0))) w := by kernel_rfl
@[go_sem] theorem zrfy (w : World) : (zqbz 216).run Tryz.prog w = .ok (.value (.agg (ints .u8 64 zqc))) w := by kernel_rfl
@[go_sem] theorem zrfr (w : World) : (zqbz 44).run Tryz.prog w = .ok (.value (.agg (ints .u8 32 zqc))) w := by kernel_rfl
attribute [irreducible] zqbz
end Go.Proofs.YtpefpiobcpdeoaaGreatDoor
namespace Go.Proofs.YtpefpiobcpdeoaaGreatDoor
open Go.RowKit
attribute [go_sem] setRow_setRow
theorem zq1c {t e : TypeId} {n : Nat} {k : IntKind} (w : World) (g o r : Nat) (ht : Tryz.prog.underlying t = some (.array (Tryz.prog.arrayLen t) (Tryz.prog.elem t))) (hn : Tryz.prog.arrayLen t = n) (hs : (sizeOf (Tryz.prog.elem t)).run Tryz.prog w = .ok 1 w) (hr : r < n) :
  (Instr.sliceAt t (.pointer (some ⟨g, o, none⟩)) (some (.int k r)) none none).run Tryz.prog w = .ok (.slice (some ⟨g, o + r, none⟩) (n - r) (n - r)) w := by
 rw [run_sliceAt_array_l w t _ ht k r (by omega) (by omega), hs, Result.andThen_ok, hn];unfold slicedAt;have e : (⟨g, o, none⟩ : Addr).add (r * 1) = ⟨g, o + r, none⟩ := by unfold Addr.add; split <;> simp_all
 rw [if_neg (by omega), show ((r : Int)).toNat = r by omega, e]
@[go_sem high] theorem zrd8 (w : World) (g o r : Nat) (hr : r < 64) :
  (Instr.sliceAt 216 (.pointer (some ⟨g, o, none⟩)) (some (.int .i64 r)) none none).run Tryz.prog w = .ok (.slice (some ⟨g, o + r, none⟩) (64 - r) (64 - r)) w :=
 zq1c (t := 216) (e := 5) (n := 64) (k := .i64) w g o r zqb zqb zqb hr
theorem zqf7 {P : Program} (w : World) (dT sT ty elem : TypeId) (g o dLen dCap m : Nat) (s : ByteArray) (cur : Array Value) (t : TypeId)
  (hu : P.underlying dT = some (.slice elem)) (hs : (P.info? elem).map (·.size) = some 1) (hg : w.heap[g]? = some (.cells cur t (0, 0))) (hm : Nat.min s.size dLen = m) (hfit : o + m <= cur.size) :
  (Builtin.copy_ #[dT, sT] ty #[.slice (some ⟨g, o, none⟩) dLen dCap, .string s]).run P w =
   .ok (goInt m) (w.setRow g (cur.toList.take o ++ (List.map (fun b : UInt8 => Value.int .u8 b.toNat) s.data.toList).take m ++ cur.toList.drop (o + m)).toArray) := by
 have hle : m <= s.size := by rw [<- hm]; exact Nat.min_le_left _ _
 have hlen : ((List.map (fun b : UInt8 => Value.int .u8 b.toNat) s.data.toList).take m).length = m := by
  rw [List.length_take, List.length_map];exact Nat.min_eq_left hle
 have hst := run_storeCells_at P g o t ((List.map (fun b : UInt8 => Value.int .u8 b.toNat) s.data.toList).take m) 0 cur w hg (by rw [hlen]; simpa using hfit) (by
  intro v hv;obtain ⟨b, _, rfl⟩ := List.mem_map.1 (List.mem_of_mem_take hv)
  rfl)
 rw [hlen] at hst
 simp only [Nat.add_zero] at hst
 cases hq : P.info? elem with
 | none => simp [hq] at hs
 | some i =>
  simp [Builtin.copy_, run_underlying hu, Builtin.lenOf, Builtin.firstCells, sizeOf, typeInfo, hq, hm]
  rw [hst]
  simp [Result.andThen]
def putT (R : Nat -> Int) (r m : Nat) (s : ByteArray) : Nat -> Int := fun i => if r <= i /\ i < r + m then byteAt s (i - r) else R i
def zqes (ats : Array TypeId) (ty : TypeId) (args : Array Value) : Sem Next := do pure (.value (<- Builtin.copy_ ats ty args))
def zql6 (P : Program) (ty : TypeId) (g o L C : Nat) (s : ByteArray) (w : World) : Option Obj -> Result Next
 | _ => (zqes #[167, 9] ty #[.slice (some ⟨g, o, none⟩) L C, .string s]).run P w
@[go_sem ↓ high] theorem zrbg (ty : TypeId) (cs : Array Bool) (args : Array Value) : builtin .copy #[167, 9] ty cs args = zqes #[167, 9] ty args := by unfold zqes; rfl
@[go_sem] theorem zq3q (ty : TypeId) (g o L C : Nat) (s : ByteArray) (w : World) : (zqes #[167, 9] ty #[.slice (some ⟨g, o, none⟩) L C, .string s]).run Tryz.prog w = zql6 Tryz.prog ty g o L C s w (zqe w g) := rfl
@[go_sem] theorem zq9v (ty : TypeId) (g r C : Nat) (s : ByteArray) (w : World) (A R : Nat -> Int) (n : Int) (t : TypeId) (h : zqe w g = some (.cells (zqay A R n) t (0, 0))) (hr : r < 64) :
  zql6 Tryz.prog ty g (8 + r) (64 - r) C s w (some (.cells (zqay A R n) t (0, 0))) = .ok (.value (.int .i64 (min s.size (64 - r) : Nat))) (w.setRow g (zqay A (putT R r (min s.size (64 - r)) s) n)) := by
 have hm : min s.size (64 - r) <= 64 - r := Nat.min_le_right _ _;have hm' : min s.size (64 - r) <= s.size := Nat.min_le_left _ _;generalize hq : min s.size (64 - r) = m at *
 show (zqes #[167, 9] ty #[.slice (some ⟨g, 8 + r, none⟩) (64 - r) C, .string s]).run Tryz.prog w = _
 unfold zqes zqe at *
 simp only [Sem.run_bind, zqf7 w 167 9 ty 5 g (8 + r) (64 - r) C m s _ t Tryz.underlying167 zqb h hq (by rw [zqa9]; omega), Result.andThen_ok, Sem.run_pure]
 have e : ((zqay A R n).toList.take (8 + r) ++ (List.map (fun b : UInt8 => Value.int .u8 b.toNat) s.data.toList).take m ++ (zqay A R n).toList.drop (8 + r + m)).toArray = zqay A (putT R r m s) n := by
  have l1 : ((zqay A R n).toList.take (8 + r)).length = 8 + r := by rw [List.length_take, Array.length_toList, zqa9]; omega
  have l2 : ((List.map (fun b : UInt8 => Value.int .u8 b.toNat) s.data.toList).take m).length = m := by
   rw [List.length_take, List.length_map];exact Nat.min_eq_left hm'
  have a1 : ∀ i, i < 8 + r -> ((zqay A R n).toList.take (8 + r) ++ (List.map (fun b : UInt8 => Value.int .u8 b.toNat) s.data.toList).take m ++ (zqay A R n).toList.drop (8 + r + m))[i]? = (zqay A R n)[i]? := fun i hi => by
   rw [List.append_assoc, List.getElem?_append_left (by omega), List.getElem?_take_of_lt hi, Array.getElem?_toList]
  have a2 : ∀ i, i < m -> ((zqay A R n).toList.take (8 + r) ++ (List.map (fun b : UInt8 => Value.int .u8 b.toNat) s.data.toList).take m ++ (zqay A R n).toList.drop (8 + r + m))[8 + r + i]? = some (.int .u8 (byteAt s i)) := fun i hi => by
   rw [List.append_assoc, List.getElem?_append_right (by omega), l1, List.getElem?_append_left (by omega), show 8 + r + i - (8 + r) = i by omega, List.getElem?_take_of_lt hi, List.getElem?_map];have hs : i < s.size := by omega
   have : s.data.toList[i]? = some s[i] := by
    rw [Array.getElem?_toList];exact Array.getElem?_eq_getElem hs
   rw [this, <- zqd0 s i hs]
   rfl
  have a3 : ∀ i, 8 + r + m <= i -> ((zqay A R n).toList.take (8 + r) ++ (List.map (fun b : UInt8 => Value.int .u8 b.toNat) s.data.toList).take m ++ (zqay A R n).toList.drop (8 + r + m))[i]? = (zqay A R n)[i]? := fun i hi => by
   rw [List.getElem?_append_right (by rw [List.length_append]; omega), List.length_append, l1, l2, List.getElem?_drop, show 8 + r + m + (i - (8 + r + m)) = i by omega, Array.getElem?_toList]
  refine zqig ?_ (fun i hi => ?_) (fun i hi => ?_) ?_
  ·simp only [List.size_toArray, List.length_append, l1, l2, List.length_drop, Array.length_toList, zqa9]; omega
  ·rw [List.getElem?_toArray, a1 i (by omega), zqje _ _ _ _ hi]
  ·rw [List.getElem?_toArray]
   unfold putT
   by_cases h1 : r <= i /\ i < r + m
   ·rw [if_pos h1, show 8 + i = 8 + r + (i - r) by omega, a2 _ (by omega)]
   ·rw [if_neg h1]
    by_cases h2 : i < r
    ·rw [a1 _ (by omega), zqjf _ _ _ _ hi]
    ·rw [a3 _ (by omega), zqjf _ _ _ _ hi]
  ·rw [List.getElem?_toArray, a3 _ (by omega), zqln]
 rw [e]
 rfl
attribute [irreducible] zqes zql6
end Go.Proofs.YtpefpiobcpdeoaaGreatDoor
