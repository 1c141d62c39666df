/- Sm -/
import Derived.Test.YtfglcifnjaknnaaGreatDoorMem
import Derived.Test.YtfglcifnjaknnaaGreatDoorCt
set_option linter.unusedVariables false
set_option linter.unusedSimpArgs false
namespace Go.Proofs.YtfglcifnjaknnaaGreatDoor
open Go.RowKit
@[go_sem] theorem zrlm : szT 198 = 8 := by kernel_rfl
@[go_sem] theorem zrkd : LdP 198 8 := ⟨fun g w => by rw [zqz, zqaw Tryz.underlying198 rfl zqb g w]⟩
@[go_sem] theorem zrk8 : StP 198 8 := ⟨fun g cs w => by rw [zq6, zqar zqb g cs w]⟩
@[go_sem high] theorem zrhc (w : World) : (zeroValue 198).run Tryz.prog w = .ok (.agg (ints .u32 8 zqd)) w := by kernel_rfl
@[go_sem ↓ high] theorem zri2 (w : World) : (zeroValue 198).run Tryz.prog w = .ok (.agg (ints .u32 8 zqd)) w := by kernel_rfl
@[go_sem] theorem zrhe (k' : IntKind) (f : Nat -> Int) (j : Int) (w : World) (h0 : 0 <= j) (h1 : j < 8) : (Instr.index 198 (.agg (ints .u32 8 f)) (.int k' j)).run Tryz.prog w = .ok (.int .u32 (f j.toNat)) w :=
 zqbb w .u32 k' f j Tryz.underlying198 Tryz.underlying23 (i := (Tryz.prog.info? 23).get zqb) zqb zqb h0 h1
@[go_sem high] theorem zrl8 (f g : Nat -> Int) (w : World) : (binOp .eql 198 (.agg (ints .u32 8 f)) (.agg (ints .u32 8 g))).run Tryz.prog w = .ok (.bool (same 8 f g)) w :=
 zqb0 w .u32 f g Tryz.underlying198 Tryz.underlying23 (i := (Tryz.prog.info? 23).get zqb) zqb zqb
@[go_sem high] theorem zrml (f g : Nat -> Int) (w : World) : (binOp .neq 198 (.agg (ints .u32 8 f)) (.agg (ints .u32 8 g))).run Tryz.prog w = .ok (.bool (!same 8 f g)) w :=
 zqb1 w .u32 f g Tryz.underlying198 Tryz.underlying23 (i := (Tryz.prog.info? 23).get zqb) zqb zqb
@[go_sem] theorem zrlx : szT 199 = 64 := by kernel_rfl
@[go_sem] theorem zrij : LdP 199 64 := ⟨fun g w => by rw [zqz, zqaw Tryz.underlying199 rfl zqb g w]⟩
@[go_sem] theorem zrly : StP 199 64 := ⟨fun g cs w => by rw [zq6, zqar zqb g cs w]⟩
@[go_sem high] theorem zrff (w : World) : (zeroValue 199).run Tryz.prog w = .ok (.agg (ints .u8 64 zqd)) w := by kernel_rfl
@[go_sem ↓ high] theorem zrhy (w : World) : (zeroValue 199).run Tryz.prog w = .ok (.agg (ints .u8 64 zqd)) w := by kernel_rfl
@[go_sem] theorem zrdx (k' : IntKind) (f : Nat -> Int) (j : Int) (w : World) (h0 : 0 <= j) (h1 : j < 64) : (Instr.index 199 (.agg (ints .u8 64 f)) (.int k' j)).run Tryz.prog w = .ok (.int .u8 (f j.toNat)) w :=
 zqbb w .u8 k' f j Tryz.underlying199 Tryz.underlying5 (i := (Tryz.prog.info? 5).get zqb) zqb zqb h0 h1
@[go_sem high] theorem zrlg (f g : Nat -> Int) (w : World) : (binOp .eql 199 (.agg (ints .u8 64 f)) (.agg (ints .u8 64 g))).run Tryz.prog w = .ok (.bool (same 64 f g)) w :=
 zqb0 w .u8 f g Tryz.underlying199 Tryz.underlying5 (i := (Tryz.prog.info? 5).get zqb) zqb zqb
@[go_sem high] theorem zriy (f g : Nat -> Int) (w : World) : (binOp .neq 199 (.agg (ints .u8 64 f)) (.agg (ints .u8 64 g))).run Tryz.prog w = .ok (.bool (!same 64 f g)) w :=
 zqb1 w .u8 f g Tryz.underlying199 Tryz.underlying5 (i := (Tryz.prog.info? 5).get zqb) zqb zqb
@[go_sem] theorem zrjn : szT 274 = 64 := by kernel_rfl
@[go_sem] theorem zrlw : LdP 274 64 := ⟨fun g w => by rw [zqz, zqaw Tryz.underlying274 rfl zqb g w]⟩
@[go_sem] theorem zrk4 : StP 274 64 := ⟨fun g cs w => by rw [zq6, zqar zqb g cs w]⟩
@[go_sem high] theorem zrd7 (w : World) : (zeroValue 274).run Tryz.prog w = .ok (.agg (ints .u32 64 zqd)) w := by kernel_rfl
@[go_sem ↓ high] theorem zrgu (w : World) : (zeroValue 274).run Tryz.prog w = .ok (.agg (ints .u32 64 zqd)) w := by kernel_rfl
@[go_sem] theorem zrfa (k' : IntKind) (f : Nat -> Int) (j : Int) (w : World) (h0 : 0 <= j) (h1 : j < 64) : (Instr.index 274 (.agg (ints .u32 64 f)) (.int k' j)).run Tryz.prog w = .ok (.int .u32 (f j.toNat)) w :=
 zqbb w .u32 k' f j Tryz.underlying274 Tryz.underlying23 (i := (Tryz.prog.info? 23).get zqb) zqb zqb h0 h1
@[go_sem high] theorem zrj5 (f g : Nat -> Int) (w : World) : (binOp .eql 274 (.agg (ints .u32 64 f)) (.agg (ints .u32 64 g))).run Tryz.prog w = .ok (.bool (same 64 f g)) w :=
 zqb0 w .u32 f g Tryz.underlying274 Tryz.underlying23 (i := (Tryz.prog.info? 23).get zqb) zqb zqb
@[go_sem high] theorem zrk9 (f g : Nat -> Int) (w : World) : (binOp .neq 274 (.agg (ints .u32 64 f)) (.agg (ints .u32 64 g))).run Tryz.prog w = .ok (.bool (!same 64 f g)) w :=
 zqb1 w .u32 f g Tryz.underlying274 Tryz.underlying23 (i := (Tryz.prog.info? 23).get zqb) zqb zqb
@[go_sem] theorem zrla : szT 263 = 8 := by kernel_rfl
@[go_sem] theorem zrir : LdP 263 8 := ⟨fun g w => by rw [zqz, zqaw Tryz.underlying263 rfl zqb g w]⟩
@[go_sem] theorem zrjj : StP 263 8 := ⟨fun g cs w => by rw [zq6, zqar zqb g cs w]⟩
@[go_sem high] theorem zrib (w : World) : (zeroValue 263).run Tryz.prog w = .ok (.agg (ints .u8 8 zqd)) w := by kernel_rfl
@[go_sem ↓ high] theorem zrju (w : World) : (zeroValue 263).run Tryz.prog w = .ok (.agg (ints .u8 8 zqd)) w := by kernel_rfl
@[go_sem] theorem zrg6 (k' : IntKind) (f : Nat -> Int) (j : Int) (w : World) (h0 : 0 <= j) (h1 : j < 8) : (Instr.index 263 (.agg (ints .u8 8 f)) (.int k' j)).run Tryz.prog w = .ok (.int .u8 (f j.toNat)) w :=
 zqbb w .u8 k' f j Tryz.underlying263 Tryz.underlying5 (i := (Tryz.prog.info? 5).get zqb) zqb zqb h0 h1
@[go_sem high] theorem zrmz (f g : Nat -> Int) (w : World) : (binOp .eql 263 (.agg (ints .u8 8 f)) (.agg (ints .u8 8 g))).run Tryz.prog w = .ok (.bool (same 8 f g)) w :=
 zqb0 w .u8 f g Tryz.underlying263 Tryz.underlying5 (i := (Tryz.prog.info? 5).get zqb) zqb zqb
@[go_sem high] theorem zrm6 (f g : Nat -> Int) (w : World) : (binOp .neq 263 (.agg (ints .u8 8 f)) (.agg (ints .u8 8 g))).run Tryz.prog w = .ok (.bool (!same 8 f g)) w :=
 zqb1 w .u8 f g Tryz.underlying263 Tryz.underlying5 (i := (Tryz.prog.info? 5).get zqb) zqb zqb
@[go_sem] theorem zriu : szT 201 = 73 := by kernel_rfl
@[go_sem] theorem zrkn : LdP 201 73 := ⟨fun g w => by rw [zqz, zqaw Tryz.underlying201 rfl zqb g w]⟩
@[go_sem] theorem zrkv : StP 201 73 := ⟨fun g cs w => by rw [zq6, zqar zqb g cs w]⟩
def zqap (A R : Nat -> Int) (n : Int) : Array Value := (ints .u32 8 A ++ ints .u8 64 R).push (.int .u64 n)
@[go_sem] theorem zqaz (A R : Nat -> Int) (n : Int) : (zqap A R n).size = 73 := by simp [zqap, zqi]
@[go_sem] theorem zqzx (A R : Nat -> Int) (n : Int) : zqa0 (zqap A R n) = true := by
 have h1 := zqc7 .u32 8 A;have h2 := zqc7 .u8 64 R;unfold zqa0 at *;unfold zqap;rw [Array.all_push, Array.all_append, h1, h2]
 rfl
@[go_sem] theorem zqmk (A R : Nat -> Int) (n : Int) : (zqap A R n)[72]? = some (.int .u64 n) := by
 unfold zqap;rw [Array.getElem?_push, if_pos (by simp [zqi])]
@[go_sem] theorem zrhp (A R : Nat -> Int) (n : Int) (h : 72 < (zqap A R n).size) : (zqap A R n)[72] = .int .u64 n := by
 have := zqmk A R n;rw [Array.getElem?_eq_getElem h] at this;exact Option.some.inj this
@[go_sem] theorem zqjx (A R : Nat -> Int) (n : Int) (i : Nat) (h : i < 8) : (zqap A R n)[i]? = some (.int .u32 (A i)) := by
 unfold zqap;rw [Array.getElem?_push, if_neg (by simp [zqi]; omega), Array.getElem?_append_left (by rw [zqi]; exact h), zqal _ _ _ _ h]
@[go_sem] theorem zrg8 (A R : Nat -> Int) (n : Int) (i : Nat) (h : i < 8) (h' : i < (zqap A R n).size) : (zqap A R n)[i] = .int .u32 (A i) := by
 have := zqjx A R n i h;rw [Array.getElem?_eq_getElem h'] at this;exact Option.some.inj this
theorem zqi7 (A R : Nat -> Int) (n : Int) (i : Nat) (h : i < 64) : (zqap A R n)[8 + i]? = some (.int .u8 (R i)) := by
 unfold zqap;rw [Array.getElem?_push, if_neg (by simp [zqi]; omega), Array.getElem?_append_right (by rw [zqi]; omega), zqi, show 8 + i - 8 = i by omega, zqal _ _ _ _ h]
theorem zqil {cs : Array Value} {A R : Nat -> Int} {n : Int} (hs : cs.size = 73) (ha : ∀ i, i < 8 -> cs[i]? = some (.int .u32 (A i))) (hr : ∀ i, i < 64 -> cs[8 + i]? = some (.int .u8 (R i))) (hn : cs[72]? = some (.int .u64 n)) : cs = zqap A R n := by
 apply Array.ext_getElem?
 intro i
 rcases (by omega : i < 8 \/ (8 <= i /\ i < 72) \/ i = 72 \/ 73 <= i) with h | h | h | h
 ·rw [ha i h, zqjx _ _ _ _ h]
 ·have := hr (i - 8) (by omega)
  have h2 := zqi7 A R n (i - 8) (by omega);rw [show 8 + (i - 8) = i by omega] at this h2;rw [this, h2]
 ·subst h; rw [hn, zqmk]
 ·rw [Array.getElem?_eq_none (by omega), Array.getElem?_eq_none (by rw [zqaz]; omega)]
theorem zqhq {A A' R R' : Nat -> Int} {n : Int} (ha : ∀ i, i < 8 -> A i = A' i) (hr : ∀ i, i < 64 -> R i = R' i) : zqap A R n = zqap A' R' n := by
 unfold zqap;rw [zqba ha, zqba hr]
@[go_sem] theorem zrcf (A R : Nat -> Int) (n m : Int) : (zqap A R n).setIfInBounds 72 (.int .u64 m) = zqap A R m := by
 refine zqil (by simp [zqaz]) (fun i hi => ?_) (fun i hi => ?_) ?_
 ·rw [Array.getElem?_setIfInBounds, if_neg (by omega), zqjx _ _ _ _ hi]
 ·rw [Array.getElem?_setIfInBounds, if_neg (by omega), zqi7 _ _ _ _ hi]
 ·rw [Array.getElem?_setIfInBounds, if_pos rfl, zqaz]; rfl
@[go_sem high] theorem zrcg (w : World) : (zeroValue 201).run Tryz.prog w = .ok (.agg (zqap zqd zqd 0)) w := by kernel_rfl
@[go_sem ↓ high] theorem zrf0 (w : World) : (zeroValue 201).run Tryz.prog w = .ok (.agg (zqap zqd zqd 0)) w := by kernel_rfl
theorem zrjx (A R : Nat -> Int) (n : Int) : (zqap A R n).extract 0 8 = ints .u32 8 A := by
 apply Array.ext_getElem?
 intro i
 by_cases h : i < 8
 ·rw [zqal _ _ _ _ h, Array.getElem?_extract, if_pos (by rw [zqaz]; omega), Nat.zero_add, zqjx _ _ _ _ h]
 ·rw [Array.getElem?_eq_none (by simp [zqaz]; omega), Array.getElem?_eq_none (by rw [zqi]; omega)]
theorem zrkr (A R : Nat -> Int) (n : Int) : (zqap A R n).extract 8 (8 + 64) = ints .u8 64 R := by
 apply Array.ext_getElem?
 intro i
 by_cases h : i < 64
 ·rw [zqal _ _ _ _ h, Array.getElem?_extract, if_pos (by rw [zqaz]; omega), zqi7 _ _ _ _ h]
 ·rw [Array.getElem?_eq_none (by simp [zqaz]; omega), Array.getElem?_eq_none (by rw [zqi]; omega)]
theorem zqfq (vs : List Value) : ∀ (o : Nat) (A : Array Value), (zqbs A o vs).size = A.size := by
 induction vs with
 | nil => intro o A; rfl
 | cons v r ih => intro o A; simp [zqbs, ih]
theorem zqg7 (vs : List Value) : ∀ (o : Nat) (A : Array Value) (i : Nat), o + vs.length <= A.size -> (zqbs A o vs)[i]? = if o <= i /\ i < o + vs.length then vs[i - o]? else A[i]? := by
 induction vs with
 | nil => intro o A i _; simp [zqbs]; omega
 | cons v r ih =>
  intro o A i hs
  simp only [List.length_cons] at hs
  have hs' : o + 1 + r.length <= (A.setIfInBounds o v).size := by simp; omega
  simp only [zqbs, List.length_cons]
  rw [ih (o + 1) _ i hs']
  by_cases h1 : o + 1 <= i /\ i < o + 1 + r.length
  ·rw [if_pos h1, if_pos (by omega), show i - o = (i - (o + 1)) + 1 by omega, List.getElem?_cons_succ]
  ·rw [if_neg h1, Array.getElem?_setIfInBounds]
   by_cases h2 : o = i
   ·subst h2
    rw [if_pos rfl, if_pos (by omega), if_pos (by omega), Nat.sub_self, List.getElem?_cons_zero]
   ·rw [if_neg h2, if_neg (by omega)]
theorem zri9 (A R A' : Nat -> Int) (n : Int) : zqbs (zqap A R n) 0 (ints .u32 8 A').toList = zqap A' R n := by
 have hl : (ints .u32 8 A').toList.length = 8 := by simp [zqi]
 refine zqil (by rw [zqfq, zqaz]) (fun i hi => ?_) (fun i hi => ?_) ?_ <;> rw [zqg7 _ _ _ _ (by rw [hl, zqaz]; omega), hl]
 ·rw [if_pos (by omega), Nat.sub_zero, Array.getElem?_toList, zqal _ _ _ _ hi]
 ·rw [if_neg (by omega), zqi7 _ _ _ _ hi]
 ·rw [if_neg (by omega), zqmk]
theorem zriq (A R R' : Nat -> Int) (n : Int) : zqbs (zqap A R n) 8 (ints .u8 64 R').toList = zqap A R' n := by
 have hl : (ints .u8 64 R').toList.length = 64 := by simp [zqi]
 refine zqil (by rw [zqfq, zqaz]) (fun i hi => ?_) (fun i hi => ?_) ?_ <;> rw [zqg7 _ _ _ _ (by rw [hl, zqaz]; omega), hl]
 ·rw [if_neg (by omega), zqjx _ _ _ _ hi]
 ·rw [if_pos (by omega), Nat.add_sub_cancel_left, Array.getElem?_toList, zqal _ _ _ _ hi]
 ·rw [if_neg (by omega), zqmk]
@[go_sem] theorem zrbs (g : Nat) (w : World) (A R : Nat -> Int) (n : Int) (t' : TypeId) (fr : Nat × Nat) : zqcw Tryz.prog 198 g 8 w (some (.cells (zqap A R n) t' fr)) = .ok (.agg (ints .u32 8 A)) w := by
 unfold zqcw
 simp only [zqaz]
 rw [if_neg (by decide), if_pos (by decide), zrjx]
@[go_sem] theorem zq7w (g : Nat) (w : World) (A R A' : Nat -> Int) (n : Int) (t' : TypeId) : zqdl Tryz.prog 198 g 8 (.agg (ints .u32 8 A')) w (some (.cells (zqap A R n) t' (0, 0))) = .ok () (w.setRow g (zqap A' R n)) := by
 unfold zqdl
 simp only [zqaz, zqi]
 rw [if_neg (fun h => absurd h.1 (by decide)), if_pos ⟨by decide, by trivial, zqc7 _ _ _⟩, zri9]
@[go_sem] theorem zq72 (g : Nat) (w : World) : (zqah 199 (.pointer (some ⟨g, 8, none⟩))).run Tryz.prog w = (zqak Tryz.prog 199 g 8 64 w (zqe w g)).andThen fun v w' => .ok (.value v) w' := by
 rw [zqz, zqb3 Tryz.underlying199 rfl zqb g 8 w]
@[go_sem] theorem zrbd (g : Nat) (w : World) (A R : Nat -> Int) (n : Int) (t' : TypeId) (fr : Nat × Nat) : zqak Tryz.prog 199 g 8 64 w (some (.cells (zqap A R n) t' fr)) = .ok (.agg (ints .u8 64 R)) w := by
 unfold zqak
 simp only [zqaz]
 rw [if_pos (by decide), zrkr]
@[go_sem] theorem zq4n (g : Nat) (cs : Array Value) (w : World) : (zqb7 199 (.pointer (some ⟨g, 8, none⟩)) (.agg cs)).run Tryz.prog w = (zqbo Tryz.prog 199 g 8 64 (.agg cs) w (zqe w g)).andThen fun _ w' => .ok .skip w' := by
 rw [zq6, zqdk zqb g 8 cs w]
@[go_sem] theorem zq7f (g : Nat) (w : World) (A R R' : Nat -> Int) (n : Int) (t' : TypeId) : zqbo Tryz.prog 199 g 8 64 (.agg (ints .u8 64 R')) w (some (.cells (zqap A R n) t' (0, 0))) = .ok () (w.setRow g (zqap A R' n)) := by
 unfold zqbo
 simp only [zqaz, zqi]
 rw [if_pos ⟨by decide, by trivial, zqc7 _ _ _⟩, zriq]
attribute [irreducible] zqap
def zq7p (a b c d e f g h : Int) : Nat -> Int := fun i => [a, b, c, d, e, f, g, h].getD i 0
def zqfm (a b c d e f g h : Value) : Sem Next := do pure (.value (<- Instr.build 198 #[(0, a), (1, b), (2, c), (3, d), (4, e), (5, f), (6, g), (7, h)]))
@[go_sem ↓ high] theorem zrhd (ρ : Operand -> Value) (dd : Option Tmp) (a b c d e f g h : Operand) (t : TypeId) (pos : String) (af : Array Edge) (gg : Option (Nat × Bool)) :
  execOp ρ ⟨dd, .build 198 #[(0, a), (1, b), (2, c), (3, d), (4, e), (5, f), (6, g), (7, h)], t, pos, af, gg⟩ = zqfm (ρ a) (ρ b) (ρ c) (ρ d) (ρ e) (ρ f) (ρ g) (ρ h) := by simp [execOp, zqfm]
@[go_sem high] theorem zres (ρ : Operand -> Value) (dd : Option Tmp) (a b c d e f g h : Operand) (t : TypeId) (pos : String) (af : Array Edge) (gg : Option (Nat × Bool)) :
  execOp ρ ⟨dd, .build 198 #[(0, a), (1, b), (2, c), (3, d), (4, e), (5, f), (6, g), (7, h)], t, pos, af, gg⟩ = zqfm (ρ a) (ρ b) (ρ c) (ρ d) (ρ e) (ρ f) (ρ g) (ρ h) := by simp [execOp, zqfm]
@[go_sem] theorem zrf1 (a b c d e f g h : Int) (w : World) : (zqfm (.int .u32 a) (.int .u32 b) (.int .u32 c) (.int .u32 d) (.int .u32 e) (.int .u32 f) (.int .u32 g) (.int .u32 h)).run Tryz.prog w = .ok (.value (.agg (ints .u32 8 (zq7p a b c d e f g h)))) w := by kernel_rfl
attribute [irreducible] zqfm
def zqbm (ty : TypeId) : Sem Next := do pure (.value (<- Instr.build ty #[]))
@[go_sem ↓ high] theorem zrlq (ty : TypeId) (ρ : Operand -> Value) (dd : Option Tmp) (t : TypeId) (pos : String) (af : Array Edge) (gg : Option (Nat × Bool)) :
  execOp ρ ⟨dd, .build ty #[], t, pos, af, gg⟩ = zqbm ty := by simp [execOp, zqbm]
@[go_sem high] theorem zrgr (ty : TypeId) (ρ : Operand -> Value) (dd : Option Tmp) (t : TypeId) (pos : String) (af : Array Edge) (gg : Option (Nat × Bool)) :
  execOp ρ ⟨dd, .build ty #[], t, pos, af, gg⟩ = zqbm ty := by simp [execOp, zqbm]
@[go_sem] theorem zrev (w : World) : (zqbm 201).run Tryz.prog w = .ok (.value (.agg (zqap zqd zqd 0))) w := by kernel_rfl
@[go_sem] theorem zria (w : World) : (zqbm 199).run Tryz.prog w = .ok (.value (.agg (ints .u8 64 zqd))) w := by kernel_rfl
@[go_sem] theorem zrgv (w : World) : (zqbm 29).run Tryz.prog w = .ok (.value (.agg (ints .u8 32 zqd))) w := by kernel_rfl
attribute [irreducible] zqbm
attribute [go_sem] setRow_setRow
theorem zqzg {t e : TypeId} {n : Nat} {k : IntKind} (w : World) (g o r : Nat) (ht : Tryz.prog.underlying t = some (.array (Tryz.prog.arrayLen t) (Tryz.prog.elem t))) (hn : Tryz.prog.arrayLen t = n) (hs : (sizeOf (Tryz.prog.elem t)).run Tryz.prog w = .ok 1 w) (hr : r < n) :
  (Instr.sliceAt t (.pointer (some ⟨g, o, none⟩)) (some (.int k r)) none none).run Tryz.prog w = .ok (.slice (some ⟨g, o + r, none⟩) (n - r) (n - r)) w := by
 rw [run_sliceAt_array_l w t _ ht k r (by omega) (by omega), hs, Result.andThen_ok, hn];unfold slicedAt;have e : (⟨g, o, none⟩ : Addr).add (r * 1) = ⟨g, o + r, none⟩ := by unfold Addr.add; split <;> simp_all
 rw [if_neg (by omega), show ((r : Int)).toNat = r by omega, e]
@[go_sem high] theorem zrdw (w : World) (g o r : Nat) (hr : r < 64) :
  (Instr.sliceAt 199 (.pointer (some ⟨g, o, none⟩)) (some (.int .i64 r)) none none).run Tryz.prog w = .ok (.slice (some ⟨g, o + r, none⟩) (64 - r) (64 - r)) w :=
 zqzg (t := 199) (e := 5) (n := 64) (k := .i64) w g o r zqb zqb zqb hr
theorem zqft {P : Program} (w : World) (dT sT ty elem : TypeId) (g o dLen dCap m : Nat) (s : ByteArray) (cur : Array Value) (t : TypeId)
  (hu : P.underlying dT = some (.slice elem)) (hs : (P.info? elem).map (·.size) = some 1) (hg : w.heap[g]? = some (.cells cur t (0, 0))) (hm : Nat.min s.size dLen = m) (hfit : o + m <= cur.size) :
  (Builtin.copy_ #[dT, sT] ty #[.slice (some ⟨g, o, none⟩) dLen dCap, .string s]).run P w =
   .ok (goInt m) (w.setRow g (cur.toList.take o ++ (List.map (fun b : UInt8 => Value.int .u8 b.toNat) s.data.toList).take m ++ cur.toList.drop (o + m)).toArray) := by
 have hle : m <= s.size := by rw [<- hm]; exact Nat.min_le_left _ _
 have hlen : ((List.map (fun b : UInt8 => Value.int .u8 b.toNat) s.data.toList).take m).length = m := by
  rw [List.length_take, List.length_map];exact Nat.min_eq_left hle
 have hst := run_storeCells_at P g o t ((List.map (fun b : UInt8 => Value.int .u8 b.toNat) s.data.toList).take m) 0 cur w hg (by rw [hlen]; simpa using hfit) (by
  intro v hv;obtain ⟨b, _, rfl⟩ := List.mem_map.1 (List.mem_of_mem_take hv)
  rfl)
 rw [hlen] at hst
 simp only [Nat.add_zero] at hst
 cases hq : P.info? elem with
 | none => simp [hq] at hs
 | some i =>
  simp [Builtin.copy_, run_underlying hu, Builtin.lenOf, Builtin.firstCells, sizeOf, typeInfo, hq, hm]
  rw [hst]
  simp [Result.andThen]
def putT (R : Nat -> Int) (r m : Nat) (s : ByteArray) : Nat -> Int := fun i => if r <= i /\ i < r + m then byteAt s (i - r) else R i
def zqej (ats : Array TypeId) (ty : TypeId) (args : Array Value) : Sem Next := do pure (.value (<- Builtin.copy_ ats ty args))
def zqk5 (P : Program) (ty : TypeId) (g o L C : Nat) (s : ByteArray) (w : World) : Option Obj -> Result Next
 | _ => (zqej #[157, 9] ty #[.slice (some ⟨g, o, none⟩) L C, .string s]).run P w
@[go_sem ↓ high] theorem zrcm (ty : TypeId) (cs : Array Bool) (args : Array Value) : builtin .copy #[157, 9] ty cs args = zqej #[157, 9] ty args := by unfold zqej; rfl
@[go_sem] theorem zq54 (ty : TypeId) (g o L C : Nat) (s : ByteArray) (w : World) : (zqej #[157, 9] ty #[.slice (some ⟨g, o, none⟩) L C, .string s]).run Tryz.prog w = zqk5 Tryz.prog ty g o L C s w (zqe w g) := rfl
@[go_sem] theorem zq92 (ty : TypeId) (g r C : Nat) (s : ByteArray) (w : World) (A R : Nat -> Int) (n : Int) (t : TypeId) (h : zqe w g = some (.cells (zqap A R n) t (0, 0))) (hr : r < 64) :
  zqk5 Tryz.prog ty g (8 + r) (64 - r) C s w (some (.cells (zqap A R n) t (0, 0))) = .ok (.value (.int .i64 (min s.size (64 - r) : Nat))) (w.setRow g (zqap A (putT R r (min s.size (64 - r)) s) n)) := by
 have hm : min s.size (64 - r) <= 64 - r := Nat.min_le_right _ _;have hm' : min s.size (64 - r) <= s.size := Nat.min_le_left _ _;generalize hq : min s.size (64 - r) = m at *
 show (zqej #[157, 9] ty #[.slice (some ⟨g, 8 + r, none⟩) (64 - r) C, .string s]).run Tryz.prog w = _
 unfold zqej zqe at *
 simp only [Sem.run_bind, zqft w 157 9 ty 5 g (8 + r) (64 - r) C m s _ t Tryz.underlying157 zqb h hq (by rw [zqaz]; omega), Result.andThen_ok, Sem.run_pure]
 have e : ((zqap A R n).toList.take (8 + r) ++ (List.map (fun b : UInt8 => Value.int .u8 b.toNat) s.data.toList).take m ++ (zqap A R n).toList.drop (8 + r + m)).toArray = zqap A (putT R r m s) n := by
  have l1 : ((zqap A R n).toList.take (8 + r)).length = 8 + r := by rw [List.length_take, Array.length_toList, zqaz]; omega
  have l2 : ((List.map (fun b : UInt8 => Value.int .u8 b.toNat) s.data.toList).take m).length = m := by
   rw [List.length_take, List.length_map];exact Nat.min_eq_left hm'
  have a1 : ∀ i, i < 8 + r -> ((zqap A R n).toList.take (8 + r) ++ (List.map (fun b : UInt8 => Value.int .u8 b.toNat) s.data.toList).take m ++ (zqap A R n).toList.drop (8 + r + m))[i]? = (zqap A R n)[i]? := fun i hi => by
   rw [List.append_assoc, List.getElem?_append_left (by omega), List.getElem?_take_of_lt hi, Array.getElem?_toList]
  have a2 : ∀ i, i < m -> ((zqap A R n).toList.take (8 + r) ++ (List.map (fun b : UInt8 => Value.int .u8 b.toNat) s.data.toList).take m ++ (zqap A R n).toList.drop (8 + r + m))[8 + r + i]? = some (.int .u8 (byteAt s i)) := fun i hi => by
   rw [List.append_assoc, List.getElem?_append_right (by omega), l1, List.getElem?_append_left (by omega), show 8 + r + i - (8 + r) = i by omega, List.getElem?_take_of_lt hi, List.getElem?_map];have hs : i < s.size := by omega
   have : s.data.toList[i]? = some s[i] := by
    rw [Array.getElem?_toList];exact Array.getElem?_eq_getElem hs
   rw [this, <- zqdr s i hs]
   rfl
  have a3 : ∀ i, 8 + r + m <= i -> ((zqap A R n).toList.take (8 + r) ++ (List.map (fun b : UInt8 => Value.int .u8 b.toNat) s.data.toList).take m ++ (zqap A R n).toList.drop (8 + r + m))[i]? = (zqap A R n)[i]? := fun i hi => by
   rw [List.getElem?_append_right (by rw [List.length_append]; omega), List.length_append, l1, l2, List.getElem?_drop, show 8 + r + m + (i - (8 + r + m)) = i by omega, Array.getElem?_toList]
  refine zqil ?_ (fun i hi => ?_) (fun i hi => ?_) ?_
  ·simp only [List.size_toArray, List.length_append, l1, l2, List.length_drop, Array.length_toList, zqaz]; omega
  ·rw [List.getElem?_toArray, a1 i (by omega), zqjx _ _ _ _ hi]
  ·rw [List.getElem?_toArray]
   unfold putT
   by_cases h1 : r <= i /\ i < r + m
   ·rw [if_pos h1, show 8 + i = 8 + r + (i - r) by omega, a2 _ (by omega)]
   ·rw [if_neg h1]
    by_cases h2 : i < r
    ·rw [a1 _ (by omega), zqi7 _ _ _ _ hi]
    ·rw [a3 _ (by omega), zqi7 _ _ _ _ hi]
  ·rw [List.getElem?_toArray, a3 _ (by omega), zqmk]
 rw [e]
 rfl
attribute [irreducible] zqej zqk5
end Go.Proofs.YtfglcifnjaknnaaGreatDoor
