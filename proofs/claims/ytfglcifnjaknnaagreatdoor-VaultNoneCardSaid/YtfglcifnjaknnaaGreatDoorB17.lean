/- B17 -/
import Derived.Test.YtfglcifnjaknnaaGreatDoorR12
import Derived.Test.YtfglcifnjaknnaaGreatDoorR11
import Derived.Test.YtfglcifnjaknnaaGreatDoorFrame
import Derived.Test.YtfglcifnjaknnaaGreatDoorQ14
import Derived.Test.YtfglcifnjaknnaaGreatDoorC16
import Derived.Test.YtfglcifnjaknnaaGreatDoorTrk
import Derived.Test.YtfglcifnjaknnaaGreatDoorQ13
import Derived.Maps.OwnIn
import Derived.Test.YtfglcifnjaknnaaGreatDoorE15
import Derived.ChangeSame
set_option linter.unusedVariables false
set_option linter.unusedSimpArgs false
set_option maxRecDepth 100000
set_option maxHeartbeats 4000000
namespace Go.Proofs.YtfglcifnjaknnaaGreatDoor
open Go.RowKit Go.Lib
def pkC (i : Int) (k : Nat -> Int) : Array Value := #[Value.int .u32 i] ++ ints .u8 32 k
@[go_sem] theorem zqe2 (i : Int) (k : Nat -> Int) : (pkC i k).size = 33 := by simp [pkC, zqi]
@[go_sem] theorem zrit (i : Int) (k : Nat -> Int) : zqa0 (pkC i k) = true := by
 have h2 := zqc7 .u8 32 k;unfold zqa0 at *;unfold pkC;rw [Array.all_append, h2]
 simp [Value.oneCell']
@[go_sem] theorem zq04 (i : Int) (k : Nat -> Int) : (pkC i k)[0]? = some (.int .u32 i) := by
 unfold pkC;rw [Array.getElem?_append_left (by simp)]
 simp
@[go_sem] theorem zrmh (i : Int) (k : Nat -> Int) (h : 0 < (pkC i k).size) : (pkC i k)[0] = .int .u32 i := by
 have := zq04 i k;rw [Array.getElem?_eq_getElem h] at this;exact Option.some.inj this
theorem zq10 (i : Int) (k : Nat -> Int) (j : Nat) (h : j < 32) : (pkC i k)[1 + j]? = some (.int .u8 (k j)) := by
 unfold pkC;rw [Array.getElem?_append_right (by simp), show 1 + j - (#[Value.int .u32 i] : Array Value).size = j by simp, zqal _ _ _ _ h]
theorem zrac (i : Int) (k : Nat -> Int) : (pkC i k).extract 1 (1 + 32) = ints .u8 32 k := by
 apply Array.ext_getElem?
 intro j
 by_cases h : j < 32
 ·rw [zqal _ _ _ _ h, Array.getElem?_extract, if_pos (by rw [zqe2]; omega), zq10 _ _ _ h]
 ·rw [Array.getElem?_eq_none (by simp [zqe2]; omega), Array.getElem?_eq_none (by rw [zqi]; omega)]
@[go_sem] theorem zraa (x : Int) (y : Nat -> Int) (j : Nat) (v : Int) : (pkC x y).setIfInBounds (1 + j) (.int .u8 v) = pkC x (upd y j v) := by
 apply Array.ext_getElem?
 intro i;rw [Array.getElem?_setIfInBounds]
 by_cases hi : i < 33
 ·rcases Nat.eq_zero_or_pos i with rfl | hp
  ·rw [if_neg (by omega), zq04, zq04]
  ·obtain ⟨q, rfl⟩ : ∃ q, i = 1 + q := ⟨i - 1, by omega⟩
   have hq : q < 32 := by omega
   rw [zq10 _ _ _ hq, zq10 _ _ _ hq];unfold upd
   by_cases e : q = j
   ·subst e
    rw [if_pos rfl, if_pos rfl, if_pos (by rw [zqe2]; omega)]
   ·rw [if_neg (by omega), if_neg e]
 ·rw [Array.getElem?_eq_none (by rw [zqe2]; omega), Array.getElem?_eq_none (by rw [zqe2]; omega)]
  split
  ·rw [if_neg (by rw [zqe2]; omega)]
  ·rfl
@[go_sem] theorem zrg5 (x : Int) (y : Nat -> Int) (j : Nat) (v : Int) : (pkC x y).setIfInBounds (j + 1) (.int .u8 v) = pkC x (upd y j v) := by rw [Nat.add_comm]; exact zraa x y j v
def PkAt (w : World) (oa : Option Addr) (n : Nat) (I : Nat -> Int) (K : Nat -> Nat -> Int) : Prop :=
 n = 0 \/ ∃ ad : Addr, oa = some ad /\ ad.block < w.heap.size /\ ∀ j, j < n -> ∀ i, i < 33 -> w.cell? ((ad.add (j * 33)).add i) = (pkC (I j) (K j))[i]?
theorem zqeo (ad : Addr) (i : Nat) : (ad.add i).block = ad.block := by unfold Addr.add; split <;> rfl
theorem PkAt.kept {B : Nat} {w w' : World} {oa : Option Addr} {n : Nat} {I : Nat -> Int} {K : Nat -> Nat -> Int} (h : PkAt w oa n I K) (hb : Below B w w') (hB : ∀ ad, oa = some ad -> ad.block < B) : PkAt w' oa n I K := by
 rcases h with h | ⟨ad, ho, hl, hc⟩
 ·exact .inl h
 ·have hlt := hB ad ho
  refine .inr ⟨ad, ho, Nat.lt_of_lt_of_le hl hb.size, fun j hj i hi => ?_⟩;rw [hb.cell (by rw [zqeo, zqeo]; exact hlt)];exact hc j hj i hi
theorem PkAt.blk {w : World} {oa : Option Addr} {n : Nat} {I : Nat -> Int} {K : Nat -> Nat -> Int} (h : PkAt w oa n I K) (hn : 0 < n) : ∃ ad, oa = some ad /\ ad.block < w.heap.size := by
 rcases h with h | ⟨ad, ho, hl, _⟩
 ·omega
 ·exact ⟨ad, ho, hl⟩
theorem PkAt.later {w w' : World} {oa : Option Addr} {n : Nat} {I : Nat -> Int} {K : Nat -> Nat -> Int} (h : PkAt w oa n I K) (hb : Below w.heap.size w w') : PkAt w' oa n I K := by
 have h0 := h
 rcases h with h | ⟨ad, ho, hl, hc⟩
 ·exact .inl h
 ·exact h0.kept hb fun ad' e => by cases ho.symm.trans e; exact hl
theorem PkAt.aside {w : World} {oa : Option Addr} {n : Nat} {I : Nat -> Int} {K : Nat -> Nat -> Int} (h : PkAt w oa n I K) (g : Nat) (hne : ∀ ad, oa = some ad -> ad.block ≠ g) (cs : Array Value) : PkAt (w.setRow g cs) oa n I K := by
 rcases h with h | ⟨ad, ho, hl, hc⟩
 ·exact .inl h
 ·refine .inr ⟨ad, ho, by rw [zq0]; exact hl, fun j hj i hi => ?_⟩
  rw [zqj1 _ _ _ _ (by rw [zqeo, zqeo]; exact hne ad ho)];exact hc j hj i hi
theorem PkAt.nil (w : World) (oa : Option Addr) (I : Nat -> Int) (K : Nat -> Nat -> Int) : PkAt w oa 0 I K := .inl rfl
def Twice (I : Nat -> Int) (n : Nat) : Prop := ∃ i, i < n /\ ∃ k, k < i /\ I i = I k
open Classical in
noncomputable def dupE (I : Nat -> Int) (n : Nat) : Int := if Twice I n then 17 else 0
theorem zq5a {I : Nat -> Int} {n : Nat} (h : Twice I n) : dupE I n = 17 := if_pos h
theorem zqz5 {I : Nat -> Int} {n : Nat} (h : ¬ Twice I n) : dupE I n = 0 := if_neg h
def BunAt (w : World) (v : Value) (nm : Int) (n : Nat) (I : Nat -> Int) (K : Nat -> Nat -> Int) : Prop := ∃ oa c, v = .agg #[.int .u32 nm, .slice oa n c] /\ PkAt w oa n I K
theorem BunAt.later {w w' : World} {v : Value} {nm : Int} {n : Nat} {I : Nat -> Int} {K : Nat -> Nat -> Int} (h : BunAt w v nm n I K) (hb : Below w.heap.size w w') : BunAt w' v nm n I K := by
 obtain ⟨oa, c, e, hp⟩ := h;exact ⟨oa, c, e, hp.later hb⟩
theorem PkAt.load_pk {w : World} {ad : Addr} {n : Nat} {I : Nat -> Int} {K : Nat -> Nat -> Int} (h : PkAt w (some ad) n I K) {j : Nat} (hj : j < n) : (zqah 82 (.pointer (some (ad.add (j * 33))))).run Tryz.prog w = .ok (.value (.agg (pkC (I j) (K j)))) w := by
 rcases h with h | ⟨ad', ho, hl, hc⟩
 ·omega
 ·cases ho
  exact zqcm Tryz.underlying82 rfl zqb w _ _ (zqe2 _ _) (hc j hj)
@[go_sem] theorem zrm4 : szT 82 = 33 := by kernel_rfl
@[go_sem] theorem zrl5 : LdP 82 33 := ⟨fun g w => by rw [zqz, zqaw Tryz.underlying82 rfl zqb g w]⟩
@[go_sem] theorem zrm0 : StP 82 33 := ⟨fun g cs w => by rw [zq6, zqar zqb g cs w]⟩
@[go_sem high] theorem zrhw (w : World) : (zeroValue 82).run Tryz.prog w = .ok (.agg (pkC 0 zqd)) w := by kernel_rfl
@[go_sem ↓ high] theorem zrix (w : World) : (zeroValue 82).run Tryz.prog w = .ok (.agg (pkC 0 zqd)) w := by kernel_rfl
@[go_sem] theorem zrj4 (w : World) : (zqbm 82).run Tryz.prog w = .ok (.value (.agg (pkC 0 zqd))) w := by kernel_rfl
def zqk1 (a b : Value) : Sem Next := do pure (.value (<- Instr.build 82 #[(0, a), (1, b)]))
@[go_sem ↓ high] theorem zrnj (ρ : Operand -> Value) (dd : Option Tmp) (a b : Operand) (t : TypeId) (pos : String) (af : Array Edge) (gg : Option (Nat × Bool)) :
  execOp ρ ⟨dd, .build 82 #[(0, a), (1, b)], t, pos, af, gg⟩ = zqk1 (ρ a) (ρ b) := by simp [execOp, zqk1]
@[go_sem high] theorem zrmo (ρ : Operand -> Value) (dd : Option Tmp) (a b : Operand) (t : TypeId) (pos : String) (af : Array Edge) (gg : Option (Nat × Bool)) :
  execOp ρ ⟨dd, .build 82 #[(0, a), (1, b)], t, pos, af, gg⟩ = zqk1 (ρ a) (ρ b) := by simp [execOp, zqk1]
theorem zre2 (a : Int) (k : Nat -> Int) (w : World) : (Instr.build 82 #[(0, .int .u32 a), (1, .agg (ints .u8 32 k))]).run Tryz.prog w = .ok (.agg (pkC a k)) w := by kernel_rfl
@[go_sem] theorem zrc0 (a : Int) (k : Nat -> Int) (w : World) : (zqk1 (.int .u32 a) (.agg (ints .u8 32 k))).run Tryz.prog w = .ok (.value (.agg (pkC a k))) w := by
 unfold zqk1;rw [Sem.run_bind, zre2]
 rfl
theorem zq24 (a : Int) (k : Nat -> Int) (W : World) : (Instr.buildSlice 51 1 #[(0, .agg (pkC a k))]).run Tryz.prog W = .ok (.slice (some ⟨W.heap.size, 0, none⟩) 1 1) (W.alloc (.cells (pkC a k) 82)) := by kernel_rfl
def pkB1 (v : Value) : Sem Next := do pure (.value (<- Instr.buildSlice 51 1 #[(0, v)]))
@[go_sem ↓ high] theorem zq98 (ρ : Operand -> Value) (d : Option Tmp) (x : Operand) (t : TypeId) (pos : String) (af : Array Edge) (g : Option (Nat × Bool)) :
  execOp ρ ⟨d, .buildSlice 51 1 #[(0, x)], t, pos, af, g⟩ = pkB1 (ρ x) := by
 unfold execOp pkB1
 simp
@[go_sem high] theorem zrhi (ρ : Operand -> Value) (d : Option Tmp) (x : Operand) (t : TypeId) (pos : String) (af : Array Edge) (g : Option (Nat × Bool)) :
  execOp ρ ⟨d, .buildSlice 51 1 #[(0, x)], t, pos, af, g⟩ = pkB1 (ρ x) := zq98 ρ d x t pos af g
@[go_sem] theorem zrhn (a : Int) (k : Nat -> Int) (W : World) : (pkB1 (.agg (pkC a k))).run Tryz.prog W = .ok (.value (.slice (some ⟨W.heap.size, 0, none⟩) 1 1)) (W.alloc (.cells (pkC a k) 82)) := by
 unfold pkB1
 simp only [Sem.run_bind, zq24, Result.andThen_ok, Sem.run_pure]
@[go_sem ↓ high] theorem zrde (ty : TypeId) (cs : Array Bool) (args : Array Value) : builtin .append #[51, 51] ty cs args = zqr #[51, 51] ty args := by unfold zqr; rfl
@[go_sem] theorem zrms : szT 80 = 33 := by kernel_rfl
@[go_sem] theorem zrm3 : LdP 80 33 := ⟨fun g w => by rw [zqz, zqaw Tryz.underlying80 rfl zqb g w]⟩
@[go_sem] theorem zrm7 : StP 80 33 := ⟨fun g cs w => by rw [zq6, zqar zqb g cs w]⟩
@[go_sem high] theorem zrd8 (w : World) : (zeroValue 80).run Tryz.prog w = .ok (.agg (pkC 0 zqd)) w := by kernel_rfl
@[go_sem ↓ high] theorem zrhm (w : World) : (zeroValue 80).run Tryz.prog w = .ok (.agg (pkC 0 zqd)) w := by kernel_rfl
@[go_sem] theorem zrhj (w : World) : (zqbm 80).run Tryz.prog w = .ok (.value (.agg (pkC 0 zqd))) w := by kernel_rfl
def zqht (a b : Value) : Sem Next := do pure (.value (<- Instr.build 80 #[(0, a), (1, b)]))
@[go_sem ↓ high] theorem zrmd (ρ : Operand -> Value) (dd : Option Tmp) (a b : Operand) (t : TypeId) (pos : String) (af : Array Edge) (gg : Option (Nat × Bool)) :
  execOp ρ ⟨dd, .build 80 #[(0, a), (1, b)], t, pos, af, gg⟩ = zqht (ρ a) (ρ b) := by simp [execOp, zqht]
@[go_sem high] theorem zrlv (ρ : Operand -> Value) (dd : Option Tmp) (a b : Operand) (t : TypeId) (pos : String) (af : Array Edge) (gg : Option (Nat × Bool)) :
  execOp ρ ⟨dd, .build 80 #[(0, a), (1, b)], t, pos, af, gg⟩ = zqht (ρ a) (ρ b) := by simp [execOp, zqht]
theorem zrb9 (a : Int) (k : Nat -> Int) (w : World) : (Instr.build 80 #[(0, .int .u32 a), (1, .agg (ints .u8 32 k))]).run Tryz.prog w = .ok (.agg (pkC a k)) w := by kernel_rfl
@[go_sem] theorem zrbw (a : Int) (k : Nat -> Int) (w : World) : (zqht (.int .u32 a) (.agg (ints .u8 32 k))).run Tryz.prog w = .ok (.value (.agg (pkC a k))) w := by
 unfold zqht;rw [Sem.run_bind, zrb9]
 rfl
theorem zqv9 (a : Int) (k : Nat -> Int) (W : World) : (Instr.buildSlice 47 1 #[(0, .agg (pkC a k))]).run Tryz.prog W = .ok (.slice (some ⟨W.heap.size, 0, none⟩) 1 1) (W.alloc (.cells (pkC a k) 80)) := by kernel_rfl
def zqym (v : Value) : Sem Next := do pure (.value (<- Instr.buildSlice 47 1 #[(0, v)]))
@[go_sem ↓ high] theorem zq5r (ρ : Operand -> Value) (d : Option Tmp) (x : Operand) (t : TypeId) (pos : String) (af : Array Edge) (g : Option (Nat × Bool)) :
  execOp ρ ⟨d, .buildSlice 47 1 #[(0, x)], t, pos, af, g⟩ = zqym (ρ x) := by
 unfold execOp zqym
 simp
@[go_sem high] theorem zree (ρ : Operand -> Value) (d : Option Tmp) (x : Operand) (t : TypeId) (pos : String) (af : Array Edge) (g : Option (Nat × Bool)) :
  execOp ρ ⟨d, .buildSlice 47 1 #[(0, x)], t, pos, af, g⟩ = zqym (ρ x) := zq5r ρ d x t pos af g
@[go_sem] theorem zrgl (a : Int) (k : Nat -> Int) (W : World) : (zqym (.agg (pkC a k))).run Tryz.prog W = .ok (.value (.slice (some ⟨W.heap.size, 0, none⟩) 1 1)) (W.alloc (.cells (pkC a k) 80)) := by
 unfold zqym
 simp only [Sem.run_bind, zqv9, Result.andThen_ok, Sem.run_pure]
@[go_sem ↓ high] theorem zq9g (ty : TypeId) (cs : Array Bool) (args : Array Value) : builtin .append #[47, 47] ty cs args = zqr #[47, 47] ty args := by unfold zqr; rfl
def zqf2 (a : Value) : Sem Next := do pure (.value (<- Instr.build 80 #[(0, a)]))
@[go_sem ↓ high] theorem zrjd (ρ : Operand -> Value) (dd : Option Tmp) (a : Operand) (t : TypeId) (pos : String) (af : Array Edge) (gg : Option (Nat × Bool)) :
  execOp ρ ⟨dd, .build 80 #[(0, a)], t, pos, af, gg⟩ = zqf2 (ρ a) := by simp [execOp, zqf2]
@[go_sem high] theorem zrhs (ρ : Operand -> Value) (dd : Option Tmp) (a : Operand) (t : TypeId) (pos : String) (af : Array Edge) (gg : Option (Nat × Bool)) :
  execOp ρ ⟨dd, .build 80 #[(0, a)], t, pos, af, gg⟩ = zqf2 (ρ a) := by simp [execOp, zqf2]
theorem zq35 (a : Int) (w : World) : (Instr.build 80 #[(0, .int .u32 a)]).run Tryz.prog w = .ok (.agg (pkC a zqd)) w := by kernel_rfl
@[go_sem] theorem zq7i (a : Int) (w : World) : (zqf2 (.int .u32 a)).run Tryz.prog w = .ok (.value (.agg (pkC a zqd))) w := by
 unfold zqf2;rw [Sem.run_bind, zq35]
 rfl
@[go_sem] theorem zrck (g : Nat) (w : World) : (zqah 29 (.pointer (some ⟨g, 1, none⟩))).run Tryz.prog w = (zqak Tryz.prog 29 g 1 32 w (zqe w g)).andThen fun v w' => .ok (.value v) w' := by
 rw [zqz, zqb3 Tryz.underlying29 rfl zqb g 1 w]
@[go_sem] theorem zrfe (g : Nat) (w : World) (a : Int) (k : Nat -> Int) (t' : TypeId) (fr : Nat × Nat) : zqak Tryz.prog 29 g 1 32 w (some (.cells (pkC a k) t' fr)) = .ok (.agg (ints .u8 32 k)) w := by
 unfold zqak
 simp only [zqe2]
 rw [if_pos (by decide), zrac]
@[go_sem] theorem zrht (w : World) : (zqbm 53).run Tryz.prog w = .ok (.value (.agg #[.int .u32 0, .slice none 0 0])) w := by kernel_rfl
@[go_sem] theorem zrej (w : World) : (zqbm 49).run Tryz.prog w = .ok (.value (.agg #[.int .u32 0, .slice none 0 0])) w := by kernel_rfl
attribute [irreducible] pkC zqk1 pkB1 zqht zqym zqf2
end Go.Proofs.YtfglcifnjaknnaaGreatDoor
namespace Go.Proofs.YtfglcifnjaknnaaGreatDoor
open Go.RowKit Go.Extern
theorem Oth.trans {g : Nat} {a b c : World} (h : Oth g a b) (k : Oth g b c) : Oth g a c := by
 obtain ⟨c1, h1⟩ := h;obtain ⟨c2, h2⟩ := k;have h3 := zqp9 h1 g c2;rw [setRow_setRow] at h3;have hs := h1.size;rw [zq0] at hs;exact ⟨c2, h3.trans (h2.mono hs)⟩
def hd2 (E V : Int) : Int := if V / 256 = 1 then E else if E = 0 then 3 else E
theorem ErV.shape {w : World} {u : Value} {E : Int} (h : ErV w u E) : u = .nilIface \/ ∃ t x, u = .iface t x := by
 rcases h with ⟨_, h⟩ | ⟨_, t, x, _, h, _⟩
 ·exact .inl h
 ·exact .inr ⟨t, x, h⟩
theorem ErV.wrap {w : World} {u : Value} {E : Int} (h : ErV w u E) (h0 : E ≠ 0) : ∃ t x, u = .iface t x /\ ∀ s, ErV (w.alloc (.cells #[.string s, u] 94)) (.iface 92 (.pointer (some ⟨w.heap.size, 0, none⟩))) E := by
 rcases h with ⟨h1, _⟩ | ⟨_, t, x, l, rfl, hc⟩
 ·exact absurd h1 h0
 ·exact ⟨t, x, rfl, fun s => .inr ⟨h0, _, _, s :: l, rfl, _, _, rfl, zqg _ _ _ rfl, hc.later (Grew.alloc (Grew.refl _) _)⟩⟩
attribute [local go_sem high] zqfk
theorem zqn1 (k : Nat -> Int) (w : World) : (Op.equalIn 9999 28 (.agg (ints .u8 32 k)) (.agg (ints .u8 32 k))).run Tryz.prog w = .ok true w := by
 obtain ⟨i, hi, hs⟩ : ∃ i, Tryz.prog.info? 5 = some i /\ i.size = 1 := ⟨(Tryz.prog.info? 5).get zqb, by kernel_rfl, by kernel_rfl⟩
 have hc : Tryz.prog.cellsOf 5 = 1 := by simp [Program.cellsOf, hi, hs]
 have hr := zqdv 32 k;unfold same at hr;rw [show (9999 : Nat) = 9997 + 1 + 1 from rfl, run_equalIn_array w (9997 + 1) _ _ Tryz.underlying28 hi, zqir w 9997 5 .u8 32 k k Tryz.underlying5 hc (List.range 32) (by simp)]
 first | rw [hr] | simp
end Go.Proofs.YtfglcifnjaknnaaGreatDoor
namespace Go.Proofs.YtfglcifnjaknnaaGreatDoor
open Go.RowKit Go.Maps
attribute [local go_sem] Oper.semAt_some
def klit (v : Int) : Lit := .int .u32 v
theorem zqfs (v : Int) : WideAt.IsKeyLit (klit v) := by unfold klit; simp [WideAt.IsKeyLit]
theorem zqg3 {a b : Int} (h : klit a = klit b) : a = b := by unfold klit at h; cases h; rfl
def plD (f : Nat -> Int) (g : Nat -> Int) : Nat -> DataW Unit
 | 0 => .map []
 | k + 1 => (plD f g k).put (klit (f k)) (.lit (.int .i64 (g k)))
theorem zq76 (f g : Nat -> Int) : ∀ k, Tidy (plD f g k) /\ Maps.size (plD f g k) <= k /\ (∀ v, Maps.has (plD f g k) (klit v) = true ↔ ∃ j, j < k /\ f j = v) /\
  ((∀ a, a < k -> ∀ b, b < a -> f a ≠ f b) -> Maps.size (plD f g k) = k) /\ ((∃ a, a < k /\ ∃ b, b < a /\ f a = f b) -> Maps.size (plD f g k) < k)
 | 0 => ⟨tidy_empty, Nat.le_refl _, fun v => Iff.intro (fun h => by cases h) (fun ⟨j, hj, _⟩ => by omega), fun _ => rfl, fun ⟨a, ha, _⟩ => by omega⟩
 | k + 1 => by
  obtain ⟨h1, h2, h3, h4, h5⟩ := zq76 f g k;have hs := size_put (k := klit (f k)) h1 (.lit (.int .i64 (g k)));have he : plD f g (k + 1) = (plD f g k).put (klit (f k)) (.lit (.int .i64 (g k))) := rfl;rw [<- he] at hs;refine ⟨h1.put (zqfs _) _, ?_, fun v => ?_, fun h => ?_, fun ⟨a, ha, b, hb, e⟩ => ?_⟩
  ·rw [hs]; split <;> omega
  ·by_cases e : v = f k
   ·subst e
    rw [he, has_put_same h1.isMap (zqfs _)];exact ⟨fun _ => ⟨k, by omega, rfl⟩, fun _ => rfl⟩
   ·rw [he, has_put_other (fun h => e (zqg3 h)), h3]
    exact ⟨fun ⟨j, hj, h⟩ => ⟨j, by omega, h⟩, fun ⟨j, hj, h⟩ => ⟨j, by
     rcases (by omega : j < k \/ j = k) with hj' | rfl
     ·exact hj'
     ·exact absurd h.symm e, h⟩⟩
  ·have hn : ¬ (Maps.has (plD f g k) (klit (f k)) = true) := fun hh => by
    obtain ⟨j, hj, e⟩ := (h3 _).1 hh;exact h k (by omega) j hj e.symm
   rw [hs, if_neg hn, h4 fun a ha b hb => h a (by omega) b hb]
  ·rw [hs]
   rcases (by omega : a < k \/ a = k) with ha' | rfl
   ·have := h5 ⟨a, ha', b, hb, e⟩
    split <;> omega
   ·rw [if_pos ((h3 _).2 ⟨b, hb, e.symm⟩)]
    omega
def plL {n : Nat} (I : Nat -> Int) (l : List (BkT n)) : DataW Unit := l.foldl (fun m x => m.put (klit (I x.1)) (.lit (.int .i64 (x.1 : Int)))) (.map [])
theorem zqz7 {n : Nat} (I : Nat -> Int) : ∀ k, k <= n -> plL I (itA n k) = plD (fun k => I (n - 1 - k)) (fun k => ((n - 1 - k : Nat) : Int)) k
 | 0, _ => rfl
 | k + 1, h => by
  rw [zqi3 (by omega)];unfold plL;rw [List.foldl_append];have := zqz7 (n := n) I k (by omega);unfold plL at this;rw [this]
  rfl
def plcD (I : Nat -> Int) (n : Nat) : DataW Unit := plD (fun k => I (n - 1 - k)) (fun k => ((n - 1 - k : Nat) : Int)) n
theorem zq3u (I : Nat -> Int) (g : Nat -> Int) (n : Nat) : (Twice I n -> Maps.size (plD (fun k => I (n - 1 - k)) g n) < n) /\ (¬ Twice I n -> Maps.size (plD (fun k => I (n - 1 - k)) g n) = n) := by
 obtain ⟨_, _, _, h4, h5⟩ := zq76 (fun k => I (n - 1 - k)) g n;refine ⟨fun ⟨i, hi, k, hk, e⟩ => h5 ⟨n - 1 - k, by omega, n - 1 - i, by omega, ?_⟩, fun h => h4 fun a ha b hb e => h ⟨n - 1 - b, by omega, n - 1 - a, by omega, e.symm⟩⟩
 show I (n - 1 - (n - 1 - k)) = I (n - 1 - (n - 1 - i))
 rw [show n - 1 - (n - 1 - k) = k by omega, show n - 1 - (n - 1 - i) = i by omega];exact e.symm
theorem zqyv (l Bs n₀ c N : Nat) (oa : Option Addr) (I : Nat -> Int) (K : Nat -> Nat -> Int) (n : Nat) (hn : 1 <= n) (hL : N <= 100000) (hg : 0 < N -> ∀ ad, oa = some ad -> ad.block < n₀) (J Jx : List (BkT N) -> World -> Prop)
  (hY : ∀ (pre : List (BkT N)) (x : BkT N) (W : World), J pre W -> pre.length < N -> YieldAt Fence.wide (n - 1) Tryz.prog l #[.int .i64 (x.1 : Int), .agg (pkC (I x.1) (K x.1))] W fun e W' =>
   (e = .returned (.bool true) /\ J (pre ++ [x]) W' /\ KpB n₀ Bs W W') \/ (e = .returned (.bool false) /\ Jx (pre ++ [x]) W'))
  (W : World) (hBs : zqe W Bs = some (.cells #[.slice oa N c] 51 (0, 0))) (hN : PkAt W oa N I K) (h0 : J [] W) :
  CallsIn Fence.wide n Tryz.prog 199 #[.func (.yield l) #[] #[], .pointer (some ⟨Bs, 0, none⟩)] W fun e W' => (∃ v, e = .returned v) /\
   ((∃ ys, ys = itA N N /\ J ys W') \/ (∃ pre, True /\ Jx pre W')) := by
 have HN : Hid (PkAt W oa N I K) := hN;clear hN;refine callsIn_of_wp Tryz.func199 rfl trivial ?_
 simp only [Tryz.ntmps199, List.size_toArray, List.length_cons, List.length_nil, Nat.reduceAdd, Nat.reduceSub, Array.replicate_succ, Array.replicate_zero, List.push_toArray, List.append_toArray, List.nil_append, List.cons_append]
 have lBs := zqa hBs
 gi_wp2
 gi_loopw [3] (fun i wr => ∃ k : Nat, k <= N /\ i = .int .i64 ((N : Int) - (k : Int) - 1) /\ J (itA N k) wr /\ Hid (KpB n₀ Bs W wr)) (fun i _ => (intOf i + 1).toNat)
 case atStart => exact ⟨0, Nat.zero_le _, by go_num, h0, KpB.refl _ _ _⟩
 case round =>
  obtain ⟨k, hk, rfl, hJs, hkp⟩ := hrel
  by_cases hlt : k < N
  ·obtain ⟨ad, rfl, -⟩ := HN.out.blk (by omega)
   obtain ⟨fn, tmps, assign, body, hy, hR⟩ := hY _ ⟨N - 1 - k, by omega⟩ wr hJs (by rw [zqlv k hk]; exact hlt)
   dsimp only at hy
   have hB := hkp.out.2 _ _ _ hBs;have lB := zqa hB;have l1 := (HN.out.kept hkp.out.1 (hg (by omega))).load_pk (show N - 1 - k < N by omega);have ej : ((N - 1 - k : Nat) : Int) = (N : Int) - (k : Int) - 1 := by omega
   have en : ((N : Int) - (k : Int) - 1).toNat = N - 1 - k := by omega
   rw [ej] at hy;have hi0 : (0 : Int) <= (N : Int) - (k : Int) - 1 := by omega
   have hi1 : (N : Int) - (k : Int) - 1 < (N : Int) := by omega
   have hnx := zqi3 hlt;clear hY;generalize I (N - 1 - k) = x at *;generalize K (N - 1 - k) = y at *
   gi_wp2
   refine hR.mono ?_
   rintro e W3 (⟨rfl, hJ3, hk3⟩ | ⟨rfl, hJx3⟩)
   ·have hkp3 : Hid (KpB n₀ Bs W W3) := hkp.out.trans hk3
    clear hy hk3 hB lB l1 hR
    gi_wp2
    go_roundw
    case rel => exact ⟨k + 1, by omega, by go_num, by rw [hnx]; exact hJ3, hkp3⟩
    case measure => (simp [intOf] <;> omega)
   ·gi_wp2
    refine bodyPost_ret (results_none rfl _ _ _) rfl ?_
    exact ⟨⟨_, rfl⟩, .inr ⟨_, trivial, hJx3⟩⟩
  ·obtain rfl : k = N := by omega
   gi_wp2
   go_end0
   exact ⟨⟨_, rfl⟩, .inl ⟨_, rfl, hJs⟩⟩
theorem zqms (oa : Option Addr) (n c : Nat) (w : World) : Calls Tryz.prog 197 #[.slice oa n c] w fun e w' => e = .returned (.func (.func 199) #[] #[.pointer (some ⟨w.heap.size, 0, none⟩)]) /\ w' = w.alloc (.cells #[.slice oa n c] 51) := by
 have hmf : ∀ (fn : Fn) (first cap : Array Value) (w : World), (Instr.makeFunc fn first cap).run Tryz.prog w = .ok (.func fn first cap) w := fun _ _ _ _ => rfl
 go_enter Tryz.func197, Tryz.ntmps197
 go_wp2;go_ret;exact ⟨rfl, rfl⟩
theorem zqpb (Bs n₀ c N : Nat) (oa : Option Addr) (I : Nat -> Int) (K : Nat -> Nat -> Int) (n : Nat) (hn : 1 <= n) (hL : N <= 100000) (hg : 0 < N -> ∀ ad, oa = some ad -> ad.block < n₀) (w : World) (hn₀ : n₀ <= w.heap.size)
  (hBs : zqe w Bs = some (.cells #[.slice oa N c] 51 (0, 0))) (hN : PkAt w oa N I K) :
  SeqStopsK Fence.wide n Tryz.prog 199 #[.pointer (some ⟨Bs, 0, none⟩)] (fun x : BkT N => #[Value.int .i64 (x.1 : Int), .agg (pkC (I x.1) (K x.1))]) (KpB n₀ Bs) (fun ys => ys = itA N N) (fun _ => True) N w :=
 fun l J Jx W hW _ _ hY h0 => zqyv l Bs n₀ c N oa I K n hn hL hg J Jx hY W (zqc hW hBs) (hN.later hW) h0
theorem places_any (nm : Int) (oa : Option Addr) (n c : Nat) (I : Nat -> Int) (K : Nat -> Nat -> Int) (w : World) (hP : PkAt w oa n I K) (hn : n <= 1000) (hI : ∀ j, j < n -> 0 <= I j /\ I j < 4294967296) (hoa : 0 < n -> ∀ ad, oa = some ad -> ad.block < w.heap.size) :
  Calls Tryz.prog 195 #[.agg #[.int .u32 nm, .slice oa n c]] w fun e w' => ∃ b q, e = .returned (.map (some b)) /\ w'.ownsMap Tryz.prog 23 (plainElem (H := Unit) Tryz.prog 3) b q (plcD I n) /\ Below w.heap.size w w' := by
 have HP : Hid (PkAt w oa n I K) := hP;clear hP;have hmm := @run_makeMap Tryz.prog;have LK : Keyed Tryz.prog 23 := int_keyed Tryz.underlying23;refine (callsIn_wide (n := 5)).1 ?_
 refine callsIn_of_wp_marks Tryz.func195 rfl trivial ?_
 simp only [Tryz.ntmps195, List.size_toArray, List.length_cons, List.length_nil, Nat.reduceAdd, Nat.reduceSub, Array.replicate_succ, Array.replicate_zero, List.push_toArray, List.append_toArray, List.nil_append, List.cons_append]
 gi_wp2_with fail
 refine ⟨trivial, (callsIn_wide.2 (zqms _ _ _ _)).mono ?_⟩;rintro e w4 ⟨rfl, rfl⟩
 gi_wp2_with fail
 have fm : zqe ((((w.alloc (.cells #[.int .u32 nm, .slice oa n c] 53)).alloc (.map #[] 0)).alloc (.cells #[.map (some (w.heap.size + 1))] 281)).alloc (.cells #[.slice oa n c] 51)) (w.heap.size + 1 + 1) = some (.cells #[.map (some (w.heap.size + 1))] 281) := zqj _ (zqg _ _ _ (by simp));have fb : zqe ((((w.alloc (.cells #[.int .u32 nm, .slice oa n c] 53)).alloc (.map #[] 0)).alloc (.cells #[.map (some (w.heap.size + 1))] 281)).alloc (.cells #[.slice oa n c] 51)) (w.heap.size + 1 + 1 + 1) = some (.cells #[.slice oa n c] 51) := zqg _ _ _ (by simp);have hmp : ((((w.alloc (.cells #[.int .u32 nm, .slice oa n c] 53)).alloc (.map #[] 0)).alloc (.cells #[.map (some (w.heap.size + 1))] 281)).alloc (.cells #[.slice oa n c] 51)).ownsMap Tryz.prog 23 (plainElem (H := Unit) Tryz.prog 3) (w.heap.size + 1) 0 (.map []) := by
  have := World.ownsMap_made (w.alloc (.cells #[.int .u32 nm, .slice oa n c] 53)) Tryz.prog 23 (plainElem (H := Unit) Tryz.prog 3);rw [World.size_alloc] at this;exact (this.alloc _).alloc _
 have hsz : w.heap.size + 4 <= ((((w.alloc (.cells #[.int .u32 nm, .slice oa n c] 53)).alloc (.map #[] 0)).alloc (.cells #[.map (some (w.heap.size + 1))] 281)).alloc (.cells #[.slice oa n c] 51)).heap.size := by simp
 have hG : Below w.heap.size w ((((w.alloc (.cells #[.int .u32 nm, .slice oa n c] 53)).alloc (.map #[] 0)).alloc (.cells #[.map (some (w.heap.size + 1))] 281)).alloc (.cells #[.slice oa n c] 51)) := Grew.alloc (Grew.alloc (Grew.alloc (Grew.alloc (Grew.refl _) _) _) _) _;have HP5 : Hid (PkAt ((((w.alloc (.cells #[.int .u32 nm, .slice oa n c] 53)).alloc (.map #[] 0)).alloc (.cells #[.map (some (w.heap.size + 1))] 281)).alloc (.cells #[.slice oa n c] 51)) oa n I K) := HP.out.later hG;clear hmm HP;generalize (((w.alloc (.cells #[.int .u32 nm, .slice oa n c] 53)).alloc (.map #[] 0)).alloc (.cells #[.map (some (w.heap.size + 1))] 281)).alloc (.cells #[.slice oa n c] 51) = w5 at *;refine wpIn_rangeFunc_ownH rfl (by decide) (gf := 199) (lb := #[.pointer (some ⟨w.heap.size + 1 + 1 + 1, 0, none⟩)]) rfl trivial (enters_of Tryz.func199 zqb rfl)
  (zqpb (w.heap.size + 1 + 1 + 1) w.heap.size c n oa I K 4 (by decide) (by omega) hoa w5 (by omega) fb HP5.out) zrdi (zrd6 (by omega)) (Below.refl _ _) (fun _ => rfl)
  (fun pre W => Below w.heap.size w W /\ zqe W (w.heap.size + 1 + 1) = some (.cells #[.map (some (w.heap.size + 1))] 281) /\ w.heap.size + 4 <= W.heap.size /\ W.ownsMap Tryz.prog 23 (plainElem (H := Unit) Tryz.prog 3) (w.heap.size + 1) pre.length (plL I pre))
  (fun _ _ _ => False)
  (fun pre W W' row hs hg hr => ⟨(ownFrom_below (β := Unit) (Nat.le_refl _) (by omega)) () W W' row hs.1 hg hr, (cells_kept hs.2.1 hg hr).trans hs.2.1, Nat.le_trans hs.2.2.1 hg.size, hs.2.2.2.kept hg (fun e => by have := (hr _ e.symm).1; omega)⟩)
  (fun _ _ _ _ _ hs _ _ => hs)
  ⟨hG, fm, hsz, hmp⟩
  (fun x a' W => ∃ Bv, w.heap.size + 4 <= Bv /\ zqe W Bv = some (.cells (pkC (I x.1) (K x.1)) 82) /\ a' = { tmps := #[.agg #[.int .u32 nm, .slice oa n c], .pointer (some ⟨w.heap.size, 0, none⟩), .map none, .pointer (some ⟨w.heap.size + 1 + 1, 0, none⟩), .int .i64 (x.1 : Int), .pointer (some ⟨Bv, 0, none⟩), .map (some (w.heap.size + 1)), .pointer (some ⟨w.heap.size, 1, none⟩), .slice oa n c, .func (.func 199) #[] #[.pointer (some ⟨w.heap.size + 1 + 1 + 1, 0, none⟩)], .int .i64 (x.1 : Int), .agg (pkC (I x.1) (K x.1)), undef, undef, undef, undef, undef], defers := [] })
  (fun x a' _ W W' row hs hg hr => by
   obtain ⟨Bv, h1, h2, h3⟩ := hs;exact ⟨Bv, h1, (cells_kept h2 hg hr).trans h2, h3⟩)
  ?assign ?body ?done ?stop
 case assign =>
  rintro l pre x W K' ⟨hb, hp, hs, hm⟩ hK
  gi_wp2
  exact hK _ _ ((KeepsOthers.alloc _ _).from _) ⟨(Below.refl w.heap.size W).alloc hb.size _, fun _ _ _ e => zqj _ e⟩ ⟨Grew.alloc hb _, zqj _ hp, by simp; omega, hm.alloc _⟩ ⟨W.heap.size, hs, zqg _ _ _ rfl, rfl⟩
 case body =>
  rintro l pre ⟨i, hi⟩ a' W hl - ⟨hb, hp, hs, hm⟩ ⟨Bv, hBv, fv, rfl⟩ hpl;have lfv := zqa fv;have lp := zqa hp;obtain ⟨hi0, hi1⟩ := hI i hi;have wfk : (Lit.int .u32 (I i)).wf = true := by simp [Lit.wf, IntKind.min, IntKind.max, IntKind.signed, IntKind.bits]; omega
  have wfi : (Lit.int .i64 (i : Int)).wf = true := by simp [Lit.wf, IntKind.min, IntKind.max, IntKind.signed, IntKind.bits]; omega
  have hkey : keyOf Tryz.prog 23 (.int .u32 (I i)) = some (klit (I i)) := keyOf_int_mk Tryz.underlying23 wfk;have hfold : plL I (pre ++ [(⟨i, hi⟩ : BkT n)]) = (plL I pre).put (klit (I i)) (.lit (.int .i64 (i : Int))) := by unfold plL; rw [List.foldl_append]; rfl
  simp only at fv ⊢
  generalize hx : I i = x at *;generalize K i = y at *
  gi_wp2_with (gi_at_mapUpdate; refine wpListIn_mapUpdate_own _ rfl _ _ _ 281 rfl 23 3 LK Tryz.underlying281 (plainElem (H := Unit) Tryz.prog 3) (w.heap.size + 1) pre.length _ rfl hm (by unfold maxLen; omega) _ _ _ rfl rfl hkey _ [] (plainElem_int Tryz.underlying3 wfi) ?_)
  intro w6 hown hgrow
  gi_wp2
  have hW : ∀ k, k < W.heap.size -> k ≠ w.heap.size + 1 -> w6.heap[k]? = W.heap[k]? := fun k hk hne => hgrow.block k hk (fun e => hne (by cases e; rfl));refine ⟨⟨hgrow.size, fun k o hk ho _ => (hW k (Array.getElem?_eq_some_iff.1 ho).1 (by omega)).trans ho⟩, ⟨(Below.refl w.heap.size W).grown hgrow hb.size (fun j e => by cases e; omega), fun cs t fr e => (hW _ (zqa e) (by omega)).trans e⟩, hb.grown hgrow hb.size (fun j e => by cases e; omega), (hW _ lp (by omega)).trans hp, Nat.le_trans hs hgrow.size, ?_⟩;rw [List.length_append, hfold];exact hown
 case done =>
  rintro D xs W hD rfl ⟨hb, hp, hs, hm⟩ hKD;have lp := zqa hp;have hm2 : (W.putObj D (.deferred none)).ownsMap Tryz.prog 23 (plainElem (H := Unit) Tryz.prog 3) (w.heap.size + 1) (itA n n).length (plcD I n) := by
   unfold plcD;rw [<- zqz7 I n (Nat.le_refl _)];obtain ⟨es, clock, h1, h2⟩ := hm;exact ⟨es, clock, (World.putObj_heap_other (by omega)).trans h1, h2⟩
  have hb2 : Below w.heap.size w (W.putObj D (.deferred none)) := hb.trans (belowK_b (w := w) (Nat.le_refl _) _ D _ _ (by omega) hKD rfl rfl)
  gi_wp2
  refine ⟨by simp, .inl ⟨_, _, rfl, run_takeDeferred hKD, ?_⟩⟩;exact ⟨_, results_tmp rfl _ _ _, _, _, rfl, hm2, hb2⟩
 case stop =>
  rintro D c pre W _ _ h _;exact h.elim
end Go.Proofs.YtfglcifnjaknnaaGreatDoor
namespace Go.Proofs.YtfglcifnjaknnaaGreatDoor
open Go.RowKit Go.Maps
theorem zq3x (I : Nat -> Int) (n : Nat) : (Twice I n -> Maps.size (plcD I n) < n) /\ (¬ Twice I n -> Maps.size (plcD I n) = n) := zq3u I _ n
def PlAt (D : DataW Unit) (u : Value) (w : World) : Prop := ∀ b, u = .map (some b) -> ∃ q, w.ownsMap Tryz.prog 23 (plainElem (H := Unit) Tryz.prog 3) b q D
theorem zqn0 {w w' : World} {b q : Nat} {D : DataW Unit} (h : w.ownsMap Tryz.prog 23 (plainElem (H := Unit) Tryz.prog 3) b q D) (hb : Below w.heap.size w w') : w'.ownsMap Tryz.prog 23 (plainElem (H := Unit) Tryz.prog 3) b q D := by
 have hlt := h.lt;obtain ⟨es, clock, h1, h2⟩ := h;exact ⟨es, clock, (hb.block _ hlt).trans h1, h2⟩
theorem zrab (D : DataW Unit) (u : Value) : Stab (PlAt D u) none := fun w w' h e b hu => by
 obtain ⟨q, hq⟩ := h b hu;exact ⟨q, zqn0 hq e⟩
theorem zqvp (nm : Int) (oa : Option Addr) (n c : Nat) (I : Nat -> Int) (K : Nat -> Nat -> Int) (w : World) (hP : PkAt w oa n I K) (hn : n <= 1000) (hI : ∀ j, j < n -> 0 <= I j /\ I j < 4294967296) (hoa : 0 < n -> ∀ ad, oa = some ad -> ad.block < w.heap.size) :
  Calls Tryz.prog 192 #[.agg #[.int .u32 nm, .slice oa n c]] w fun e w' => ∃ u, e = .returned (u) /\ ErV w' u (if 64 < n then 18 else dupE I n) /\ Below w.heap.size w w' := by
 have HP : Hid (PkAt w oa n I K) := hP;clear hP
 go_enter Tryz.func192, Tryz.ntmps192
 by_cases h64 : 64 < n
 ·have hi : (64 : Int) < (n : Int) := by omega
  rw [if_pos h64];go_wp2_with fail;have hG : Below w.heap.size w (w.alloc (.cells #[.int .u32 nm, .slice oa n c] 53)) := Grew.alloc (Grew.refl _) _;generalize w.alloc (.cells #[.int .u32 nm, .slice oa n c] 53) = w1 at *;refine (wrap_any _ _ _ _).mono ?_
  rintro e w2 ⟨rfl, rfl⟩;go_wp2;go_ret;exact ⟨_, rfl, zqg4 _ 18 (by decide), Grew.alloc hG _⟩
 have hi : ¬ ((64 : Int) < (n : Int)) := by omega
 rw [if_neg h64];go_wp2_with fail;have fb : zqe (w.alloc (.cells #[.int .u32 nm, .slice oa n c] 53)) w.heap.size = some (.cells #[.int .u32 nm, .slice oa n c] 53) := zqg _ _ _ rfl;have hG : Below w.heap.size w (w.alloc (.cells #[.int .u32 nm, .slice oa n c] 53)) := Grew.alloc (Grew.refl _) _;have HP1 : Hid (PkAt (w.alloc (.cells #[.int .u32 nm, .slice oa n c] 53)) oa n I K) := HP.out.later hG;generalize w.alloc (.cells #[.int .u32 nm, .slice oa n c] 53) = w1 at *;have lb := zqa fb;obtain ⟨s, hs⟩ : ∃ s, Maps.size (plcD I n) = s := ⟨_, rfl⟩
 obtain ⟨s1, s2⟩ := zq3x I n;rw [hs] at s1 s2;have cP := fun (W : World) (hb : Below w1.heap.size w1 W) => places_any nm oa n c I K W (HP1.out.later hb) hn hI (fun h ad e => Nat.lt_of_lt_of_le (hoa h ad e) (Nat.le_trans hG.size hb.size));refine zqfo (fun k => k == 1) (fun k => match k with | 1 => fun u => ∃ b, u = .map (some b) | _ => fun _ => True) (fun k => match k with | 1 => fun u w => PlAt (plcD I n) u w | _ => fun _ _ => True) (fun k => match k with | 1 => .map (some 0) | _ => undef) (fun i hi => ?_) zqb zqb ?_
 ·simp only [Bool.or_eq_true, beq_iff_eq] at hi
  subst hi;exact ⟨0, rfl⟩
 (first | refine zqv rfl ?_ | (refine zqn rfl ?_; apply Exists.intro))
 refine zqn rfl ⟨undef, ?_⟩
 iterate 5 (first | refine zqv rfl ?_ | (refine zqn rfl ?_; apply Exists.intro))
 refine zqbt ?_
 intro γ gv hsv hinj hbase;obtain ⟨b1, e1⟩ := hsv 1 rfl
 (repeat (first | (refine zqx rfl ?_; (refine zAa ?_)) | ((first | refine zqm rfl (fun _ => rfl) ?_); (refine zAa ?_)) | refine zql rfl (fun _ => rfl) ?_))
 refine zqao #[.agg #[.int .u32 nm, .slice oa n c]] (enters_of Tryz.func195 zqb rfl) rfl e1 rfl rfl rfl rfl (zqcj (zrab _ _)) (by first | kernel_rfl | simp [go_sem]) ?_ ?_
 ·intro W hC hF
  obtain ⟨mm, rfl⟩ := hC;refine (cP _ (zqo w1 mm)).mono ?_
  rintro e w9 ⟨b, q, rfl, hq, hb9⟩;exact ⟨_, rfl, ⟨b, rfl⟩, (fun b2 e2 => by cases e2; exact ⟨q, hq⟩), hb9⟩
 (refine zAa ?_)
 apply zqaa
 ·rfl
 ·rfl
 ·rfl
 ·intro W hC hF
  have hE0 : PlAt (plcD I n) (.map (some b1)) W := known hF (List.mem_cons_self ..) (by decide +kernel);obtain ⟨q1, hq1⟩ := hE0 b1 rfl;have hlen := fun m : More => (zqn0 hq1 (zqo W m)).len Tryz.underlying281 3;rw [hs] at hlen
  go_big_quiet_want
  go_big_quiet_op
  go_big_quiet_on
  exact wpQuiet_nil rfl
 ·first | exact fun _ => ⟨rfl, rfl⟩ | exact fun h => absurd h (by decide)
 (refine zAa ?_)
 (refine zAb ?_)
 (refine zqce ?_; rintro _ ⟨mq, rfl⟩ hF; simp only [List.forall_mem_cons] at hF; obtain ⟨-, -⟩ := hF)
 replace hG := Grew.more hG mq;replace fb := zqp mq fb;clear cP lb hinj hbase hsv e1;generalize more w1 mq = w2 at *
 by_cases hd : Twice I n
 ·have hlt : (s : Int) < (n : Int) := by have := s1 hd; omega
  go_wp2_with fail;refine (wrap_any _ _ _ _).mono ?_
  rintro e w3 ⟨rfl, rfl⟩;go_wp2;go_ret;exact ⟨_, rfl, by rw [zq5a hd]; exact zqg4 _ 17 (by decide), Grew.alloc hG _⟩
 ·have hlt : ¬ ((s : Int) < (n : Int)) := by have := s2 hd; omega
  go_wp2;go_ret;exact ⟨_, rfl, by rw [zqz5 hd]; exact .inl ⟨rfl, rfl⟩, hG⟩
end Go.Proofs.YtfglcifnjaknnaaGreatDoor
namespace Go.Proofs.YtfglcifnjaknnaaGreatDoor
open Go.RowKit Go.Extern
theorem Oth.grown {g : Nat} {w0 w w' : World} {row : Option Nat} (h : Oth g w0 w) (hg : w.grownBy w' row) (hr : ∀ r, row = some r -> w0.heap.size <= r) : Oth g w0 w' := by
 obtain ⟨cs, hb⟩ := h;have hs := hb.size;rw [zq0] at hs;exact ⟨cs, hb.grown hg hs hr⟩
theorem Oth.later {g : Nat} {w0 w w' : World} (h : Oth g w0 w) (hb : Below w.heap.size w w') : Oth g w0 w' := by
 obtain ⟨cs, h1⟩ := h;have hs := h1.size;rw [zq0] at hs;exact ⟨cs, h1.trans (hb.mono hs)⟩
attribute [local go_sem high] zqfk
end Go.Proofs.YtfglcifnjaknnaaGreatDoor
namespace Go.Proofs.YtfglcifnjaknnaaGreatDoor
open Go.RowKit Go.Extern
theorem Twice.congr {I J : Nat -> Int} {n : Nat} (h : ∀ j, j < n -> I j = J j) : Twice I n ↔ Twice J n :=
 ⟨fun ⟨i, hi, k, hk, e⟩ => ⟨i, hi, k, hk, by rw [<- h i hi, <- h k (by omega)]; exact e⟩, fun ⟨i, hi, k, hk, e⟩ => ⟨i, hi, k, hk, by rw [h i hi, h k (by omega)]; exact e⟩⟩
theorem BunAt.congr {w : World} {v : Value} {nm : Int} {n : Nat} {I J : Nat -> Int} {K M : Nat -> Nat -> Int} (h : BunAt w v nm n I K) (hI : ∀ j, j < n -> I j = J j) (hK : ∀ j, j < n -> ∀ i, i < 32 -> K j i = M j i) : BunAt w v nm n J M := by
 obtain ⟨oa, c, e, hp⟩ := h;refine ⟨oa, c, e, ?_⟩
 rcases hp with h0 | ⟨ad, ho, hl, hc⟩
 ·exact .inl h0
 ·refine .inr ⟨ad, ho, hl, fun j hj i hi => ?_⟩
  rw [hc j hj i hi, hI j hj]
  rcases Nat.eq_zero_or_pos i with rfl | hp
  ·rw [zq04, zq04]
  ·obtain ⟨q, rfl⟩ : ∃ q, i = 1 + q := ⟨i - 1, by omega⟩
   rw [zq10 _ _ _ (by omega), zq10 _ _ _ (by omega), hK j hj q (by omega)]
def WSh (u : Value) : Prop := ∃ g : Nat, u = .agg #[.pointer (some ⟨g, 0, none⟩)]
def PcW (l : List ByteArray) (u : Value) (w : World) : Prop := ∀ v, u = .agg #[v] -> Pcs w l v
theorem zqn4 (l : List ByteArray) (u : Value) : Stab (PcW l u) none := fun w w' h e v hu => (h v hu).later e
theorem zqhr (l : List ByteArray) (u : Value) (g' : Nat) : Stab (PcW l u) (some (g', 224)) := fun w w' h ⟨old, cs', t', h1, ⟨_, h2⟩, e⟩ v hu => by
 subst e;subst h2;exact (h v hu).put h1 (by decide) _
theorem zqat {P : Prop} (h : P := by first | exact zq7 | ((repeat (refine zqgt ⟨by (first | exact zqco _ _ _ _ | exact zqhr _ _ _ | exact zqn4 _ _ | exact zqei _ _ _ | exact zqcr _ _ _), by (first | exact zqco _ _ _ _ | exact zqhr _ _ _ | exact zqn4 _ _ | exact zqei _ _ _ | exact zqcr _ _ _)⟩ ?_)); exact zqcj (by (first | exact zqco _ _ _ _ | exact zqhr _ _ _ | exact zqn4 _ _ | exact zqei _ _ _ | exact zqcr _ _ _)))) : P := h
theorem zqkf (w : World) : (zeroValue 224).run Tryz.prog w = .ok (.agg #[.pointer none]) w := by kernel_rfl
@[go_sem] theorem zra4 (w : World) : (zqbm 224).run Tryz.prog w = .ok (.value (.agg #[.pointer none])) w := by kernel_rfl
def zq5j (nm : Int) (n : Int) : Nat -> ByteArray
 | 0 => numB 1 1
 | 1 => numB 1 1
 | 2 => numB 4 nm
 | _ => numB 2 n
theorem zqxo (nm : Int) (w : World) (h0 : 0 <= nm) (h1 : nm < 4294967296) :
  Calls Tryz.prog 182 #[.agg #[.int .u32 nm, .slice none 0 0]] w (Rt w (.tuple #[.string (catS (zq5j nm 0) 4), .nilIface])) := by
 go_enter Tryz.func182, Tryz.ntmps182
 go_wp2_with fail;have fb : zqe (w.alloc (.cells #[.int .u32 nm, .slice none 0 0] 53)) w.heap.size = some (.cells #[.int .u32 nm, .slice none 0 0] 53) := zqg _ _ _ rfl;have hG : Below w.heap.size w (w.alloc (.cells #[.int .u32 nm, .slice none 0 0] 53)) := Grew.alloc (Grew.refl _) _;generalize w.alloc (.cells #[.int .u32 nm, .slice none 0 0] 53) = w1 at *;refine (zqvp nm none 0 0 (fun _ => 0) (fun _ _ => 0) _ (.inl rfl) (by decide) (fun j hj => by omega) (fun _ ad e => by cases e)).mono ?_
 rintro e w2 ⟨u, rfl, hu, hb⟩;rw [if_neg (by decide), zqz5 (fun ⟨i, hi, _⟩ => by omega)] at hu;replace fb := zqc hb fb;replace hG := Grew.trans hG hb;clear hb
 rcases hu with ⟨-, rfl⟩ | ⟨h9, -⟩
 case inr => exact absurd rfl h9
 have lb := zqa fb;have hw1 : IntKind.u64.wrap nm = nm := by rw [IntKind.wrap_u64]; omega
 go_wp2_with fail;refine zqfo (fun k => k == 1 || k == 2 || k == 6 || k == 11) (fun k => match k with | 1 => fun u => WSh u | 2 => fun u => WSh u | 6 => fun u => WSh u | 11 => fun u => WSh u | _ => fun _ => True) (fun k => match k with | 1 => fun u w => PcW [numB 1 1] u w | 2 => fun u w => PcW [numB 1 1, numB 1 1] u w | 6 => fun u w => PcW [numB 4 nm, numB 1 1, numB 1 1] u w | 11 => fun u w => PcW [numB 2 0, numB 4 nm, numB 1 1, numB 1 1] u w | _ => fun _ _ => True) (fun k => match k with | 1 => .agg #[.pointer (some ⟨0, 0, none⟩)] | 2 => .agg #[.pointer (some ⟨0, 0, none⟩)] | 6 => .agg #[.pointer (some ⟨0, 0, none⟩)] | 11 => .agg #[.pointer (some ⟨0, 0, none⟩)] | _ => undef) (fun i hi => ?_) zqb zqb ?_
 ·simp only [Bool.or_eq_true, beq_iff_eq] at hi
  rcases hi with ((rfl | rfl) | rfl) | rfl
  ·exact ⟨0, rfl⟩
  ·exact ⟨0, rfl⟩
  ·exact ⟨0, rfl⟩
  ·exact ⟨0, rfl⟩
 (first | refine zqv rfl ?_ | (refine zqn rfl ?_; apply Exists.intro))
 refine zqn rfl ⟨undef, ?_⟩;refine zqn rfl ⟨undef, ?_⟩
 iterate 3 (first | refine zqv rfl ?_ | (refine zqn rfl ?_; apply Exists.intro))
 refine zqn rfl ⟨undef, ?_⟩
 iterate 4 (first | refine zqv rfl ?_ | (refine zqn rfl ?_; apply Exists.intro))
 refine zqn rfl ⟨undef, ?_⟩
 iterate 2 (first | refine zqv rfl ?_ | (refine zqn rfl ?_; apply Exists.intro))
 refine zqbt ?_
 intro γ gv hsv hinj hbase;obtain ⟨g1, e1⟩ := hsv 1 rfl;obtain ⟨g2, e2⟩ := hsv 2 rfl;obtain ⟨g3, e3⟩ := hsv 6 rfl;obtain ⟨g4, e4⟩ := hsv 11 rfl
 (refine zAb ?_)
 refine zqao #[.agg #[.pointer none], .int .i64 1, .int .u64 1] (enters_of Tryz.func149 zqb rfl) rfl e1 rfl rfl rfl rfl (by exact zqat) (by first | kernel_rfl | simp [go_sem]) ?_ ?_
 ·intro W hC hF
  obtain ⟨mm, rfl⟩ := hC;refine (zqcp 1 1 none _ (by omega) (by omega)).mono ?_
  rintro e w9 ⟨g, rfl, fg, hb9⟩;exact ⟨_, rfl, ⟨g, rfl⟩, (fun v ev => by cases ev; exact ⟨g, _, rfl, fg, rfl⟩), hb9⟩
 (refine zAa ?_)
 (refine zAb ?_)
 refine zqao #[.agg #[.pointer (some ⟨g1, 0, none⟩)], .int .i64 1, .int .u64 1] (enters_of Tryz.func149 zqb rfl) rfl e2 rfl rfl rfl rfl (by exact zqat) (by first | kernel_rfl | simp [go_sem]) ?_ ?_
 ·intro W hC hF
  obtain ⟨mm, rfl⟩ := hC;have hE0 : PcW [numB 1 1] (.agg #[.pointer (some ⟨g1, 0, none⟩)]) (more w2 mm) := known hF (List.mem_cons_self ..) (by decide +kernel);refine (zqcp 1 1 (some ⟨g1, 0, none⟩) _ (by omega) (by omega)).mono ?_
  rintro e w9 ⟨g, rfl, fg, hb9⟩;exact ⟨_, rfl, ⟨g, rfl⟩, (fun v ev => by cases ev; exact ⟨g, _, rfl, fg, (hE0 _ rfl).later hb9⟩), hb9⟩
 (refine zAa ?_)
 (refine zAb ?_)
 refine zqao #[.agg #[.pointer (some ⟨g2, 0, none⟩)], .int .i64 4, .int .u64 nm] (enters_of Tryz.func149 zqb rfl) rfl e3 rfl rfl rfl rfl (by exact zqat) (by first | kernel_rfl | simp [go_sem]) ?_ ?_
 ·intro W hC hF
  obtain ⟨mm, rfl⟩ := hC;have hE0 : PcW [numB 1 1, numB 1 1] (.agg #[.pointer (some ⟨g2, 0, none⟩)]) (more w2 mm) := known hF (List.mem_cons_self ..) (by decide +kernel);refine (zqcp 4 nm (some ⟨g2, 0, none⟩) _ (by omega) (by omega)).mono ?_
  rintro e w9 ⟨g, rfl, fg, hb9⟩;exact ⟨_, rfl, ⟨g, rfl⟩, (fun v ev => by cases ev; exact ⟨g, _, rfl, fg, (hE0 _ rfl).later hb9⟩), hb9⟩
 (refine zAa ?_)
 (refine zAb ?_)
 refine zqao #[.agg #[.pointer (some ⟨g3, 0, none⟩)], .int .i64 2, .int .u64 0] (enters_of Tryz.func149 zqb rfl) rfl e4 rfl rfl rfl rfl (by exact zqat) (by first | kernel_rfl | simp [go_sem]) ?_ ?_
 ·intro W hC hF
  obtain ⟨mm, rfl⟩ := hC;have hE0 : PcW [numB 4 nm, numB 1 1, numB 1 1] (.agg #[.pointer (some ⟨g3, 0, none⟩)]) (more w2 mm) := known hF (List.mem_cons_self ..) (by decide +kernel);refine (zqcp 2 0 (some ⟨g3, 0, none⟩) _ (by omega) (by omega)).mono ?_
  rintro e w9 ⟨g, rfl, fg, hb9⟩;exact ⟨_, rfl, ⟨g, rfl⟩, (fun v ev => by cases ev; exact ⟨g, _, rfl, fg, (hE0 _ rfl).later hb9⟩), hb9⟩
 (refine zAa ?_)
 (repeat (first | (refine zqx rfl ?_; (refine zAa ?_)) | ((first | refine zqm rfl (fun _ => rfl) ?_ | (refine zAn ?_) | (refine zAh ?_)); (refine zAa ?_)) | refine zql rfl (fun _ => rfl) ?_ | (refine zAl ?_)))
 (refine zqce ?_; rintro _ ⟨mq, rfl⟩ hF; simp only [List.forall_mem_cons] at hF; obtain ⟨fv, -, f4, -⟩ := hF)
 have hP := f4 _ rfl;replace hG := Grew.more hG mq;replace fv : zqe (more w2 mq) (γ 12) = some (.cells #[.pointer (some ⟨g4, 0, none⟩)] 224) := fv;replace fb := zqp mq fb;replace hP := hid1 hP;clear f4 hinj hbase hsv e1 e2 e3 e4 lb;generalize γ 12 = gv5 at *;generalize more w2 mq = w3 at *;clear γ;have lb := zqa fb;have lv := zqa fv;have cT := fun (W : World) (hb : Below w3.heap.size w3 W) => zqgm (zq5j nm 0) 4 (.pointer (some ⟨g4, 0, none⟩)) W (hP.out.later hb) (by decide) (by
  show (ByteArray.empty ++ numB 1 1 ++ numB 1 1 ++ numB 4 nm ++ numB 2 0).size + 4 <= _
  simp only [ByteArray.size_append, zqgh]
  decide)
 generalize hTX : catS (zq5j nm 0) 4 = TX at *;go_wp2_with fail
 go_loopw [28] (fun i wr => i = .int .i64 0 /\ wr = w3) (fun _ _ => 0)
 case atStart => exact ⟨rfl, rfl⟩
 case round =>
  obtain ⟨rfl, rfl⟩ := hrel;go_wp2_with fail;refine (cT _ (Grew.refl _)).mono ?_
  rintro e w4 ⟨rfl, hb⟩;replace hG := Grew.trans hG hb;go_wp2;refine ⟨rfl, .tuple #[.string TX, .nilIface], ?_, by first | rfl | rw [hTX], hG⟩
  first | rfl | kernel_rfl | simp [go_sem, results]
theorem zqsp (aw : ∀ W : World, Tabs W -> EtAt W -> Calls Tryz.prog 193 #[] W (Rt W (.bool true))) (w : World) (hT : Tabs w) (hE : EtAt w) :
  Calls Tryz.prog 183 #[] w (Rt w (.bool true)) := by
 go_enter Tryz.func183, Tryz.ntmps183
 go_wp2_with fail;refine (aw _ hT hE).mono ?_
 rintro e w2 ⟨rfl, hb⟩;go_wp2;go_ret;exact ⟨rfl, hb⟩
theorem zqtb (aw : ∀ W : World, Tabs W -> EtAt W -> Calls Tryz.prog 183 #[] W (Rt W (.bool true))) (w : World) (hT : Tabs w) (hE : EtAt w) :
  Calls Tryz.prog 172 #[] w (Rt w (.bool true)) := by
 go_enter Tryz.func172, Tryz.ntmps172
 have ht : catS (zq5j 7 0) 4 = ⟨#[1, 1, 0, 0, 0, 7, 0, 0]⟩ := by decide +kernel
 have cB := fun W => zqxo 7 W (by decide) (by decide);rw [ht] at cB;clear ht;go_wp2_with fail;refine (cB _).mono ?_
 rintro e w1 ⟨rfl, hG⟩;go_wp2_with fail;refine (aw _ (hT.later hG) (hE.later hG)).mono ?_
 rintro e w2 ⟨rfl, hb⟩;have hG2 := Grew.trans hG hb;go_wp2;go_ret;exact ⟨rfl, hG2⟩
attribute [local go_sem high] zqfk
end Go.Proofs.YtfglcifnjaknnaaGreatDoor
namespace Go.Proofs.YtfglcifnjaknnaaGreatDoor
open Go.RowKit Go.Extern
theorem zqtq {W : World} {g : Nat} {y : Nat -> Int} (h : Full g (ints .u8 32 y) 29 W) : K32At W (some ⟨g, 0, none⟩) 1 (fun _ => y) := zqha (n := 1) h (by decide) (fun j hj i hi => by
 obtain rfl : j = 0 := by omega
 rw [Nat.zero_mul, Nat.zero_add])
end Go.Proofs.YtfglcifnjaknnaaGreatDoor
namespace Go.Proofs.YtfglcifnjaknnaaGreatDoor
open Go.ChangeShapes Go.WideShapes Go.ChangeAt Go.RowKit

end Go.Proofs.YtfglcifnjaknnaaGreatDoor
