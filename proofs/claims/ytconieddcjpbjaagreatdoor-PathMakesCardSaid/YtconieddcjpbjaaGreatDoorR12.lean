/- R12 -/
import Derived.Test.YtconieddcjpbjaaGreatDoorElems
import Derived.Test.YtconieddcjpbjaaGreatDoorR11
import Derived.Test.YtconieddcjpbjaaGreatDoorR10
import Derived.Test.YtconieddcjpbjaaGreatDoorDh
import Derived.Test.YtconieddcjpbjaaGreatDoorRel
set_option linter.unusedVariables false
set_option linter.unusedSimpArgs false
set_option maxRecDepth 100000
set_option maxHeartbeats 4000000
namespace Go.Proofs.YtconieddcjpbjaaGreatDoor
open Go.ChangeShapes Go.WideShapes Go.ChangeAt Go.RowKit
def k32L (F : Nat -> Nat -> Int) (n : Nat) : List Value := (List.range n).flatMap fun j => (ints .u8 32 (F j)).toList
theorem zq5a (F : Nat -> Nat -> Int) : k32L F 0 = [] := rfl
theorem zqge (F : Nat -> Nat -> Int) (n : Nat) : k32L F (n + 1) = k32L F n ++ (ints .u8 32 (F n)).toList := by
 unfold k32L;rw [List.range_succ, List.flatMap_append]
 simp
theorem zqik (F : Nat -> Nat -> Int) : ∀ n, (k32L F n).length = n * 32
 | 0 => rfl
 | n + 1 => by rw [zqge, List.length_append, zqik F n, Array.length_toList, zqh]; omega
theorem zqmo (F : Nat -> Nat -> Int) (j i : Nat) (hi : i < 32) : ∀ n, j < n -> (k32L F n)[j * 32 + i]? = some (.int .u8 (F j i))
 | 0, h => by omega
 | n + 1, h => by
  rw [zqge]
  rcases (by omega : j < n \/ j = n) with h' | rfl
  ·rw [List.getElem?_append_left (by rw [zqik]; omega), zqmo F j i hi n h']
  ·rw [List.getElem?_append_right (by rw [zqik]; omega), zqik, show j * 32 + i - j * 32 = i by omega, Array.getElem?_toList, zqa9 _ _ _ _ hi]
def K32At (w : World) (oa : Option Addr) (n : Nat) (F : Nat -> Nat -> Int) : Prop :=
 n = 0 \/ ∃ ad : Addr, oa = some ad /\ ∀ w', Below w.heap.size w w' -> ∀ j, j < n -> ∀ i, i < 32 -> w'.cell? (ad.add (j * 32 + i)) = some (.int .u8 (F j i))
theorem K32At.later {w w' : World} {oa : Option Addr} {n : Nat} {F : Nat -> Nat -> Int} (h : K32At w oa n F) (hb : Below w.heap.size w w') : K32At w' oa n F := by
 rcases h with h | ⟨ad, ho, hl⟩
 ·exact .inl h
 ·exact .inr ⟨ad, ho, fun w'' hb' => hl w'' (Grew.trans hb hb')⟩
theorem K32At.nil (w : World) (F : Nat -> Nat -> Int) : K32At w none 0 F := .inl rfl
theorem K32At.addr {w : World} {oa : Option Addr} {n : Nat} {F : Nat -> Nat -> Int} (h : K32At w oa n F) (hn : 0 < n) : ∃ ad, oa = some ad := by
 rcases h with h | ⟨ad, ho, _⟩
 ·omega
 ·exact ⟨ad, ho⟩
theorem K32At.at {w : World} {ad : Addr} {n : Nat} {F : Nat -> Nat -> Int} (h : K32At w (some ad) n F) {j : Nat} (hj : j < n) {w' : World} (hb : Below w.heap.size w w') : ∀ i, i < 32 -> w'.cell? ((ad.add (j * 32)).add i) = (ints .u8 32 (F j))[i]? := fun i hi => by
 rcases h with h | ⟨ad', ho, hl⟩
 ·omega
 ·cases ho
  rw [Go.Deep.add_add, hl w' hb j hj i hi, zqa9 _ _ _ _ hi]
theorem K32At.loadK {w : World} {ad : Addr} {n : Nat} {F : Nat -> Nat -> Int} (h : K32At w (some ad) n F) {j : Nat} (hj : j < n) {w' : World} (hb : Below w.heap.size w w') : (zq6 24 (.pointer (some (ad.add (j * 32))))).run Tryz.prog w' = .ok (.value (.agg (ints .u8 32 (F j)))) w' :=
 zqex Tryz.underlying24 rfl zqc w' _ (ints .u8 32 (F j)) (zqh _ _ _) (h.at hj hb)
theorem K32At.loadB {w : World} {ad : Addr} {n : Nat} {F : Nat -> Nat -> Int} (h : K32At w (some ad) n F) {j : Nat} (hj : j < n) {w' : World} (hb : Below w.heap.size w w') : (zq6 23 (.pointer (some (ad.add (j * 32))))).run Tryz.prog w' = .ok (.value (.agg (ints .u8 32 (F j)))) w' :=
 zqex Tryz.underlying23 rfl zqc w' _ (ints .u8 32 (F j)) (zqh _ _ _) (h.at hj hb)
theorem K32At.congr {w : World} {oa : Option Addr} {n : Nat} {F G : Nat -> Nat -> Int} (h : K32At w oa n F) (e : ∀ j, j < n -> F j = G j) : K32At w oa n G := by
 rcases h with h | ⟨ad, ho, hl⟩
 ·exact .inl h
 ·exact .inr ⟨ad, ho, fun w' hb j hj i hi => by rw [<- e j hj]; exact hl w' hb j hj i hi⟩
theorem zqej {w : World} {base n : Nat} {v : Value} {F : Nat -> Nat -> Int} {t : TypeId} (h : w.ownsRow base t 32 v n (k32L F n)) : ∃ oa c, v = .slice oa n c /\ n <= c /\ K32At w oa n F := by
 have hh := h
 rcases h.2 with ⟨rfl, h0⟩ | ⟨g, cap, cur, rfl, hb, hg, hnc, hcm, hcs, htake⟩
 ·subst h0
  exact ⟨none, 0, rfl, Nat.le_refl _, .inl rfl⟩
 ·refine ⟨some ⟨g, 0, none⟩, cap, rfl, hnc, .inr ⟨_, rfl, fun w' hb j hj i hi => ?_⟩⟩
  rw [<- zqdx];exact (zqq5 hh (j * 32 + i) _ (zqmo F j i hi n hj)).2 w' hb
theorem zqpp {W : World} {g n N : Nat} {f : Nat -> Int} {t : TypeId} {fr : Nat × Nat} {F : Nat -> Nat -> Int} (h : zqd W g = some (.cells (ints .u8 N f) t fr)) (hN : n * 32 <= N) (hf : ∀ j, j < n -> ∀ i, i < 32 -> f (j * 32 + i) = F j i) : K32At W (some ⟨g, 0, none⟩) n F := by
 refine .inr ⟨_, rfl, fun w' hb j hj i hi => ?_⟩;have h' := zqb hb h;unfold zqd at h';rw [<- zqdx, cell_of_row w' g _ _ _ _ h', zqa9 _ _ _ _ (by omega), hf j hj i hi]
theorem zqxc {H : Type} {enc : TypeId × Value -> H} {W : World} {base : Nat} {sp : Nat -> Bool} {held : Bool} {r : Reach} {b0 : Nat} {v : Value} {d : DataW H} {ps : List MemPlace}
  (hval : Value.okWide Tryz.prog W r b0 22 v) (hd : DataW.Trod enc Tryz.prog W base sp held 22 v d ps) :
  ∃ (oa : Option Addr) (n c : Nat) (F : Nat -> Nat -> Int), v = .slice oa n c /\ n <= 9223372036854775807 /\ (∀ i, i < n -> Bytes 32 (F i)) /\ K32At W oa n F := by
 obtain ⟨oa, n, c, F, hv, hm, hw, hF⟩ := zq5j (n := 32) (k := .u8) Tryz.underlying22 Tryz.underlying24 Tryz.underlying5 zqc zqc (Nat.zero_lt_succ 31) (zqok Tryz.underlying22 hval) hd;refine ⟨oa, n, c, F, hv, by unfold maxLen at hm; omega, fun i hi j hj => bounds_u8 (hw i hi j hj), ?_⟩
 rcases hF with h | ⟨a, ho, hc⟩
 ·exact .inl h
 ·refine .inr ⟨a, ho, fun w' hb j hj i hi => ?_⟩
  have h1 := hc j hj i hi;rw [hb.cell (cell_lt h1)];exact h1
theorem zqun (a : Nat -> Int) (W : World) : (Instr.buildSlice 22 1 #[(0, .agg (ints .u8 32 a))]).run Tryz.prog W = .ok (.slice (some ⟨W.heap.size, 0, none⟩) 1 1) (W.alloc (.cells (ints .u8 32 a) 24)) := by kernel_rfl
theorem zrb5 (a : Nat -> Int) (W : World) : (Instr.buildSlice 36 1 #[(0, .agg (ints .u8 32 a))]).run Tryz.prog W = .ok (.slice (some ⟨W.heap.size, 0, none⟩) 1 1) (W.alloc (.cells (ints .u8 32 a) 23)) := by kernel_rfl
def zqlm (v : Value) : Sem Next := do pure (.value (<- Instr.buildSlice 22 1 #[(0, v)]))
def zqk9 (u v : Value) : Sem Next := do pure (.value (<- Instr.buildSlice 22 2 #[(0, u), (1, v)]))
def zqkr (v : Value) : Sem Next := do pure (.value (<- Instr.buildSlice 36 1 #[(0, v)]))
@[go_sem ↓ high] theorem zqz2 (ρ : Operand -> Value) (d : Option Tmp) (x : Operand) (t : TypeId) (pos : String) (af : Array Edge) (g : Option (Nat × Bool)) :
  execOp ρ ⟨d, .buildSlice 22 1 #[(0, x)], t, pos, af, g⟩ = zqlm (ρ x) := by
 unfold execOp zqlm
 simp
@[go_sem high] theorem zrd9 (ρ : Operand -> Value) (d : Option Tmp) (x : Operand) (t : TypeId) (pos : String) (af : Array Edge) (g : Option (Nat × Bool)) :
  execOp ρ ⟨d, .buildSlice 22 1 #[(0, x)], t, pos, af, g⟩ = zqlm (ρ x) := zqz2 ρ d x t pos af g
@[go_sem ↓ high] theorem zq0n (ρ : Operand -> Value) (d : Option Tmp) (x y : Operand) (t : TypeId) (pos : String) (af : Array Edge) (g : Option (Nat × Bool)) :
  execOp ρ ⟨d, .buildSlice 22 2 #[(0, x), (1, y)], t, pos, af, g⟩ = zqk9 (ρ x) (ρ y) := by
 unfold execOp zqk9
 simp
@[go_sem high] theorem zrbo (ρ : Operand -> Value) (d : Option Tmp) (x y : Operand) (t : TypeId) (pos : String) (af : Array Edge) (g : Option (Nat × Bool)) :
  execOp ρ ⟨d, .buildSlice 22 2 #[(0, x), (1, y)], t, pos, af, g⟩ = zqk9 (ρ x) (ρ y) := zq0n ρ d x y t pos af g
@[go_sem ↓ high] theorem zq0u (ρ : Operand -> Value) (d : Option Tmp) (x : Operand) (t : TypeId) (pos : String) (af : Array Edge) (g : Option (Nat × Bool)) :
  execOp ρ ⟨d, .buildSlice 36 1 #[(0, x)], t, pos, af, g⟩ = zqkr (ρ x) := by
 unfold execOp zqkr
 simp
@[go_sem high] theorem zrco (ρ : Operand -> Value) (d : Option Tmp) (x : Operand) (t : TypeId) (pos : String) (af : Array Edge) (g : Option (Nat × Bool)) :
  execOp ρ ⟨d, .buildSlice 36 1 #[(0, x)], t, pos, af, g⟩ = zqkr (ρ x) := zq0u ρ d x t pos af g
@[go_sem] theorem zrb6 (a : Nat -> Int) (W : World) : (zqlm (.agg (ints .u8 32 a))).run Tryz.prog W = .ok (.value (.slice (some ⟨W.heap.size, 0, none⟩) 1 1)) (W.alloc (.cells (ints .u8 32 a) 24)) := by
 unfold zqlm
 simp only [Sem.run_bind, zqun, Result.andThen_ok, Sem.run_pure]
@[go_sem] theorem zrc7 (a b : Nat -> Int) (W : World) : (zqk9 (.agg (ints .u8 32 a)) (.agg (ints .u8 32 b))).run Tryz.prog W = .ok (.value (.slice (some ⟨W.heap.size, 0, none⟩) 2 2)) (W.alloc (.cells (ints .u8 64 (rowK (two a b))) 24)) := by
 unfold zqk9
 simp only [Sem.run_bind, zrcj, Result.andThen_ok, Sem.run_pure]
@[go_sem] theorem zrcx (a : Nat -> Int) (W : World) : (zqkr (.agg (ints .u8 32 a))).run Tryz.prog W = .ok (.value (.slice (some ⟨W.heap.size, 0, none⟩) 1 1)) (W.alloc (.cells (ints .u8 32 a) 23)) := by
 unfold zqkr
 simp only [Sem.run_bind, zrb5, Result.andThen_ok, Sem.run_pure]
attribute [irreducible] zqlm zqk9 zqkr
@[go_sem ↓ high] theorem zrcv (ty : TypeId) (cs : Array Bool) (args : Array Value) : builtin .append #[22, 22] ty cs args = zqx #[22, 22] ty args := by unfold zqx; rfl
@[go_sem ↓ high] theorem zrc9 (ty : TypeId) (cs : Array Bool) (args : Array Value) : builtin .append #[36, 36] ty cs args = zqx #[36, 36] ty args := by unfold zqx; rfl
theorem zqp3 {t e : TypeId} {i : TypeInfo} {z : Value} (ht : Tryz.prog.underlying t = some (.slice e)) (hi : Tryz.prog.info? e = some i) (hz : i.zero = some z) (hsize : i.size = 32) (hby : i.bytes = 32) (hzs : z.cells.size = 32)
  (w W : World) (base : Nat) (v : Value) (n : Nat) (F : Nat -> Nat -> Int) (g2 : Nat) (t2 : TypeId) (fr : Nat × Nat) (own : W.ownsRow base e 32 v n (k32L F n)) (hn : n <= 1048576)
  (hg2 : zqd W g2 = some (.cells (ints .u8 32 (F n)) t2 fr)) (hG : Below w.heap.size w W) (hwb : w.heap.size <= base) (hbW : base <= W.heap.size) :
  ∃ g cap w', (zqx #[t, t] t #[v, .slice (some ⟨g2, 0, none⟩) 1 1]).run Tryz.prog W = .ok (.value (.slice (some ⟨g, 0, none⟩) (n + 1) cap)) w' /\ w'.ownsRow base e 32 (.slice (some ⟨g, 0, none⟩) (n + 1) cap) (n + 1) (k32L F (n + 1)) /\
   Below w.heap.size w w' /\ (∀ m o, m < base -> zqd W m = some o -> zqd w' m = some o) := by
 obtain ⟨g, cap, w', hr, ho, hb, hk, _⟩ := zqi2 32 32 ht hi hz hsize hby hzs (by decide) (by decide) t w W base v n (k32L F n) ⟨g2, 0, none⟩ 1 1 (ints .u8 32 (F n)).toList own (by omega) (by decide) (by rw [Array.length_toList, zqh])
  (fun j x hx => by
   rw [<- zqdx g2 j];unfold zqd at hg2;rw [cell_of_row W g2 j _ _ _ hg2];rw [Array.getElem?_toList] at hx;exact hx) (fun x hx => by
   have h1 := zqan .u8 32 (F n);rw [Array.all_eq_true'] at h1;exact h1 x (by simpa using hx)) hG hwb hbW
 refine ⟨g, cap, w', hr, ?_, hb, hk⟩;rw [zqge];exact ho
theorem zqkx (w W : World) (base : Nat) (v : Value) (n : Nat) (F : Nat -> Nat -> Int) (g2 : Nat) (t2 : TypeId) (fr : Nat × Nat) (own : W.ownsRow base 24 32 v n (k32L F n)) (hn : n <= 1048576)
  (hg2 : zqd W g2 = some (.cells (ints .u8 32 (F n)) t2 fr)) (hG : Below w.heap.size w W) (hwb : w.heap.size <= base) (hbW : base <= W.heap.size) :
  ∃ g cap w', (zqx #[22, 22] 22 #[v, .slice (some ⟨g2, 0, none⟩) 1 1]).run Tryz.prog W = .ok (.value (.slice (some ⟨g, 0, none⟩) (n + 1) cap)) w' /\ w'.ownsRow base 24 32 (.slice (some ⟨g, 0, none⟩) (n + 1) cap) (n + 1) (k32L F (n + 1)) /\
   Below w.heap.size w w' /\ (∀ m o, m < base -> zqd W m = some o -> zqd w' m = some o) :=
 zqp3 (i := (Tryz.prog.info? 24).get zqc) (z := ((Tryz.prog.info? 24).get zqc).zero.get zqc) Tryz.underlying22 zqc zqc zqc zqc zqc w W base v n F g2 t2 fr own hn hg2 hG hwb hbW
theorem zqgs (w W : World) (base : Nat) (v : Value) (n : Nat) (F : Nat -> Nat -> Int) (g2 : Nat) (t2 : TypeId) (fr : Nat × Nat) (own : W.ownsRow base 23 32 v n (k32L F n)) (hn : n <= 1048576)
  (hg2 : zqd W g2 = some (.cells (ints .u8 32 (F n)) t2 fr)) (hG : Below w.heap.size w W) (hwb : w.heap.size <= base) (hbW : base <= W.heap.size) :
  ∃ g cap w', (zqx #[36, 36] 36 #[v, .slice (some ⟨g2, 0, none⟩) 1 1]).run Tryz.prog W = .ok (.value (.slice (some ⟨g, 0, none⟩) (n + 1) cap)) w' /\ w'.ownsRow base 23 32 (.slice (some ⟨g, 0, none⟩) (n + 1) cap) (n + 1) (k32L F (n + 1)) /\
   Below w.heap.size w w' /\ (∀ m o, m < base -> zqd W m = some o -> zqd w' m = some o) :=
 zqp3 (i := (Tryz.prog.info? 23).get zqc) (z := ((Tryz.prog.info? 23).get zqc).zero.get zqc) Tryz.underlying36 zqc zqc zqc zqc zqc w W base v n F g2 t2 fr own hn hg2 hG hwb hbW
def zqhz (w : World) (n : Nat) (F : Nat -> Nat -> Int) (e : Ending) (w' : World) : Prop := ∃ oa c, e = .returned (.slice oa n c) /\ K32At w' oa n F /\ Below w.heap.size w w'
end Go.Proofs.YtconieddcjpbjaaGreatDoor
namespace Go.Proofs.YtconieddcjpbjaaGreatDoor
open Go.RowKit
def upOK (k p : Nat -> Int) : Bool := !decide (shV k p = 0)
def upF (k p : Nat -> Int) : Nat -> Int := if shV k p = 0 then zqg else zqc4 (keyV (shV k p))
theorem zqqo (k p : Nat -> Int) : Bytes 32 (upF k p) := by
 unfold upF
 split
 ·exact fun _ _ => ⟨Int.le_refl 0, by show (0 : Int) <= 255; decide⟩
 ·exact zqzh _
def zqa1 (k : Nat -> Int) (P : Nat -> Nat -> Int) : Nat -> Nat -> Int
 | 0 => k
 | j + 1 => upF (zqa1 k P j) (P j)
def zqao (k : Nat -> Int) (P : Nat -> Nat -> Int) : Nat -> Bool
 | 0 => true
 | j + 1 => zqao k P j && upOK (zqa1 k P j) (P j)
theorem zqff (k : Nat -> Int) (P : Nat -> Nat -> Int) (hk : Bytes 32 k) : ∀ j, Bytes 32 (zqa1 k P j)
 | 0 => hk
 | j + 1 => zqqo _ _
theorem zqn2 (k : Nat -> Int) (P : Nat -> Nat -> Int) {j : Nat} (h : zqao k P j = false) : ∀ n, j <= n -> zqao k P n = false
 | 0, hn => by obtain rfl : j = 0 := by omega
               exact h
 | n + 1, hn => by
  rcases (by omega : j = n + 1 \/ j <= n) with rfl | h'
  ·exact h
  ·show (zqao k P n && _) = false
   rw [zqn2 k P h n h']
   rfl
def zqe6 (w : World) (k : Nat -> Int) (P : Nat -> Nat -> Int) (n : Nat) (e : Ending) (w' : World) : Prop :=
 Below w.heap.size w w' /\ ((zqao k P n = true /\ ∃ oa c, e = .returned (.tuple #[.slice oa (n + 1) c, .bool true]) /\ n + 1 <= c /\ K32At w' oa (n + 1) (zqa1 k P)) \/ (zqao k P n = false /\ e = .returned (.tuple #[.slice none 0 0, .bool false])))
def zqdv : Prop := ∀ (k p : Nat -> Int) (W : World), Bytes 32 k -> Bytes 32 p -> Calls Tryz.prog 91 #[.agg (ints .u8 32 k), .agg (ints .u8 32 p)] W (Rt W (.tuple #[.agg (ints .u8 32 (keyV (shV k p))), .bool (!decide (shV k p = 0))]))
def zqt8 : Prop := ∀ (k : Nat -> Int) (W : World), Bytes 32 k -> Calls Tryz.prog 50 #[.agg (ints .u8 32 k)] W (Rt W (.agg (ints .u8 32 (keyV (pubV k)))))
@[go_sem] theorem zrez (w : World) : (zqd0 23).run Tryz.prog w = .ok (.value (.agg (ints .u8 32 zqg))) w := by kernel_rfl
attribute [local irreducible] zqc4 zqb1 oneF macF shaF strOf keyV shV pubV
theorem zrch (hS : zqdv) (k p : Nat -> Int) (w : World) (hk : Bytes 32 k) (hp : Bytes 32 p) :
  Calls Tryz.prog 78 #[.agg (ints .u8 32 k), .agg (ints .u8 32 p)] w (Rt w (.tuple #[.agg (ints .u8 32 (upF k p)), .bool (upOK k p)])) := by
 have c1 := fun W : World => hS k p W hk hp;have c2 := fun W : World => zq2i (keyV (shV k p)) W;unfold upOK upF;generalize keyV (shV k p) = Z at *;clear hk hp hS
 by_cases hz : shV k p = 0
 ·rw [if_pos hz]
  rw [decide_eq_true hz] at c1 ⊢;clear hz c2;generalize shV k p = V at *;have hG := Grew.refl w;have fk : True := trivial;have fp : True := trivial;have fr : True := trivial
  go_enter Tryz.func78, Tryz.ntmps78
  go_wp2_with fail;generalize hW : ((w.alloc (.cells (ints .u8 32 (k)) 23)).alloc (.cells (ints .u8 32 (p)) 23)).alloc (.cells (ints .u8 32 (zqg)) 23) = w1;replace fk : zqd w1 (w.heap.size) = some (.cells (ints .u8 32 (k)) 23) := zqk hW;replace fp : zqd w1 (w.heap.size + 1) = some (.cells (ints .u8 32 (p)) 23) := zqk hW;replace fr : zqd w1 (w.heap.size + 1 + 1) = some (.cells (ints .u8 32 (zqg)) 23) := zqk hW;replace hG : Below w.heap.size w w1 := zq2 hW;clear hW;have lfk := zqa fk;have lfp := zqa fp;have lfr := zqa fr;go_wp2_with fail
  (refine (c1 _).mono ?_; rintro e w2 ⟨rfl, hb⟩; replace fk : zqd w2 (w.heap.size) = some (.cells (ints .u8 32 (k)) 23) := zqb hb (by exact zqe); have lfk := zqa fk; replace fp : zqd w2 (w.heap.size + 1) = some (.cells (ints .u8 32 (p)) 23) := zqb hb (by exact zqe); have lfp := zqa fp; replace fr : zqd w2 (w.heap.size + 1 + 1) = some (.cells (ints .u8 32 (zqg)) 23) := zqb hb (by exact zqe); have lfr := zqa fr; replace hG : Below w.heap.size w w2 := Grew.trans (by exact zqf) hb; clear hb)
  have nr := zqa fr;have nkr : w.heap.size + 1 + 1 < w2.heap.size := lfr;go_wp2;refine zqak rfl _ 23 (ints .u8 32 zqg) (0, 0) _ _ rfl rfl (by exact zqe) Tryz.underlying23 rfl (by rw [zqh]; kernel_rfl) rfl ⟨rfl, by exact zqf⟩
 ·rw [if_neg hz]
  rw [decide_eq_false hz] at c1 ⊢;clear hz;generalize shV k p = V at *;generalize zqc4 Z = N1 at *;have hG := Grew.refl w;have fk : True := trivial;have fp : True := trivial;have fr : True := trivial
  go_enter Tryz.func78, Tryz.ntmps78
  go_wp2_with fail;generalize hW : ((w.alloc (.cells (ints .u8 32 (k)) 23)).alloc (.cells (ints .u8 32 (p)) 23)).alloc (.cells (ints .u8 32 (zqg)) 23) = w1;replace fk : zqd w1 (w.heap.size) = some (.cells (ints .u8 32 (k)) 23) := zqk hW;replace fp : zqd w1 (w.heap.size + 1) = some (.cells (ints .u8 32 (p)) 23) := zqk hW;replace fr : zqd w1 (w.heap.size + 1 + 1) = some (.cells (ints .u8 32 (zqg)) 23) := zqk hW;replace hG : Below w.heap.size w w1 := zq2 hW;clear hW;have lfk := zqa fk;have lfp := zqa fp;have lfr := zqa fr;go_wp2_with fail
  (refine (c1 _).mono ?_; rintro e w2 ⟨rfl, hb⟩; replace fk : zqd w2 (w.heap.size) = some (.cells (ints .u8 32 (k)) 23) := zqb hb (by exact zqe); have lfk := zqa fk; replace fp : zqd w2 (w.heap.size + 1) = some (.cells (ints .u8 32 (p)) 23) := zqb hb (by exact zqe); have lfp := zqa fp; replace fr : zqd w2 (w.heap.size + 1 + 1) = some (.cells (ints .u8 32 (zqg)) 23) := zqb hb (by exact zqe); have lfr := zqa fr; replace hG : Below w.heap.size w w2 := Grew.trans (by exact zqf) hb; clear hb)
  go_wp2_with fail;have fz : zqd (w2.alloc (.cells (ints .u8 32 (Z)) 23)) w2.heap.size = some (.cells (ints .u8 32 (Z)) 23) := zqj _ _ _ rfl;replace fk : zqd (w2.alloc (.cells (ints .u8 32 (Z)) 23)) (w.heap.size) = some (.cells (ints .u8 32 (k)) 23) := zqm _ fk;replace fp : zqd (w2.alloc (.cells (ints .u8 32 (Z)) 23)) (w.heap.size + 1) = some (.cells (ints .u8 32 (p)) 23) := zqm _ fp;replace fr : zqd (w2.alloc (.cells (ints .u8 32 (Z)) 23)) (w.heap.size + 1 + 1) = some (.cells (ints .u8 32 (zqg)) 23) := zqm _ fr;replace hG : Below w.heap.size w (w2.alloc (.cells (ints .u8 32 (Z)) 23)) := Grew.alloc hG _;clear lfk lfp lfr;generalize w2.alloc (.cells (ints .u8 32 (Z)) 23) = w3 at *;generalize w2.heap.size = gz at *;have lfk := zqa fk;have lfp := zqa fp;have lfr := zqa fr;have lfz := zqa fz;go_wp2_with fail
  (refine (c2 _).mono ?_; rintro e w4 ⟨rfl, hb⟩; replace fk : zqd w4 (w.heap.size) = some (.cells (ints .u8 32 (k)) 23) := zqb hb (by exact zqe); have lfk := zqa fk; replace fp : zqd w4 (w.heap.size + 1) = some (.cells (ints .u8 32 (p)) 23) := zqb hb (by exact zqe); have lfp := zqa fp; replace fr : zqd w4 (w.heap.size + 1 + 1) = some (.cells (ints .u8 32 (zqg)) 23) := zqb hb (by exact zqe); have lfr := zqa fr; replace fz : zqd w4 (gz) = some (.cells (ints .u8 32 (Z)) 23) := zqb hb (by exact zqe); have lfz := zqa fz; replace hG : Below w.heap.size w w4 := Grew.trans (by exact zqf) hb; clear hb)
  go_wp2;refine zqak rfl _ 23 (ints .u8 32 N1) (0, 0) _ _ rfl rfl (by exact zqe) Tryz.underlying23 rfl (by rw [zqh]; kernel_rfl) rfl ⟨rfl, by exact zqf⟩
theorem zqzl (oa : Option Addr) (n c : Nat) (F : Nat -> Nat -> Int) (w : World) (hn : n <= 1000) (hK : K32At w oa n F) :
  Calls Tryz.prog 13 #[.slice oa n c] w (zqhz w n F) := by
 have HK : Hid (K32At w oa n F) := hK;clear hK
 go_enter Tryz.func13, Tryz.ntmps13
 go_wp2_with fail
 go_loopw [8, 3, 5] (fun i v _ wr => ∃ (j : Nat) (v0 : Value), v0 = v /\ j <= n /\ i = .int .i64 j /\ Below w.heap.size w wr /\ Hid (wr.ownsRow w.heap.size 23 32 v0 j (k32L F j))) (fun i _ _ _ => n - (intOf i).toNat)
 case atStart => exact ⟨0, _, rfl, by omega, rfl, Grew.refl _, World.ownsRow_nil _ _ _ _⟩
 case round =>
  obtain ⟨j, v0, rfl, hj, rfl, hM, OWN⟩ := hrel
  by_cases hlt : j < n
  ·obtain ⟨ad, rfl⟩ := HK.out.addr (by omega)
   have l1 := HK.out.loadK hlt hM;have hi1 : (j : Int) < (n : Int) := by omega
   have hi0 : (0 : Int) <= (j : Int) := by omega
   have hsz := hM.size;obtain ⟨g3, c3, w3, hr3, own3, hb3, -⟩ := zqgs w ((wr.alloc (.cells (ints .u8 32 (F j)) 24)).alloc (.cells (ints .u8 32 (F j)) 23)) w.heap.size _ j F (wr.alloc (.cells (ints .u8 32 (F j)) 24)).heap.size _ _ (World.ownsRow.alloc (World.ownsRow.alloc OWN.out _) _) (by omega) (zqj _ _ _ rfl) (Grew.alloc (Grew.alloc hM _) _) (Nat.le_refl _) (by simp; omega);have OWN3 : Hid (w3.ownsRow w.heap.size 23 32 (.slice (some ⟨g3, 0, none⟩) (j + 1) c3) (j + 1) (k32L F (j + 1))) := own3;have hx : (wr.alloc (.cells (ints .u8 32 (F j)) 24)).heap.size = wr.heap.size + 1 := by simp
   rw [hx] at hr3;clear own3 OWN;go_wp2
   go_roundw
   case rel => exact ⟨j + 1, _, rfl, by omega, by go_num, hb3, OWN3⟩
   case measure => (simp [intOf] <;> omega)
  ·obtain rfl : j = n := by omega
   obtain ⟨oa2, c2, rfl, -, hK2⟩ := zqej OWN.out;have HK2 : Hid (K32At wr oa2 j F) := hK2;clear OWN hK2;go_wp2;go_ret;exact ⟨oa2, c2, rfl, HK2, hM⟩
theorem zqlj (oa ob : Option Addr) (n c d : Nat) (F : Nat -> Nat -> Int) (w : World) (hn : n <= 1000) (hA : K32At w oa n F) (hB : K32At w ob n F) :
  Calls Tryz.prog 19 #[.slice oa n c, .slice ob n d] w (Rt w (.bool true)) := by
 have HA : Hid (K32At w oa n F) := hA;have HB : Hid (K32At w ob n F) := hB;clear hA hB
 go_enter Tryz.func19, Tryz.ntmps19
 go_wp2_with fail
 go_loopw [14, 5, 6] (fun i _ _ wr => ∃ j : Nat, j <= n /\ i = .int .i64 j /\ Below w.heap.size w wr) (fun i _ _ _ => n - (intOf i).toNat)
 case atStart => exact ⟨0, by omega, rfl, Grew.refl _⟩
 case round =>
  obtain ⟨j, hj, rfl, hM⟩ := hrel
  by_cases hlt : j < n
  ·obtain ⟨ad, rfl⟩ := HA.out.addr (by omega)
   obtain ⟨bd, rfl⟩ := HB.out.addr (by omega);have l1 := HA.out.loadK hlt hM;have l2 := fun q : More => HB.out.loadB hlt (Grew.more (Grew.alloc hM (.cells (ints .u8 32 (F j)) 24)) q);have hsm := zqet 32 (F j);have hi1 : (j : Int) < (n : Int) := by omega
   have hi0 : (0 : Int) <= (j : Int) := by omega
   have hM1 : Below w.heap.size w (wr.alloc (.cells (ints .u8 32 (F j)) 24)) := Grew.alloc hM _;go_wp2_with fail;have fv : zqd (wr.alloc (.cells (ints .u8 32 (F j)) 24)) wr.heap.size = some (.cells (ints .u8 32 (F j)) 24) := zqj _ _ _ rfl;clear l1 hM;generalize wr.alloc (.cells (ints .u8 32 (F j)) 24) = w4 at *;generalize wr.heap.size = gv at *;have lfv := zqa fv
   ((first | (with_reducible refine zq5 zqc zqc ?_) | refine zqt zqc zqc ?_); (repeat (first | go_big_quiet_skip | (go_big_quiet_want; go_big_quiet_op; go_big_quiet_on))); refine wpQuiet_nil ?_; rintro _ ⟨mq, rfl⟩)
   have hM2 : Below w.heap.size w (more w4 mq) := Grew.more hM1 mq;clear l2;generalize more w4 mq = w5 at *;go_wp2
   go_roundw
   case rel => first | exact ⟨j + 1, by omega, by go_num, hM2⟩ | ((repeat' apply Exists.intro) <;> first | exact ⟨⟨j + 1, by omega, by go_num, hM2⟩, rfl⟩ | exact undef)
   case measure => (simp [intOf] <;> omega)
  ·obtain rfl : j = n := by omega
   go_wp2;go_ret;exact ⟨rfl, hM⟩
end Go.Proofs.YtconieddcjpbjaaGreatDoor
namespace Go.Proofs.YtconieddcjpbjaaGreatDoor
open Go.RowKit
theorem zq67 (S : Nat -> Nat -> Int) (k : Nat -> Int) (h : S 0 = k) : k32L S 1 = (ints .u8 32 k).toList := by
 rw [zqge, zq5a, List.nil_append, h]
theorem zqyv (k : Nat -> Int) (P : Nat -> Nat -> Int) (j : Nat) : zqa1 k P (j + 1) = upF (zqa1 k P j) (P j) := rfl
theorem zq2y {k : Nat -> Int} {P : Nat -> Nat -> Int} {j : Nat} (h : zqao k P j = true) : zqao k P (j + 1) = upOK (zqa1 k P j) (P j) := by
 simp only [zqao, h, Bool.true_and]
attribute [local irreducible] zqc4 zqb1 oneF macF shaF strOf keyV shV pubV upF upOK
theorem zqp4 (hS : zqdv) (k : Nat -> Int) (P : Nat -> Nat -> Int) (oa : Option Addr) (n c : Nat) (w : World) (hk : Bytes 32 k) (hn : n <= 1000) (hP : ∀ i, i < n -> Bytes 32 (P i)) (hK : K32At w oa n P) :
  Calls Tryz.prog 86 #[.agg (ints .u8 32 k), .slice oa n c] w (zqe6 w k P n) := by
 have HK : Hid (K32At w oa n P) := hK;have hU : Hid (∀ (j : Nat) (W : World), j < n -> Calls Tryz.prog 78 #[.agg (ints .u8 32 (zqa1 k P j)), .agg (ints .u8 32 (P j))] W (Rt W (.tuple #[.agg (ints .u8 32 (zqa1 k P (j + 1))), .bool (upOK (zqa1 k P j) (P j))]))) := fun j W hj => by
  rw [zqyv];exact zrch hS _ _ W (zqff k P hk j) (hP j hj)
 have hN : Hid (∀ j, j <= n -> zqao k P j = false -> zqao k P n = false) := fun j hj h => zqn2 k P h n hj;have hY : Hid (∀ j, zqao k P j = true -> zqao k P (j + 1) = upOK (zqa1 k P j) (P j)) := fun j h => zq2y h;have hO : Hid (zqao k P 0 = true) := rfl;have hS0 : Hid (zqa1 k P 0 = k) := rfl;have hRC : Hid (∀ (e : Ending) (w' : World), Below w.heap.size w w' -> ((zqao k P n = true /\ ∃ oa c, e = .returned (.tuple #[.slice oa (n + 1) c, .bool true]) /\ n + 1 <= c /\ K32At w' oa (n + 1) (zqa1 k P)) \/ (zqao k P n = false /\ e = .returned (.tuple #[.slice none 0 0, .bool false]))) -> zqe6 w k P n e w') := fun e w' h1 h2 => ⟨h1, h2⟩
 generalize zqe6 w k P n = RC at *;generalize hOKg : zqao k P = OKF at *;generalize hSg : zqa1 k P = S at *;clear hOKg hSg hK hk hP hS;have hG := Grew.refl w;have fk : True := trivial;have fo : True := trivial
 go_enter Tryz.func86, Tryz.ntmps86
 go_wp2_with fail;generalize hW : (w.alloc (.cells (ints .u8 32 (k)) 23)).alloc (.cells (ints .u8 32 (k)) 23) = w1;replace fk : zqd w1 (w.heap.size) = some (.cells (ints .u8 32 (k)) 23) := zqk hW;replace fo : zqd w1 (w.heap.size + 1) = some (.cells (ints .u8 32 (k)) 23) := zqk hW;replace hG : Below w.heap.size w w1 := zq2 hW;clear hW;have lfk := zqa fk;have lfo := zqa fo;have hown := zqvs (base := w.heap.size) (n := 1) (size := 32) fo (by omega) (by rw [zqh]) (by unfold maxLen; decide);rw [<- zq67 S k hS0.out] at hown;have OWN0 : Hid (w1.ownsRow w.heap.size 23 32 (.slice (some ⟨w.heap.size + 1, 0, none⟩) 1 1) (0 + 1) (k32L S (0 + 1))) := hown;clear hown fo fk lfo lfk hS0
 go_loopw [7, 6, 8, 9] (fun i v _ _ wr => ∃ (j : Nat) (v0 : Value), v0 = v /\ j <= n /\ i = .int .i64 j /\ Below w.heap.size w wr /\ OKF j = true /\ Hid (wr.ownsRow w.heap.size 23 32 v0 (j + 1) (k32L S (j + 1)))) (fun i _ _ _ _ => n - (intOf i).toNat)
 case atStart => exact ⟨0, _, rfl, by omega, rfl, hG, hO.out, OWN0⟩
 case round =>
  clear OWN0 hG;obtain ⟨j, v0, rfl, hj, rfl, hM, hok, OWN⟩ := hrel;obtain ⟨oa2, c2, rfl, hc2, hK2⟩ := zqej OWN.out
  by_cases hlt : j < n
  ·obtain ⟨ad, rfl⟩ := HK.out.addr (by omega)
   obtain ⟨ad2, rfl⟩ := hK2.addr (by omega);have l1 := fun q : More => HK.out.loadB hlt (Grew.more hM q);have l2 := fun q : More => hK2.loadB (show j < j + 1 by omega) (zqn wr q);have hi1 : (j : Int) < (n : Int) := by omega
   have hi0 : (0 : Int) <= (j : Int) := by omega
   have hi2 : (j : Int) < (j : Int) + 1 := by omega
   have c1 := fun W => hU.out j W hlt;have hsz := hM.size;have hnx := hY.out j hok;have hfl := hN.out (j + 1) (by omega);generalize upOK (S j) (P j) = b at *;clear hK2 hU hN hY hO hc2;go_wp2_with fail
   (refine zqeh zqc zqc ?_; (repeat (first | refine zq0 rfl ?_ | (refine zqr rfl ?_; apply Exists.intro))); refine zqbl ?_; intro γ hinj hbase; (repeat (first | (refine zqab rfl ?_; ((first | go_big_quiet_skip | (go_big_quiet_want; go_big_quiet_op; go_big_quiet_on)); refine wpQuiet_nil ?_)) | ((first | refine zqq rfl (fun _ => rfl) ?_ | ((try simp only [Nat.zero_add, Nat.reduceAdd]); apply zqce zqo; (focus rfl); (focus (first | exact zqy _ | exact zq3 _ _ | exact zqv _ | rfl)); (focus (exact zqu))) | ((try simp only [Nat.zero_add, Nat.reduceAdd]); apply zqav _ _ zqo; (focus rfl); (focus (intro W; (first | exact zqa8 _ | exact zqas _ | exact zqa6 _ | exact zqaw _ | exact zqah _ | exact zqag _))); (focus (first | exact zqai _ _ _ | exact zqaq _ _ | rfl)); (focus (exact zqu))) | ((try simp only [Nat.zero_add, Nat.reduceAdd]); apply zqbc zqo; (focus rfl); (focus (intro W; simp only [List.map_toArray, List.map_cons, List.map_nil]; first | fail)); (focus (exact zqu))) | (apply zqaz; (focus rfl); (focus rfl); (focus rfl); (focus (intro W hC hF; go_big_quiet_want; go_big_quiet_op; (first | go_big_quiet_on | (apply Exists.intro; refine ⟨fun _ => ?_, ?_⟩; (focus (first | (with_reducible exact Calls.of_more (c1 _)))); go_big_quiet_on)); exact wpQuiet_nil rfl)); (focus (first | exact fun _ => ⟨rfl, rfl⟩ | exact fun h => absurd h (by decide))))); ((first | go_big_quiet_skip | (go_big_quiet_want; go_big_quiet_op; go_big_quiet_on)); refine wpQuiet_nil ?_)) | refine zqp rfl (fun _ => rfl) ?_ | ((try simp only [Nat.zero_add, Nat.reduceAdd]); apply zqar (zqaj (hbase _)); (focus rfl); (focus rfl); (focus rfl); (focus (first | exact zqy _ | exact zq3 _ _ | exact zqv _ | rfl)); rotate_left 3; (focus (exact zqcq)); rotate_right 3; (focus kernel_rfl); (focus (first | exact zqh _ _ _ | rfl)); (focus (first | exact zqan _ _ _ | exact zqa3 _ _ _ _ | kernel_rfl)); (focus (decide +kernel)); (focus (exact zqu))))))
   (refine zqbz ?_; rintro _ ⟨mq, rfl⟩ hF; simp only [List.forall_mem_cons] at hF; obtain ⟨f8, -⟩ := hF)
   have f8' : zqd (more wr mq) (γ 12) = some (.cells (ints .u8 32 (S (j + 1))) 23) := f8;have hM2 : Below w.heap.size w (more wr mq) := Grew.more hM mq;have OWN2 : Hid ((more wr mq).ownsRow w.heap.size 23 32 (.slice (some ad2) (j + 1) c2) (j + 1) (k32L S (j + 1))) := zqbp OWN.out (zqn wr mq);clear hinj hbase f8 l1 l2 hM OWN c1 hsz;generalize γ 12 = gu at *;generalize more wr mq = w5 at *;clear γ;have lfu := zqa f8';have hsz := hM2.size
   cases b
   ·have hfn := hfl hnx
    clear hfl hnx OWN2;go_wp2
    (try go_ret2)
    exact hRC.out _ _ hM2 (.inr ⟨hfn, rfl⟩)
   ·clear hfl
    obtain ⟨g3, c3, w3, hr3, own3, hb3, -⟩ := zqgs w (w5.alloc (.cells (ints .u8 32 (S (j + 1))) 23)) w.heap.size _ (j + 1) S w5.heap.size _ _ (World.ownsRow.alloc OWN2.out _) (by omega) (zqj _ _ _ rfl) (Grew.alloc hM2 _) (Nat.le_refl _) (by simp; omega);have OWN3 : Hid (w3.ownsRow w.heap.size 23 32 (.slice (some ⟨g3, 0, none⟩) (j + 1 + 1) c3) (j + 1 + 1) (k32L S (j + 1 + 1))) := own3;clear own3 OWN2;go_wp2
    go_roundw
    case rel => first | exact ⟨j + 1, _, rfl, by omega, by go_num, hb3, hnx, OWN3⟩ | ((repeat' apply Exists.intro) <;> first | exact ⟨⟨j + 1, _, rfl, by omega, by go_num, hb3, hnx, OWN3⟩, rfl⟩ | exact undef)
    case measure => (simp [intOf] <;> omega)
  ·obtain rfl : j = n := by omega
   have HK2 : Hid (K32At wr oa2 (j + 1) S) := hK2;have Hc2 : Hid (j + 1 <= c2) := hc2;have Hok : Hid (OKF j = true) := hok;clear hK2 OWN hc2 hok;go_wp2
   (try go_ret2)
   exact hRC.out _ _ hM (.inl ⟨Hok.out, oa2, c2, rfl, Hc2.out, HK2.out⟩)
end Go.Proofs.YtconieddcjpbjaaGreatDoor
