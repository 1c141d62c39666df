/- R12 -/
import Derived.Test.YtpefpiobcpdeoaaGreatDoorFrame
import Derived.Test.YtpefpiobcpdeoaaGreatDoorR11
import Derived.Test.YtpefpiobcpdeoaaGreatDoorR10
import Derived.Test.YtpefpiobcpdeoaaGreatDoorDh
import Derived.Test.YtpefpiobcpdeoaaGreatDoorRel
set_option linter.unusedVariables false
set_option linter.unusedSimpArgs false
set_option maxRecDepth 100000
set_option maxHeartbeats 4000000
namespace Go.Proofs.YtpefpiobcpdeoaaGreatDoor
open Go.ChangeShapes Go.WideShapes Go.ChangeAt Go.RowKit
def k32L (F : Nat -> Nat -> Int) (n : Nat) : List Value := (List.range n).flatMap fun j => (ints .u8 32 (F j)).toList
theorem zqf0 (F : Nat -> Nat -> Int) (n : Nat) : k32L F (n + 1) = k32L F n ++ (ints .u8 32 (F n)).toList := by
 unfold k32L;rw [List.range_succ, List.flatMap_append]
 simp
theorem zqg5 (F : Nat -> Nat -> Int) : ∀ n, (k32L F n).length = n * 32
 | 0 => rfl
 | n + 1 => by rw [zqf0, List.length_append, zqg5 F n, Array.length_toList, zqi]; omega
theorem zqks (F : Nat -> Nat -> Int) (j i : Nat) (hi : i < 32) : ∀ n, j < n -> (k32L F n)[j * 32 + i]? = some (.int .u8 (F j i))
 | 0, h => by omega
 | n + 1, h => by
  rw [zqf0]
  rcases (by omega : j < n \/ j = n) with h' | rfl
  ·rw [List.getElem?_append_left (by rw [zqg5]; omega), zqks F j i hi n h']
  ·rw [List.getElem?_append_right (by rw [zqg5]; omega), zqg5, show j * 32 + i - j * 32 = i by omega, Array.getElem?_toList, zqar _ _ _ _ hi]
def K32At (w : World) (oa : Option Addr) (n : Nat) (F : Nat -> Nat -> Int) : Prop :=
 n = 0 \/ ∃ ad : Addr, oa = some ad /\ ∀ w', Below w.heap.size w w' -> ∀ j, j < n -> ∀ i, i < 32 -> w'.cell? (ad.add (j * 32 + i)) = some (.int .u8 (F j i))
theorem K32At.later {w w' : World} {oa : Option Addr} {n : Nat} {F : Nat -> Nat -> Int} (h : K32At w oa n F) (hb : Below w.heap.size w w') : K32At w' oa n F := by
 rcases h with h | ⟨ad, ho, hl⟩
 ·exact .inl h
 ·exact .inr ⟨ad, ho, fun w'' hb' => hl w'' (Grew.trans hb hb')⟩
theorem K32At.nil (w : World) (F : Nat -> Nat -> Int) : K32At w none 0 F := .inl rfl
theorem K32At.addr {w : World} {oa : Option Addr} {n : Nat} {F : Nat -> Nat -> Int} (h : K32At w oa n F) (hn : 0 < n) : ∃ ad, oa = some ad := by
 rcases h with h | ⟨ad, ho, _⟩
 ·omega
 ·exact ⟨ad, ho⟩
theorem K32At.at {w : World} {ad : Addr} {n : Nat} {F : Nat -> Nat -> Int} (h : K32At w (some ad) n F) {j : Nat} (hj : j < n) {w' : World} (hb : Below w.heap.size w w') : ∀ i, i < 32 -> w'.cell? ((ad.add (j * 32)).add i) = (ints .u8 32 (F j))[i]? := fun i hi => by
 rcases h with h | ⟨ad', ho, hl⟩
 ·omega
 ·cases ho
  rw [Go.Deep.add_add, hl w' hb j hj i hi, zqar _ _ _ _ hi]
theorem K32At.loadK {w : World} {ad : Addr} {n : Nat} {F : Nat -> Nat -> Int} (h : K32At w (some ad) n F) {j : Nat} (hj : j < n) {w' : World} (hb : Below w.heap.size w w') : (zqq 44 (.pointer (some (ad.add (j * 32))))).run Tryz.prog w' = .ok (.value (.agg (ints .u8 32 (F j)))) w' :=
 zqcx Tryz.underlying44 rfl zqb w' _ (ints .u8 32 (F j)) (zqi _ _ _) (h.at hj hb)
theorem K32At.loadB {w : World} {ad : Addr} {n : Nat} {F : Nat -> Nat -> Int} (h : K32At w (some ad) n F) {j : Nat} (hj : j < n) {w' : World} (hb : Below w.heap.size w w') : (zqq 43 (.pointer (some (ad.add (j * 32))))).run Tryz.prog w' = .ok (.value (.agg (ints .u8 32 (F j)))) w' :=
 zqcx Tryz.underlying43 rfl zqb w' _ (ints .u8 32 (F j)) (zqi _ _ _) (h.at hj hb)
theorem K32At.congr {w : World} {oa : Option Addr} {n : Nat} {F G : Nat -> Nat -> Int} (h : K32At w oa n F) (e : ∀ j, j < n -> F j = G j) : K32At w oa n G := by
 rcases h with h | ⟨ad, ho, hl⟩
 ·exact .inl h
 ·exact .inr ⟨ad, ho, fun w' hb j hj i hi => by rw [<- e j hj]; exact hl w' hb j hj i hi⟩
theorem zqex {w : World} {base n : Nat} {v : Value} {F : Nat -> Nat -> Int} {t : TypeId} (h : w.ownsRow base t 32 v n (k32L F n)) : ∃ oa c, v = .slice oa n c /\ n <= c /\ K32At w oa n F := by
 have hh := h
 rcases h.2 with ⟨rfl, h0⟩ | ⟨g, cap, cur, rfl, hb, hg, hnc, hcm, hcs, htake⟩
 ·subst h0
  exact ⟨none, 0, rfl, Nat.le_refl _, .inl rfl⟩
 ·refine ⟨some ⟨g, 0, none⟩, cap, rfl, hnc, .inr ⟨_, rfl, fun w' hb j hj i hi => ?_⟩⟩
  rw [<- zqev];exact (zq47 hh (j * 32 + i) _ (zqks F j i hi n hj)).2 w' hb
theorem zqh0 {w : World} {base n : Nat} {v : Value} {F : Nat -> Nat -> Int} {t : TypeId} (h : w.ownsRow base t 32 v n (k32L F n)) {oa : Option Addr} {m c : Nat} (e : v = .slice oa m c) : ∀ ad, oa = some ad -> base <= ad.block := fun ad e1 => by
 subst e e1
 rcases h.2 with ⟨h1, _⟩ | ⟨g, cap, cur, h1, hb, hg, _⟩
 ·cases h1
 ·cases h1
  exact hb
theorem zqhg {W : World} {g n N : Nat} {f : Nat -> Int} {t : TypeId} {fr : Nat × Nat} {F : Nat -> Nat -> Int} (h : zqe W g = some (.cells (ints .u8 N f) t fr)) (hN : n * 32 <= N) (hf : ∀ j, j < n -> ∀ i, i < 32 -> f (j * 32 + i) = F j i) : K32At W (some ⟨g, 0, none⟩) n F := by
 refine .inr ⟨_, rfl, fun w' hb j hj i hi => ?_⟩;have h' := zqd hb h;unfold zqe at h';rw [<- zqev, cell_of_row w' g _ _ _ _ h', zqar _ _ _ _ (by omega), hf j hj i hi]
theorem zqhr (a : Nat -> Int) (W : World) : (Instr.buildSlice 45 1 #[(0, .agg (ints .u8 32 a))]).run Tryz.prog W = .ok (.slice (some ⟨W.heap.size, 0, none⟩) 1 1) (W.alloc (.cells (ints .u8 32 a) 44)) := by kernel_rfl
theorem zqtc (a : Nat -> Int) (W : World) : (Instr.buildSlice 51 1 #[(0, .agg (ints .u8 32 a))]).run Tryz.prog W = .ok (.slice (some ⟨W.heap.size, 0, none⟩) 1 1) (W.alloc (.cells (ints .u8 32 a) 43)) := by kernel_rfl
def zqj2 (v : Value) : Sem Next := do pure (.value (<- Instr.buildSlice 45 1 #[(0, v)]))
def zqjj (u v : Value) : Sem Next := do pure (.value (<- Instr.buildSlice 45 2 #[(0, u), (1, v)]))
def zqjk (v : Value) : Sem Next := do pure (.value (<- Instr.buildSlice 51 1 #[(0, v)]))
@[go_sem ↓ high] theorem zqw8 (ρ : Operand -> Value) (d : Option Tmp) (x : Operand) (t : TypeId) (pos : String) (af : Array Edge) (g : Option (Nat × Bool)) :
  execOp ρ ⟨d, .buildSlice 45 1 #[(0, x)], t, pos, af, g⟩ = zqj2 (ρ x) := by
 unfold execOp zqj2
 simp
@[go_sem high] theorem zq68 (ρ : Operand -> Value) (d : Option Tmp) (x : Operand) (t : TypeId) (pos : String) (af : Array Edge) (g : Option (Nat × Bool)) :
  execOp ρ ⟨d, .buildSlice 45 1 #[(0, x)], t, pos, af, g⟩ = zqj2 (ρ x) := zqw8 ρ d x t pos af g
@[go_sem ↓ high] theorem zqwi (ρ : Operand -> Value) (d : Option Tmp) (x y : Operand) (t : TypeId) (pos : String) (af : Array Edge) (g : Option (Nat × Bool)) :
  execOp ρ ⟨d, .buildSlice 45 2 #[(0, x), (1, y)], t, pos, af, g⟩ = zqjj (ρ x) (ρ y) := by
 unfold execOp zqjj
 simp
@[go_sem high] theorem zq7x (ρ : Operand -> Value) (d : Option Tmp) (x y : Operand) (t : TypeId) (pos : String) (af : Array Edge) (g : Option (Nat × Bool)) :
  execOp ρ ⟨d, .buildSlice 45 2 #[(0, x), (1, y)], t, pos, af, g⟩ = zqjj (ρ x) (ρ y) := zqwi ρ d x y t pos af g
@[go_sem ↓ high] theorem zqxb (ρ : Operand -> Value) (d : Option Tmp) (x : Operand) (t : TypeId) (pos : String) (af : Array Edge) (g : Option (Nat × Bool)) :
  execOp ρ ⟨d, .buildSlice 51 1 #[(0, x)], t, pos, af, g⟩ = zqjk (ρ x) := by
 unfold execOp zqjk
 simp
@[go_sem high] theorem zq97 (ρ : Operand -> Value) (d : Option Tmp) (x : Operand) (t : TypeId) (pos : String) (af : Array Edge) (g : Option (Nat × Bool)) :
  execOp ρ ⟨d, .buildSlice 51 1 #[(0, x)], t, pos, af, g⟩ = zqjk (ρ x) := zqxb ρ d x t pos af g
@[go_sem] theorem zq7m (a : Nat -> Int) (W : World) : (zqj2 (.agg (ints .u8 32 a))).run Tryz.prog W = .ok (.value (.slice (some ⟨W.heap.size, 0, none⟩) 1 1)) (W.alloc (.cells (ints .u8 32 a) 44)) := by
 unfold zqj2
 simp only [Sem.run_bind, zqhr, Result.andThen_ok, Sem.run_pure]
@[go_sem] theorem zrag (a b : Nat -> Int) (W : World) : (zqjj (.agg (ints .u8 32 a)) (.agg (ints .u8 32 b))).run Tryz.prog W = .ok (.value (.slice (some ⟨W.heap.size, 0, none⟩) 2 2)) (W.alloc (.cells (ints .u8 64 (rowK (two a b))) 44)) := by
 unfold zqjj
 simp only [Sem.run_bind, build2k, Result.andThen_ok, Sem.run_pure]
@[go_sem] theorem zra4 (a : Nat -> Int) (W : World) : (zqjk (.agg (ints .u8 32 a))).run Tryz.prog W = .ok (.value (.slice (some ⟨W.heap.size, 0, none⟩) 1 1)) (W.alloc (.cells (ints .u8 32 a) 43)) := by
 unfold zqjk
 simp only [Sem.run_bind, zqtc, Result.andThen_ok, Sem.run_pure]
attribute [irreducible] zqj2 zqjj zqjk
@[go_sem ↓ high] theorem zq9n (ty : TypeId) (cs : Array Bool) (args : Array Value) : builtin .append #[45, 45] ty cs args = zqv #[45, 45] ty args := by unfold zqv; rfl
@[go_sem ↓ high] theorem zq9j (ty : TypeId) (cs : Array Bool) (args : Array Value) : builtin .append #[51, 51] ty cs args = zqv #[51, 51] ty args := by unfold zqv; rfl
theorem zqnr {t e : TypeId} {i : TypeInfo} {z : Value} (ht : Tryz.prog.underlying t = some (.slice e)) (hi : Tryz.prog.info? e = some i) (hz : i.zero = some z) (hsize : i.size = 32) (hby : i.bytes = 32) (hzs : z.cells.size = 32)
  (w W : World) (base : Nat) (v : Value) (n : Nat) (F : Nat -> Nat -> Int) (g2 : Nat) (t2 : TypeId) (fr : Nat × Nat) (own : W.ownsRow base e 32 v n (k32L F n)) (hn : n <= 1048576)
  (hg2 : zqe W g2 = some (.cells (ints .u8 32 (F n)) t2 fr)) (hG : Below w.heap.size w W) (hwb : w.heap.size <= base) (hbW : base <= W.heap.size) :
  ∃ g cap w', (zqv #[t, t] t #[v, .slice (some ⟨g2, 0, none⟩) 1 1]).run Tryz.prog W = .ok (.value (.slice (some ⟨g, 0, none⟩) (n + 1) cap)) w' /\ w'.ownsRow base e 32 (.slice (some ⟨g, 0, none⟩) (n + 1) cap) (n + 1) (k32L F (n + 1)) /\
   Below w.heap.size w w' /\ (∀ m o, m < base -> zqe W m = some o -> zqe w' m = some o) := by
 obtain ⟨g, cap, w', hr, ho, hb, hk, _⟩ := zqhq 32 32 ht hi hz hsize hby hzs (by decide) (by decide) t w W base v n (k32L F n) ⟨g2, 0, none⟩ 1 1 (ints .u8 32 (F n)).toList own (by omega) (by decide) (by rw [Array.length_toList, zqi])
  (fun j x hx => by
   rw [<- zqev g2 j];unfold zqe at hg2;rw [cell_of_row W g2 j _ _ _ hg2];rw [Array.getElem?_toList] at hx;exact hx) (fun x hx => by
   have h1 := zqa7 .u8 32 (F n);rw [Array.all_eq_true'] at h1;exact h1 x (by simpa using hx)) hG hwb hbW
 refine ⟨g, cap, w', hr, ?_, hb, hk⟩;rw [zqf0];exact ho
theorem zqnp (w W : World) (base : Nat) (v : Value) (n : Nat) (F : Nat -> Nat -> Int) (g2 : Nat) (t2 : TypeId) (fr : Nat × Nat) (own : W.ownsRow base 44 32 v n (k32L F n)) (hn : n <= 1048576)
  (hg2 : zqe W g2 = some (.cells (ints .u8 32 (F n)) t2 fr)) (hG : Below w.heap.size w W) (hwb : w.heap.size <= base) (hbW : base <= W.heap.size) :
  ∃ g cap w', (zqv #[45, 45] 45 #[v, .slice (some ⟨g2, 0, none⟩) 1 1]).run Tryz.prog W = .ok (.value (.slice (some ⟨g, 0, none⟩) (n + 1) cap)) w' /\ w'.ownsRow base 44 32 (.slice (some ⟨g, 0, none⟩) (n + 1) cap) (n + 1) (k32L F (n + 1)) /\
   Below w.heap.size w w' /\ (∀ m o, m < base -> zqe W m = some o -> zqe w' m = some o) :=
 zqnr (i := (Tryz.prog.info? 44).get zqb) (z := ((Tryz.prog.info? 44).get zqb).zero.get zqb) Tryz.underlying45 zqb zqb zqb zqb zqb w W base v n F g2 t2 fr own hn hg2 hG hwb hbW
theorem zqw6 (w W : World) (base : Nat) (v : Value) (n : Nat) (F : Nat -> Nat -> Int) (g2 : Nat) (t2 : TypeId) (fr : Nat × Nat) (own : W.ownsRow base 43 32 v n (k32L F n)) (hn : n <= 1048576)
  (hg2 : zqe W g2 = some (.cells (ints .u8 32 (F n)) t2 fr)) (hG : Below w.heap.size w W) (hwb : w.heap.size <= base) (hbW : base <= W.heap.size) :
  ∃ g cap w', (zqv #[51, 51] 51 #[v, .slice (some ⟨g2, 0, none⟩) 1 1]).run Tryz.prog W = .ok (.value (.slice (some ⟨g, 0, none⟩) (n + 1) cap)) w' /\ w'.ownsRow base 43 32 (.slice (some ⟨g, 0, none⟩) (n + 1) cap) (n + 1) (k32L F (n + 1)) /\
   Below w.heap.size w w' /\ (∀ m o, m < base -> zqe W m = some o -> zqe w' m = some o) :=
 zqnr (i := (Tryz.prog.info? 43).get zqb) (z := ((Tryz.prog.info? 43).get zqb).zero.get zqb) Tryz.underlying51 zqb zqb zqb zqb zqb w W base v n F g2 t2 fr own hn hg2 hG hwb hbW
def zqyz (w : World) (n : Nat) (F : Nat -> Nat -> Int) (e : Ending) (w' : World) : Prop := ∃ oa c, e = .returned (.slice oa n c) /\ K32At w' oa n F /\ Below w.heap.size w w'
end Go.Proofs.YtpefpiobcpdeoaaGreatDoor
namespace Go.Proofs.YtpefpiobcpdeoaaGreatDoor
open Go.RowKit
def upOK (k p : Nat -> Int) : Bool := !decide (shV k p = 0)
def upF (k p : Nat -> Int) : Nat -> Int := if shV k p = 0 then zqc else zqdl (keyV (shV k p))
theorem zqpd (k p : Nat -> Int) : Bytes 32 (upF k p) := by
 unfold upF
 split
 ·exact fun _ _ => ⟨Int.le_refl 0, by show (0 : Int) <= 255; decide⟩
 ·exact zqu6 _
def zqcd (k : Nat -> Int) (P : Nat -> Nat -> Int) : Nat -> Nat -> Int
 | 0 => k
 | j + 1 => upF (zqcd k P j) (P j)
def zqbr (k : Nat -> Int) (P : Nat -> Nat -> Int) : Nat -> Bool
 | 0 => true
 | j + 1 => zqbr k P j && upOK (zqcd k P j) (P j)
theorem zqlc (k : Nat -> Int) (P : Nat -> Nat -> Int) (hk : Bytes 32 k) : ∀ j, Bytes 32 (zqcd k P j)
 | 0 => hk
 | j + 1 => zqpd _ _
theorem zqq8 (k : Nat -> Int) (P : Nat -> Nat -> Int) {j : Nat} (h : zqbr k P j = false) : ∀ n, j <= n -> zqbr k P n = false
 | 0, hn => by obtain rfl : j = 0 := by omega
               exact h
 | n + 1, hn => by
  rcases (by omega : j = n + 1 \/ j <= n) with rfl | h'
  ·exact h
  ·show (zqbr k P n && _) = false
   rw [zqq8 k P h n h']
   rfl
def zqku (w : World) (k : Nat -> Int) (P : Nat -> Nat -> Int) (n : Nat) (e : Ending) (w' : World) : Prop :=
 Below w.heap.size w w' /\ ((zqbr k P n = true /\ ∃ oa c, e = .returned (.tuple #[.slice oa (n + 1) c, .bool true]) /\ n + 1 <= c /\ K32At w' oa (n + 1) (zqcd k P)) \/ (zqbr k P n = false /\ e = .returned (.tuple #[.slice none 0 0, .bool false])))
@[go_sem] theorem zrcc (w : World) : (zqbz 43).run Tryz.prog w = .ok (.value (.agg (ints .u8 32 zqc))) w := by kernel_rfl
attribute [local irreducible] zqdl zqci oneF macF shaF strOf keyV shV pubV
end Go.Proofs.YtpefpiobcpdeoaaGreatDoor
namespace Go.Proofs.YtpefpiobcpdeoaaGreatDoor
open Go.RowKit
attribute [local irreducible] zqdl zqci oneF macF shaF strOf keyV shV pubV upF upOK
end Go.Proofs.YtpefpiobcpdeoaaGreatDoor
