/- R12 -/
import Derived.Test.YtfglcifnjaknnaaGreatDoorFrame
import Derived.Test.YtfglcifnjaknnaaGreatDoorR11
import Derived.Test.YtfglcifnjaknnaaGreatDoorR10
import Derived.Test.YtfglcifnjaknnaaGreatDoorDh
import Derived.Test.YtfglcifnjaknnaaGreatDoorRel
set_option linter.unusedVariables false
set_option linter.unusedSimpArgs false
set_option maxRecDepth 100000
set_option maxHeartbeats 4000000
namespace Go.Proofs.YtfglcifnjaknnaaGreatDoor
open Go.ChangeShapes Go.WideShapes Go.ChangeAt Go.RowKit
def k32L (F : Nat -> Nat -> Int) (n : Nat) : List Value := (List.range n).flatMap fun j => (ints .u8 32 (F j)).toList
theorem zqgu (F : Nat -> Nat -> Int) (n : Nat) : k32L F (n + 1) = k32L F n ++ (ints .u8 32 (F n)).toList := by
 unfold k32L;rw [List.range_succ, List.flatMap_append]
 simp
theorem zqhh (F : Nat -> Nat -> Int) : ∀ n, (k32L F n).length = n * 32
 | 0 => rfl
 | n + 1 => by rw [zqgu, List.length_append, zqhh F n, Array.length_toList, zqi]; omega
theorem zqkr (F : Nat -> Nat -> Int) (j i : Nat) (hi : i < 32) : ∀ n, j < n -> (k32L F n)[j * 32 + i]? = some (.int .u8 (F j i))
 | 0, h => by omega
 | n + 1, h => by
  rw [zqgu]
  rcases (by omega : j < n \/ j = n) with h' | rfl
  ·rw [List.getElem?_append_left (by rw [zqhh]; omega), zqkr F j i hi n h']
  ·rw [List.getElem?_append_right (by rw [zqhh]; omega), zqhh, show j * 32 + i - j * 32 = i by omega, Array.getElem?_toList, zqal _ _ _ _ hi]
def K32At (w : World) (oa : Option Addr) (n : Nat) (F : Nat -> Nat -> Int) : Prop :=
 n = 0 \/ ∃ ad : Addr, oa = some ad /\ ∀ w', Below w.heap.size w w' -> ∀ j, j < n -> ∀ i, i < 32 -> w'.cell? (ad.add (j * 32 + i)) = some (.int .u8 (F j i))
theorem K32At.later {w w' : World} {oa : Option Addr} {n : Nat} {F : Nat -> Nat -> Int} (h : K32At w oa n F) (hb : Below w.heap.size w w') : K32At w' oa n F := by
 rcases h with h | ⟨ad, ho, hl⟩
 ·exact .inl h
 ·exact .inr ⟨ad, ho, fun w'' hb' => hl w'' (Grew.trans hb hb')⟩
theorem K32At.nil (w : World) (F : Nat -> Nat -> Int) : K32At w none 0 F := .inl rfl
theorem K32At.addr {w : World} {oa : Option Addr} {n : Nat} {F : Nat -> Nat -> Int} (h : K32At w oa n F) (hn : 0 < n) : ∃ ad, oa = some ad := by
 rcases h with h | ⟨ad, ho, _⟩
 ·omega
 ·exact ⟨ad, ho⟩
theorem K32At.at {w : World} {ad : Addr} {n : Nat} {F : Nat -> Nat -> Int} (h : K32At w (some ad) n F) {j : Nat} (hj : j < n) {w' : World} (hb : Below w.heap.size w w') : ∀ i, i < 32 -> w'.cell? ((ad.add (j * 32)).add i) = (ints .u8 32 (F j))[i]? := fun i hi => by
 rcases h with h | ⟨ad', ho, hl⟩
 ·omega
 ·cases ho
  rw [Go.Deep.add_add, hl w' hb j hj i hi, zqal _ _ _ _ hi]
theorem K32At.loadK {w : World} {ad : Addr} {n : Nat} {F : Nat -> Nat -> Int} (h : K32At w (some ad) n F) {j : Nat} (hj : j < n) {w' : World} (hb : Below w.heap.size w w') : (zqah 29 (.pointer (some (ad.add (j * 32))))).run Tryz.prog w' = .ok (.value (.agg (ints .u8 32 (F j)))) w' :=
 zqcm Tryz.underlying29 rfl zqb w' _ (ints .u8 32 (F j)) (zqi _ _ _) (h.at hj hb)
theorem K32At.congr {w : World} {oa : Option Addr} {n : Nat} {F G : Nat -> Nat -> Int} (h : K32At w oa n F) (e : ∀ j, j < n -> F j = G j) : K32At w oa n G := by
 rcases h with h | ⟨ad, ho, hl⟩
 ·exact .inl h
 ·exact .inr ⟨ad, ho, fun w' hb j hj i hi => by rw [<- e j hj]; exact hl w' hb j hj i hi⟩
theorem zqi5 {w : World} {base n : Nat} {v : Value} {F : Nat -> Nat -> Int} {t : TypeId} (h : w.ownsRow base t 32 v n (k32L F n)) : ∃ oa c, v = .slice oa n c /\ n <= c /\ K32At w oa n F := by
 have hh := h
 rcases h.2 with ⟨rfl, h0⟩ | ⟨g, cap, cur, rfl, hb, hg, hnc, hcm, hcs, htake⟩
 ·subst h0
  exact ⟨none, 0, rfl, Nat.le_refl _, .inl rfl⟩
 ·refine ⟨some ⟨g, 0, none⟩, cap, rfl, hnc, .inr ⟨_, rfl, fun w' hb j hj i hi => ?_⟩⟩
  rw [<- zqem];exact (zq34 hh (j * 32 + i) _ (zqkr F j i hi n hj)).2 w' hb
theorem zqha {W : World} {g n N : Nat} {f : Nat -> Int} {t : TypeId} {fr : Nat × Nat} {F : Nat -> Nat -> Int} (h : zqe W g = some (.cells (ints .u8 N f) t fr)) (hN : n * 32 <= N) (hf : ∀ j, j < n -> ∀ i, i < 32 -> f (j * 32 + i) = F j i) : K32At W (some ⟨g, 0, none⟩) n F := by
 refine .inr ⟨_, rfl, fun w' hb j hj i hi => ?_⟩;have h' := zqc hb h;unfold zqe at h';rw [<- zqem, cell_of_row w' g _ _ _ _ h', zqal _ _ _ _ (by omega), hf j hj i hi]
theorem zqf3 (a : Nat -> Int) (W : World) : (Instr.buildSlice 44 1 #[(0, .agg (ints .u8 32 a))]).run Tryz.prog W = .ok (.slice (some ⟨W.heap.size, 0, none⟩) 1 1) (W.alloc (.cells (ints .u8 32 a) 29)) := by kernel_rfl
def zqjd (v : Value) : Sem Next := do pure (.value (<- Instr.buildSlice 44 1 #[(0, v)]))
def zqjq (u v : Value) : Sem Next := do pure (.value (<- Instr.buildSlice 44 2 #[(0, u), (1, v)]))
@[go_sem ↓ high] theorem zqxl (ρ : Operand -> Value) (d : Option Tmp) (x : Operand) (t : TypeId) (pos : String) (af : Array Edge) (g : Option (Nat × Bool)) :
  execOp ρ ⟨d, .buildSlice 44 1 #[(0, x)], t, pos, af, g⟩ = zqjd (ρ x) := by
 unfold execOp zqjd
 simp
@[go_sem high] theorem zrb4 (ρ : Operand -> Value) (d : Option Tmp) (x : Operand) (t : TypeId) (pos : String) (af : Array Edge) (g : Option (Nat × Bool)) :
  execOp ρ ⟨d, .buildSlice 44 1 #[(0, x)], t, pos, af, g⟩ = zqjd (ρ x) := zqxl ρ d x t pos af g
@[go_sem ↓ high] theorem zqvo (ρ : Operand -> Value) (d : Option Tmp) (x y : Operand) (t : TypeId) (pos : String) (af : Array Edge) (g : Option (Nat × Bool)) :
  execOp ρ ⟨d, .buildSlice 44 2 #[(0, x), (1, y)], t, pos, af, g⟩ = zqjq (ρ x) (ρ y) := by
 unfold execOp zqjq
 simp
@[go_sem high] theorem zq8s (ρ : Operand -> Value) (d : Option Tmp) (x y : Operand) (t : TypeId) (pos : String) (af : Array Edge) (g : Option (Nat × Bool)) :
  execOp ρ ⟨d, .buildSlice 44 2 #[(0, x), (1, y)], t, pos, af, g⟩ = zqjq (ρ x) (ρ y) := zqvo ρ d x y t pos af g
@[go_sem] theorem zq8v (a : Nat -> Int) (W : World) : (zqjd (.agg (ints .u8 32 a))).run Tryz.prog W = .ok (.value (.slice (some ⟨W.heap.size, 0, none⟩) 1 1)) (W.alloc (.cells (ints .u8 32 a) 29)) := by
 unfold zqjd
 simp only [Sem.run_bind, zqf3, Result.andThen_ok, Sem.run_pure]
@[go_sem] theorem zrak (a b : Nat -> Int) (W : World) : (zqjq (.agg (ints .u8 32 a)) (.agg (ints .u8 32 b))).run Tryz.prog W = .ok (.value (.slice (some ⟨W.heap.size, 0, none⟩) 2 2)) (W.alloc (.cells (ints .u8 64 (rowK (two a b))) 29)) := by
 unfold zqjq
 simp only [Sem.run_bind, zq86, Result.andThen_ok, Sem.run_pure]
attribute [irreducible] zqjd zqjq
@[go_sem ↓ high] theorem zra0 (ty : TypeId) (cs : Array Bool) (args : Array Value) : builtin .append #[44, 44] ty cs args = zqr #[44, 44] ty args := by unfold zqr; rfl
theorem zqxp {t e : TypeId} {i : TypeInfo} {z : Value} (ht : Tryz.prog.underlying t = some (.slice e)) (hi : Tryz.prog.info? e = some i) (hz : i.zero = some z) (hsize : i.size = 32) (hby : i.bytes = 32) (hzs : z.cells.size = 32)
  (w W : World) (base : Nat) (v : Value) (n : Nat) (F : Nat -> Nat -> Int) (g2 : Nat) (t2 : TypeId) (fr : Nat × Nat) (own : W.ownsRow base e 32 v n (k32L F n)) (hn : n <= 1048576)
  (hg2 : zqe W g2 = some (.cells (ints .u8 32 (F n)) t2 fr)) (hG : Below w.heap.size w W) (hwb : w.heap.size <= base) (hbW : base <= W.heap.size) :
  ∃ g cap w', (zqr #[t, t] t #[v, .slice (some ⟨g2, 0, none⟩) 1 1]).run Tryz.prog W = .ok (.value (.slice (some ⟨g, 0, none⟩) (n + 1) cap)) w' /\ w'.ownsRow base e 32 (.slice (some ⟨g, 0, none⟩) (n + 1) cap) (n + 1) (k32L F (n + 1)) /\
   Below w.heap.size w w' /\ (∀ m o, m < base -> zqe W m = some o -> zqe w' m = some o) := by
 obtain ⟨g, cap, w', hr, ho, hb, hk, _⟩ := zqf8 32 32 ht hi hz hsize hby hzs (by decide) (by decide) t w W base v n (k32L F n) ⟨g2, 0, none⟩ 1 1 (ints .u8 32 (F n)).toList own (by omega) (by decide) (by rw [Array.length_toList, zqi])
  (fun j x hx => by
   rw [<- zqem g2 j];unfold zqe at hg2;rw [cell_of_row W g2 j _ _ _ hg2];rw [Array.getElem?_toList] at hx;exact hx) (fun x hx => by
   have h1 := zqa1 .u8 32 (F n);rw [Array.all_eq_true'] at h1;exact h1 x (by simpa using hx)) hG hwb hbW
 refine ⟨g, cap, w', hr, ?_, hb, hk⟩;rw [zqgu];exact ho
theorem zqnq (w W : World) (base : Nat) (v : Value) (n : Nat) (F : Nat -> Nat -> Int) (g2 : Nat) (t2 : TypeId) (fr : Nat × Nat) (own : W.ownsRow base 29 32 v n (k32L F n)) (hn : n <= 1048576)
  (hg2 : zqe W g2 = some (.cells (ints .u8 32 (F n)) t2 fr)) (hG : Below w.heap.size w W) (hwb : w.heap.size <= base) (hbW : base <= W.heap.size) :
  ∃ g cap w', (zqr #[44, 44] 44 #[v, .slice (some ⟨g2, 0, none⟩) 1 1]).run Tryz.prog W = .ok (.value (.slice (some ⟨g, 0, none⟩) (n + 1) cap)) w' /\ w'.ownsRow base 29 32 (.slice (some ⟨g, 0, none⟩) (n + 1) cap) (n + 1) (k32L F (n + 1)) /\
   Below w.heap.size w w' /\ (∀ m o, m < base -> zqe W m = some o -> zqe w' m = some o) :=
 zqxp (i := (Tryz.prog.info? 29).get zqb) (z := ((Tryz.prog.info? 29).get zqb).zero.get zqb) Tryz.underlying44 zqb zqb zqb zqb zqb w W base v n F g2 t2 fr own hn hg2 hG hwb hbW
def zq2y (w : World) (n : Nat) (F : Nat -> Nat -> Int) (e : Ending) (w' : World) : Prop := ∃ oa c, e = .returned (.slice oa n c) /\ K32At w' oa n F /\ Below w.heap.size w w'
end Go.Proofs.YtfglcifnjaknnaaGreatDoor
namespace Go.Proofs.YtfglcifnjaknnaaGreatDoor
open Go.RowKit
def upOK (k p : Nat -> Int) : Bool := !decide (shV k p = 0)
def upF (k p : Nat -> Int) : Nat -> Int := if shV k p = 0 then zqd else zqda (keyV (shV k p))
theorem zqoy (k p : Nat -> Int) : Bytes 32 (upF k p) := by
 unfold upF
 split
 ·exact fun _ _ => ⟨Int.le_refl 0, by show (0 : Int) <= 255; decide⟩
 ·exact zqyg _
def zqb2 (k : Nat -> Int) (P : Nat -> Nat -> Int) : Nat -> Nat -> Int
 | 0 => k
 | j + 1 => upF (zqb2 k P j) (P j)
def zqbi (k : Nat -> Int) (P : Nat -> Nat -> Int) : Nat -> Bool
 | 0 => true
 | j + 1 => zqbi k P j && upOK (zqb2 k P j) (P j)
theorem zqk4 (k : Nat -> Int) (P : Nat -> Nat -> Int) (hk : Bytes 32 k) : ∀ j, Bytes 32 (zqb2 k P j)
 | 0 => hk
 | j + 1 => zqoy _ _
theorem zqql (k : Nat -> Int) (P : Nat -> Nat -> Int) {j : Nat} (h : zqbi k P j = false) : ∀ n, j <= n -> zqbi k P n = false
 | 0, hn => by obtain rfl : j = 0 := by omega
               exact h
 | n + 1, hn => by
  rcases (by omega : j = n + 1 \/ j <= n) with rfl | h'
  ·exact h
  ·show (zqbi k P n && _) = false
   rw [zqql k P h n h']
   rfl
def zqkv (w : World) (k : Nat -> Int) (P : Nat -> Nat -> Int) (n : Nat) (e : Ending) (w' : World) : Prop :=
 Below w.heap.size w w' /\ ((zqbi k P n = true /\ ∃ oa c, e = .returned (.tuple #[.slice oa (n + 1) c, .bool true]) /\ n + 1 <= c /\ K32At w' oa (n + 1) (zqb2 k P)) \/ (zqbi k P n = false /\ e = .returned (.tuple #[.slice none 0 0, .bool false])))
@[go_sem] theorem zrcx (w : World) : (zqbm 28).run Tryz.prog w = .ok (.value (.agg (ints .u8 32 zqd))) w := by kernel_rfl
attribute [local irreducible] zqda zqbw oneF macF shaF strOf keyV shV pubV
end Go.Proofs.YtfglcifnjaknnaaGreatDoor
namespace Go.Proofs.YtfglcifnjaknnaaGreatDoor
open Go.RowKit
attribute [local irreducible] zqda zqbw oneF macF shaF strOf keyV shV pubV upF upOK
end Go.Proofs.YtfglcifnjaknnaaGreatDoor
