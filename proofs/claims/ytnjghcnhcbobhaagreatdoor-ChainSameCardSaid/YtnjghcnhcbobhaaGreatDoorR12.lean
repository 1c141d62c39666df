/- R12 -/
import Derived.Test.YtnjghcnhcbobhaaGreatDoorFrame
import Derived.Test.YtnjghcnhcbobhaaGreatDoorR11
import Derived.Test.YtnjghcnhcbobhaaGreatDoorR10
import Derived.Test.YtnjghcnhcbobhaaGreatDoorDh
import Derived.Test.YtnjghcnhcbobhaaGreatDoorRel
set_option linter.unusedVariables false
set_option linter.unusedSimpArgs false
set_option maxRecDepth 100000
set_option maxHeartbeats 4000000
namespace Go.Proofs.YtnjghcnhcbobhaaGreatDoor
open Go.ChangeShapes Go.WideShapes Go.ChangeAt Go.RowKit
def k32L (F : Nat -> Nat -> Int) (n : Nat) : List Value := (List.range n).flatMap fun j => (ints .u8 32 (F j)).toList
theorem zqg3 (F : Nat -> Nat -> Int) (n : Nat) : k32L F (n + 1) = k32L F n ++ (ints .u8 32 (F n)).toList := by
 unfold k32L;rw [List.range_succ, List.flatMap_append]
 simp
theorem zqhp (F : Nat -> Nat -> Int) : ∀ n, (k32L F n).length = n * 32
 | 0 => rfl
 | n + 1 => by rw [zqg3, List.length_append, zqhp F n, Array.length_toList, zqj]; omega
theorem zqle (F : Nat -> Nat -> Int) (j i : Nat) (hi : i < 32) : ∀ n, j < n -> (k32L F n)[j * 32 + i]? = some (.int .u8 (F j i))
 | 0, h => by omega
 | n + 1, h => by
  rw [zqg3]
  rcases (by omega : j < n \/ j = n) with h' | rfl
  ·rw [List.getElem?_append_left (by rw [zqhp]; omega), zqle F j i hi n h']
  ·rw [List.getElem?_append_right (by rw [zqhp]; omega), zqhp, show j * 32 + i - j * 32 = i by omega, Array.getElem?_toList, zqal _ _ _ _ hi]
def K32At (w : World) (oa : Option Addr) (n : Nat) (F : Nat -> Nat -> Int) : Prop :=
 n = 0 \/ ∃ ad : Addr, oa = some ad /\ ∀ w', Below w.heap.size w w' -> ∀ j, j < n -> ∀ i, i < 32 -> w'.cell? (ad.add (j * 32 + i)) = some (.int .u8 (F j i))
theorem K32At.later {w w' : World} {oa : Option Addr} {n : Nat} {F : Nat -> Nat -> Int} (h : K32At w oa n F) (hb : Below w.heap.size w w') : K32At w' oa n F := by
 rcases h with h | ⟨ad, ho, hl⟩
 ·exact .inl h
 ·exact .inr ⟨ad, ho, fun w'' hb' => hl w'' (Grew.trans hb hb')⟩
theorem K32At.nil (w : World) (F : Nat -> Nat -> Int) : K32At w none 0 F := .inl rfl
theorem K32At.addr {w : World} {oa : Option Addr} {n : Nat} {F : Nat -> Nat -> Int} (h : K32At w oa n F) (hn : 0 < n) : ∃ ad, oa = some ad := by
 rcases h with h | ⟨ad, ho, _⟩
 ·omega
 ·exact ⟨ad, ho⟩
theorem K32At.at {w : World} {ad : Addr} {n : Nat} {F : Nat -> Nat -> Int} (h : K32At w (some ad) n F) {j : Nat} (hj : j < n) {w' : World} (hb : Below w.heap.size w w') : ∀ i, i < 32 -> w'.cell? ((ad.add (j * 32)).add i) = (ints .u8 32 (F j))[i]? := fun i hi => by
 rcases h with h | ⟨ad', ho, hl⟩
 ·omega
 ·cases ho
  rw [Go.Deep.add_add, hl w' hb j hj i hi, zqal _ _ _ _ hi]
theorem K32At.loadK {w : World} {ad : Addr} {n : Nat} {F : Nat -> Nat -> Int} (h : K32At w (some ad) n F) {j : Nat} (hj : j < n) {w' : World} (hb : Below w.heap.size w w') : (zqp 44 (.pointer (some (ad.add (j * 32))))).run Tryz.prog w' = .ok (.value (.agg (ints .u8 32 (F j)))) w' :=
 zqck Tryz.underlying44 rfl zqb w' _ (ints .u8 32 (F j)) (zqj _ _ _) (h.at hj hb)
theorem K32At.congr {w : World} {oa : Option Addr} {n : Nat} {F G : Nat -> Nat -> Int} (h : K32At w oa n F) (e : ∀ j, j < n -> F j = G j) : K32At w oa n G := by
 rcases h with h | ⟨ad, ho, hl⟩
 ·exact .inl h
 ·exact .inr ⟨ad, ho, fun w' hb j hj i hi => by rw [<- e j hj]; exact hl w' hb j hj i hi⟩
theorem zqj5 {w : World} {base n : Nat} {v : Value} {F : Nat -> Nat -> Int} {t : TypeId} (h : w.ownsRow base t 32 v n (k32L F n)) : ∃ oa c, v = .slice oa n c /\ n <= c /\ K32At w oa n F := by
 have hh := h
 rcases h.2 with ⟨rfl, h0⟩ | ⟨g, cap, cur, rfl, hb, hg, hnc, hcm, hcs, htake⟩
 ·subst h0
  exact ⟨none, 0, rfl, Nat.le_refl _, .inl rfl⟩
 ·refine ⟨some ⟨g, 0, none⟩, cap, rfl, hnc, .inr ⟨_, rfl, fun w' hb j hj i hi => ?_⟩⟩
  rw [<- zqe4];exact (zq50 hh (j * 32 + i) _ (zqle F j i hi n hj)).2 w' hb
theorem zqhg {W : World} {g n N : Nat} {f : Nat -> Int} {t : TypeId} {fr : Nat × Nat} {F : Nat -> Nat -> Int} (h : zqd W g = some (.cells (ints .u8 N f) t fr)) (hN : n * 32 <= N) (hf : ∀ j, j < n -> ∀ i, i < 32 -> f (j * 32 + i) = F j i) : K32At W (some ⟨g, 0, none⟩) n F := by
 refine .inr ⟨_, rfl, fun w' hb j hj i hi => ?_⟩;have h' := zqc hb h;unfold zqd at h';rw [<- zqe4, cell_of_row w' g _ _ _ _ h', zqal _ _ _ _ (by omega), hf j hj i hi]
theorem zqgm (a : Nat -> Int) (W : World) : (Instr.buildSlice 45 1 #[(0, .agg (ints .u8 32 a))]).run Tryz.prog W = .ok (.slice (some ⟨W.heap.size, 0, none⟩) 1 1) (W.alloc (.cells (ints .u8 32 a) 44)) := by kernel_rfl
theorem zrcd (a : Nat -> Int) (W : World) : (Instr.buildSlice 51 1 #[(0, .agg (ints .u8 32 a))]).run Tryz.prog W = .ok (.slice (some ⟨W.heap.size, 0, none⟩) 1 1) (W.alloc (.cells (ints .u8 32 a) 43)) := by kernel_rfl
def zqj1 (v : Value) : Sem Next := do pure (.value (<- Instr.buildSlice 45 1 #[(0, v)]))
def zqkf (u v : Value) : Sem Next := do pure (.value (<- Instr.buildSlice 45 2 #[(0, u), (1, v)]))
def zqkk (v : Value) : Sem Next := do pure (.value (<- Instr.buildSlice 51 1 #[(0, v)]))
@[go_sem ↓ high] theorem zqxs (ρ : Operand -> Value) (d : Option Tmp) (x : Operand) (t : TypeId) (pos : String) (af : Array Edge) (g : Option (Nat × Bool)) :
  execOp ρ ⟨d, .buildSlice 45 1 #[(0, x)], t, pos, af, g⟩ = zqj1 (ρ x) := by
 unfold execOp zqj1
 simp
@[go_sem high] theorem zrdm (ρ : Operand -> Value) (d : Option Tmp) (x : Operand) (t : TypeId) (pos : String) (af : Array Edge) (g : Option (Nat × Bool)) :
  execOp ρ ⟨d, .buildSlice 45 1 #[(0, x)], t, pos, af, g⟩ = zqj1 (ρ x) := zqxs ρ d x t pos af g
@[go_sem ↓ high] theorem zqzg (ρ : Operand -> Value) (d : Option Tmp) (x y : Operand) (t : TypeId) (pos : String) (af : Array Edge) (g : Option (Nat × Bool)) :
  execOp ρ ⟨d, .buildSlice 45 2 #[(0, x), (1, y)], t, pos, af, g⟩ = zqkf (ρ x) (ρ y) := by
 unfold execOp zqkf
 simp
@[go_sem high] theorem zrfd (ρ : Operand -> Value) (d : Option Tmp) (x y : Operand) (t : TypeId) (pos : String) (af : Array Edge) (g : Option (Nat × Bool)) :
  execOp ρ ⟨d, .buildSlice 45 2 #[(0, x), (1, y)], t, pos, af, g⟩ = zqkf (ρ x) (ρ y) := zqzg ρ d x y t pos af g
@[go_sem ↓ high] theorem zqzd (ρ : Operand -> Value) (d : Option Tmp) (x : Operand) (t : TypeId) (pos : String) (af : Array Edge) (g : Option (Nat × Bool)) :
  execOp ρ ⟨d, .buildSlice 51 1 #[(0, x)], t, pos, af, g⟩ = zqkk (ρ x) := by
 unfold execOp zqkk
 simp
@[go_sem high] theorem zrfm (ρ : Operand -> Value) (d : Option Tmp) (x : Operand) (t : TypeId) (pos : String) (af : Array Edge) (g : Option (Nat × Bool)) :
  execOp ρ ⟨d, .buildSlice 51 1 #[(0, x)], t, pos, af, g⟩ = zqkk (ρ x) := zqzd ρ d x t pos af g
@[go_sem] theorem zrd5 (a : Nat -> Int) (W : World) : (zqj1 (.agg (ints .u8 32 a))).run Tryz.prog W = .ok (.value (.slice (some ⟨W.heap.size, 0, none⟩) 1 1)) (W.alloc (.cells (ints .u8 32 a) 44)) := by
 unfold zqj1
 simp only [Sem.run_bind, zqgm, Result.andThen_ok, Sem.run_pure]
@[go_sem] theorem zrcl (a b : Nat -> Int) (W : World) : (zqkf (.agg (ints .u8 32 a)) (.agg (ints .u8 32 b))).run Tryz.prog W = .ok (.value (.slice (some ⟨W.heap.size, 0, none⟩) 2 2)) (W.alloc (.cells (ints .u8 64 (rowK (two a b))) 44)) := by
 unfold zqkf
 simp only [Sem.run_bind, zret, Result.andThen_ok, Sem.run_pure]
@[go_sem] theorem zrd4 (a : Nat -> Int) (W : World) : (zqkk (.agg (ints .u8 32 a))).run Tryz.prog W = .ok (.value (.slice (some ⟨W.heap.size, 0, none⟩) 1 1)) (W.alloc (.cells (ints .u8 32 a) 43)) := by
 unfold zqkk
 simp only [Sem.run_bind, zrcd, Result.andThen_ok, Sem.run_pure]
attribute [irreducible] zqj1 zqkf zqkk
@[go_sem ↓ high] theorem zrd6 (ty : TypeId) (cs : Array Bool) (args : Array Value) : builtin .append #[45, 45] ty cs args = zqw #[45, 45] ty args := by unfold zqw; rfl
@[go_sem ↓ high] theorem zrfj (ty : TypeId) (cs : Array Bool) (args : Array Value) : builtin .append #[51, 51] ty cs args = zqw #[51, 51] ty args := by unfold zqw; rfl
theorem zqyn {t e : TypeId} {i : TypeInfo} {z : Value} (ht : Tryz.prog.underlying t = some (.slice e)) (hi : Tryz.prog.info? e = some i) (hz : i.zero = some z) (hsize : i.size = 32) (hby : i.bytes = 32) (hzs : z.cells.size = 32)
  (w W : World) (base : Nat) (v : Value) (n : Nat) (F : Nat -> Nat -> Int) (g2 : Nat) (t2 : TypeId) (fr : Nat × Nat) (own : W.ownsRow base e 32 v n (k32L F n)) (hn : n <= 1048576)
  (hg2 : zqd W g2 = some (.cells (ints .u8 32 (F n)) t2 fr)) (hG : Below w.heap.size w W) (hwb : w.heap.size <= base) (hbW : base <= W.heap.size) :
  ∃ g cap w', (zqw #[t, t] t #[v, .slice (some ⟨g2, 0, none⟩) 1 1]).run Tryz.prog W = .ok (.value (.slice (some ⟨g, 0, none⟩) (n + 1) cap)) w' /\ w'.ownsRow base e 32 (.slice (some ⟨g, 0, none⟩) (n + 1) cap) (n + 1) (k32L F (n + 1)) /\
   Below w.heap.size w w' /\ (∀ m o, m < base -> zqd W m = some o -> zqd w' m = some o) := by
 obtain ⟨g, cap, w', hr, ho, hb, hk, _⟩ := zqfb 32 32 ht hi hz hsize hby hzs (by decide) (by decide) t w W base v n (k32L F n) ⟨g2, 0, none⟩ 1 1 (ints .u8 32 (F n)).toList own (by omega) (by decide) (by rw [Array.length_toList, zqj])
  (fun j x hx => by
   rw [<- zqe4 g2 j];unfold zqd at hg2;rw [cell_of_row W g2 j _ _ _ hg2];rw [Array.getElem?_toList] at hx;exact hx) (fun x hx => by
   have h1 := zqaz .u8 32 (F n);rw [Array.all_eq_true'] at h1;exact h1 x (by simpa using hx)) hG hwb hbW
 refine ⟨g, cap, w', hr, ?_, hb, hk⟩;rw [zqg3];exact ho
theorem zqop (w W : World) (base : Nat) (v : Value) (n : Nat) (F : Nat -> Nat -> Int) (g2 : Nat) (t2 : TypeId) (fr : Nat × Nat) (own : W.ownsRow base 44 32 v n (k32L F n)) (hn : n <= 1048576)
  (hg2 : zqd W g2 = some (.cells (ints .u8 32 (F n)) t2 fr)) (hG : Below w.heap.size w W) (hwb : w.heap.size <= base) (hbW : base <= W.heap.size) :
  ∃ g cap w', (zqw #[45, 45] 45 #[v, .slice (some ⟨g2, 0, none⟩) 1 1]).run Tryz.prog W = .ok (.value (.slice (some ⟨g, 0, none⟩) (n + 1) cap)) w' /\ w'.ownsRow base 44 32 (.slice (some ⟨g, 0, none⟩) (n + 1) cap) (n + 1) (k32L F (n + 1)) /\
   Below w.heap.size w w' /\ (∀ m o, m < base -> zqd W m = some o -> zqd w' m = some o) :=
 zqyn (i := (Tryz.prog.info? 44).get zqb) (z := ((Tryz.prog.info? 44).get zqb).zero.get zqb) Tryz.underlying45 zqb zqb zqb zqb zqb w W base v n F g2 t2 fr own hn hg2 hG hwb hbW
def zq3x (w : World) (n : Nat) (F : Nat -> Nat -> Int) (e : Ending) (w' : World) : Prop := ∃ oa c, e = .returned (.slice oa n c) /\ K32At w' oa n F /\ Below w.heap.size w w'
end Go.Proofs.YtnjghcnhcbobhaaGreatDoor
namespace Go.Proofs.YtnjghcnhcbobhaaGreatDoor
open Go.RowKit
def upOK (k p : Nat -> Int) : Bool := !decide (shV k p = 0)
def upF (k p : Nat -> Int) : Nat -> Int := if shV k p = 0 then zqe else zqds (keyV (shV k p))
theorem zqqh (k p : Nat -> Int) : Bytes 32 (upF k p) := by
 unfold upF
 split
 ·exact fun _ _ => ⟨Int.le_refl 0, by show (0 : Int) <= 255; decide⟩
 ·exact zqz8 _
def zqb8 (k : Nat -> Int) (P : Nat -> Nat -> Int) : Nat -> Nat -> Int
 | 0 => k
 | j + 1 => upF (zqb8 k P j) (P j)
def zqbt (k : Nat -> Int) (P : Nat -> Nat -> Int) : Nat -> Bool
 | 0 => true
 | j + 1 => zqbt k P j && upOK (zqb8 k P j) (P j)
theorem zqmk (k : Nat -> Int) (P : Nat -> Nat -> Int) (hk : Bytes 32 k) : ∀ j, Bytes 32 (zqb8 k P j)
 | 0 => hk
 | j + 1 => zqqh _ _
theorem zqr9 (k : Nat -> Int) (P : Nat -> Nat -> Int) {j : Nat} (h : zqbt k P j = false) : ∀ n, j <= n -> zqbt k P n = false
 | 0, hn => by obtain rfl : j = 0 := by omega
               exact h
 | n + 1, hn => by
  rcases (by omega : j = n + 1 \/ j <= n) with rfl | h'
  ·exact h
  ·show (zqbt k P n && _) = false
   rw [zqr9 k P h n h']
   rfl
def zqli (w : World) (k : Nat -> Int) (P : Nat -> Nat -> Int) (n : Nat) (e : Ending) (w' : World) : Prop :=
 Below w.heap.size w w' /\ ((zqbt k P n = true /\ ∃ oa c, e = .returned (.tuple #[.slice oa (n + 1) c, .bool true]) /\ n + 1 <= c /\ K32At w' oa (n + 1) (zqb8 k P)) \/ (zqbt k P n = false /\ e = .returned (.tuple #[.slice none 0 0, .bool false])))
@[go_sem] theorem zrg3 (w : World) : (zqb6 43).run Tryz.prog w = .ok (.value (.agg (ints .u8 32 zqe))) w := by kernel_rfl
attribute [local irreducible] zqds zqbw oneF macF shaF strOf keyV shV pubV
end Go.Proofs.YtnjghcnhcbobhaaGreatDoor
namespace Go.Proofs.YtnjghcnhcbobhaaGreatDoor
open Go.RowKit
attribute [local irreducible] zqds zqbw oneF macF shaF strOf keyV shV pubV upF upOK
end Go.Proofs.YtnjghcnhcbobhaaGreatDoor
