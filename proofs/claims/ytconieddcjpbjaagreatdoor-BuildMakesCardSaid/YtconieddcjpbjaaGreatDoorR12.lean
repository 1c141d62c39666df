/- R12 -/
import Derived.Test.YtconieddcjpbjaaGreatDoorElems
import Derived.Test.YtconieddcjpbjaaGreatDoorR11
import Derived.Test.YtconieddcjpbjaaGreatDoorR10
import Derived.Test.YtconieddcjpbjaaGreatDoorDh
import Derived.Test.YtconieddcjpbjaaGreatDoorRel
set_option maxRecDepth 100000
set_option maxHeartbeats 4000000
namespace Go.Proofs.YtconieddcjpbjaaGreatDoor
open Go.ChangeShapes Go.WideShapes Go.ChangeAt Go.RowKit
set_option linter.unusedVariables false
set_option linter.unusedSimpArgs false
def k32L (F : Nat → Nat → Int) (n : Nat) : List Value := (List.range n).flatMap fun j => (ints .u8 32 (F j)).toList
theorem zqgm (F : Nat → Nat → Int) (n : Nat) : k32L F (n + 1) = k32L F n ++ (ints .u8 32 (F n)).toList := by
 unfold k32L
 rw [List.range_succ, List.flatMap_append]
 simp
theorem zqg0 (F : Nat → Nat → Int) : ∀ n, (k32L F n).length = n * 32
 | 0 => rfl
 | n + 1 => by rw [zqgm, List.length_append, zqg0 F n, Array.length_toList, zqf]; omega
theorem zqkr (F : Nat → Nat → Int) (j i : Nat) (hi : i < 32) : ∀ n, j < n → (k32L F n)[j * 32 + i]? = some (.int .u8 (F j i))
 | 0, h => by omega
 | n + 1, h => by
  rw [zqgm]
  rcases (by omega : j < n ∨ j = n) with h' | rfl
  ·rw [List.getElem?_append_left (by rw [zqg0]; omega), zqkr F j i hi n h']
  ·rw [List.getElem?_append_right (by rw [zqg0]; omega), zqg0, show j * 32 + i - j * 32 = i by omega, Array.getElem?_toList, zqa0 _ _ _ _ hi]
def K32At (w : World) (oa : Option Addr) (n : Nat) (F : Nat → Nat → Int) : Prop :=
 n = 0 ∨ ∃ ad : Addr, oa = some ad ∧ ∀ w', Below w.heap.size w w' → ∀ j, j < n → ∀ i, i < 32 → w'.cell? (ad.add (j * 32 + i)) = some (.int .u8 (F j i))
theorem K32At.later {w w' : World} {oa : Option Addr} {n : Nat} {F : Nat → Nat → Int} (h : K32At w oa n F) (hb : Below w.heap.size w w') : K32At w' oa n F := by
 rcases h with h | ⟨ad, ho, hl⟩
 ·exact .inl h
 ·exact .inr ⟨ad, ho, fun w'' hb' => hl w'' (Grew.trans hb hb')⟩
theorem K32At.nil (w : World) (F : Nat → Nat → Int) : K32At w none 0 F := .inl rfl
theorem K32At.addr {w : World} {oa : Option Addr} {n : Nat} {F : Nat → Nat → Int} (h : K32At w oa n F) (hn : 0 < n) : ∃ ad, oa = some ad := by
 rcases h with h | ⟨ad, ho, _⟩
 ·omega
 ·exact ⟨ad, ho⟩
theorem K32At.at {w : World} {ad : Addr} {n : Nat} {F : Nat → Nat → Int} (h : K32At w (some ad) n F) {j : Nat} (hj : j < n) {w' : World} (hb : Below w.heap.size w w') : ∀ i, i < 32 → w'.cell? ((ad.add (j * 32)).add i) = (ints .u8 32 (F j))[i]? := fun i hi => by
 rcases h with h | ⟨ad', ho, hl⟩
 ·omega
 ·cases ho
  rw [Go.Deep.add_add, hl w' hb j hj i hi, zqa0 _ _ _ _ hi]
theorem K32At.loadK {w : World} {ad : Addr} {n : Nat} {F : Nat → Nat → Int} (h : K32At w (some ad) n F) {j : Nat} (hj : j < n) {w' : World} (hb : Below w.heap.size w w') : (zq0 24 (.pointer (some (ad.add (j * 32))))).run Tryz.prog w' = .ok (.value (.agg (ints .u8 32 (F j)))) w' :=
 zqd8 Tryz.underlying24 rfl (by kernel_rfl) w' _ (ints .u8 32 (F j)) (zqf _ _ _) (h.at hj hb)
theorem K32At.loadB {w : World} {ad : Addr} {n : Nat} {F : Nat → Nat → Int} (h : K32At w (some ad) n F) {j : Nat} (hj : j < n) {w' : World} (hb : Below w.heap.size w w') : (zq0 23 (.pointer (some (ad.add (j * 32))))).run Tryz.prog w' = .ok (.value (.agg (ints .u8 32 (F j)))) w' :=
 zqd8 Tryz.underlying23 rfl (by kernel_rfl) w' _ (ints .u8 32 (F j)) (zqf _ _ _) (h.at hj hb)
theorem K32At.congr {w : World} {oa : Option Addr} {n : Nat} {F G : Nat → Nat → Int} (h : K32At w oa n F) (e : ∀ j, j < n → F j = G j) : K32At w oa n G := by
 rcases h with h | ⟨ad, ho, hl⟩
 ·exact .inl h
 ·exact .inr ⟨ad, ho, fun w' hb j hj i hi => by rw [← e j hj]; exact hl w' hb j hj i hi⟩
theorem zqff {w : World} {base n : Nat} {v : Value} {F : Nat → Nat → Int} {t : TypeId} (h : w.ownsRow base t 32 v n (k32L F n)) : ∃ oa c, v = .slice oa n c ∧ n ≤ c ∧ K32At w oa n F := by
 have hh := h
 rcases h.2 with ⟨rfl, h0⟩ | ⟨g, cap, cur, rfl, hb, hg, hnc, hcm, hcs, htake⟩
 ·subst h0
  exact ⟨none, 0, rfl, Nat.le_refl _, .inl rfl⟩
 ·refine ⟨some ⟨g, 0, none⟩, cap, rfl, hnc, .inr ⟨_, rfl, fun w' hb j hj i hi => ?_⟩⟩
  rw [← zqch]
  exact (zqg7 hh (j * 32 + i) _ (zqkr F j i hi n hj)).2 w' hb
theorem zqvh {W : World} {g n N : Nat} {f : Nat → Int} {t : TypeId} {fr : Nat × Nat} {F : Nat → Nat → Int} (h : objAt W g = some (.cells (ints .u8 N f) t fr)) (hN : n * 32 ≤ N) (hf : ∀ j, j < n → ∀ i, i < 32 → f (j * 32 + i) = F j i) : K32At W (some ⟨g, 0, none⟩) n F := by
 refine .inr ⟨_, rfl, fun w' hb j hj i hi => ?_⟩
 have h' := zqb hb h
 unfold objAt at h'
 rw [← zqch, cell_of_row w' g _ _ _ _ h', zqa0 _ _ _ _ (by omega), hf j hj i hi]
theorem zqoy {H : Type} {enc : TypeId × Value → H} {W : World} {base : Nat} {sp : Nat → Bool} {held : Bool} {r : Reach} {b0 : Nat} {v : Value} {d : DataW H} {ps : List MemPlace}
  (hval : Value.okWide Tryz.prog W r b0 22 v) (hd : DataW.Trod enc Tryz.prog W base sp held 22 v d ps) :
  ∃ (oa : Option Addr) (n c : Nat) (F : Nat → Nat → Int), v = .slice oa n c ∧ n ≤ 9223372036854775807 ∧ (∀ i, i < n → Bytes 32 (F i)) ∧ K32At W oa n F := by
 obtain ⟨oa, n, c, F, hv, hm, hw, hF⟩ := open_rows (n := 32) (k := .u8) Tryz.underlying22 Tryz.underlying24 Tryz.underlying5 (by kernel_rfl) (by kernel_rfl) (Nat.zero_lt_succ 31) (zqmj Tryz.underlying22 hval) hd
 refine ⟨oa, n, c, F, hv, by unfold maxLen at hm; omega, fun i hi j hj => bounds_u8 (hw i hi j hj), ?_⟩
 rcases hF with h | ⟨a, ho, hc⟩
 ·exact .inl h
 ·refine .inr ⟨a, ho, fun w' hb j hj i hi => ?_⟩
  have h1 := hc j hj i hi
  rw [hb.cell (cell_lt h1)]
  exact h1
theorem zqst (a : Nat → Int) (W : World) : (Instr.buildSlice 22 1 #[(0, .agg (ints .u8 32 a))]).run Tryz.prog W = .ok (.slice (some ⟨W.heap.size, 0, none⟩) 1 1) (W.alloc (.cells (ints .u8 32 a) 24)) := by kernel_rfl
theorem build1r (a : Nat → Int) (W : World) : (Instr.buildSlice 36 1 #[(0, .agg (ints .u8 32 a))]).run Tryz.prog W = .ok (.slice (some ⟨W.heap.size, 0, none⟩) 1 1) (W.alloc (.cells (ints .u8 32 a) 23)) := by kernel_rfl
def zqjt (v : Value) : Sem Next := do pure (.value (← Instr.buildSlice 22 1 #[(0, v)]))
def zqjw (u v : Value) : Sem Next := do pure (.value (← Instr.buildSlice 22 2 #[(0, u), (1, v)]))
def zqjo (v : Value) : Sem Next := do pure (.value (← Instr.buildSlice 36 1 #[(0, v)]))
@[go_sem ↓ high] theorem zqvn (ρ : Operand → Value) (d : Option Tmp) (x : Operand) (t : TypeId) (pos : String) (af : Array Edge) (g : Option (Nat × Bool)) :
  execOp ρ ⟨d, .buildSlice 22 1 #[(0, x)], t, pos, af, g⟩ = zqjt (ρ x) := by
 unfold execOp zqjt
 simp
@[go_sem high] theorem op_buildK1' (ρ : Operand → Value) (d : Option Tmp) (x : Operand) (t : TypeId) (pos : String) (af : Array Edge) (g : Option (Nat × Bool)) :
  execOp ρ ⟨d, .buildSlice 22 1 #[(0, x)], t, pos, af, g⟩ = zqjt (ρ x) := zqvn ρ d x t pos af g
@[go_sem ↓ high] theorem zqv9 (ρ : Operand → Value) (d : Option Tmp) (x y : Operand) (t : TypeId) (pos : String) (af : Array Edge) (g : Option (Nat × Bool)) :
  execOp ρ ⟨d, .buildSlice 22 2 #[(0, x), (1, y)], t, pos, af, g⟩ = zqjw (ρ x) (ρ y) := by
 unfold execOp zqjw
 simp
@[go_sem high] theorem op_buildK2' (ρ : Operand → Value) (d : Option Tmp) (x y : Operand) (t : TypeId) (pos : String) (af : Array Edge) (g : Option (Nat × Bool)) :
  execOp ρ ⟨d, .buildSlice 22 2 #[(0, x), (1, y)], t, pos, af, g⟩ = zqjw (ρ x) (ρ y) := zqv9 ρ d x y t pos af g
@[go_sem ↓ high] theorem zqxm (ρ : Operand → Value) (d : Option Tmp) (x : Operand) (t : TypeId) (pos : String) (af : Array Edge) (g : Option (Nat × Bool)) :
  execOp ρ ⟨d, .buildSlice 36 1 #[(0, x)], t, pos, af, g⟩ = zqjo (ρ x) := by
 unfold execOp zqjo
 simp
@[go_sem high] theorem op_buildR1' (ρ : Operand → Value) (d : Option Tmp) (x : Operand) (t : TypeId) (pos : String) (af : Array Edge) (g : Option (Nat × Bool)) :
  execOp ρ ⟨d, .buildSlice 36 1 #[(0, x)], t, pos, af, g⟩ = zqjo (ρ x) := zqxm ρ d x t pos af g
@[go_sem] theorem run_buildK1 (a : Nat → Int) (W : World) : (zqjt (.agg (ints .u8 32 a))).run Tryz.prog W = .ok (.value (.slice (some ⟨W.heap.size, 0, none⟩) 1 1)) (W.alloc (.cells (ints .u8 32 a) 24)) := by
 unfold zqjt
 simp only [Sem.run_bind, zqst, Result.andThen_ok, Sem.run_pure]
@[go_sem] theorem run_buildK2 (a b : Nat → Int) (W : World) : (zqjw (.agg (ints .u8 32 a)) (.agg (ints .u8 32 b))).run Tryz.prog W = .ok (.value (.slice (some ⟨W.heap.size, 0, none⟩) 2 2)) (W.alloc (.cells (ints .u8 64 (rowK (two a b))) 24)) := by
 unfold zqjw
 simp only [Sem.run_bind, build2k, Result.andThen_ok, Sem.run_pure]
@[go_sem] theorem run_buildR1 (a : Nat → Int) (W : World) : (zqjo (.agg (ints .u8 32 a))).run Tryz.prog W = .ok (.value (.slice (some ⟨W.heap.size, 0, none⟩) 1 1)) (W.alloc (.cells (ints .u8 32 a) 23)) := by
 unfold zqjo
 simp only [Sem.run_bind, build1r, Result.andThen_ok, Sem.run_pure]
attribute [irreducible] zqjt zqjw zqjo
@[go_sem ↓ high] theorem append_keys (ty : TypeId) (cs : Array Bool) (args : Array Value) : builtin .append #[22, 22] ty cs args = zqx #[22, 22] ty args := by unfold zqx; rfl
@[go_sem ↓ high] theorem append_rows (ty : TypeId) (cs : Array Bool) (args : Array Value) : builtin .append #[36, 36] ty cs args = zqx #[36, 36] ty args := by unfold zqx; rfl
theorem zqnh {t e : TypeId} {i : TypeInfo} {z : Value} (ht : Tryz.prog.underlying t = some (.slice e)) (hi : Tryz.prog.info? e = some i) (hz : i.zero = some z) (hsize : i.size = 32) (hby : i.bytes = 32) (hzs : z.cells.size = 32)
  (w W : World) (base : Nat) (v : Value) (n : Nat) (F : Nat → Nat → Int) (g2 : Nat) (t2 : TypeId) (fr : Nat × Nat) (own : W.ownsRow base e 32 v n (k32L F n)) (hn : n ≤ 1048576)
  (hg2 : objAt W g2 = some (.cells (ints .u8 32 (F n)) t2 fr)) (hG : Below w.heap.size w W) (hwb : w.heap.size ≤ base) (hbW : base ≤ W.heap.size) :
  ∃ g cap w', (zqx #[t, t] t #[v, .slice (some ⟨g2, 0, none⟩) 1 1]).run Tryz.prog W = .ok (.value (.slice (some ⟨g, 0, none⟩) (n + 1) cap)) w' ∧ w'.ownsRow base e 32 (.slice (some ⟨g, 0, none⟩) (n + 1) cap) (n + 1) (k32L F (n + 1)) ∧
   Below w.heap.size w w' ∧ (∀ m o, m < base → objAt W m = some o → objAt w' m = some o) := by
 obtain ⟨g, cap, w', hr, ho, hb, hk, _⟩ := zqeu 32 32 ht hi hz hsize hby hzs (by decide) (by decide) t w W base v n (k32L F n) ⟨g2, 0, none⟩ 1 1 (ints .u8 32 (F n)).toList own (by omega) (by decide) (by rw [Array.length_toList, zqf])
  (fun j x hx => by
   rw [← zqch g2 j]
   unfold objAt at hg2
   rw [cell_of_row W g2 j _ _ _ hg2]
   rw [Array.getElem?_toList] at hx
   exact hx) (fun x hx => by
   have h1 := zq6 .u8 32 (F n)
   rw [Array.all_eq_true'] at h1
   exact h1 x (by simpa using hx)) hG hwb hbW
 refine ⟨g, cap, w', hr, ?_, hb, hk⟩
 rw [zqgm]
 exact ho
theorem zqwc (w W : World) (base : Nat) (v : Value) (n : Nat) (F : Nat → Nat → Int) (g2 : Nat) (t2 : TypeId) (fr : Nat × Nat) (own : W.ownsRow base 24 32 v n (k32L F n)) (hn : n ≤ 1048576)
  (hg2 : objAt W g2 = some (.cells (ints .u8 32 (F n)) t2 fr)) (hG : Below w.heap.size w W) (hwb : w.heap.size ≤ base) (hbW : base ≤ W.heap.size) :
  ∃ g cap w', (zqx #[22, 22] 22 #[v, .slice (some ⟨g2, 0, none⟩) 1 1]).run Tryz.prog W = .ok (.value (.slice (some ⟨g, 0, none⟩) (n + 1) cap)) w' ∧ w'.ownsRow base 24 32 (.slice (some ⟨g, 0, none⟩) (n + 1) cap) (n + 1) (k32L F (n + 1)) ∧
   Below w.heap.size w w' ∧ (∀ m o, m < base → objAt W m = some o → objAt w' m = some o) :=
 zqnh (i := (Tryz.prog.info? 24).get (by kernel_rfl)) (z := ((Tryz.prog.info? 24).get (by kernel_rfl)).zero.get (by kernel_rfl)) Tryz.underlying22 (by kernel_rfl) (by kernel_rfl) (by kernel_rfl) (by kernel_rfl) (by kernel_rfl) w W base v n F g2 t2 fr own hn hg2 hG hwb hbW
theorem zqjc (w W : World) (base : Nat) (v : Value) (n : Nat) (F : Nat → Nat → Int) (g2 : Nat) (t2 : TypeId) (fr : Nat × Nat) (own : W.ownsRow base 23 32 v n (k32L F n)) (hn : n ≤ 1048576)
  (hg2 : objAt W g2 = some (.cells (ints .u8 32 (F n)) t2 fr)) (hG : Below w.heap.size w W) (hwb : w.heap.size ≤ base) (hbW : base ≤ W.heap.size) :
  ∃ g cap w', (zqx #[36, 36] 36 #[v, .slice (some ⟨g2, 0, none⟩) 1 1]).run Tryz.prog W = .ok (.value (.slice (some ⟨g, 0, none⟩) (n + 1) cap)) w' ∧ w'.ownsRow base 23 32 (.slice (some ⟨g, 0, none⟩) (n + 1) cap) (n + 1) (k32L F (n + 1)) ∧
   Below w.heap.size w w' ∧ (∀ m o, m < base → objAt W m = some o → objAt w' m = some o) :=
 zqnh (i := (Tryz.prog.info? 23).get (by kernel_rfl)) (z := ((Tryz.prog.info? 23).get (by kernel_rfl)).zero.get (by kernel_rfl)) Tryz.underlying36 (by kernel_rfl) (by kernel_rfl) (by kernel_rfl) (by kernel_rfl) (by kernel_rfl) w W base v n F g2 t2 fr own hn hg2 hG hwb hbW
def zqde (w : World) (n : Nat) (F : Nat → Nat → Int) (e : Ending) (w' : World) : Prop := ∃ oa c, e = .returned (.slice oa n c) ∧ K32At w' oa n F ∧ Below w.heap.size w w'
end Go.Proofs.YtconieddcjpbjaaGreatDoor
namespace Go.Proofs.YtconieddcjpbjaaGreatDoor
open Go.RowKit
set_option linter.unusedVariables false
set_option linter.unusedSimpArgs false
def upOK (k p : Nat → Int) : Bool := !decide (shV k p = 0)
def upF (k p : Nat → Int) : Nat → Int := if shV k p = 0 then zqd else nodeF (keyV (shV k p))
theorem zqhz (k p : Nat → Int) : Bytes 32 (upF k p) := by
 unfold upF
 split
 ·exact fun _ _ => ⟨Int.le_refl 0, by show (0 : Int) ≤ 255; decide⟩
 ·exact zqw3 _
def zqci (k : Nat → Int) (P : Nat → Nat → Int) : Nat → Nat → Int
 | 0 => k
 | j + 1 => upF (zqci k P j) (P j)
def zqbu (k : Nat → Int) (P : Nat → Nat → Int) : Nat → Bool
 | 0 => true
 | j + 1 => zqbu k P j && upOK (zqci k P j) (P j)
theorem zqls (k : Nat → Int) (P : Nat → Nat → Int) (hk : Bytes 32 k) : ∀ j, Bytes 32 (zqci k P j)
 | 0 => hk
 | j + 1 => zqhz _ _
theorem zqrg (k : Nat → Int) (P : Nat → Nat → Int) {j : Nat} (h : zqbu k P j = false) : ∀ n, j ≤ n → zqbu k P n = false
 | 0, hn => by obtain rfl : j = 0 := by omega
               exact h
 | n + 1, hn => by
  rcases (by omega : j = n + 1 ∨ j ≤ n) with rfl | h'
  ·exact h
  ·show (zqbu k P n && _) = false
   rw [zqrg k P h n h']
   rfl
def zqir (w : World) (k : Nat → Int) (P : Nat → Nat → Int) (n : Nat) (e : Ending) (w' : World) : Prop :=
 Below w.heap.size w w' ∧ ((zqbu k P n = true ∧ ∃ oa c, e = .returned (.tuple #[.slice oa (n + 1) c, .bool true]) ∧ n + 1 ≤ c ∧ K32At w' oa (n + 1) (zqci k P)) ∨ (zqbu k P n = false ∧ e = .returned (.tuple #[.slice none 0 0, .bool false])))
def zqei : Prop := ∀ (k p : Nat → Int) (W : World), Bytes 32 k → Bytes 32 p → Calls Tryz.prog 91 #[.agg (ints .u8 32 k), .agg (ints .u8 32 p)] W fun e w' => e = .returned (.tuple #[.agg (ints .u8 32 (keyV (shV k p))), .bool (!decide (shV k p = 0))]) ∧ Below W.heap.size W w'
def zqi0 : Prop := ∀ (k : Nat → Int) (W : World), Bytes 32 k → Calls Tryz.prog 50 #[.agg (ints .u8 32 k)] W fun e w' => e = .returned (.agg (ints .u8 32 (keyV (pubV k)))) ∧ Below W.heap.size W w'
@[go_sem] theorem none_row32 (w : World) : (zqdp 23).run Tryz.prog w = .ok (.value (.agg (ints .u8 32 zqd))) w := by kernel_rfl
attribute [local irreducible] nodeF zqce oneF macF shaF strOf keyV shV pubV
theorem rup_any (hS : zqei) (k p : Nat → Int) (w : World) (hk : Bytes 32 k) (hp : Bytes 32 p) :
  Calls Tryz.prog 78 #[.agg (ints .u8 32 k), .agg (ints .u8 32 p)] w fun e w' => e = .returned (.tuple #[.agg (ints .u8 32 (upF k p)), .bool (upOK k p)]) ∧ Below w.heap.size w w' := by
 have c1 := fun W : World => hS k p W hk hp
 have c2 := fun W : World => rnode_any (keyV (shV k p)) W
 unfold upOK upF
 generalize keyV (shV k p) = Z at *
 clear hk hp hS
 by_cases hz : shV k p = 0
 ·rw [if_pos hz]
  rw [decide_eq_true hz] at c1 ⊢
  clear hz c2
  generalize shV k p = V at *
  have hG := Grew.refl w
  have fk : True := trivial
  have fp : True := trivial
  have fr : True := trivial
  go_enter Tryz.func78, Tryz.ntmps78
  go_wp2_with fail
  replace fk : objAt (((w.alloc (.cells (ints .u8 32 (k)) 23)).alloc (.cells (ints .u8 32 (p)) 23)).alloc (.cells (ints .u8 32 (zqd)) 23)) (w.heap.size) = some (.cells (ints .u8 32 (k)) 23) := by exact zqc
  replace fp : objAt (((w.alloc (.cells (ints .u8 32 (k)) 23)).alloc (.cells (ints .u8 32 (p)) 23)).alloc (.cells (ints .u8 32 (zqd)) 23)) (w.heap.size + 1) = some (.cells (ints .u8 32 (p)) 23) := by exact zqc
  replace fr : objAt (((w.alloc (.cells (ints .u8 32 (k)) 23)).alloc (.cells (ints .u8 32 (p)) 23)).alloc (.cells (ints .u8 32 (zqd)) 23)) (w.heap.size + 1 + 1) = some (.cells (ints .u8 32 (zqd)) 23) := by exact zqc
  replace hG : Below w.heap.size w (((w.alloc (.cells (ints .u8 32 (k)) 23)).alloc (.cells (ints .u8 32 (p)) 23)).alloc (.cells (ints .u8 32 (zqd)) 23)) := by exact zqe
  generalize ((w.alloc (.cells (ints .u8 32 (k)) 23)).alloc (.cells (ints .u8 32 (p)) 23)).alloc (.cells (ints .u8 32 (zqd)) 23) = w1 at *
  have lfk := zqa fk
  have lfp := zqa fp
  have lfr := zqa fr
  go_wp2_with fail
  (refine (c1 _).mono ?_; rintro e w2 ⟨rfl, hb⟩; replace fk : objAt w2 (w.heap.size) = some (.cells (ints .u8 32 (k)) 23) := zqb hb (by exact zqc); have lfk := zqa fk; replace fp : objAt w2 (w.heap.size + 1) = some (.cells (ints .u8 32 (p)) 23) := zqb hb (by exact zqc); have lfp := zqa fp; replace fr : objAt w2 (w.heap.size + 1 + 1) = some (.cells (ints .u8 32 (zqd)) 23) := zqb hb (by exact zqc); have lfr := zqa fr; replace hG : Below w.heap.size w w2 := Grew.trans (by exact zqe) hb; clear hb)
  have nr := zqa fr
  have nkr : w.heap.size + 1 + 1 < w2.heap.size := lfr
  go_wp2
  refine zqa6 rfl _ 23 (ints .u8 32 zqd) (0, 0) _ _ rfl rfl (by exact zqc) Tryz.underlying23 rfl (by rw [zqf]; kernel_rfl) rfl ⟨rfl, by exact zqe⟩
 ·rw [if_neg hz]
  rw [decide_eq_false hz] at c1 ⊢
  clear hz
  generalize shV k p = V at *
  generalize nodeF Z = N1 at *
  have hG := Grew.refl w
  have fk : True := trivial
  have fp : True := trivial
  have fr : True := trivial
  go_enter Tryz.func78, Tryz.ntmps78
  go_wp2_with fail
  replace fk : objAt (((w.alloc (.cells (ints .u8 32 (k)) 23)).alloc (.cells (ints .u8 32 (p)) 23)).alloc (.cells (ints .u8 32 (zqd)) 23)) (w.heap.size) = some (.cells (ints .u8 32 (k)) 23) := by exact zqc
  replace fp : objAt (((w.alloc (.cells (ints .u8 32 (k)) 23)).alloc (.cells (ints .u8 32 (p)) 23)).alloc (.cells (ints .u8 32 (zqd)) 23)) (w.heap.size + 1) = some (.cells (ints .u8 32 (p)) 23) := by exact zqc
  replace fr : objAt (((w.alloc (.cells (ints .u8 32 (k)) 23)).alloc (.cells (ints .u8 32 (p)) 23)).alloc (.cells (ints .u8 32 (zqd)) 23)) (w.heap.size + 1 + 1) = some (.cells (ints .u8 32 (zqd)) 23) := by exact zqc
  replace hG : Below w.heap.size w (((w.alloc (.cells (ints .u8 32 (k)) 23)).alloc (.cells (ints .u8 32 (p)) 23)).alloc (.cells (ints .u8 32 (zqd)) 23)) := by exact zqe
  generalize ((w.alloc (.cells (ints .u8 32 (k)) 23)).alloc (.cells (ints .u8 32 (p)) 23)).alloc (.cells (ints .u8 32 (zqd)) 23) = w1 at *
  have lfk := zqa fk
  have lfp := zqa fp
  have lfr := zqa fr
  go_wp2_with fail
  (refine (c1 _).mono ?_; rintro e w2 ⟨rfl, hb⟩; replace fk : objAt w2 (w.heap.size) = some (.cells (ints .u8 32 (k)) 23) := zqb hb (by exact zqc); have lfk := zqa fk; replace fp : objAt w2 (w.heap.size + 1) = some (.cells (ints .u8 32 (p)) 23) := zqb hb (by exact zqc); have lfp := zqa fp; replace fr : objAt w2 (w.heap.size + 1 + 1) = some (.cells (ints .u8 32 (zqd)) 23) := zqb hb (by exact zqc); have lfr := zqa fr; replace hG : Below w.heap.size w w2 := Grew.trans (by exact zqe) hb; clear hb)
  go_wp2_with fail
  have fz : objAt (w2.alloc (.cells (ints .u8 32 (Z)) 23)) w2.heap.size = some (.cells (ints .u8 32 (Z)) 23) := zqh _ _ _ rfl
  replace fk : objAt (w2.alloc (.cells (ints .u8 32 (Z)) 23)) (w.heap.size) = some (.cells (ints .u8 32 (k)) 23) := zqp _ fk
  replace fp : objAt (w2.alloc (.cells (ints .u8 32 (Z)) 23)) (w.heap.size + 1) = some (.cells (ints .u8 32 (p)) 23) := zqp _ fp
  replace fr : objAt (w2.alloc (.cells (ints .u8 32 (Z)) 23)) (w.heap.size + 1 + 1) = some (.cells (ints .u8 32 (zqd)) 23) := zqp _ fr
  replace hG : Below w.heap.size w (w2.alloc (.cells (ints .u8 32 (Z)) 23)) := Grew.alloc hG _
  clear lfk lfp lfr
  generalize w2.alloc (.cells (ints .u8 32 (Z)) 23) = w3 at *
  generalize w2.heap.size = gz at *
  have lfk := zqa fk
  have lfp := zqa fp
  have lfr := zqa fr
  have lfz := zqa fz
  go_wp2_with fail
  (refine (c2 _).mono ?_; rintro e w4 ⟨rfl, hb⟩; replace fk : objAt w4 (w.heap.size) = some (.cells (ints .u8 32 (k)) 23) := zqb hb (by exact zqc); have lfk := zqa fk; replace fp : objAt w4 (w.heap.size + 1) = some (.cells (ints .u8 32 (p)) 23) := zqb hb (by exact zqc); have lfp := zqa fp; replace fr : objAt w4 (w.heap.size + 1 + 1) = some (.cells (ints .u8 32 (zqd)) 23) := zqb hb (by exact zqc); have lfr := zqa fr; replace fz : objAt w4 (gz) = some (.cells (ints .u8 32 (Z)) 23) := zqb hb (by exact zqc); have lfz := zqa fz; replace hG : Below w.heap.size w w4 := Grew.trans (by exact zqe) hb; clear hb)
  go_wp2
  refine zqa6 rfl _ 23 (ints .u8 32 N1) (0, 0) _ _ rfl rfl (by exact zqc) Tryz.underlying23 rfl (by rw [zqf]; kernel_rfl) rfl ⟨rfl, by exact zqe⟩
theorem zqfe (oa ob : Option Addr) (n c d : Nat) (F : Nat → Nat → Int) (w : World) (hn : n ≤ 1000) (hA : K32At w oa n F) (hB : K32At w ob n F) :
  Calls Tryz.prog 19 #[.slice oa n c, .slice ob n d] w fun e w' => e = .returned (.bool true) ∧ Below w.heap.size w w' := by
 have HA : Hid (K32At w oa n F) := hA
 have HB : Hid (K32At w ob n F) := hB
 clear hA hB
 go_enter Tryz.func19, Tryz.ntmps19
 go_wp2_with fail
 go_loopw [14, 5, 6] (fun i _ _ wr => ∃ j : Nat, j ≤ n ∧ i = .int .i64 j ∧ Below w.heap.size w wr) (fun i _ _ _ => n - (intOf i).toNat)
 case atStart => exact ⟨0, by omega, rfl, Grew.refl _⟩
 case round =>
  obtain ⟨j, hj, rfl, hM⟩ := hrel
  by_cases hlt : j < n
  ·obtain ⟨ad, rfl⟩ := HA.out.addr (by omega)
   obtain ⟨bd, rfl⟩ := HB.out.addr (by omega)
   have l1 := HA.out.loadK hlt hM
   have l2 := fun q : More => HB.out.loadB hlt (Grew.more (Grew.alloc hM (.cells (ints .u8 32 (F j)) 24)) q)
   have hsm := zqb6 32 (F j)
   have hi1 : (j : Int) < (n : Int) := by omega
   have hi0 : (0 : Int) ≤ (j : Int) := by omega
   have hM1 : Below w.heap.size w (wr.alloc (.cells (ints .u8 32 (F j)) 24)) := Grew.alloc hM _
   go_wp2_with fail
   have fv : objAt (wr.alloc (.cells (ints .u8 32 (F j)) 24)) wr.heap.size = some (.cells (ints .u8 32 (F j)) 24) := zqh _ _ _ rfl
   clear l1 hM
   generalize wr.alloc (.cells (ints .u8 32 (F j)) 24) = w4 at *
   generalize wr.heap.size = gv at *
   have lfv := zqa fv
   ((first | (with_reducible refine zqw (by kernel_rfl) (by kernel_rfl) ?_) | refine zqs (by kernel_rfl) (by kernel_rfl) ?_); (repeat (first | go_big_quiet_skip | (go_big_quiet_want; go_big_quiet_op; first | go_big_quiet_on | (apply Exists.intro; refine ⟨fun _ => ?_, ?_⟩; (focus (fail)); go_big_quiet_on)))); refine wpQuiet_nil ?_; rintro _ ⟨mq, rfl⟩)
   have hM2 : Below w.heap.size w (more w4 mq) := Grew.more hM1 mq
   clear l2
   generalize more w4 mq = w5 at *
   go_wp2
   go_roundw
   case rel => first | exact ⟨j + 1, by omega, by go_num, hM2⟩ | ((repeat' apply Exists.intro) <;> first | exact ⟨⟨j + 1, by omega, by go_num, hM2⟩, rfl⟩ | exact undef)
   case measure => (simp [intOf] <;> omega)
  ·obtain rfl : j = n := by omega
   go_wp2
   go_ret
   exact ⟨rfl, hM⟩
end Go.Proofs.YtconieddcjpbjaaGreatDoor
namespace Go.Proofs.YtconieddcjpbjaaGreatDoor
open Go.RowKit
set_option linter.unusedVariables false
set_option linter.unusedSimpArgs false
theorem zqwr (k : Nat → Int) (P : Nat → Nat → Int) (j : Nat) : zqci k P (j + 1) = upF (zqci k P j) (P j) := rfl
theorem climb_yes {k : Nat → Int} {P : Nat → Nat → Int} {j : Nat} (h : zqbu k P j = true) : zqbu k P (j + 1) = upOK (zqci k P j) (P j) := by
 simp only [zqbu, h, Bool.true_and]
attribute [local irreducible] nodeF zqce oneF macF shaF strOf keyV shV pubV upF upOK
end Go.Proofs.YtconieddcjpbjaaGreatDoor
