/- R12 -/
import Derived.Test.YtnjghcnhcbobhaaGreatDoorFrame
import Derived.Test.YtnjghcnhcbobhaaGreatDoorR11
import Derived.Test.YtnjghcnhcbobhaaGreatDoorR10
import Derived.Test.YtnjghcnhcbobhaaGreatDoorDh
import Derived.Test.YtnjghcnhcbobhaaGreatDoorRel
set_option linter.unusedVariables false
set_option linter.unusedSimpArgs false
set_option maxRecDepth 100000
set_option maxHeartbeats 4000000
namespace Go.Proofs.YtnjghcnhcbobhaaGreatDoor
open Go.ChangeShapes Go.WideShapes Go.ChangeAt Go.RowKit
def k32L (F : Nat -> Nat -> Int) (n : Nat) : List Value := (List.range n).flatMap fun j => (ints .u8 32 (F j)).toList
theorem zqgx (F : Nat -> Nat -> Int) (n : Nat) : k32L F (n + 1) = k32L F n ++ (ints .u8 32 (F n)).toList := by
 unfold k32L;rw [List.range_succ, List.flatMap_append]
 simp
theorem zqhf (F : Nat -> Nat -> Int) : ∀ n, (k32L F n).length = n * 32
 | 0 => rfl
 | n + 1 => by rw [zqgx, List.length_append, zqhf F n, Array.length_toList, zqj]; omega
theorem zqk0 (F : Nat -> Nat -> Int) (j i : Nat) (hi : i < 32) : ∀ n, j < n -> (k32L F n)[j * 32 + i]? = some (.int .u8 (F j i))
 | 0, h => by omega
 | n + 1, h => by
  rw [zqgx]
  rcases (by omega : j < n \/ j = n) with h' | rfl
  ·rw [List.getElem?_append_left (by rw [zqhf]; omega), zqk0 F j i hi n h']
  ·rw [List.getElem?_append_right (by rw [zqhf]; omega), zqhf, show j * 32 + i - j * 32 = i by omega, Array.getElem?_toList, zqao _ _ _ _ hi]
def K32At (w : World) (oa : Option Addr) (n : Nat) (F : Nat -> Nat -> Int) : Prop :=
 n = 0 \/ ∃ ad : Addr, oa = some ad /\ ∀ w', Below w.heap.size w w' -> ∀ j, j < n -> ∀ i, i < 32 -> w'.cell? (ad.add (j * 32 + i)) = some (.int .u8 (F j i))
theorem K32At.later {w w' : World} {oa : Option Addr} {n : Nat} {F : Nat -> Nat -> Int} (h : K32At w oa n F) (hb : Below w.heap.size w w') : K32At w' oa n F := by
 rcases h with h | ⟨ad, ho, hl⟩
 ·exact .inl h
 ·exact .inr ⟨ad, ho, fun w'' hb' => hl w'' (Grew.trans hb hb')⟩
theorem K32At.nil (w : World) (F : Nat -> Nat -> Int) : K32At w none 0 F := .inl rfl
theorem K32At.addr {w : World} {oa : Option Addr} {n : Nat} {F : Nat -> Nat -> Int} (h : K32At w oa n F) (hn : 0 < n) : ∃ ad, oa = some ad := by
 rcases h with h | ⟨ad, ho, _⟩
 ·omega
 ·exact ⟨ad, ho⟩
theorem K32At.at {w : World} {ad : Addr} {n : Nat} {F : Nat -> Nat -> Int} (h : K32At w (some ad) n F) {j : Nat} (hj : j < n) {w' : World} (hb : Below w.heap.size w w') : ∀ i, i < 32 -> w'.cell? ((ad.add (j * 32)).add i) = (ints .u8 32 (F j))[i]? := fun i hi => by
 rcases h with h | ⟨ad', ho, hl⟩
 ·omega
 ·cases ho
  rw [Go.Deep.add_add, hl w' hb j hj i hi, zqao _ _ _ _ hi]
theorem K32At.loadK {w : World} {ad : Addr} {n : Nat} {F : Nat -> Nat -> Int} (h : K32At w (some ad) n F) {j : Nat} (hj : j < n) {w' : World} (hb : Below w.heap.size w w') : (zqq 44 (.pointer (some (ad.add (j * 32))))).run Tryz.prog w' = .ok (.value (.agg (ints .u8 32 (F j)))) w' :=
 zqcw Tryz.underlying44 rfl zqc w' _ (ints .u8 32 (F j)) (zqj _ _ _) (h.at hj hb)
theorem K32At.loadB {w : World} {ad : Addr} {n : Nat} {F : Nat -> Nat -> Int} (h : K32At w (some ad) n F) {j : Nat} (hj : j < n) {w' : World} (hb : Below w.heap.size w w') : (zqq 43 (.pointer (some (ad.add (j * 32))))).run Tryz.prog w' = .ok (.value (.agg (ints .u8 32 (F j)))) w' :=
 zqcw Tryz.underlying43 rfl zqc w' _ (ints .u8 32 (F j)) (zqj _ _ _) (h.at hj hb)
theorem K32At.congr {w : World} {oa : Option Addr} {n : Nat} {F G : Nat -> Nat -> Int} (h : K32At w oa n F) (e : ∀ j, j < n -> F j = G j) : K32At w oa n G := by
 rcases h with h | ⟨ad, ho, hl⟩
 ·exact .inl h
 ·exact .inr ⟨ad, ho, fun w' hb j hj i hi => by rw [<- e j hj]; exact hl w' hb j hj i hi⟩
theorem zqey {w : World} {base n : Nat} {v : Value} {F : Nat -> Nat -> Int} {t : TypeId} (h : w.ownsRow base t 32 v n (k32L F n)) : ∃ oa c, v = .slice oa n c /\ n <= c /\ K32At w oa n F := by
 have hh := h
 rcases h.2 with ⟨rfl, h0⟩ | ⟨g, cap, cur, rfl, hb, hg, hnc, hcm, hcs, htake⟩
 ·subst h0
  exact ⟨none, 0, rfl, Nat.le_refl _, .inl rfl⟩
 ·refine ⟨some ⟨g, 0, none⟩, cap, rfl, hnc, .inr ⟨_, rfl, fun w' hb j hj i hi => ?_⟩⟩
  rw [<- zqdb];exact (zqo5 hh (j * 32 + i) _ (zqk0 F j i hi n hj)).2 w' hb
theorem zqtq {w : World} {base n : Nat} {v : Value} {F : Nat -> Nat -> Int} {t : TypeId} (h : w.ownsRow base t 32 v n (k32L F n)) {oa : Option Addr} {m c : Nat} (e : v = .slice oa m c) : ∀ ad, oa = some ad -> base <= ad.block := fun ad e1 => by
 subst e e1
 rcases h.2 with ⟨h1, _⟩ | ⟨g, cap, cur, h1, hb, hg, _⟩
 ·cases h1
 ·cases h1
  exact hb
theorem zqf4 {W : World} {g n N : Nat} {f : Nat -> Int} {t : TypeId} {fr : Nat × Nat} {F : Nat -> Nat -> Int} (h : zqd W g = some (.cells (ints .u8 N f) t fr)) (hN : n * 32 <= N) (hf : ∀ j, j < n -> ∀ i, i < 32 -> f (j * 32 + i) = F j i) : K32At W (some ⟨g, 0, none⟩) n F := by
 refine .inr ⟨_, rfl, fun w' hb j hj i hi => ?_⟩;have h' := zqb hb h;unfold zqd at h';rw [<- zqdb, cell_of_row w' g _ _ _ _ h', zqao _ _ _ _ (by omega), hf j hj i hi]
theorem zqh1 (a : Nat -> Int) (W : World) : (Instr.buildSlice 45 1 #[(0, .agg (ints .u8 32 a))]).run Tryz.prog W = .ok (.slice (some ⟨W.heap.size, 0, none⟩) 1 1) (W.alloc (.cells (ints .u8 32 a) 44)) := by kernel_rfl
theorem zqlo (a : Nat -> Int) (W : World) : (Instr.buildSlice 51 1 #[(0, .agg (ints .u8 32 a))]).run Tryz.prog W = .ok (.slice (some ⟨W.heap.size, 0, none⟩) 1 1) (W.alloc (.cells (ints .u8 32 a) 43)) := by kernel_rfl
def zqjp (v : Value) : Sem Next := do pure (.value (<- Instr.buildSlice 45 1 #[(0, v)]))
def zqja (u v : Value) : Sem Next := do pure (.value (<- Instr.buildSlice 45 2 #[(0, u), (1, v)]))
def zqj6 (v : Value) : Sem Next := do pure (.value (<- Instr.buildSlice 51 1 #[(0, v)]))
@[go_sem ↓ high] theorem zqy3 (ρ : Operand -> Value) (d : Option Tmp) (x : Operand) (t : TypeId) (pos : String) (af : Array Edge) (g : Option (Nat × Bool)) :
  execOp ρ ⟨d, .buildSlice 45 1 #[(0, x)], t, pos, af, g⟩ = zqjp (ρ x) := by
 unfold execOp zqjp
 simp
@[go_sem high] theorem zrek (ρ : Operand -> Value) (d : Option Tmp) (x : Operand) (t : TypeId) (pos : String) (af : Array Edge) (g : Option (Nat × Bool)) :
  execOp ρ ⟨d, .buildSlice 45 1 #[(0, x)], t, pos, af, g⟩ = zqjp (ρ x) := zqy3 ρ d x t pos af g
@[go_sem ↓ high] theorem zqxf (ρ : Operand -> Value) (d : Option Tmp) (x y : Operand) (t : TypeId) (pos : String) (af : Array Edge) (g : Option (Nat × Bool)) :
  execOp ρ ⟨d, .buildSlice 45 2 #[(0, x), (1, y)], t, pos, af, g⟩ = zqja (ρ x) (ρ y) := by
 unfold execOp zqja
 simp
@[go_sem high] theorem zrck (ρ : Operand -> Value) (d : Option Tmp) (x y : Operand) (t : TypeId) (pos : String) (af : Array Edge) (g : Option (Nat × Bool)) :
  execOp ρ ⟨d, .buildSlice 45 2 #[(0, x), (1, y)], t, pos, af, g⟩ = zqja (ρ x) (ρ y) := zqxf ρ d x y t pos af g
@[go_sem ↓ high] theorem zqxk (ρ : Operand -> Value) (d : Option Tmp) (x : Operand) (t : TypeId) (pos : String) (af : Array Edge) (g : Option (Nat × Bool)) :
  execOp ρ ⟨d, .buildSlice 51 1 #[(0, x)], t, pos, af, g⟩ = zqj6 (ρ x) := by
 unfold execOp zqj6
 simp
@[go_sem high] theorem zrem (ρ : Operand -> Value) (d : Option Tmp) (x : Operand) (t : TypeId) (pos : String) (af : Array Edge) (g : Option (Nat × Bool)) :
  execOp ρ ⟨d, .buildSlice 51 1 #[(0, x)], t, pos, af, g⟩ = zqj6 (ρ x) := zqxk ρ d x t pos af g
@[go_sem] theorem zrbu (a : Nat -> Int) (W : World) : (zqjp (.agg (ints .u8 32 a))).run Tryz.prog W = .ok (.value (.slice (some ⟨W.heap.size, 0, none⟩) 1 1)) (W.alloc (.cells (ints .u8 32 a) 44)) := by
 unfold zqjp
 simp only [Sem.run_bind, zqh1, Result.andThen_ok, Sem.run_pure]
@[go_sem] theorem zrbl (a b : Nat -> Int) (W : World) : (zqja (.agg (ints .u8 32 a)) (.agg (ints .u8 32 b))).run Tryz.prog W = .ok (.value (.slice (some ⟨W.heap.size, 0, none⟩) 2 2)) (W.alloc (.cells (ints .u8 64 (rowK (two a b))) 44)) := by
 unfold zqja
 simp only [Sem.run_bind, zrdq, Result.andThen_ok, Sem.run_pure]
@[go_sem] theorem zra4 (a : Nat -> Int) (W : World) : (zqj6 (.agg (ints .u8 32 a))).run Tryz.prog W = .ok (.value (.slice (some ⟨W.heap.size, 0, none⟩) 1 1)) (W.alloc (.cells (ints .u8 32 a) 43)) := by
 unfold zqj6
 simp only [Sem.run_bind, zqlo, Result.andThen_ok, Sem.run_pure]
attribute [irreducible] zqjp zqja zqj6
@[go_sem ↓ high] theorem zra7 (ty : TypeId) (cs : Array Bool) (args : Array Value) : builtin .append #[45, 45] ty cs args = zqt #[45, 45] ty args := by unfold zqt; rfl
@[go_sem ↓ high] theorem zrb3 (ty : TypeId) (cs : Array Bool) (args : Array Value) : builtin .append #[51, 51] ty cs args = zqt #[51, 51] ty args := by unfold zqt; rfl
theorem zqnq {t e : TypeId} {i : TypeInfo} {z : Value} (ht : Tryz.prog.underlying t = some (.slice e)) (hi : Tryz.prog.info? e = some i) (hz : i.zero = some z) (hsize : i.size = 32) (hby : i.bytes = 32) (hzs : z.cells.size = 32)
  (w W : World) (base : Nat) (v : Value) (n : Nat) (F : Nat -> Nat -> Int) (g2 : Nat) (t2 : TypeId) (fr : Nat × Nat) (own : W.ownsRow base e 32 v n (k32L F n)) (hn : n <= 1048576)
  (hg2 : zqd W g2 = some (.cells (ints .u8 32 (F n)) t2 fr)) (hG : Below w.heap.size w W) (hwb : w.heap.size <= base) (hbW : base <= W.heap.size) :
  ∃ g cap w', (zqt #[t, t] t #[v, .slice (some ⟨g2, 0, none⟩) 1 1]).run Tryz.prog W = .ok (.value (.slice (some ⟨g, 0, none⟩) (n + 1) cap)) w' /\ w'.ownsRow base e 32 (.slice (some ⟨g, 0, none⟩) (n + 1) cap) (n + 1) (k32L F (n + 1)) /\
   Below w.heap.size w w' /\ (∀ m o, m < base -> zqd W m = some o -> zqd w' m = some o) := by
 obtain ⟨g, cap, w', hr, ho, hb, hk, _⟩ := zqf9 32 32 ht hi hz hsize hby hzs (by decide) (by decide) t w W base v n (k32L F n) ⟨g2, 0, none⟩ 1 1 (ints .u8 32 (F n)).toList own (by omega) (by decide) (by rw [Array.length_toList, zqj])
  (fun j x hx => by
   rw [<- zqdb g2 j];unfold zqd at hg2;rw [cell_of_row W g2 j _ _ _ hg2];rw [Array.getElem?_toList] at hx;exact hx) (fun x hx => by
   have h1 := zqa3 .u8 32 (F n);rw [Array.all_eq_true'] at h1;exact h1 x (by simpa using hx)) hG hwb hbW
 refine ⟨g, cap, w', hr, ?_, hb, hk⟩;rw [zqgx];exact ho
theorem zqje (w W : World) (base : Nat) (v : Value) (n : Nat) (F : Nat -> Nat -> Int) (g2 : Nat) (t2 : TypeId) (fr : Nat × Nat) (own : W.ownsRow base 44 32 v n (k32L F n)) (hn : n <= 1048576)
  (hg2 : zqd W g2 = some (.cells (ints .u8 32 (F n)) t2 fr)) (hG : Below w.heap.size w W) (hwb : w.heap.size <= base) (hbW : base <= W.heap.size) :
  ∃ g cap w', (zqt #[45, 45] 45 #[v, .slice (some ⟨g2, 0, none⟩) 1 1]).run Tryz.prog W = .ok (.value (.slice (some ⟨g, 0, none⟩) (n + 1) cap)) w' /\ w'.ownsRow base 44 32 (.slice (some ⟨g, 0, none⟩) (n + 1) cap) (n + 1) (k32L F (n + 1)) /\
   Below w.heap.size w w' /\ (∀ m o, m < base -> zqd W m = some o -> zqd w' m = some o) :=
 zqnq (i := (Tryz.prog.info? 44).get zqc) (z := ((Tryz.prog.info? 44).get zqc).zero.get zqc) Tryz.underlying45 zqc zqc zqc zqc zqc w W base v n F g2 t2 fr own hn hg2 hG hwb hbW
theorem zqno (w W : World) (base : Nat) (v : Value) (n : Nat) (F : Nat -> Nat -> Int) (g2 : Nat) (t2 : TypeId) (fr : Nat × Nat) (own : W.ownsRow base 43 32 v n (k32L F n)) (hn : n <= 1048576)
  (hg2 : zqd W g2 = some (.cells (ints .u8 32 (F n)) t2 fr)) (hG : Below w.heap.size w W) (hwb : w.heap.size <= base) (hbW : base <= W.heap.size) :
  ∃ g cap w', (zqt #[51, 51] 51 #[v, .slice (some ⟨g2, 0, none⟩) 1 1]).run Tryz.prog W = .ok (.value (.slice (some ⟨g, 0, none⟩) (n + 1) cap)) w' /\ w'.ownsRow base 43 32 (.slice (some ⟨g, 0, none⟩) (n + 1) cap) (n + 1) (k32L F (n + 1)) /\
   Below w.heap.size w w' /\ (∀ m o, m < base -> zqd W m = some o -> zqd w' m = some o) :=
 zqnq (i := (Tryz.prog.info? 43).get zqc) (z := ((Tryz.prog.info? 43).get zqc).zero.get zqc) Tryz.underlying51 zqc zqc zqc zqc zqc w W base v n F g2 t2 fr own hn hg2 hG hwb hbW
def zqrv (w : World) (n : Nat) (F : Nat -> Nat -> Int) (e : Ending) (w' : World) : Prop := ∃ oa c, e = .returned (.slice oa n c) /\ K32At w' oa n F /\ Below w.heap.size w w'
end Go.Proofs.YtnjghcnhcbobhaaGreatDoor
namespace Go.Proofs.YtnjghcnhcbobhaaGreatDoor
open Go.RowKit
def upOK (k p : Nat -> Int) : Bool := !decide (shV k p = 0)
def upF (k p : Nat -> Int) : Nat -> Int := if shV k p = 0 then zqg else zqdj (keyV (shV k p))
theorem zqo6 (k p : Nat -> Int) : Bytes 32 (upF k p) := by
 unfold upF
 split
 ·exact fun _ _ => ⟨Int.le_refl 0, by show (0 : Int) <= 255; decide⟩
 ·exact zqy1 _
def zqce (k : Nat -> Int) (P : Nat -> Nat -> Int) : Nat -> Nat -> Int
 | 0 => k
 | j + 1 => upF (zqce k P j) (P j)
def zqbt (k : Nat -> Int) (P : Nat -> Nat -> Int) : Nat -> Bool
 | 0 => true
 | j + 1 => zqbt k P j && upOK (zqce k P j) (P j)
theorem zqln (k : Nat -> Int) (P : Nat -> Nat -> Int) (hk : Bytes 32 k) : ∀ j, Bytes 32 (zqce k P j)
 | 0 => hk
 | j + 1 => zqo6 _ _
theorem zqrx (k : Nat -> Int) (P : Nat -> Nat -> Int) {j : Nat} (h : zqbt k P j = false) : ∀ n, j <= n -> zqbt k P n = false
 | 0, hn => by obtain rfl : j = 0 := by omega
               exact h
 | n + 1, hn => by
  rcases (by omega : j = n + 1 \/ j <= n) with rfl | h'
  ·exact h
  ·show (zqbt k P n && _) = false
   rw [zqrx k P h n h']
   rfl
def zqk8 (w : World) (k : Nat -> Int) (P : Nat -> Nat -> Int) (n : Nat) (e : Ending) (w' : World) : Prop :=
 Below w.heap.size w w' /\ ((zqbt k P n = true /\ ∃ oa c, e = .returned (.tuple #[.slice oa (n + 1) c, .bool true]) /\ n + 1 <= c /\ K32At w' oa (n + 1) (zqce k P)) \/ (zqbt k P n = false /\ e = .returned (.tuple #[.slice none 0 0, .bool false])))
@[go_sem] theorem zrft (w : World) : (zqb8 43).run Tryz.prog w = .ok (.value (.agg (ints .u8 32 zqg))) w := by kernel_rfl
attribute [local irreducible] zqdj zqck oneF macF shaF strOf keyV shV pubV
theorem zqj2 (oa ob : Option Addr) (n c d : Nat) (F : Nat -> Nat -> Int) (w : World) (hn : n <= 1000) (hA : K32At w oa n F) (hB : K32At w ob n F) :
  Calls Tryz.prog 25 #[.slice oa n c, .slice ob n d] w (Rt w (.bool true)) := by
 have HA : Hid (K32At w oa n F) := hA;have HB : Hid (K32At w ob n F) := hB;clear hA hB
 go_enter Tryz.func25, Tryz.ntmps25
 go_wp2_with fail
 go_loopw [14, 5, 6] (fun i _ _ wr => ∃ j : Nat, j <= n /\ i = .int .i64 j /\ Below w.heap.size w wr) (fun i _ _ _ => n - (intOf i).toNat)
 case atStart => exact ⟨0, by omega, rfl, Grew.refl _⟩
 case round =>
  obtain ⟨j, hj, rfl, hM⟩ := hrel
  by_cases hlt : j < n
  ·obtain ⟨ad, rfl⟩ := HA.out.addr (by omega)
   obtain ⟨bd, rfl⟩ := HB.out.addr (by omega);have l1 := HA.out.loadK hlt hM;have l2 := fun q : More => HB.out.loadB hlt (Grew.more (Grew.alloc hM (.cells (ints .u8 32 (F j)) 44)) q);have hsm := zqdz 32 (F j);have hi1 : (j : Int) < (n : Int) := by omega
   have hi0 : (0 : Int) <= (j : Int) := by omega
   have hM1 : Below w.heap.size w (wr.alloc (.cells (ints .u8 32 (F j)) 44)) := Grew.alloc hM _;go_wp2_with fail;have fv : zqd (wr.alloc (.cells (ints .u8 32 (F j)) 44)) wr.heap.size = some (.cells (ints .u8 32 (F j)) 44) := zqf _ _ _ rfl;clear l1 hM;generalize wr.alloc (.cells (ints .u8 32 (F j)) 44) = w4 at *;generalize wr.heap.size = gv at *;have lfv := zqa fv
   ((first | (with_reducible refine zq5 zqc zqc ?_) | refine zqz zqc zqc ?_); (repeat (first | go_big_quiet_skip | (go_big_quiet_want; go_big_quiet_op; go_big_quiet_on))); refine wpQuiet_nil ?_; rintro _ ⟨mq, rfl⟩)
   have hM2 : Below w.heap.size w (more w4 mq) := Grew.more hM1 mq;clear l2;generalize more w4 mq = w5 at *;go_wp2
   go_roundw
   case rel => first | exact ⟨j + 1, by omega, by go_num, hM2⟩ | ((repeat' apply Exists.intro) <;> first | exact ⟨⟨j + 1, by omega, by go_num, hM2⟩, rfl⟩ | exact undef)
   case measure => (simp [intOf] <;> omega)
  ·obtain rfl : j = n := by omega
   go_wp2;go_ret;exact ⟨rfl, hM⟩
end Go.Proofs.YtnjghcnhcbobhaaGreatDoor
namespace Go.Proofs.YtnjghcnhcbobhaaGreatDoor
open Go.RowKit
attribute [local irreducible] zqdj zqck oneF macF shaF strOf keyV shV pubV upF upOK
end Go.Proofs.YtnjghcnhcbobhaaGreatDoor
