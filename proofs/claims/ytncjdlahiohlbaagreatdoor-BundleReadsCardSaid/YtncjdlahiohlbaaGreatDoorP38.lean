/- Rows of prekeys: where they lie, how one is read, made, one more. -/
import Derived.Test.YtncjdlahiohlbaaGreatDoorR12
import Derived.Test.YtncjdlahiohlbaaGreatDoorR11
import Derived.Test.YtncjdlahiohlbaaGreatDoorFrame
import Derived.Test.YtncjdlahiohlbaaGreatDoorQ14
import Derived.Test.YtncjdlahiohlbaaGreatDoorC16
import Derived.Test.YtncjdlahiohlbaaGreatDoorTrk
import Derived.Test.YtncjdlahiohlbaaGreatDoorQ13
import Derived.Maps.OwnIn
import Derived.Test.YtncjdlahiohlbaaGreatDoorTb
import Derived.Test.YtncjdlahiohlbaaGreatDoorAw
import Derived.Test.YtncjdlahiohlbaaGreatDoorV14
import Derived.Test.YtncjdlahiohlbaaGreatDoorE15
set_option maxRecDepth 100000
set_option maxHeartbeats 4000000
namespace Go.Proofs.YtncjdlahiohlbaaGreatDoor
open Go.RowKit Go.Lib
set_option linter.unusedVariables false
set_option linter.unusedSimpArgs false
def pkC (i : Int) (k : Nat → Int) : Array Value := #[Value.int .u32 i] ++ ints .u8 32 k
@[go_sem] theorem pkC_size (i : Int) (k : Nat → Int) : (pkC i k).size = 33 := by simp [pkC, ints_size]
@[go_sem] theorem pkC_one (i : Int) (k : Nat → Int) : oneCells (pkC i k) = true := by
 have h2 := ints_one .u8 32 k
 unfold oneCells at *
 unfold pkC
 rw [Array.all_append, h2]
 simp [Value.oneCell']
theorem pkC_ones (i : Int) (k : Nat → Int) : (pkC i k).all (·.oneCell') = true := by
 have h := pkC_one i k
 unfold oneCells at h
 exact h
@[go_sem] theorem pkC_0 (i : Int) (k : Nat → Int) : (pkC i k)[0]? = some (.int .u32 i) := by
 unfold pkC
 rw [Array.getElem?_append_left (by simp)]
 simp
@[go_sem] theorem pkC_0' (i : Int) (k : Nat → Int) (h : 0 < (pkC i k).size) : (pkC i k)[0] = .int .u32 i := by
 have := pkC_0 i k
 rw [Array.getElem?_eq_getElem h] at this
 exact Option.some.inj this
theorem pkC_k (i : Int) (k : Nat → Int) (j : Nat) (h : j < 32) : (pkC i k)[1 + j]? = some (.int .u8 (k j)) := by
 unfold pkC
 rw [Array.getElem?_append_right (by simp), show 1 + j - (#[Value.int .u32 i] : Array Value).size = j by simp, ints_get _ _ _ _ h]
theorem pkC_ext (i : Int) (k : Nat → Int) : (pkC i k).extract 1 (1 + 32) = ints .u8 32 k := by
 apply Array.ext_getElem?
 intro j
 by_cases h : j < 32
 ·rw [ints_get _ _ _ _ h, Array.getElem?_extract, if_pos (by rw [pkC_size]; omega), pkC_k _ _ _ h]
 ·rw [Array.getElem?_eq_none (by simp [pkC_size]; omega), Array.getElem?_eq_none (by rw [ints_size]; omega)]
@[go_sem] theorem pkC_set (x : Int) (y : Nat → Int) (j : Nat) (v : Int) : (pkC x y).setIfInBounds (1 + j) (.int .u8 v) = pkC x (upd y j v) := by
 apply Array.ext_getElem?
 intro i
 rw [Array.getElem?_setIfInBounds]
 by_cases hi : i < 33
 ·rcases Nat.eq_zero_or_pos i with rfl | hp
  ·rw [if_neg (by omega), pkC_0, pkC_0]
  ·obtain ⟨q, rfl⟩ : ∃ q, i = 1 + q := ⟨i - 1, by omega⟩
   have hq : q < 32 := by omega
   rw [pkC_k _ _ _ hq, pkC_k _ _ _ hq]
   unfold upd
   by_cases e : q = j
   ·subst e
    rw [if_pos rfl, if_pos rfl, if_pos (by rw [pkC_size]; omega)]
   ·rw [if_neg (by omega), if_neg e]
 ·rw [Array.getElem?_eq_none (by rw [pkC_size]; omega), Array.getElem?_eq_none (by rw [pkC_size]; omega)]
  split
  ·rw [if_neg (by rw [pkC_size]; omega)]
  ·rfl
@[go_sem] theorem pkC_set' (x : Int) (y : Nat → Int) (j : Nat) (v : Int) : (pkC x y).setIfInBounds (j + 1) (.int .u8 v) = pkC x (upd y j v) := by rw [Nat.add_comm]; exact pkC_set x y j v
def pkL (I : Nat → Int) (K : Nat → Nat → Int) : Nat → List Value
 | 0 => []
 | n + 1 => pkL I K n ++ (pkC (I n) (K n)).toList
theorem pkL_len (I : Nat → Int) (K : Nat → Nat → Int) : ∀ n, (pkL I K n).length = n * 33
 | 0 => rfl
 | n + 1 => by
  show (pkL I K n ++ _).length = _
  rw [List.length_append, pkL_len I K n, Array.length_toList, pkC_size]
  omega
theorem pkL_get (I : Nat → Int) (K : Nat → Nat → Int) (j i : Nat) (hi : i < 33) : ∀ n, j < n → (pkL I K n)[j * 33 + i]? = (pkC (I j) (K j))[i]?
 | 0, h => absurd h (Nat.not_lt_zero _)
 | n + 1, h => by
  show (pkL I K n ++ _)[_]? = _
  by_cases hj : j < n
  ·rw [List.getElem?_append_left (by rw [pkL_len]; omega)]
   exact pkL_get I K j i hi n hj
  ·obtain rfl : j = n := by omega
   rw [List.getElem?_append_right (by rw [pkL_len]; omega), pkL_len, show j * 33 + i - j * 33 = i by omega, Array.getElem?_toList]
def PkAt (w : World) (oa : Option Addr) (n : Nat) (I : Nat → Int) (K : Nat → Nat → Int) : Prop :=
 n = 0 ∨ ∃ ad : Addr, oa = some ad ∧ ad.block < w.heap.size ∧ ∀ j, j < n → ∀ i, i < 33 → w.cell? ((ad.add (j * 33)).add i) = (pkC (I j) (K j))[i]?
theorem add_blk (ad : Addr) (i : Nat) : (ad.add i).block = ad.block := by unfold Addr.add; split <;> rfl
theorem PkAt.kept {B : Nat} {w w' : World} {oa : Option Addr} {n : Nat} {I : Nat → Int} {K : Nat → Nat → Int} (h : PkAt w oa n I K) (hb : Below B w w') (hB : ∀ ad, oa = some ad → ad.block < B) : PkAt w' oa n I K := by
 rcases h with h | ⟨ad, ho, hl, hc⟩
 ·exact .inl h
 ·have hlt := hB ad ho
  refine .inr ⟨ad, ho, Nat.lt_of_lt_of_le hl hb.size, fun j hj i hi => ?_⟩
  rw [hb.cell (by rw [add_blk, add_blk]; exact hlt)]
  exact hc j hj i hi
theorem PkAt.blk {w : World} {oa : Option Addr} {n : Nat} {I : Nat → Int} {K : Nat → Nat → Int} (h : PkAt w oa n I K) (hn : 0 < n) : ∃ ad, oa = some ad ∧ ad.block < w.heap.size := by
 rcases h with h | ⟨ad, ho, hl, _⟩
 ·omega
 ·exact ⟨ad, ho, hl⟩
theorem PkAt.later {w w' : World} {oa : Option Addr} {n : Nat} {I : Nat → Int} {K : Nat → Nat → Int} (h : PkAt w oa n I K) (hb : Below w.heap.size w w') : PkAt w' oa n I K := by
 have h0 := h
 rcases h with h | ⟨ad, ho, hl, hc⟩
 ·exact .inl h
 ·exact h0.kept hb fun ad' e => by cases ho.symm.trans e; exact hl
theorem PkAt.id {w : World} {ad : Addr} {n : Nat} {I : Nat → Int} {K : Nat → Nat → Int} (h : PkAt w (some ad) n I K) {j : Nat} (hj : j < n) : w.cell? (ad.add (j * 33)) = some (.int .u32 (I j)) := by
 rcases h with h | ⟨ad', ho, hl, hc⟩
 ·omega
 ·cases ho
  have := hc j hj 0 (by decide)
  rw [pkC_0] at this
  rw [← this]
  congr 1
theorem PkAt.aside {w : World} {oa : Option Addr} {n : Nat} {I : Nat → Int} {K : Nat → Nat → Int} (h : PkAt w oa n I K) (g : Nat) (hne : ∀ ad, oa = some ad → ad.block ≠ g) (cs : Array Value) : PkAt (w.setRow g cs) oa n I K := by
 rcases h with h | ⟨ad, ho, hl, hc⟩
 ·exact .inl h
 ·refine .inr ⟨ad, ho, by rw [size_setRow']; exact hl, fun j hj i hi => ?_⟩
  rw [cell_aside _ _ _ _ (by rw [add_blk, add_blk]; exact hne ad ho)]
  exact hc j hj i hi
theorem PkAt.nil (w : World) (oa : Option Addr) (I : Nat → Int) (K : Nat → Nat → Int) : PkAt w oa 0 I K := .inl rfl
theorem pk_of_own {w : World} {base n : Nat} {v : Value} {I : Nat → Int} {K : Nat → Nat → Int} {t : TypeId} (h : w.ownsRow base t 33 v n (pkL I K n)) : ∃ oa c, v = .slice oa n c ∧ n ≤ c ∧ PkAt w oa n I K ∧ (∀ ad, oa = some ad → base ≤ ad.block ∧ ad.block < w.heap.size) := by
 rcases h.2 with ⟨rfl, h0⟩ | ⟨g, cap, cur, rfl, hb, hg, hnc, hcm, hcs, htake⟩
 ·subst h0
  exact ⟨none, 0, rfl, Nat.le_refl _, .inl rfl, fun ad e => by cases e⟩
 ·refine ⟨_, _, rfl, hnc, .inr ⟨_, rfl, lt_of_objAt hg, fun j hj i hi => ?_⟩, fun ad e => by cases e; exact ⟨hb, lt_of_objAt hg⟩⟩
  have e1 : ((⟨g, 0, none⟩ : Addr).add (j * 33)).add i = ⟨g, j * 33 + i, none⟩ := by
   rw [Go.Deep.add_add]
   unfold Addr.add
   split <;> simp_all
  rw [e1, cell_of_row w g (j * 33 + i) _ _ _ hg, ← pkL_get I K j i hi n hj, ← htake, List.getElem?_take, if_pos (by omega), Array.getElem?_toList]
def Twice (I : Nat → Int) (n : Nat) : Prop := ∃ i, i < n ∧ ∃ k, k < i ∧ I i = I k
open Classical in
noncomputable def dupE (I : Nat → Int) (n : Nat) : Int := if Twice I n then 17 else 0
theorem dupE_yes {I : Nat → Int} {n : Nat} (h : Twice I n) : dupE I n = 17 := if_pos h
theorem dupE_no {I : Nat → Int} {n : Nat} (h : ¬ Twice I n) : dupE I n = 0 := if_neg h
def BunAt (w : World) (v : Value) (nm : Int) (n : Nat) (I : Nat → Int) (K : Nat → Nat → Int) : Prop := ∃ oa c, v = .agg #[.int .u32 nm, .slice oa n c] ∧ PkAt w oa n I K
theorem BunAt.later {w w' : World} {v : Value} {nm : Int} {n : Nat} {I : Nat → Int} {K : Nat → Nat → Int} (h : BunAt w v nm n I K) (hb : Below w.heap.size w w') : BunAt w' v nm n I K := by
 obtain ⟨oa, c, e, hp⟩ := h
 exact ⟨oa, c, e, hp.later hb⟩
theorem own_blk {w : World} {base size n : Nat} {e : TypeId} {v : Value} {xs : List Value} (h : w.ownsRow base e size v n xs) : ∀ r, v.ownBlock = some r → base ≤ r ∧ ∃ cs, objAt w r = some (.cells cs e) := fun r hr => by
 rcases h.2 with ⟨rfl, _⟩ | ⟨g, cap, cur, rfl, hb, hg, _⟩
 ·cases hr
 ·cases hr
  exact ⟨hb, cur, hg⟩
theorem PkAt.load_pk {w : World} {ad : Addr} {n : Nat} {I : Nat → Int} {K : Nat → Nat → Int} (h : PkAt w (some ad) n I K) {j : Nat} (hj : j < n) : (loadNext 150 (.pointer (some (ad.add (j * 33))))).run Tryz.prog w = .ok (.value (.agg (pkC (I j) (K j)))) w := by
 rcases h with h | ⟨ad', ho, hl, hc⟩
 ·omega
 ·cases ho
  exact run_load_row Tryz.underlying150 rfl (by kernel_rfl) w _ _ (pkC_size _ _) (hc j hj)
@[go_sem ↓ high] theorem load_pk (ρ : Operand → Value) (d : Option Tmp) (x : Operand) (t : TypeId) (pos : String) (af : Array Edge) (g : Option (Nat × Bool)) :
  execOp ρ ⟨d, .load 150 x, t, pos, af, g⟩ = loadNext 150 (ρ x) := op_load _ ρ d x t pos af g
@[go_sem high] theorem load_pk' (ρ : Operand → Value) (d : Option Tmp) (x : Operand) (t : TypeId) (pos : String) (af : Array Edge) (g : Option (Nat × Bool)) :
  execOp ρ ⟨d, .load 150 x, t, pos, af, g⟩ = loadNext 150 (ρ x) := op_load _ ρ d x t pos af g
@[go_sem] theorem load_pk_at (g : Nat) (w : World) : (loadNext 150 (.pointer (some ⟨g, 0, none⟩))).run Tryz.prog w = (loadOf Tryz.prog 150 g 33 w (objAt w g)).andThen fun v w' => .ok (.value v) w' := by
 rw [run_loadNext, loadRow_eq Tryz.underlying150 rfl (by kernel_rfl) g w]
@[go_sem] theorem load_pk_of (g : Nat) (w : World) (cs : Array Value) (t' : TypeId) (fr : Nat × Nat) (h : cs.size = 33) : loadOf Tryz.prog 150 g 33 w (some (.cells cs t' fr)) = .ok (.agg cs) w := loadOf_cells cs t' fr h
@[go_sem ↓ high] theorem store_pk (ρ : Operand → Value) (d : Option Tmp) (x y : Operand) (t : TypeId) (pos : String) (af : Array Edge) (g : Option (Nat × Bool)) :
  execOp ρ ⟨d, .store 150 x y, t, pos, af, g⟩ = storeNext 150 (ρ x) (ρ y) := op_store _ ρ d x y t pos af g
@[go_sem high] theorem store_pk' (ρ : Operand → Value) (d : Option Tmp) (x y : Operand) (t : TypeId) (pos : String) (af : Array Edge) (g : Option (Nat × Bool)) :
  execOp ρ ⟨d, .store 150 x y, t, pos, af, g⟩ = storeNext 150 (ρ x) (ρ y) := op_store _ ρ d x y t pos af g
@[go_sem] theorem store_pk_at (g : Nat) (cs : Array Value) (w : World) : (storeNext 150 (.pointer (some ⟨g, 0, none⟩)) (.agg cs)).run Tryz.prog w = (storeOf Tryz.prog 150 g 33 (.agg cs) w (objAt w g)).andThen fun _ w' => .ok .skip w' := by
 rw [run_storeNext, storeRow_eq (by kernel_rfl) g cs w]
@[go_sem] theorem store_pk_of (g : Nat) (w : World) (old cs : Array Value) (t' : TypeId) (h1 : old.size = 33) (h2 : cs.size = 33) (h3 : oneCells cs = true) :
  storeOf Tryz.prog 150 g 33 (.agg cs) w (some (.cells old t' (0, 0))) = .ok () (w.setRow g cs) := storeOf_cells old cs t' h1 h2 h3
@[go_sem high] theorem zero_pk' (w : World) : (zeroValue 150).run Tryz.prog w = .ok (.agg (pkC 0 nought)) w := by kernel_rfl
@[go_sem ↓ high] theorem zero_pk (w : World) : (zeroValue 150).run Tryz.prog w = .ok (.agg (pkC 0 nought)) w := by kernel_rfl
@[go_sem] theorem none_pk (w : World) : (noneNext 150).run Tryz.prog w = .ok (.value (.agg (pkC 0 nought))) w := by kernel_rfl
def pkNext (a b : Value) : Sem Next := do pure (.value (← Instr.build 150 #[(0, a), (1, b)]))
@[go_sem ↓ high] theorem op_pk (ρ : Operand → Value) (dd : Option Tmp) (a b : Operand) (t : TypeId) (pos : String) (af : Array Edge) (gg : Option (Nat × Bool)) :
  execOp ρ ⟨dd, .build 150 #[(0, a), (1, b)], t, pos, af, gg⟩ = pkNext (ρ a) (ρ b) := by simp [execOp, pkNext]
@[go_sem high] theorem op_pk' (ρ : Operand → Value) (dd : Option Tmp) (a b : Operand) (t : TypeId) (pos : String) (af : Array Edge) (gg : Option (Nat × Bool)) :
  execOp ρ ⟨dd, .build 150 #[(0, a), (1, b)], t, pos, af, gg⟩ = pkNext (ρ a) (ρ b) := by simp [execOp, pkNext]
theorem run_pk (a : Int) (k : Nat → Int) (w : World) : (Instr.build 150 #[(0, .int .u32 a), (1, .agg (ints .u8 32 k))]).run Tryz.prog w = .ok (.agg (pkC a k)) w := by kernel_rfl
@[go_sem] theorem run_pkNext (a : Int) (k : Nat → Int) (w : World) : (pkNext (.int .u32 a) (.agg (ints .u8 32 k))).run Tryz.prog w = .ok (.value (.agg (pkC a k))) w := by
 unfold pkNext
 rw [Sem.run_bind, run_pk]
 rfl
theorem build1_pk (a : Int) (k : Nat → Int) (W : World) : (Instr.buildSlice 69 1 #[(0, .agg (pkC a k))]).run Tryz.prog W = .ok (.slice (some ⟨W.heap.size, 0, none⟩) 1 1) (W.alloc (.cells (pkC a k) 150)) := by kernel_rfl
def pkB1 (v : Value) : Sem Next := do pure (.value (← Instr.buildSlice 69 1 #[(0, v)]))
@[go_sem ↓ high] theorem op_pkB1 (ρ : Operand → Value) (d : Option Tmp) (x : Operand) (t : TypeId) (pos : String) (af : Array Edge) (g : Option (Nat × Bool)) :
  execOp ρ ⟨d, .buildSlice 69 1 #[(0, x)], t, pos, af, g⟩ = pkB1 (ρ x) := by
 unfold execOp pkB1
 simp
@[go_sem high] theorem op_pkB1' (ρ : Operand → Value) (d : Option Tmp) (x : Operand) (t : TypeId) (pos : String) (af : Array Edge) (g : Option (Nat × Bool)) :
  execOp ρ ⟨d, .buildSlice 69 1 #[(0, x)], t, pos, af, g⟩ = pkB1 (ρ x) := op_pkB1 ρ d x t pos af g
@[go_sem] theorem run_pkB1 (a : Int) (k : Nat → Int) (W : World) : (pkB1 (.agg (pkC a k))).run Tryz.prog W = .ok (.value (.slice (some ⟨W.heap.size, 0, none⟩) 1 1)) (W.alloc (.cells (pkC a k) 150)) := by
 unfold pkB1
 simp only [Sem.run_bind, build1_pk, Result.andThen_ok, Sem.run_pure]
@[go_sem ↓ high] theorem append_pks (ty : TypeId) (cs : Array Bool) (args : Array Value) : builtin .append #[69, 69] ty cs args = appendNext #[69, 69] ty args := by unfold appendNext; rfl
theorem append_pkG (W : World) (base : Nat) (v : Value) (n : Nat) (I : Nat → Int) (K : Nat → Nat → Int) (g2 : Nat) (t2 : TypeId) (fr : Nat × Nat) (own : W.ownsRow base 150 33 v n (pkL I K n)) (hn : n ≤ 1048576)
  (hg2 : objAt W g2 = some (.cells (pkC (I n) (K n)) t2 fr)) (hbW : base ≤ W.heap.size) :
  ∃ g cap w', (appendNext #[69, 69] 69 #[v, .slice (some ⟨g2, 0, none⟩) 1 1]).run Tryz.prog W = .ok (.value (.slice (some ⟨g, 0, none⟩) (n + 1) cap)) w' ∧ w'.ownsRow base 150 33 (.slice (some ⟨g, 0, none⟩) (n + 1) cap) (n + 1) (pkL I K (n + 1)) ∧ W.grownBy w' v.ownBlock := by
 obtain ⟨g, cap, w', hr, ho, hg, _, _⟩ := run_append_lies (P := Tryz.prog) W 69 69 base 150 ((Tryz.prog.info? 150).get (by kernel_rfl)) (((Tryz.prog.info? 150).get (by kernel_rfl)).zero.get (by kernel_rfl)) 33 36 Tryz.underlying69 (by kernel_rfl) (by kernel_rfl) (by kernel_rfl) (by kernel_rfl) (by kernel_rfl) (by decide) v n (pkL I K n) own ⟨g2, 0, none⟩ 1 1 (pkC (I n) (K n)).toList (by rw [Array.length_toList, pkC_size])
  (fun j u hu => by
   rw [Array.getElem?_toList] at hu
   have hadd : (⟨g2, 0, none⟩ : Addr).add j = ⟨g2, j, none⟩ := by unfold Addr.add; split <;> simp_all
   rw [hadd, cell_of_row W g2 j _ _ _ hg2]
   exact hu)
  (fun u hu => by
   have h1 := pkC_ones (I n) (K n)
   rw [Array.all_eq_true'] at h1
   exact h1 u (by simpa using hu)) (by decide) (by unfold maxLen; omega) (by omega) hbW W.heap.size rfl
 exact ⟨g, cap, w', by unfold appendNext; simp only [Sem.run_bind, hr, Result.andThen_ok, Sem.run_pure], ho, hg⟩
theorem append_pk (w W : World) (base : Nat) (v : Value) (n : Nat) (I : Nat → Int) (K : Nat → Nat → Int) (g2 : Nat) (t2 : TypeId) (fr : Nat × Nat) (own : W.ownsRow base 150 33 v n (pkL I K n)) (hn : n ≤ 1048576)
  (hg2 : objAt W g2 = some (.cells (pkC (I n) (K n)) t2 fr)) (hG : Below w.heap.size w W) (hwb : w.heap.size ≤ base) (hbW : base ≤ W.heap.size) :
  ∃ g cap w', (appendNext #[69, 69] 69 #[v, .slice (some ⟨g2, 0, none⟩) 1 1]).run Tryz.prog W = .ok (.value (.slice (some ⟨g, 0, none⟩) (n + 1) cap)) w' ∧ w'.ownsRow base 150 33 (.slice (some ⟨g, 0, none⟩) (n + 1) cap) (n + 1) (pkL I K (n + 1)) ∧
   Below w.heap.size w w' ∧ (∀ m o, m < base → objAt W m = some o → objAt w' m = some o) := by
 obtain ⟨g, cap, w', hr, ho, hb, hk, _⟩ := append_part (i := (Tryz.prog.info? 150).get (by kernel_rfl)) (z := ((Tryz.prog.info? 150).get (by kernel_rfl)).zero.get (by kernel_rfl)) 33 36 Tryz.underlying69 (by kernel_rfl) (by kernel_rfl) (by kernel_rfl) (by kernel_rfl) (by kernel_rfl) (by decide) (by decide) 69 w W base v n (pkL I K n) ⟨g2, 0, none⟩ 1 1 (pkC (I n) (K n)).toList own (by omega) (by decide) (by rw [Array.length_toList, pkC_size])
  (fun j u hu => by
   rw [Array.getElem?_toList] at hu
   have hadd : (⟨g2, 0, none⟩ : Addr).add j = ⟨g2, j, none⟩ := by unfold Addr.add; split <;> simp_all
   rw [hadd, cell_of_row W g2 j _ _ _ hg2]
   exact hu)
  (fun u hu => by
   have h1 := pkC_ones (I n) (K n)
   rw [Array.all_eq_true'] at h1
   exact h1 u (by simpa using hu)) hG hwb hbW
 exact ⟨g, cap, w', hr, ho, hb, hk⟩
theorem PkAt.load_rpk {w : World} {ad : Addr} {n : Nat} {I : Nat → Int} {K : Nat → Nat → Int} (h : PkAt w (some ad) n I K) {j : Nat} (hj : j < n) : (loadNext 147 (.pointer (some (ad.add (j * 33))))).run Tryz.prog w = .ok (.value (.agg (pkC (I j) (K j)))) w := by
 rcases h with h | ⟨ad', ho, hl, hc⟩
 ·omega
 ·cases ho
  exact run_load_row Tryz.underlying147 rfl (by kernel_rfl) w _ _ (pkC_size _ _) (hc j hj)
@[go_sem ↓ high] theorem load_rpk (ρ : Operand → Value) (d : Option Tmp) (x : Operand) (t : TypeId) (pos : String) (af : Array Edge) (g : Option (Nat × Bool)) :
  execOp ρ ⟨d, .load 147 x, t, pos, af, g⟩ = loadNext 147 (ρ x) := op_load _ ρ d x t pos af g
@[go_sem high] theorem load_rpk' (ρ : Operand → Value) (d : Option Tmp) (x : Operand) (t : TypeId) (pos : String) (af : Array Edge) (g : Option (Nat × Bool)) :
  execOp ρ ⟨d, .load 147 x, t, pos, af, g⟩ = loadNext 147 (ρ x) := op_load _ ρ d x t pos af g
@[go_sem] theorem load_rpk_at (g : Nat) (w : World) : (loadNext 147 (.pointer (some ⟨g, 0, none⟩))).run Tryz.prog w = (loadOf Tryz.prog 147 g 33 w (objAt w g)).andThen fun v w' => .ok (.value v) w' := by
 rw [run_loadNext, loadRow_eq Tryz.underlying147 rfl (by kernel_rfl) g w]
@[go_sem] theorem load_rpk_of (g : Nat) (w : World) (cs : Array Value) (t' : TypeId) (fr : Nat × Nat) (h : cs.size = 33) : loadOf Tryz.prog 147 g 33 w (some (.cells cs t' fr)) = .ok (.agg cs) w := loadOf_cells cs t' fr h
@[go_sem ↓ high] theorem store_rpk (ρ : Operand → Value) (d : Option Tmp) (x y : Operand) (t : TypeId) (pos : String) (af : Array Edge) (g : Option (Nat × Bool)) :
  execOp ρ ⟨d, .store 147 x y, t, pos, af, g⟩ = storeNext 147 (ρ x) (ρ y) := op_store _ ρ d x y t pos af g
@[go_sem high] theorem store_rpk' (ρ : Operand → Value) (d : Option Tmp) (x y : Operand) (t : TypeId) (pos : String) (af : Array Edge) (g : Option (Nat × Bool)) :
  execOp ρ ⟨d, .store 147 x y, t, pos, af, g⟩ = storeNext 147 (ρ x) (ρ y) := op_store _ ρ d x y t pos af g
@[go_sem] theorem store_rpk_at (g : Nat) (cs : Array Value) (w : World) : (storeNext 147 (.pointer (some ⟨g, 0, none⟩)) (.agg cs)).run Tryz.prog w = (storeOf Tryz.prog 147 g 33 (.agg cs) w (objAt w g)).andThen fun _ w' => .ok .skip w' := by
 rw [run_storeNext, storeRow_eq (by kernel_rfl) g cs w]
@[go_sem] theorem store_rpk_of (g : Nat) (w : World) (old cs : Array Value) (t' : TypeId) (h1 : old.size = 33) (h2 : cs.size = 33) (h3 : oneCells cs = true) :
  storeOf Tryz.prog 147 g 33 (.agg cs) w (some (.cells old t' (0, 0))) = .ok () (w.setRow g cs) := storeOf_cells old cs t' h1 h2 h3
@[go_sem high] theorem zero_rpk' (w : World) : (zeroValue 147).run Tryz.prog w = .ok (.agg (pkC 0 nought)) w := by kernel_rfl
@[go_sem ↓ high] theorem zero_rpk (w : World) : (zeroValue 147).run Tryz.prog w = .ok (.agg (pkC 0 nought)) w := by kernel_rfl
@[go_sem] theorem none_rpk (w : World) : (noneNext 147).run Tryz.prog w = .ok (.value (.agg (pkC 0 nought))) w := by kernel_rfl
def rpkNext (a b : Value) : Sem Next := do pure (.value (← Instr.build 147 #[(0, a), (1, b)]))
@[go_sem ↓ high] theorem op_rpk (ρ : Operand → Value) (dd : Option Tmp) (a b : Operand) (t : TypeId) (pos : String) (af : Array Edge) (gg : Option (Nat × Bool)) :
  execOp ρ ⟨dd, .build 147 #[(0, a), (1, b)], t, pos, af, gg⟩ = rpkNext (ρ a) (ρ b) := by simp [execOp, rpkNext]
@[go_sem high] theorem op_rpk' (ρ : Operand → Value) (dd : Option Tmp) (a b : Operand) (t : TypeId) (pos : String) (af : Array Edge) (gg : Option (Nat × Bool)) :
  execOp ρ ⟨dd, .build 147 #[(0, a), (1, b)], t, pos, af, gg⟩ = rpkNext (ρ a) (ρ b) := by simp [execOp, rpkNext]
theorem run_rpk (a : Int) (k : Nat → Int) (w : World) : (Instr.build 147 #[(0, .int .u32 a), (1, .agg (ints .u8 32 k))]).run Tryz.prog w = .ok (.agg (pkC a k)) w := by kernel_rfl
@[go_sem] theorem run_rpkNext (a : Int) (k : Nat → Int) (w : World) : (rpkNext (.int .u32 a) (.agg (ints .u8 32 k))).run Tryz.prog w = .ok (.value (.agg (pkC a k))) w := by
 unfold rpkNext
 rw [Sem.run_bind, run_rpk]
 rfl
theorem build1_rpk (a : Int) (k : Nat → Int) (W : World) : (Instr.buildSlice 74 1 #[(0, .agg (pkC a k))]).run Tryz.prog W = .ok (.slice (some ⟨W.heap.size, 0, none⟩) 1 1) (W.alloc (.cells (pkC a k) 147)) := by kernel_rfl
def rpkB1 (v : Value) : Sem Next := do pure (.value (← Instr.buildSlice 74 1 #[(0, v)]))
@[go_sem ↓ high] theorem op_rpkB1 (ρ : Operand → Value) (d : Option Tmp) (x : Operand) (t : TypeId) (pos : String) (af : Array Edge) (g : Option (Nat × Bool)) :
  execOp ρ ⟨d, .buildSlice 74 1 #[(0, x)], t, pos, af, g⟩ = rpkB1 (ρ x) := by
 unfold execOp rpkB1
 simp
@[go_sem high] theorem op_rpkB1' (ρ : Operand → Value) (d : Option Tmp) (x : Operand) (t : TypeId) (pos : String) (af : Array Edge) (g : Option (Nat × Bool)) :
  execOp ρ ⟨d, .buildSlice 74 1 #[(0, x)], t, pos, af, g⟩ = rpkB1 (ρ x) := op_rpkB1 ρ d x t pos af g
@[go_sem] theorem run_rpkB1 (a : Int) (k : Nat → Int) (W : World) : (rpkB1 (.agg (pkC a k))).run Tryz.prog W = .ok (.value (.slice (some ⟨W.heap.size, 0, none⟩) 1 1)) (W.alloc (.cells (pkC a k) 147)) := by
 unfold rpkB1
 simp only [Sem.run_bind, build1_rpk, Result.andThen_ok, Sem.run_pure]
@[go_sem ↓ high] theorem append_rpks (ty : TypeId) (cs : Array Bool) (args : Array Value) : builtin .append #[74, 74] ty cs args = appendNext #[74, 74] ty args := by unfold appendNext; rfl
theorem append_rpkG (W : World) (base : Nat) (v : Value) (n : Nat) (I : Nat → Int) (K : Nat → Nat → Int) (g2 : Nat) (t2 : TypeId) (fr : Nat × Nat) (own : W.ownsRow base 147 33 v n (pkL I K n)) (hn : n ≤ 1048576)
  (hg2 : objAt W g2 = some (.cells (pkC (I n) (K n)) t2 fr)) (hbW : base ≤ W.heap.size) :
  ∃ g cap w', (appendNext #[74, 74] 74 #[v, .slice (some ⟨g2, 0, none⟩) 1 1]).run Tryz.prog W = .ok (.value (.slice (some ⟨g, 0, none⟩) (n + 1) cap)) w' ∧ w'.ownsRow base 147 33 (.slice (some ⟨g, 0, none⟩) (n + 1) cap) (n + 1) (pkL I K (n + 1)) ∧ W.grownBy w' v.ownBlock := by
 obtain ⟨g, cap, w', hr, ho, hg, _, _⟩ := run_append_lies (P := Tryz.prog) W 74 74 base 147 ((Tryz.prog.info? 147).get (by kernel_rfl)) (((Tryz.prog.info? 147).get (by kernel_rfl)).zero.get (by kernel_rfl)) 33 36 Tryz.underlying74 (by kernel_rfl) (by kernel_rfl) (by kernel_rfl) (by kernel_rfl) (by kernel_rfl) (by decide) v n (pkL I K n) own ⟨g2, 0, none⟩ 1 1 (pkC (I n) (K n)).toList (by rw [Array.length_toList, pkC_size])
  (fun j u hu => by
   rw [Array.getElem?_toList] at hu
   have hadd : (⟨g2, 0, none⟩ : Addr).add j = ⟨g2, j, none⟩ := by unfold Addr.add; split <;> simp_all
   rw [hadd, cell_of_row W g2 j _ _ _ hg2]
   exact hu)
  (fun u hu => by
   have h1 := pkC_ones (I n) (K n)
   rw [Array.all_eq_true'] at h1
   exact h1 u (by simpa using hu)) (by decide) (by unfold maxLen; omega) (by omega) hbW W.heap.size rfl
 exact ⟨g, cap, w', by unfold appendNext; simp only [Sem.run_bind, hr, Result.andThen_ok, Sem.run_pure], ho, hg⟩
theorem append_rpk (w W : World) (base : Nat) (v : Value) (n : Nat) (I : Nat → Int) (K : Nat → Nat → Int) (g2 : Nat) (t2 : TypeId) (fr : Nat × Nat) (own : W.ownsRow base 147 33 v n (pkL I K n)) (hn : n ≤ 1048576)
  (hg2 : objAt W g2 = some (.cells (pkC (I n) (K n)) t2 fr)) (hG : Below w.heap.size w W) (hwb : w.heap.size ≤ base) (hbW : base ≤ W.heap.size) :
  ∃ g cap w', (appendNext #[74, 74] 74 #[v, .slice (some ⟨g2, 0, none⟩) 1 1]).run Tryz.prog W = .ok (.value (.slice (some ⟨g, 0, none⟩) (n + 1) cap)) w' ∧ w'.ownsRow base 147 33 (.slice (some ⟨g, 0, none⟩) (n + 1) cap) (n + 1) (pkL I K (n + 1)) ∧
   Below w.heap.size w w' ∧ (∀ m o, m < base → objAt W m = some o → objAt w' m = some o) := by
 obtain ⟨g, cap, w', hr, ho, hb, hk, _⟩ := append_part (i := (Tryz.prog.info? 147).get (by kernel_rfl)) (z := ((Tryz.prog.info? 147).get (by kernel_rfl)).zero.get (by kernel_rfl)) 33 36 Tryz.underlying74 (by kernel_rfl) (by kernel_rfl) (by kernel_rfl) (by kernel_rfl) (by kernel_rfl) (by decide) (by decide) 74 w W base v n (pkL I K n) ⟨g2, 0, none⟩ 1 1 (pkC (I n) (K n)).toList own (by omega) (by decide) (by rw [Array.length_toList, pkC_size])
  (fun j u hu => by
   rw [Array.getElem?_toList] at hu
   have hadd : (⟨g2, 0, none⟩ : Addr).add j = ⟨g2, j, none⟩ := by unfold Addr.add; split <;> simp_all
   rw [hadd, cell_of_row W g2 j _ _ _ hg2]
   exact hu)
  (fun u hu => by
   have h1 := pkC_ones (I n) (K n)
   rw [Array.all_eq_true'] at h1
   exact h1 u (by simpa using hu)) hG hwb hbW
 exact ⟨g, cap, w', hr, ho, hb, hk⟩
def rpkNext0 (a : Value) : Sem Next := do pure (.value (← Instr.build 147 #[(0, a)]))
@[go_sem ↓ high] theorem op_rpk0 (ρ : Operand → Value) (dd : Option Tmp) (a : Operand) (t : TypeId) (pos : String) (af : Array Edge) (gg : Option (Nat × Bool)) :
  execOp ρ ⟨dd, .build 147 #[(0, a)], t, pos, af, gg⟩ = rpkNext0 (ρ a) := by simp [execOp, rpkNext0]
@[go_sem high] theorem op_rpk0' (ρ : Operand → Value) (dd : Option Tmp) (a : Operand) (t : TypeId) (pos : String) (af : Array Edge) (gg : Option (Nat × Bool)) :
  execOp ρ ⟨dd, .build 147 #[(0, a)], t, pos, af, gg⟩ = rpkNext0 (ρ a) := by simp [execOp, rpkNext0]
theorem run_rpk0 (a : Int) (w : World) : (Instr.build 147 #[(0, .int .u32 a)]).run Tryz.prog w = .ok (.agg (pkC a nought)) w := by kernel_rfl
@[go_sem] theorem run_rpkNext0 (a : Int) (w : World) : (rpkNext0 (.int .u32 a)).run Tryz.prog w = .ok (.value (.agg (pkC a nought))) w := by
 unfold rpkNext0
 rw [Sem.run_bind, run_rpk0]
 rfl
@[go_sem] theorem load_key_1 (g : Nat) (w : World) : (loadNext 37 (.pointer (some ⟨g, 1, none⟩))).run Tryz.prog w = (loadMid Tryz.prog 37 g 1 32 w (objAt w g)).andThen fun v w' => .ok (.value v) w' := by
 rw [run_loadNext, loadMid_eq Tryz.underlying37 rfl (by kernel_rfl) g 1 w]
@[go_sem] theorem load_pk_k (g : Nat) (w : World) (a : Int) (k : Nat → Int) (t' : TypeId) (fr : Nat × Nat) : loadMid Tryz.prog 37 g 1 32 w (some (.cells (pkC a k) t' fr)) = .ok (.agg (ints .u8 32 k)) w := by
 unfold loadMid
 simp only [pkC_size]
 rw [if_pos (by decide), pkC_ext]
@[go_sem] theorem none_bun (w : World) : (noneNext 71).run Tryz.prog w = .ok (.value (.agg #[.int .u32 0, .slice none 0 0])) w := by kernel_rfl
@[go_sem] theorem none_rbun (w : World) : (noneNext 76).run Tryz.prog w = .ok (.value (.agg #[.int .u32 0, .slice none 0 0])) w := by kernel_rfl
attribute [irreducible] pkC pkNext pkB1 rpkNext rpkB1 rpkNext0
end Go.Proofs.YtncjdlahiohlbaaGreatDoor
namespace Go.Proofs.YtncjdlahiohlbaaGreatDoor
open Go.RowKit Go.Extern
set_option linter.unusedVariables false
set_option linter.unusedSimpArgs false
theorem Oth.trans {g : Nat} {a b c : World} (h : Oth g a b) (k : Oth g b c) : Oth g a c := by
 obtain ⟨c1, h1⟩ := h
 obtain ⟨c2, h2⟩ := k
 have h3 := setRow_below h1 g c2
 rw [setRow_setRow] at h3
 have hs := h1.size
 rw [size_setRow'] at hs
 exact ⟨c2, h3.trans (h2.mono hs)⟩
def hd2 (E V : Int) : Int := if V / 256 = 1 then E else if E = 0 then 3 else E
def hd3 (E V kind : Int) : Int := if V % 256 = kind then E else if E = 0 then 14 else E
theorem beK2_bd {T : ByteArray} (h : T.size ≤ 2) : 0 ≤ beK T T.size ∧ beK T T.size ≤ 65535 := by
 have h1 := beK_b T T.size
 rcases (by omega : T.size = 0 ∨ T.size = 1 ∨ T.size = 2) with h | h | h <;> rw [h] at h1 ⊢ <;> simp at h1 <;> omega
theorem head_st {g : Nat} {S : ByteArray} {E : Int} {w : World} (kind : Int) (hR : RdAt w g S E) :
  Calls Tryz.prog 37 #[.pointer (some ⟨g, 0, none⟩), .int .u64 kind] w fun e w' => e = .returned (.tuple #[]) ∧ RdAt w' g (tkS S E 2) (hd3 (hd2 (tkE S E 2) (beK (tkT S E 2) (tkT S E 2).size)) (beK (tkT S E 2) (tkT S E 2).size) kind) ∧ Oth g w w' := by
 have e2 : min (max (2 : Int) 0) 8 = 2 := by decide
 have cN := num_st 2 hR
 rw [e2] at cN
 have hV := beK2_bd (T := tkT S E 2) (by have := tkT_size S E 2; omega)
 generalize beK (tkT S E 2) (tkT S E 2).size = V at *
 generalize tkS S E 2 = S1 at *
 generalize tkE S E 2 = E1 at *
 go_enter Tryz.func37, Tryz.ntmps37
 go_wp2_with fail
 refine cN.mono ?_
 rintro e w1 ⟨rfl, HR, HO⟩
 replace HR := hid1 HR
 clear cN hR
 have hsh : V / 2 ^ 8 = V / 256 := by rw [show (2 : Int) ^ 8 = 256 from rfl]
 have hand : bits .and .u64 V 255 = V % 256 := bits_mask .u64 64 (by decide) wraps_u64 8 (by decide) V hV.1 (by omega)
 by_cases h1 : V / 256 = 1
 ·have q2 : hd2 E1 V = E1 := by unfold hd2; rw [if_pos h1]
  by_cases h2 : V % 256 = kind
  ·have q3 : hd3 E1 V kind = E1 := by unfold hd3; rw [if_pos h2]
   go_wp2
   go_end0
   exact ⟨rfl, by rw [q2, q3]; exact HR.out, HO⟩
  ·have q3 : hd3 E1 V kind = if E1 = 0 then 14 else E1 := by unfold hd3; rw [if_neg h2]
   go_wp2_with fail
   refine (fail_st _ HR.out (ErV.num _ 14 (by decide))).mono ?_
   rintro e w2 ⟨rfl, HR2, HO2⟩
   go_wp2
   go_end0
   exact ⟨rfl, by rw [q2, q3]; exact HR2, HO.trans HO2⟩
 ·have q2 : hd2 E1 V = if E1 = 0 then 3 else E1 := by unfold hd2; rw [if_neg h1]
  go_wp2_with fail
  refine (fail_st _ HR.out (ErV.num _ 3 (by decide))).mono ?_
  rintro e w2 ⟨rfl, HR2, HO2⟩
  replace HR2 := hid1 HR2
  replace HO := HO.trans HO2
  clear HO2 HR
  rw [← q2] at HR2
  clear q2
  obtain ⟨E2, hE2⟩ : ∃ x, x = hd2 E1 V := ⟨_, rfl⟩
  rw [← hE2] at HR2
  by_cases h2 : V % 256 = kind
  ·have q3 : hd3 E2 V kind = E2 := by unfold hd3; rw [if_pos h2]
   go_wp2
   go_end0
   exact ⟨rfl, by rw [← hE2, q3]; exact HR2.out, HO⟩
  ·have q3 : hd3 E2 V kind = if E2 = 0 then 14 else E2 := by unfold hd3; rw [if_neg h2]
   go_wp2_with fail
   refine (fail_st _ HR2.out (ErV.num _ 14 (by decide))).mono ?_
   rintro e w3 ⟨rfl, HR3, HO3⟩
   go_wp2
   go_end0
   exact ⟨rfl, by rw [← hE2, q3]; exact HR3, HO.trans HO3⟩
def firstV (u v : Value) : Value := match u with
 | .nilIface => v
 | _ => u
theorem ErV.shape {w : World} {u : Value} {E : Int} (h : ErV w u E) : u = .nilIface ∨ ∃ t x, u = .iface t x := by
 rcases h with ⟨_, h⟩ | ⟨_, t, x, _, h, _⟩
 ·exact .inl h
 ·exact .inr ⟨t, x, h⟩
theorem ErV.first {w : World} {u v : Value} {E F : Int} (h : ErV w u E) (k : ErV w v F) : ErV w (firstV u v) (if E = 0 then F else E) := by
 rcases h with ⟨rfl, rfl⟩ | ⟨h0, t, x, l, rfl, hc⟩
 ·rw [if_pos rfl]
  exact k
 ·rw [if_neg h0]
  exact .inr ⟨h0, t, x, l, rfl, hc⟩
theorem ErV.wrap {w : World} {u : Value} {E : Int} (h : ErV w u E) (h0 : E ≠ 0) : ∃ t x, u = .iface t x ∧ ∀ s, ErV (w.alloc (.cells #[.string s, u] 129)) (.iface 127 (.pointer (some ⟨w.heap.size, 0, none⟩))) E := by
 rcases h with ⟨h1, _⟩ | ⟨_, t, x, l, rfl, hc⟩
 ·exact absurd h1 h0
 ·exact ⟨t, x, rfl, fun s => .inr ⟨h0, _, _, s :: l, rfl, _, _, rfl, objAt_alloc_at _ _ _ rfl, hc.later (Grew.alloc (Grew.refl _) _)⟩⟩
theorem first_pair (g : Nat) (u v : Value) (w : World) (h : objAt w g = some (.cells #[u, v] 47)) (hu : u = .nilIface ∨ ∃ t x, u = .iface t x) (hv : v = .nilIface ∨ ∃ t x, v = .iface t x) : Calls Tryz.prog 67 #[.slice (some ⟨g, 0, none⟩) 2 2] w fun e w' => e = .returned (firstV u v) ∧ w' = w := by
 rcases hu with rfl | ⟨t, x, rfl⟩
 ·rw [show firstV .nilIface v = v from rfl]
  rcases hv with rfl | ⟨t, x, rfl⟩
  ·(go_enter Tryz.func67, Tryz.ntmps67; go_wp2_with fail)
   refine wp_loop_rounds 3 ?_
   rw [rounds_succ]
   go_wp2_with fail
   rw [rounds_succ]
   go_wp2_with fail
   rw [rounds_succ]
   go_wp2
   go_ret
   exact ⟨rfl, rfl⟩
  ·(go_enter Tryz.func67, Tryz.ntmps67; go_wp2_with fail)
   refine wp_loop_rounds 2 ?_
   rw [rounds_succ]
   go_wp2_with fail
   rw [rounds_succ]
   go_wp2
   go_ret
   exact ⟨rfl, rfl⟩
 ·rw [show firstV (.iface t x) v = .iface t x from rfl]
  (go_enter Tryz.func67, Tryz.ntmps67; go_wp2_with fail)
  refine wp_loop_rounds 1 ?_
  rw [rounds_succ]
  go_wp2
  go_ret
  exact ⟨rfl, rfl⟩
end Go.Proofs.YtncjdlahiohlbaaGreatDoor
namespace Go.Proofs.YtncjdlahiohlbaaGreatDoor
open Go.RowKit Go.Extern
set_option linter.unusedVariables false
set_option linter.unusedSimpArgs false
attribute [local go_sem high] byteAt_in
theorem beK_bd4 {T : ByteArray} : ∀ k, k ≤ 4 → 0 ≤ beK T k ∧ beK T k < 4294967296 := fun k hk => by
 have h1 := beK_b T k
 rcases (by omega : k = 0 ∨ k = 1 ∨ k = 2 ∨ k = 3 ∨ k = 4) with h | h | h | h | h <;> subst h <;> simp at h1 <;> omega
theorem num17_any (s : ByteArray) (w : World) (hs : s.size ≤ 4) :
  Calls Tryz.prog 69 #[.string s] w fun e w' => e = .returned (.int .i64 (beK s s.size)) ∧ Below w.heap.size w w' := by
 go_enter Tryz.func69, Tryz.ntmps69
 go_wp2_with fail
 go_loopw [3, 4] (fun n i wr => ∃ k : Nat, k ≤ s.size ∧ i = .int .i64 k ∧ n = .int .i64 (beK s k) ∧ wr = w) (fun _ i _ => s.size - (intOf i).toNat)
 case atStart => exact ⟨0, by omega, rfl, rfl, rfl⟩
 case round =>
  obtain ⟨k, hk, rfl, rfl, rfl⟩ := hrel
  by_cases hlt : k < s.size
  ·have hlt' : (k : Int) < (s.size : Int) := by omega
   have hk0 : (0 : Int) ≤ (k : Int) := by omega
   have h1 := beK_bd4 (T := s) k (by omega)
   have h2 := beK_bd4 (T := s) (k + 1) (by omega)
   have hb := byteAt_b s k
   have hst : beK s (k + 1) = beK s k * 256 + byteAt s k := rfl
   have w1 : IntKind.i64.wrap (byteAt s k) = byteAt s k := wrap_small (by omega) (by omega)
   go_wp2
   go_roundw
   case rel => exact ⟨k + 1, by omega, by go_num, by first | rfl | (rw [hst]), trivial⟩
   case measure => simp [intOf]; omega
  ·obtain rfl : k = s.size := by omega
   go_wp2
   go_ret
   exact ⟨rfl, Grew.refl _⟩
theorem rcheck17_any (nm : Int) (oa : Option Addr) (n c : Nat) (I : Nat → Int) (K : Nat → Nat → Int) (w : World) (hP : PkAt w oa n I K) (hn : n ≤ 64) :
  Calls Tryz.prog 70 #[.agg #[.int .u32 nm, .slice oa n c]] w fun e w' => e = .returned (.int .i64 (dupE I n)) ∧ Below w.heap.size w w' := by
 have HP : Hid (PkAt w oa n I K) := hP
 clear hP
 go_enter Tryz.func70, Tryz.ntmps70
 have hn6 : ¬ ((64 : Int) < (n : Int)) := by omega
 go_wp2_with fail
 have fb : objAt (w.alloc (.cells #[.int .u32 nm, .slice oa n c] 76)) w.heap.size = some (.cells #[.int .u32 nm, .slice oa n c] 76) := objAt_alloc_at _ _ _ rfl
 have hG0 : Below w.heap.size w (w.alloc (.cells #[.int .u32 nm, .slice oa n c] 76)) := Grew.alloc (Grew.refl _) _
 have HP1 : Hid (PkAt (w.alloc (.cells #[.int .u32 nm, .slice oa n c] 76)) oa n I K) := HP.out.later hG0
 generalize w.alloc (.cells #[.int .u32 nm, .slice oa n c] 76) = w1 at *
 have lb0 := lt_of_objAt fb
 go_loopw [12] (fun i wr => ∃ k : Nat, k ≤ n ∧ i = .int .i64 k ∧ (∃ m, wr = more w1 m) ∧ Hid (∀ a, a < k → ∀ b, b < a → I a ≠ I b)) (fun i _ => n - (intOf i).toNat)
 case atStart => exact ⟨0, by omega, rfl, ⟨⟨w1.drawn, #[]⟩, by simp [more]⟩, hid1 fun a ha => by omega⟩
 case round =>
  obtain ⟨i, hi, rfl, ⟨m, rfl⟩, HN⟩ := hrel
  have fb1 := keep_more m fb
  have lb := lt_of_objAt fb1
  by_cases hlt : i < n
  ·have hi1 : (i : Int) < (n : Int) := by omega
   have hi0 : (0 : Int) ≤ (i : Int) := by omega
   obtain ⟨ad, rfl, -⟩ := HP1.out.blk (by omega)
   go_wp2_with fail
   go_loopw [4] (fun k wr => ∃ j : Nat, j ≤ i ∧ k = .int .i64 j ∧ (∃ m, wr = more w1 m) ∧ Hid (∀ b, b < j → I i ≠ I b)) (fun k _ => i - (intOf k).toNat)
   case atStart => exact ⟨0, by omega, rfl, ⟨m, rfl⟩, hid1 fun b hb => by omega⟩
   case round =>
    clear fb1 lb
    obtain ⟨j, hj, rfl, ⟨m2, rfl⟩, HJ⟩ := hrel
    have fb2 := keep_more m2 fb
    have lb := lt_of_objAt fb2
    by_cases hlt2 : j < i
    ·have hj1 : (j : Int) < (i : Int) := by omega
     have hj2 : (j : Int) < (n : Int) := by omega
     have hj0 : (0 : Int) ≤ (j : Int) := by omega
     have l1 := fun q : More => (HP1.out.later (below_more w1 q)).id hlt
     have l2 := fun q : More => (HP1.out.later (below_more w1 q)).id (show j < n by omega)
     by_cases he : I i = I j
     ·have heq : (I i == I j) = true := by rw [he]; simp
      have hD : dupE I n = 17 := dupE_yes ⟨i, hlt, j, hlt2, he⟩
      go_wp2_with fail
      ((first | (with_reducible refine wp_region_on (by kernel_rfl) (by kernel_rfl) ?_) | refine wp_region_more (by kernel_rfl) (by kernel_rfl) ?_); (repeat (first | go_big_quiet_skip | (go_big_quiet_want; go_big_quiet_op; first | go_big_quiet_on | (apply Exists.intro; refine ⟨fun _ => ?_, ?_⟩; (focus (fail)); go_big_quiet_on)))); refine wpQuiet_nil ?_; rintro _ ⟨mq, rfl⟩)
      go_wp2
      go_ret
      exact ⟨by first | rfl | (rw [hD]; rfl), Grew.more hG0 _⟩
     ·have heq : (I i == I j) = false := by simp [he]
      go_wp2_with fail
      ((first | (with_reducible refine wp_region_on (by kernel_rfl) (by kernel_rfl) ?_) | refine wp_region_more (by kernel_rfl) (by kernel_rfl) ?_); (repeat (first | go_big_quiet_skip | (go_big_quiet_want; go_big_quiet_op; first | go_big_quiet_on | (apply Exists.intro; refine ⟨fun _ => ?_, ?_⟩; (focus (fail)); go_big_quiet_on)))); refine wpQuiet_nil ?_; rintro _ ⟨mq, rfl⟩)
      clear l1 l2 fb2 lb
      go_wp2
      go_roundw
      case rel => first | exact ⟨j + 1, by omega, by go_num, ⟨mq, rfl⟩, hid1 fun b hb => if e : b = j then e ▸ he else HJ.out b (by omega)⟩ | ((repeat' apply Exists.intro) <;> first | exact ⟨⟨j + 1, by omega, by go_num, ⟨mq, rfl⟩, hid1 fun b hb => if e : b = j then e ▸ he else HJ.out b (by omega)⟩, rfl⟩ | exact undef)
      case measure => (simp [intOf]; omega)
    ·obtain rfl : j = i := by omega
     have hj1 : ¬ ((j : Int) < (j : Int)) := by omega
     go_wp2
     go_roundw
     case rel => first | exact ⟨j + 1, by omega, by go_num, ⟨m2, rfl⟩, hid1 fun a ha b hb => if e : a = j then e ▸ HJ.out b (by omega) else HN.out a (by omega) b hb⟩ | ((repeat' apply Exists.intro) <;> first | exact ⟨⟨j + 1, by omega, by go_num, ⟨m2, rfl⟩, hid1 fun a ha b hb => if e : a = j then e ▸ HJ.out b (by omega) else HN.out a (by omega) b hb⟩, rfl⟩ | exact undef)
     case measure => (simp [intOf]; omega)
  ·obtain rfl : i = n := by omega
   have hi1 : ¬ ((i : Int) < (i : Int)) := by omega
   have hD : dupE I i = 0 := dupE_no fun ⟨a, ha, b, hb, e⟩ => HN.out a ha b hb e
   go_wp2
   go_ret
   exact ⟨by first | rfl | (rw [hD]; rfl), Grew.more hG0 _⟩
theorem eqk_32 (k : Nat → Int) (w : World) : (Op.equalIn 9999 34 (.agg (ints .u8 32 k)) (.agg (ints .u8 32 k))).run Tryz.prog w = .ok true w := by
 obtain ⟨i, hi, hs⟩ : ∃ i, Tryz.prog.info? 5 = some i ∧ i.size = 1 := ⟨(Tryz.prog.info? 5).get (by kernel_rfl), by kernel_rfl, by kernel_rfl⟩
 have hc : Tryz.prog.cellsOf 5 = 1 := by simp [Program.cellsOf, hi, hs]
 have hr := same_refl 32 k
 unfold same at hr
 rw [show (9999 : Nat) = 9997 + 1 + 1 from rfl, run_equalIn_array w (9997 + 1) _ _ Tryz.underlying34 hi, run_items w 9997 5 .u8 32 k k Tryz.underlying5 hc (List.range 32) (by simp)]
 first | rw [hr] | simp
theorem ext_all (k : Nat → Int) : (ints .u8 32 k).extract 0 32 = ints .u8 32 k := by
 apply Array.ext_getElem?
 intro j
 by_cases h : j < 32
 ·rw [ints_get _ _ _ _ h, Array.getElem?_extract, if_pos (by rw [ints_size]; omega), Nat.zero_add, ints_get _ _ _ _ h]
 ·rw [Array.getElem?_eq_none (by simp [ints_size]; omega), Array.getElem?_eq_none (by rw [ints_size]; omega)]
theorem neq_rpk (a : Int) (k : Nat → Int) (w : World) : (binOp .neq 147 (.agg (pkC a k)) (.agg (pkC a k))).run Tryz.prog w = .ok (.bool false) w := by
 have h : ∀ c : Int, (c == c) = true := fun c => by simp
 have h2 := ext_all k
 have h3 := eqk_32 k w
 unfold pkC
 simp [go_sem, h, h2, h3]
theorem same17_any (nm : Int) (oa ob : Option Addr) (n c d : Nat) (I : Nat → Int) (K : Nat → Nat → Int) (w : World) (hn : n ≤ 1000) (hA : PkAt w oa n I K) (hB : PkAt w ob n I K) :
  Calls Tryz.prog 35 #[.agg #[.int .u32 nm, .slice oa n c], .agg #[.int .u32 nm, .slice ob n d]] w fun e w' => e = .returned (.bool true) ∧ Below w.heap.size w w' := by
 have HA : Hid (PkAt w oa n I K) := hA
 have HB : Hid (PkAt w ob n I K) := hB
 clear hA hB
 go_enter Tryz.func35, Tryz.ntmps35
 go_wp2_with fail
 have fa : objAt ((w.alloc (.cells #[.int .u32 nm, .slice oa n c] 76)).alloc (.cells #[.int .u32 nm, .slice ob n d] 76)) w.heap.size = some (.cells #[.int .u32 nm, .slice oa n c] 76) := keep_alloc _ (objAt_alloc_at _ _ _ rfl)
 have fb : objAt ((w.alloc (.cells #[.int .u32 nm, .slice oa n c] 76)).alloc (.cells #[.int .u32 nm, .slice ob n d] 76)) (w.heap.size + 1) = some (.cells #[.int .u32 nm, .slice ob n d] 76) := objAt_alloc_at _ _ _ (by simp)
 have hG0 : Below w.heap.size w ((w.alloc (.cells #[.int .u32 nm, .slice oa n c] 76)).alloc (.cells #[.int .u32 nm, .slice ob n d] 76)) := Grew.alloc (Grew.alloc (Grew.refl _) _) _
 have HA1 : Hid (PkAt ((w.alloc (.cells #[.int .u32 nm, .slice oa n c] 76)).alloc (.cells #[.int .u32 nm, .slice ob n d] 76)) oa n I K) := HA.out.later hG0
 have HB1 : Hid (PkAt ((w.alloc (.cells #[.int .u32 nm, .slice oa n c] 76)).alloc (.cells #[.int .u32 nm, .slice ob n d] 76)) ob n I K) := HB.out.later hG0
 generalize (w.alloc (.cells #[.int .u32 nm, .slice oa n c] 76)).alloc (.cells #[.int .u32 nm, .slice ob n d] 76) = w1 at *
 generalize w.heap.size + 1 = gb at *
 have la0 := lt_of_objAt fa
 have lb0 := lt_of_objAt fb
 go_loopw [23] (fun i wr => ∃ k : Nat, k ≤ n ∧ i = .int .i64 k ∧ (∃ m, wr = more w1 m)) (fun i _ => n - (intOf i).toNat)
 case atStart => exact ⟨0, by omega, rfl, ⟨⟨w1.drawn, #[]⟩, by simp [more]⟩⟩
 case round =>
  obtain ⟨i, hi, rfl, ⟨m, rfl⟩⟩ := hrel
  have fa1 := keep_more m fa
  have fb1 := keep_more m fb
  have la := lt_of_objAt fa1
  have lb := lt_of_objAt fb1
  by_cases hlt : i < n
  ·have hi1 : (i : Int) < (n : Int) := by omega
   have hi0 : (0 : Int) ≤ (i : Int) := by omega
   obtain ⟨ad, rfl, -⟩ := HA1.out.blk (by omega)
   obtain ⟨bd, rfl, -⟩ := HB1.out.blk (by omega)
   have l1 := fun q : More => (HA1.out.later (below_more w1 q)).load_rpk hlt
   have l2 := fun q : More => (HB1.out.later (below_more w1 q)).load_rpk hlt
   have hnq := neq_rpk (I i) (K i)
   generalize I i = x at *
   generalize K i = y at *
   go_wp2_with fail
   ((first | (with_reducible refine wp_region_on (by kernel_rfl) (by kernel_rfl) ?_) | refine wp_region_more (by kernel_rfl) (by kernel_rfl) ?_); (repeat (first | go_big_quiet_skip | (go_big_quiet_want; go_big_quiet_op; first | go_big_quiet_on | (apply Exists.intro; refine ⟨fun _ => ?_, ?_⟩; (focus (fail)); go_big_quiet_on)))); refine wpQuiet_nil ?_; rintro _ ⟨mq, rfl⟩)
   clear l1 l2 fa1 fb1 la lb
   go_wp2
   go_roundw
   case rel => first | exact ⟨i + 1, by omega, by go_num, ⟨mq, rfl⟩⟩ | ((repeat' apply Exists.intro) <;> first | exact ⟨⟨i + 1, by omega, by go_num, ⟨mq, rfl⟩⟩, rfl⟩ | exact undef)
   case measure => (simp [intOf]; omega)
  ·obtain rfl : i = n := by omega
   have hi1 : ¬ ((i : Int) < (i : Int)) := by omega
   go_wp2
   go_ret
   exact ⟨rfl, Grew.more hG0 _⟩
theorem of17_any (nm : Int) (oa : Option Addr) (n c : Nat) (I : Nat → Int) (K : Nat → Nat → Int) (w : World) (hP : PkAt w oa n I K) (hn : n ≤ 1000) :
  Calls Tryz.prog 36 #[.agg #[.int .u32 nm, .slice oa n c]] w fun e w' => ∃ v, e = .returned (v) ∧ BunAt w' v nm n I K ∧ Below w.heap.size w w' := by
 have HP : Hid (PkAt w oa n I K) := hP
 clear hP
 go_enter Tryz.func36, Tryz.ntmps36
 go_wp2_with fail
 have fb : objAt (((w.alloc (.cells #[.int .u32 nm, .slice oa n c] 71)).alloc (.cells #[.int .u32 0, .slice none 0 0] 76)).alloc (.cells #[.int .u32 nm, .slice none 0 0] 76)) w.heap.size = some (.cells #[.int .u32 nm, .slice oa n c] 71) := keep_alloc _ (keep_alloc _ (objAt_alloc_at _ _ _ rfl))
 have fr : objAt (((w.alloc (.cells #[.int .u32 nm, .slice oa n c] 71)).alloc (.cells #[.int .u32 0, .slice none 0 0] 76)).alloc (.cells #[.int .u32 nm, .slice none 0 0] 76)) (w.heap.size + 1) = some (.cells #[.int .u32 0, .slice none 0 0] 76) := keep_alloc _ (objAt_alloc_at _ _ _ (by simp))
 have fo : objAt (((w.alloc (.cells #[.int .u32 nm, .slice oa n c] 71)).alloc (.cells #[.int .u32 0, .slice none 0 0] 76)).alloc (.cells #[.int .u32 nm, .slice none 0 0] 76)) (w.heap.size + 1 + 1) = some (.cells #[.int .u32 nm, .slice none 0 0] 76) := objAt_alloc_at _ _ _ (by simp)
 have hG : Below w.heap.size w (((w.alloc (.cells #[.int .u32 nm, .slice oa n c] 71)).alloc (.cells #[.int .u32 0, .slice none 0 0] 76)).alloc (.cells #[.int .u32 nm, .slice none 0 0] 76)) := Grew.alloc (Grew.alloc (Grew.alloc (Grew.refl _) _) _) _
 generalize ((w.alloc (.cells #[.int .u32 nm, .slice oa n c] 71)).alloc (.cells #[.int .u32 0, .slice none 0 0] 76)).alloc (.cells #[.int .u32 nm, .slice none 0 0] 76) = w1 at *
 go_loopw [12] (fun i wr => ∃ (k : Nat) (v0 : Value), k ≤ n ∧ i = .int .i64 k ∧ Below w.heap.size w wr ∧ objAt wr (w.heap.size + 1) = some (.cells #[.int .u32 0, .slice none 0 0] 76) ∧ objAt wr (w.heap.size + 1 + 1) = some (.cells #[.int .u32 nm, v0] 76) ∧ Hid (wr.ownsRow (w.heap.size + 3) 147 33 v0 k (pkL I K k))) (fun i _ => n - (intOf i).toNat)
 case atStart => exact ⟨0, _, by omega, rfl, hG, fr, fo, World.ownsRow_nil _ _ _ _⟩
 case round =>
  clear hG fr fo fb
  obtain ⟨k, v0, hk, rfl, hG, fr, fo, OWN⟩ := hrel
  have lr := lt_of_objAt fr
  have lo := lt_of_objAt fo
  by_cases hlt : k < n
  ·have hi1 : (k : Int) < (n : Int) := by omega
   have hi0 : (0 : Int) ≤ (k : Int) := by omega
   obtain ⟨ad, rfl, -⟩ := HP.out.blk (by omega)
   have hl := (HP.out.later hG).load_pk hlt
   obtain ⟨g3, c3, w7, hr3, own7, hb7, hk7⟩ := append_rpk w ((wr.alloc (.cells (pkC (I k) (K k)) 150)).alloc (.cells (pkC (I k) (K k)) 147)) (w.heap.size + 3) _ k I K (wr.heap.size + 1) _ _ (World.ownsRow.alloc (World.ownsRow.alloc OWN.out _) _) (by omega) (objAt_alloc_at _ _ _ (by simp)) (Grew.alloc (Grew.alloc hG _) _) (by omega) (by simp; omega)
   have fr7 := hk7 _ _ (by omega) (keep_alloc (.cells (pkC (I k) (K k)) 147) (keep_alloc (.cells (pkC (I k) (K k)) 150) fr))
   have fo7 := hk7 _ _ (by omega) (keep_alloc (.cells (pkC (I k) (K k)) 147) (keep_alloc (.cells (pkC (I k) (K k)) 150) fo))
   have lo7 := lt_of_objAt fo7
   have OWN7 : Hid ((w7.setRow (w.heap.size + 1 + 1) #[.int .u32 nm, .slice (some ⟨g3, 0, none⟩) (k + 1) c3]).ownsRow (w.heap.size + 3) 147 33 (.slice (some ⟨g3, 0, none⟩) (k + 1) c3) (k + 1) (pkL I K (k + 1))) := own_setRow own7 (by omega)
   have hG7 := Grew.setRow hb7 (w.heap.size + 1 + 1) #[.int .u32 nm, .slice (some ⟨g3, 0, none⟩) (k + 1) c3] (by omega)
   have fr8 := keep_setRow (w.heap.size + 1 + 1) #[.int .u32 nm, .slice (some ⟨g3, 0, none⟩) (k + 1) c3] fr7 (by omega)
   have fo8 := keep_row #[.int .u32 nm, .slice (some ⟨g3, 0, none⟩) (k + 1) c3] fo7
   clear own7 hk7 OWN hb7
   generalize I k = x at *
   generalize K k = y at *
   go_wp2
   go_roundw
   case rel => first | exact ⟨k + 1, _, by omega, by go_num, hG7, fr8, fo8, OWN7⟩ | ((repeat' apply Exists.intro) <;> first | exact ⟨⟨k + 1, _, by omega, by go_num, hG7, fr8, fo8, OWN7⟩, rfl⟩ | exact undef)
   case measure => (simp [intOf]; omega)
  ·obtain rfl : k = n := by omega
   have hi1 : ¬ ((k : Int) < (k : Int)) := by omega
   obtain ⟨oa2, c2, rfl, -, hP2, hB2⟩ := pk_of_own OWN.out
   have HP2 : Hid (PkAt (wr.setRow (w.heap.size + 1) #[.int .u32 nm, .slice oa2 k c2]) oa2 k I K) := hP2.aside _ (fun ad e => by have := (hB2 ad e).1; omega) _
   clear OWN hP2
   go_wp2
   refine ret_row rfl _ 76 _ (0, 0) _ rfl (keep_row _ fr) Tryz.underlying76 rfl (by kernel_rfl) rfl (by first | exact ⟨_, rfl, ⟨_, _, rfl, HP2.out⟩, Grew.setRow hG _ _ (by omega)⟩ | exact ⟨⟨_, rfl⟩, ⟨_, _, rfl, HP2.out⟩, Grew.setRow hG _ _ (by omega)⟩)
end Go.Proofs.YtncjdlahiohlbaaGreatDoor
namespace Go.Proofs.YtncjdlahiohlbaaGreatDoor
open Go.RowKit Go.Maps
set_option linter.unusedVariables false
set_option linter.unusedSimpArgs false
attribute [local go_sem] Oper.semAt_some
def klit (v : Int) : Lit := .int .u32 v
theorem klit_key (v : Int) : WideAt.IsKeyLit (klit v) := by unfold klit; simp [WideAt.IsKeyLit]
theorem klit_inj {a b : Int} (h : klit a = klit b) : a = b := by unfold klit at h; cases h; rfl
def plD (f : Nat → Int) (g : Nat → Int) : Nat → DataW Unit
 | 0 => .map []
 | k + 1 => (plD f g k).put (klit (f k)) (.lit (.int .i64 (g k)))
theorem plD_is (f g : Nat → Int) : ∀ k, Tidy (plD f g k) ∧ Maps.size (plD f g k) ≤ k ∧ (∀ v, Maps.has (plD f g k) (klit v) = true ↔ ∃ j, j < k ∧ f j = v) ∧
  ((∀ a, a < k → ∀ b, b < a → f a ≠ f b) → Maps.size (plD f g k) = k) ∧ ((∃ a, a < k ∧ ∃ b, b < a ∧ f a = f b) → Maps.size (plD f g k) < k)
 | 0 => ⟨tidy_empty, Nat.le_refl _, fun v => Iff.intro (fun h => by cases h) (fun ⟨j, hj, _⟩ => by omega), fun _ => rfl, fun ⟨a, ha, _⟩ => by omega⟩
 | k + 1 => by
  obtain ⟨h1, h2, h3, h4, h5⟩ := plD_is f g k
  have hs := size_put (k := klit (f k)) h1 (.lit (.int .i64 (g k)))
  have he : plD f g (k + 1) = (plD f g k).put (klit (f k)) (.lit (.int .i64 (g k))) := rfl
  rw [← he] at hs
  refine ⟨h1.put (klit_key _) _, ?_, fun v => ?_, fun h => ?_, fun ⟨a, ha, b, hb, e⟩ => ?_⟩
  ·rw [hs]; split <;> omega
  ·by_cases e : v = f k
   ·subst e
    rw [he, has_put_same h1.isMap (klit_key _)]
    exact ⟨fun _ => ⟨k, by omega, rfl⟩, fun _ => rfl⟩
   ·rw [he, has_put_other (fun h => e (klit_inj h)), h3]
    exact ⟨fun ⟨j, hj, h⟩ => ⟨j, by omega, h⟩, fun ⟨j, hj, h⟩ => ⟨j, by
     rcases (by omega : j < k ∨ j = k) with hj' | rfl
     ·exact hj'
     ·exact absurd h.symm e, h⟩⟩
  ·have hn : ¬ (Maps.has (plD f g k) (klit (f k)) = true) := fun hh => by
    obtain ⟨j, hj, e⟩ := (h3 _).1 hh
    exact h k (by omega) j hj e.symm
   rw [hs, if_neg hn, h4 fun a ha b hb => h a (by omega) b hb]
  ·rw [hs]
   rcases (by omega : a < k ∨ a = k) with ha' | rfl
   ·have := h5 ⟨a, ha', b, hb, e⟩
    split <;> omega
   ·rw [if_pos ((h3 _).2 ⟨b, hb, e.symm⟩)]
    omega
def plL {n : Nat} (I : Nat → Int) (l : List (BkT n)) : DataW Unit := l.foldl (fun m x => m.put (klit (I x.1)) (.lit (.int .i64 (x.1 : Int)))) (.map [])
theorem plL_itA {n : Nat} (I : Nat → Int) : ∀ k, k ≤ n → plL I (itA n k) = plD (fun k => I (n - 1 - k)) (fun k => ((n - 1 - k : Nat) : Int)) k
 | 0, _ => rfl
 | k + 1, h => by
  rw [itA_succ (by omega)]
  unfold plL
  rw [List.foldl_append]
  have := plL_itA (n := n) I k (by omega)
  unfold plL at this
  rw [this]
  rfl
def plcD (I : Nat → Int) (n : Nat) : DataW Unit := plD (fun k => I (n - 1 - k)) (fun k => ((n - 1 - k : Nat) : Int)) n
theorem plD_back (I : Nat → Int) (g : Nat → Int) (n : Nat) : (Twice I n → Maps.size (plD (fun k => I (n - 1 - k)) g n) < n) ∧ (¬ Twice I n → Maps.size (plD (fun k => I (n - 1 - k)) g n) = n) := by
 obtain ⟨_, _, _, h4, h5⟩ := plD_is (fun k => I (n - 1 - k)) g n
 refine ⟨fun ⟨i, hi, k, hk, e⟩ => h5 ⟨n - 1 - k, by omega, n - 1 - i, by omega, ?_⟩, fun h => h4 fun a ha b hb e => h ⟨n - 1 - b, by omega, n - 1 - a, by omega, e.symm⟩⟩
 show I (n - 1 - (n - 1 - k)) = I (n - 1 - (n - 1 - i))
 rw [show n - 1 - (n - 1 - k) = k by omega, show n - 1 - (n - 1 - i) = i by omega]
 exact e.symm
theorem back17_in (l Bs n₀ c N : Nat) (oa : Option Addr) (I : Nat → Int) (K : Nat → Nat → Int) (n : Nat) (hn : 1 ≤ n) (hL : N ≤ 100000) (hg : ∀ ad, oa = some ad → ad.block < n₀) (J Jx : List (BkT N) → World → Prop)
  (hY : ∀ (pre : List (BkT N)) (x : BkT N) (W : World), J pre W → pre.length < N → YieldAt Fence.wide (n - 1) Tryz.prog l #[.int .i64 (x.1 : Int), .agg (pkC (I x.1) (K x.1))] W fun e W' =>
   (e = .returned (.bool true) ∧ J (pre ++ [x]) W' ∧ KpB n₀ Bs W W') ∨ (e = .returned (.bool false) ∧ Jx (pre ++ [x]) W'))
  (W : World) (hBs : objAt W Bs = some (.cells #[.slice oa N c] 69 (0, 0))) (hN : PkAt W oa N I K) (h0 : J [] W) :
  CallsIn Fence.wide n Tryz.prog 117 #[.func (.yield l) #[] #[], .pointer (some ⟨Bs, 0, none⟩)] W fun e W' => (∃ v, e = .returned v) ∧
   ((∃ ys, ys = itA N N ∧ J ys W') ∨ (∃ pre, True ∧ Jx pre W')) := by
 have HN : Hid (PkAt W oa N I K) := hN
 clear hN
 refine callsIn_of_wp Tryz.func117 rfl trivial ?_
 simp only [Tryz.ntmps117, List.size_toArray, List.length_cons, List.length_nil, Nat.reduceAdd, Nat.reduceSub, Array.replicate_succ, Array.replicate_zero, List.push_toArray, List.append_toArray, List.nil_append, List.cons_append]
 have lBs := lt_of_objAt hBs
 gi_wp2
 gi_loopw [3] (fun i wr => ∃ k : Nat, k ≤ N ∧ i = .int .i64 ((N : Int) - (k : Int) - 1) ∧ J (itA N k) wr ∧ Hid (KpB n₀ Bs W wr)) (fun i _ => (intOf i + 1).toNat)
 case atStart => exact ⟨0, Nat.zero_le _, by go_num, h0, KpB.refl _ _ _⟩
 case round =>
  obtain ⟨k, hk, rfl, hJs, hkp⟩ := hrel
  by_cases hlt : k < N
  ·obtain ⟨ad, rfl, -⟩ := HN.out.blk (by omega)
   obtain ⟨fn, tmps, assign, body, hy, hR⟩ := hY _ ⟨N - 1 - k, by omega⟩ wr hJs (by rw [itA_len k hk]; exact hlt)
   dsimp only at hy
   have hB := hkp.out.2 _ _ _ hBs
   have lB := lt_of_objAt hB
   have l1 := (HN.out.kept hkp.out.1 hg).load_pk (show N - 1 - k < N by omega)
   have ej : ((N - 1 - k : Nat) : Int) = (N : Int) - (k : Int) - 1 := by omega
   have en : ((N : Int) - (k : Int) - 1).toNat = N - 1 - k := by omega
   rw [ej] at hy
   have hi0 : (0 : Int) ≤ (N : Int) - (k : Int) - 1 := by omega
   have hi1 : (N : Int) - (k : Int) - 1 < (N : Int) := by omega
   have hnx := itA_succ hlt
   clear hY
   generalize I (N - 1 - k) = x at *
   generalize K (N - 1 - k) = y at *
   gi_wp2
   refine hR.mono ?_
   rintro e W3 (⟨rfl, hJ3, hk3⟩ | ⟨rfl, hJx3⟩)
   ·have hkp3 : Hid (KpB n₀ Bs W W3) := hkp.out.trans hk3
    clear hy hk3 hB lB l1 hR
    gi_wp2
    go_roundw
    case rel => exact ⟨k + 1, by omega, by go_num, by rw [hnx]; exact hJ3, hkp3⟩
    case measure => (simp [intOf] <;> omega)
   ·gi_wp2
    refine bodyPost_ret (results_none rfl _ _ _) rfl ?_
    exact ⟨⟨_, rfl⟩, .inr ⟨_, trivial, hJx3⟩⟩
  ·obtain rfl : k = N := by omega
   gi_wp2
   go_end0
   exact ⟨⟨_, rfl⟩, .inl ⟨_, rfl, hJs⟩⟩
theorem backward17_any (oa : Option Addr) (n c : Nat) (w : World) : Calls Tryz.prog 110 #[.slice oa n c] w fun e w' => e = .returned (.func (.func 117) #[] #[.pointer (some ⟨w.heap.size, 0, none⟩)]) ∧ w' = w.alloc (.cells #[.slice oa n c] 69) := by
 have hmf : ∀ (fn : Fn) (first cap : Array Value) (w : World), (Instr.makeFunc fn first cap).run Tryz.prog w = .ok (.func fn first cap) w := fun _ _ _ _ => rfl
 go_enter Tryz.func110, Tryz.ntmps110
 go_wp2
 go_ret
 exact ⟨rfl, rfl⟩
theorem back17_stops (Bs n₀ c N : Nat) (oa : Option Addr) (I : Nat → Int) (K : Nat → Nat → Int) (n : Nat) (hn : 1 ≤ n) (hL : N ≤ 100000) (hg : ∀ ad, oa = some ad → ad.block < n₀) (w : World) (hn₀ : n₀ ≤ w.heap.size)
  (hBs : objAt w Bs = some (.cells #[.slice oa N c] 69 (0, 0))) (hN : PkAt w oa N I K) :
  SeqStopsK Fence.wide n Tryz.prog 117 #[.pointer (some ⟨Bs, 0, none⟩)] (fun x : BkT N => #[Value.int .i64 (x.1 : Int), .agg (pkC (I x.1) (K x.1))]) (KpB n₀ Bs) (fun ys => ys = itA N N) (fun _ => True) N w :=
 fun l J Jx W hW _ _ hY h0 => back17_in l Bs n₀ c N oa I K n hn hL hg J Jx hY W (keep_below hW hBs) (hN.later hW) h0
theorem places_any (nm : Int) (oa : Option Addr) (n c : Nat) (I : Nat → Int) (K : Nat → Nat → Int) (w : World) (hP : PkAt w oa n I K) (hn : n ≤ 1000) (hI : ∀ j, j < n → 0 ≤ I j ∧ I j < 4294967296) (hoa : ∀ ad, oa = some ad → ad.block < w.heap.size) :
  Calls Tryz.prog 95 #[.agg #[.int .u32 nm, .slice oa n c]] w fun e w' => ∃ b q, e = .returned (.map (some b)) ∧ w'.ownsMap Tryz.prog 68 (plainElem (H := Unit) Tryz.prog 3) b q (plcD I n) ∧ Below w.heap.size w w' := by
 have HP : Hid (PkAt w oa n I K) := hP
 clear hP
 have hmm := @run_makeMap Tryz.prog
 have LK : Keyed Tryz.prog 68 := int_keyed Tryz.underlying68
 refine (callsIn_wide (n := 5)).1 ?_
 refine callsIn_of_wp_marks Tryz.func95 rfl trivial ?_
 simp only [Tryz.ntmps95, List.size_toArray, List.length_cons, List.length_nil, Nat.reduceAdd, Nat.reduceSub, Array.replicate_succ, Array.replicate_zero, List.push_toArray, List.append_toArray, List.nil_append, List.cons_append]
 gi_wp2_with fail
 refine ⟨trivial, (callsIn_wide.2 (backward17_any _ _ _ _)).mono ?_⟩
 rintro e w4 ⟨rfl, rfl⟩
 gi_wp2_with fail
 have fm : objAt ((((w.alloc (.cells #[.int .u32 nm, .slice oa n c] 71)).alloc (.map #[] 0)).alloc (.cells #[.map (some (w.heap.size + 1))] 181)).alloc (.cells #[.slice oa n c] 69)) (w.heap.size + 1 + 1) = some (.cells #[.map (some (w.heap.size + 1))] 181) := keep_alloc _ (objAt_alloc_at _ _ _ (by simp))
 have fb : objAt ((((w.alloc (.cells #[.int .u32 nm, .slice oa n c] 71)).alloc (.map #[] 0)).alloc (.cells #[.map (some (w.heap.size + 1))] 181)).alloc (.cells #[.slice oa n c] 69)) (w.heap.size + 1 + 1 + 1) = some (.cells #[.slice oa n c] 69) := objAt_alloc_at _ _ _ (by simp)
 have hmp : ((((w.alloc (.cells #[.int .u32 nm, .slice oa n c] 71)).alloc (.map #[] 0)).alloc (.cells #[.map (some (w.heap.size + 1))] 181)).alloc (.cells #[.slice oa n c] 69)).ownsMap Tryz.prog 68 (plainElem (H := Unit) Tryz.prog 3) (w.heap.size + 1) 0 (.map []) := by
  have := World.ownsMap_made (w.alloc (.cells #[.int .u32 nm, .slice oa n c] 71)) Tryz.prog 68 (plainElem (H := Unit) Tryz.prog 3)
  rw [World.size_alloc] at this
  exact (this.alloc _).alloc _
 have hsz : w.heap.size + 4 ≤ ((((w.alloc (.cells #[.int .u32 nm, .slice oa n c] 71)).alloc (.map #[] 0)).alloc (.cells #[.map (some (w.heap.size + 1))] 181)).alloc (.cells #[.slice oa n c] 69)).heap.size := by simp
 have hG : Below w.heap.size w ((((w.alloc (.cells #[.int .u32 nm, .slice oa n c] 71)).alloc (.map #[] 0)).alloc (.cells #[.map (some (w.heap.size + 1))] 181)).alloc (.cells #[.slice oa n c] 69)) := Grew.alloc (Grew.alloc (Grew.alloc (Grew.alloc (Grew.refl _) _) _) _) _
 have HP5 : Hid (PkAt ((((w.alloc (.cells #[.int .u32 nm, .slice oa n c] 71)).alloc (.map #[] 0)).alloc (.cells #[.map (some (w.heap.size + 1))] 181)).alloc (.cells #[.slice oa n c] 69)) oa n I K) := HP.out.later hG
 clear hmm HP
 generalize (((w.alloc (.cells #[.int .u32 nm, .slice oa n c] 71)).alloc (.map #[] 0)).alloc (.cells #[.map (some (w.heap.size + 1))] 181)).alloc (.cells #[.slice oa n c] 69) = w5 at *
 refine wpIn_rangeFunc_ownH rfl (by decide) (gf := 117) (lb := #[.pointer (some ⟨w.heap.size + 1 + 1 + 1, 0, none⟩)]) rfl trivial (enters_of Tryz.func117 (by kernel_rfl) rfl)
  (back17_stops (w.heap.size + 1 + 1 + 1) w.heap.size c n oa I K 4 (by decide) (by omega) hoa w5 (by omega) fb HP5.out) kpB_t (kpB_b (by omega)) (Below.refl _ _) (fun _ => rfl)
  (fun pre W => Below w.heap.size w W ∧ objAt W (w.heap.size + 1 + 1) = some (.cells #[.map (some (w.heap.size + 1))] 181) ∧ w.heap.size + 4 ≤ W.heap.size ∧ W.ownsMap Tryz.prog 68 (plainElem (H := Unit) Tryz.prog 3) (w.heap.size + 1) pre.length (plL I pre))
  (fun _ _ _ => False)
  (fun pre W W' row hs hg hr => ⟨(ownFrom_below (β := Unit) (Nat.le_refl _) (by omega)) () W W' row hs.1 hg hr, (cells_kept hs.2.1 hg hr).trans hs.2.1, Nat.le_trans hs.2.2.1 hg.size, hs.2.2.2.kept hg (fun e => by have := (hr _ e.symm).1; omega)⟩)
  (fun _ _ _ _ _ hs _ _ => hs)
  ⟨hG, fm, hsz, hmp⟩
  (fun x a' W => ∃ Bv, w.heap.size + 4 ≤ Bv ∧ objAt W Bv = some (.cells (pkC (I x.1) (K x.1)) 150) ∧ a' = { tmps := #[.agg #[.int .u32 nm, .slice oa n c], .pointer (some ⟨w.heap.size, 0, none⟩), .map none, .pointer (some ⟨w.heap.size + 1 + 1, 0, none⟩), .int .i64 (x.1 : Int), .pointer (some ⟨Bv, 0, none⟩), .map (some (w.heap.size + 1)), .pointer (some ⟨w.heap.size, 1, none⟩), .slice oa n c, .func (.func 117) #[] #[.pointer (some ⟨w.heap.size + 1 + 1 + 1, 0, none⟩)], .int .i64 (x.1 : Int), .agg (pkC (I x.1) (K x.1)), undef, undef, undef, undef, undef], defers := [] })
  (fun x a' _ W W' row hs hg hr => by
   obtain ⟨Bv, h1, h2, h3⟩ := hs
   exact ⟨Bv, h1, (cells_kept h2 hg hr).trans h2, h3⟩)
  ?assign ?body ?done ?stop
 case assign =>
  rintro l pre x W K' ⟨hb, hp, hs, hm⟩ hK
  gi_wp2
  exact hK _ _ ((KeepsOthers.alloc _ _).from _) ⟨(Below.refl w.heap.size W).alloc hb.size _, fun _ _ _ e => keep_alloc _ e⟩ ⟨Grew.alloc hb _, keep_alloc _ hp, by simp; omega, hm.alloc _⟩ ⟨W.heap.size, hs, objAt_alloc_at _ _ _ rfl, rfl⟩
 case body =>
  rintro l pre ⟨i, hi⟩ a' W hl - ⟨hb, hp, hs, hm⟩ ⟨Bv, hBv, fv, rfl⟩ hpl
  have lfv := lt_of_objAt fv
  have lp := lt_of_objAt hp
  obtain ⟨hi0, hi1⟩ := hI i hi
  have wfk : (Lit.int .u32 (I i)).wf = true := by simp [Lit.wf, IntKind.min, IntKind.max, IntKind.signed, IntKind.bits]; omega
  have wfi : (Lit.int .i64 (i : Int)).wf = true := by simp [Lit.wf, IntKind.min, IntKind.max, IntKind.signed, IntKind.bits]; omega
  have hkey : keyOf Tryz.prog 68 (.int .u32 (I i)) = some (klit (I i)) := keyOf_int_mk Tryz.underlying68 wfk
  have hfold : plL I (pre ++ [(⟨i, hi⟩ : BkT n)]) = (plL I pre).put (klit (I i)) (.lit (.int .i64 (i : Int))) := by unfold plL; rw [List.foldl_append]; rfl
  simp only at fv ⊢
  generalize hx : I i = x at *
  generalize K i = y at *
  gi_wp2_with (gi_at_mapUpdate; refine wpListIn_mapUpdate_own _ rfl _ _ _ 181 rfl 68 3 LK Tryz.underlying181 (plainElem (H := Unit) Tryz.prog 3) (w.heap.size + 1) pre.length _ rfl hm (by unfold maxLen; omega) _ _ _ rfl rfl hkey _ [] (plainElem_int Tryz.underlying3 wfi) ?_)
  intro w6 hown hgrow
  gi_wp2
  have hW : ∀ k, k < W.heap.size → k ≠ w.heap.size + 1 → w6.heap[k]? = W.heap[k]? := fun k hk hne => hgrow.block k hk (fun e => hne (by cases e; rfl))
  refine ⟨⟨hgrow.size, fun k o hk ho _ => (hW k (Array.getElem?_eq_some_iff.1 ho).1 (by omega)).trans ho⟩, ⟨(Below.refl w.heap.size W).grown hgrow hb.size (fun j e => by cases e; omega), fun cs t fr e => (hW _ (lt_of_objAt e) (by omega)).trans e⟩, hb.grown hgrow hb.size (fun j e => by cases e; omega), (hW _ lp (by omega)).trans hp, Nat.le_trans hs hgrow.size, ?_⟩
  rw [List.length_append, hfold]
  exact hown
 case done =>
  rintro D xs W hD rfl ⟨hb, hp, hs, hm⟩ hKD
  have lp := lt_of_objAt hp
  have hm2 : (W.putObj D (.deferred none)).ownsMap Tryz.prog 68 (plainElem (H := Unit) Tryz.prog 3) (w.heap.size + 1) (itA n n).length (plcD I n) := by
   unfold plcD
   rw [← plL_itA I n (Nat.le_refl _)]
   obtain ⟨es, clock, h1, h2⟩ := hm
   exact ⟨es, clock, (World.putObj_heap_other (by omega)).trans h1, h2⟩
  have hb2 : Below w.heap.size w (W.putObj D (.deferred none)) := hb.trans (belowK_b (w := w) (Nat.le_refl _) _ D _ _ (by omega) hKD rfl rfl)
  gi_wp2
  refine ⟨by simp, .inl ⟨_, _, rfl, run_takeDeferred hKD, ?_⟩⟩
  exact ⟨_, results_tmp rfl _ _ _, _, _, rfl, hm2, hb2⟩
 case stop =>
  rintro D c pre W _ _ h _
  exact h.elim
end Go.Proofs.YtncjdlahiohlbaaGreatDoor
namespace Go.Proofs.YtncjdlahiohlbaaGreatDoor
open Go.RowKit Go.Maps
set_option linter.unusedVariables false
set_option linter.unusedSimpArgs false
theorem plc_size (I : Nat → Int) (n : Nat) : (Twice I n → Maps.size (plcD I n) < n) ∧ (¬ Twice I n → Maps.size (plcD I n) = n) := plD_back I _ n
def PlAt (D : DataW Unit) (u : Value) (w : World) : Prop := ∀ b, u = .map (some b) → ∃ q, w.ownsMap Tryz.prog 68 (plainElem (H := Unit) Tryz.prog 3) b q D
theorem owns_later {w w' : World} {b q : Nat} {D : DataW Unit} (h : w.ownsMap Tryz.prog 68 (plainElem (H := Unit) Tryz.prog 3) b q D) (hb : Below w.heap.size w w') : w'.ownsMap Tryz.prog 68 (plainElem (H := Unit) Tryz.prog 3) b q D := by
 have hlt := h.lt
 obtain ⟨es, clock, h1, h2⟩ := h
 exact ⟨es, clock, (hb.block _ hlt).trans h1, h2⟩
theorem stab_pl (D : DataW Unit) (u : Value) : Stab (PlAt D u) none := fun w w' h e b hu => by
 obtain ⟨q, hq⟩ := h b hu
 exact ⟨q, owns_later hq e⟩
theorem bcheck_any (nm : Int) (oa : Option Addr) (n c : Nat) (I : Nat → Int) (K : Nat → Nat → Int) (w : World) (hP : PkAt w oa n I K) (hn : n ≤ 1000) (hI : ∀ j, j < n → 0 ≤ I j ∧ I j < 4294967296) (hoa : ∀ ad, oa = some ad → ad.block < w.heap.size) :
  Calls Tryz.prog 68 #[.agg #[.int .u32 nm, .slice oa n c]] w fun e w' => ∃ u, e = .returned (u) ∧ ErV w' u (if 64 < n then 18 else dupE I n) ∧ Below w.heap.size w w' := by
 have HP : Hid (PkAt w oa n I K) := hP
 clear hP
 go_enter Tryz.func68, Tryz.ntmps68
 by_cases h64 : 64 < n
 ·have hi : (64 : Int) < (n : Int) := by omega
  rw [if_pos h64]
  go_wp2_with fail
  have hG : Below w.heap.size w (w.alloc (.cells #[.int .u32 nm, .slice oa n c] 71)) := Grew.alloc (Grew.refl _) _
  generalize w.alloc (.cells #[.int .u32 nm, .slice oa n c] 71) = w1 at *
  refine (wrap_any _ _ _ _).mono ?_
  rintro e w2 ⟨rfl, rfl⟩
  go_wp2
  go_ret
  exact ⟨_, rfl, erv_wrap _ 18 (by decide), Grew.alloc hG _⟩
 have hi : ¬ ((64 : Int) < (n : Int)) := by omega
 rw [if_neg h64]
 go_wp2_with fail
 have fb : objAt (w.alloc (.cells #[.int .u32 nm, .slice oa n c] 71)) w.heap.size = some (.cells #[.int .u32 nm, .slice oa n c] 71) := objAt_alloc_at _ _ _ rfl
 have hG : Below w.heap.size w (w.alloc (.cells #[.int .u32 nm, .slice oa n c] 71)) := Grew.alloc (Grew.refl _) _
 have HP1 : Hid (PkAt (w.alloc (.cells #[.int .u32 nm, .slice oa n c] 71)) oa n I K) := HP.out.later hG
 generalize w.alloc (.cells #[.int .u32 nm, .slice oa n c] 71) = w1 at *
 have lb := lt_of_objAt fb
 obtain ⟨s, hs⟩ : ∃ s, Maps.size (plcD I n) = s := ⟨_, rfl⟩
 obtain ⟨s1, s2⟩ := plc_size I n
 rw [hs] at s1 s2
 have cP := fun (W : World) (hb : Below w1.heap.size w1 W) => places_any nm oa n c I K W (HP1.out.later hb) hn hI (fun ad e => Nat.lt_of_lt_of_le (hoa ad e) (Nat.le_trans hG.size hb.size))
 refine wp_relv (fun k => k == 1) (fun k => match k with | 1 => fun u => ∃ b, u = .map (some b) | _ => fun _ => True) (fun k => match k with | 1 => fun u w => PlAt (plcD I n) u w | _ => fun _ _ => True) (fun k => match k with | 1 => .map (some 0) | _ => undef) (fun i hi => ?_) (by kernel_rfl) (by kernel_rfl) ?_
 ·simp only [Bool.or_eq_true, beq_iff_eq] at hi
  subst hi
  exact ⟨0, rfl⟩
 (first | refine exv_skip rfl ?_ | (refine exv_call rfl ?_; apply Exists.intro))
 refine exv_call rfl ⟨undef, ?_⟩
 iterate 5 (first | refine exv_skip rfl ?_ | (refine exv_call rfl ?_; apply Exists.intro))
 refine exv_nil ?_
 intro γ gv hsv hinj hbase
 obtain ⟨b1, e1⟩ := hsv 1 rfl
 (repeat (first | (refine rel_quiet rfl ?_; ((first | go_big_quiet_skip | (go_big_quiet_want; go_big_quiet_op; go_big_quiet_on)); refine wpQuiet_nil ?_)) | ((first | refine rel_skip_some rfl (fun _ => rfl) ?_); ((first | go_big_quiet_skip | (go_big_quiet_want; go_big_quiet_op; go_big_quiet_on)); refine wpQuiet_nil ?_)) | refine rel_skip_none rfl (fun _ => rfl) ?_))
 refine rel_callv #[.agg #[.int .u32 nm, .slice oa n c]] (enters_of Tryz.func95 (by kernel_rfl) rfl) rfl e1 rfl rfl rfl rfl (fits_nil (stab_pl _ _)) (by first | kernel_rfl | simp [go_sem]) ?_ ?_
 ·intro W hC hF
  obtain ⟨mm, rfl⟩ := hC
  refine (cP _ (below_more w1 mm)).mono ?_
  rintro e w9 ⟨b, q, rfl, hq, hb9⟩
  exact ⟨_, rfl, ⟨b, rfl⟩, (fun b2 e2 => by cases e2; exact ⟨q, hq⟩), hb9⟩
 ((first | go_big_quiet_skip | (go_big_quiet_want; go_big_quiet_op; go_big_quiet_on)); refine wpQuiet_nil ?_)
 apply rel_fact
 ·rfl
 ·rfl
 ·rfl
 ·intro W hC hF
  have hE0 : PlAt (plcD I n) (.map (some b1)) W := known hF (List.mem_cons_self ..) (by decide +kernel)
  obtain ⟨q1, hq1⟩ := hE0 b1 rfl
  have hlen := fun m : More => (owns_later hq1 (below_more W m)).len Tryz.underlying181 3
  rw [hs] at hlen
  go_big_quiet_want
  go_big_quiet_op
  go_big_quiet_on
  exact wpQuiet_nil rfl
 ·first | exact fun _ => ⟨rfl, rfl⟩ | exact fun h => absurd h (by decide)
 ((first | go_big_quiet_skip | (go_big_quiet_want; go_big_quiet_op; go_big_quiet_on)); refine wpQuiet_nil ?_)
 (repeat (first | (refine rel_quiet rfl ?_; ((first | go_big_quiet_skip | (go_big_quiet_want; go_big_quiet_op; go_big_quiet_on)); refine wpQuiet_nil ?_)) | ((first | refine rel_skip_some rfl (fun _ => rfl) ?_ | (apply rel_fact; (focus rfl); (focus rfl); (focus rfl); (focus (intro W hC hF; (skip); go_big_quiet_want; go_big_quiet_op; (first | go_big_quiet_on | (apply Exists.intro; refine ⟨fun _ => ?_, ?_⟩; (focus ((fail))); go_big_quiet_on)); exact wpQuiet_nil rfl)); (focus (first | exact fun _ => ⟨rfl, rfl⟩ | exact fun h => absurd h (by decide))))); ((first | go_big_quiet_skip | (go_big_quiet_want; go_big_quiet_op; go_big_quiet_on)); refine wpQuiet_nil ?_)) | refine rel_skip_none rfl (fun _ => rfl) ?_))
 (refine rel_nil ?_; rintro _ ⟨mq, rfl⟩ hF; simp only [List.forall_mem_cons] at hF; obtain ⟨-, -⟩ := hF)
 replace hG := Grew.more hG mq
 replace fb := keep_more mq fb
 clear cP lb hinj hbase hsv e1
 generalize more w1 mq = w2 at *
 by_cases hd : Twice I n
 ·have hlt : (s : Int) < (n : Int) := by have := s1 hd; omega
  go_wp2_with fail
  refine (wrap_any _ _ _ _).mono ?_
  rintro e w3 ⟨rfl, rfl⟩
  go_wp2
  go_ret
  exact ⟨_, rfl, by rw [dupE_yes hd]; exact erv_wrap _ 17 (by decide), Grew.alloc hG _⟩
 ·have hlt : ¬ ((s : Int) < (n : Int)) := by have := s2 hd; omega
  go_wp2
  go_ret
  exact ⟨_, rfl, by rw [dupE_no hd]; exact .inl ⟨rfl, rfl⟩, hG⟩
end Go.Proofs.YtncjdlahiohlbaaGreatDoor
namespace Go.Proofs.YtncjdlahiohlbaaGreatDoor
open Go.RowKit Go.Extern
set_option linter.unusedVariables false
set_option linter.unusedSimpArgs false
def pkSt (S : ByteArray) (E : Int) : Nat → ByteArray × Int
 | 0 => (S, E)
 | j + 1 => (tkS (tkS (pkSt S E j).1 (pkSt S E j).2 4) (tkE (pkSt S E j).1 (pkSt S E j).2 4) 32, tkE (tkS (pkSt S E j).1 (pkSt S E j).2 4) (tkE (pkSt S E j).1 (pkSt S E j).2 4) 32)
def pkI (S : ByteArray) (E : Int) (j : Nat) : Int := beK (tkT (pkSt S E j).1 (pkSt S E j).2 4) (tkT (pkSt S E j).1 (pkSt S E j).2 4).size
def pkK (S : ByteArray) (E : Int) (j : Nat) : Nat → Int := putT nought 0 (tkT (tkS (pkSt S E j).1 (pkSt S E j).2 4) (tkE (pkSt S E j).1 (pkSt S E j).2 4) 32).size (tkT (tkS (pkSt S E j).1 (pkSt S E j).2 4) (tkE (pkSt S E j).1 (pkSt S E j).2 4) 32)
theorem pkI_bd (S : ByteArray) (E : Int) (j : Nat) : 0 ≤ pkI S E j ∧ pkI S E j < 4294967296 := beK_bd4 _ (by
 have := tkT_size (pkSt S E j).1 (pkSt S E j).2 4
 omega)
theorem Oth.own {g base size n : Nat} {w w' : World} {t : TypeId} {v : Value} {xs : List Value} (h : Oth g w w') (hg : g < base) (own : w.ownsRow base t size v n xs) : w'.ownsRow base t size v n xs := by
 obtain ⟨cs, hb⟩ := h
 exact own_later (own_setRow own hg) (by rw [size_setRow']; exact hb)
theorem chn_grown {w w' : World} {row : Option Nat} (hg : w.grownBy w' row) (hr : ∀ r, row = some r → ∃ t cs, objAt w r = some (.cells cs t) ∧ t ≠ 129) : ∀ {l : List ByteArray} {b v : Value}, Chn w l b v → Chn w' l b v
 | [], _, _, h => h
 | s :: l, b, v, ⟨k, u, e, hk, hu⟩ => ⟨k, u, e, (hg.block k (lt_of_objAt hk) (fun e => by
   obtain ⟨t, cs, h1, h2⟩ := hr k e.symm
   rw [h1] at hk
   cases hk
   exact h2 rfl)).trans hk, chn_grown hg hr hu⟩
theorem RdAt.grown {w w' : World} {g : Nat} {S : ByteArray} {E : Int} {row : Option Nat} (h : RdAt w g S E) (hg : w.grownBy w' row) (hr : ∀ r, row = some r → r ≠ g ∧ ∃ t cs, objAt w r = some (.cells cs t) ∧ t ≠ 129) : RdAt w' g S E := by
 obtain ⟨v, h1, he⟩ := h
 refine ⟨v, (hg.block g (lt_of_objAt h1) (fun e => (hr g e.symm).1 rfl)).trans h1, ?_⟩
 rcases he with he | ⟨h0, t, x, l, e, hc⟩
 ·exact .inl he
 ·exact .inr ⟨h0, t, x, l, e, chn_grown hg (fun r e => (hr r e).2) hc⟩
theorem Oth.grown {g : Nat} {w0 w w' : World} {row : Option Nat} (h : Oth g w0 w) (hg : w.grownBy w' row) (hr : ∀ r, row = some r → w0.heap.size ≤ r) : Oth g w0 w' := by
 obtain ⟨cs, hb⟩ := h
 have hs := hb.size
 rw [size_setRow'] at hs
 exact ⟨cs, hb.grown hg hs hr⟩
theorem Oth.later {g : Nat} {w0 w w' : World} (h : Oth g w0 w) (hb : Below w.heap.size w w') : Oth g w0 w' := by
 obtain ⟨cs, h1⟩ := h
 have hs := h1.size
 rw [size_setRow'] at hs
 exact ⟨cs, h1.trans (hb.mono hs)⟩
theorem prekeys_many {g : Nat} {S S1 : ByteArray} {E E1 : Int} {N : Nat} {w : World} (E3 : Int) (h3 : (if E1 = 0 then 18 else E1) = E3) (hS : tkS S E 2 = S1) (hE : tkE S E 2 = E1) (hV : beK (tkT S E 2) (tkT S E 2).size = (N : Int)) (hR : RdAt w g S E) (h64 : 64 < N) :
  Calls Tryz.prog 66 #[.pointer (some ⟨g, 0, none⟩)] w fun e w' => e = .returned (.slice none 0 0) ∧ RdAt w' g (S1) (E3) ∧ Oth g w w' := by
 replace h3 := hid1 h3
 have e2 : min (max (2 : Int) 0) 8 = 2 := by decide
 have cN := num_st 2 hR
 rw [e2, hS, hE, hV] at cN
 clear hS hE hV e2
 go_enter Tryz.func66, Tryz.ntmps66
 go_wp2_with fail
 refine cN.mono ?_
 rintro e w1 ⟨rfl, HR, HO⟩
 replace HR := hid1 HR
 clear cN hR
 have hi : (64 : Int) < (N : Int) := by omega
 go_wp2_with fail
 refine (fail_st _ HR.out (ErV.num _ 18 (by decide))).mono ?_
 rintro e w2 ⟨rfl, HR2, HO2⟩
 rw [h3.out] at HR2
 go_wp2
 go_ret
 exact ⟨rfl, HR2, HO.trans HO2⟩
theorem prekeys_few {g : Nat} {S S1 : ByteArray} {E E1 : Int} {N : Nat} {w : World} (hS : tkS S E 2 = S1) (hE : tkE S E 2 = E1) (hV : beK (tkT S E 2) (tkT S E 2).size = (N : Int)) (hR : RdAt w g S E) (h64 : N ≤ 64) :
  Calls Tryz.prog 66 #[.pointer (some ⟨g, 0, none⟩)] w fun e w' => ∃ oa c, e = .returned (.slice oa N c) ∧ PkAt w' oa N (pkI S1 E1) (pkK S1 E1) ∧ (∀ ad, oa = some ad → w.heap.size ≤ ad.block ∧ ad.block < w'.heap.size) ∧ RdAt w' g ((pkSt S1 E1 N).1) ((pkSt S1 E1 N).2) ∧ Oth g w w' := by
 have e2 : min (max (2 : Int) 0) 8 = 2 := by decide
 have cN := num_st 2 hR
 rw [e2, hS, hE, hV] at cN
 clear hS hE hV e2
 go_enter Tryz.func66, Tryz.ntmps66
 go_wp2_with fail
 refine cN.mono ?_
 rintro e w1 ⟨rfl, HR, HO⟩
 replace HR := hid1 HR
 clear cN hR
 have hi : ¬ ((64 : Int) < (N : Int)) := by omega
 have lg0 := HR.out.lt
 go_wp2_with fail
 have hO1 : Hid (Oth g w1 w1) := by
  obtain ⟨v, h1, _⟩ := HR.out
  exact Oth.refl h1
 go_loopw [4, 13] (fun v i wr => ∃ (k : Nat) (v0 : Value), v0 = v ∧ k ≤ N ∧ i = .int .u64 k ∧ Hid (RdAt wr g (pkSt S1 E1 k).1 (pkSt S1 E1 k).2) ∧ Hid (Oth g w1 wr) ∧ Hid (wr.ownsRow w1.heap.size 150 33 v0 k (pkL (pkI S1 E1) (pkK S1 E1) k))) (fun _ i _ => N - (intOf i).toNat)
 case atStart => exact ⟨0, _, rfl, by omega, rfl, HR, hO1, World.ownsRow_nil _ _ _ _⟩
 case round =>
  clear HR hO1
  obtain ⟨k, v0, rfl, hk, rfl, HR, HO1, OWN⟩ := hrel
  by_cases hlt : k < N
  ·have hi1 : (k : Int) < (N : Int) := by omega
   have hw1 : IntKind.u64.wrap ((k : Int) + 1) = ((k + 1 : Nat) : Int) := by rw [IntKind.wrap_u64]; omega
   have HX : Hid (pkI S1 E1 k = beK (tkT (pkSt S1 E1 k).1 (pkSt S1 E1 k).2 4) (tkT (pkSt S1 E1 k).1 (pkSt S1 E1 k).2 4).size) := rfl
   have HY : Hid (pkK S1 E1 k = putT nought 0 (tkT (tkS (pkSt S1 E1 k).1 (pkSt S1 E1 k).2 4) (tkE (pkSt S1 E1 k).1 (pkSt S1 E1 k).2 4) 32).size (tkT (tkS (pkSt S1 E1 k).1 (pkSt S1 E1 k).2 4) (tkE (pkSt S1 E1 k).1 (pkSt S1 E1 k).2 4) 32)) := rfl
   have HST : Hid (pkSt S1 E1 (k + 1) = (tkS (tkS (pkSt S1 E1 k).1 (pkSt S1 E1 k).2 4) (tkE (pkSt S1 E1 k).1 (pkSt S1 E1 k).2 4) 32, tkE (tkS (pkSt S1 E1 k).1 (pkSt S1 E1 k).2 4) (tkE (pkSt S1 E1 k).1 (pkSt S1 E1 k).2 4) 32)) := rfl
   obtain ⟨hx0, hx1⟩ := pkI_bd S1 E1 k
   rw [HX.out] at hx0 hx1
   have e4 : min (max (4 : Int) 0) 8 = 4 := by decide
   have cN := num_st 4 HR.out
   rw [e4] at cN
   clear e4 HR
   generalize (pkSt S1 E1 k).1 = s at *
   generalize (pkSt S1 E1 k).2 = e at *
   have cK := fun (W : World) (h : RdAt W g (tkS s e 4) (tkE s e 4)) => key_st h
   generalize beK (tkT s e 4) (tkT s e 4).size = x at *
   generalize tkS s e 4 = s1 at *
   generalize tkE s e 4 = e1 at *
   generalize putT nought 0 (tkT s1 e1 32).size (tkT s1 e1 32) = y at *
   generalize tkS s1 e1 32 = s2 at *
   generalize tkE s1 e1 32 = e2 at *
   have hwx : IntKind.u32.wrap x = x := by rw [IntKind.wrap_u32]; omega
   go_wp2_with fail
   refine cN.mono ?_
   rintro e9 w2 ⟨rfl, HR2, HO2⟩
   replace HR2 := hid1 HR2
   have OWN2 := hid1 (HO2.own lg0 OWN.out)
   replace HO1 := hid1 (HO1.out.trans HO2)
   clear OWN HO2 cN
   go_wp2_with fail
   refine (cK _ HR2.out).mono ?_
   rintro e9 w3 ⟨rfl, HR3, HO3⟩
   replace HR3 := hid1 (RdAt.later HR3 (Grew.alloc (Grew.refl w3) (.cells (pkC x y) 150)))
   have OWN3 := World.ownsRow.alloc (HO3.own lg0 OWN2.out) (.cells (pkC x y) 150)
   replace HO1 := hid1 ((HO1.out.trans HO3).later (Grew.alloc (Grew.refl w3) (.cells (pkC x y) 150)))
   have hsz : w1.heap.size ≤ (w3.alloc (.cells (pkC x y) 150)).heap.size := HO1.out.size
   have hbk := own_blk OWN3
   obtain ⟨g3, c3, w7, hr3, own7, hgr⟩ := append_pkG (w3.alloc (.cells (pkC x y) 150)) w1.heap.size _ k (pkI S1 E1) (pkK S1 E1) w3.heap.size _ _ OWN3 (by omega) (by rw [HX.out, HY.out]; exact objAt_alloc_at _ _ _ rfl) hsz
   have OWN7 := hid1 own7
   have HR7 : Hid (RdAt w7 g (pkSt S1 E1 (k + 1)).1 (pkSt S1 E1 (k + 1)).2) := by
    rw [HST.out]
    exact HR3.out.grown hgr (fun r e => ⟨by have := (hbk r e).1; omega, _, _, (hbk r e).2.choose_spec, by decide⟩)
   have HO7 : Hid (Oth g w1 w7) := HO1.out.grown hgr (fun r e => (hbk r e).1)
   clear own7 hgr hbk HR3 OWN3 HO1 HO3 OWN2 HR2 cK
   go_wp2
   go_roundw
   case rel => first | exact ⟨k + 1, _, rfl, by omega, by first | rw [hw1] | go_num, HR7, HO7, OWN7⟩ | ((repeat' apply Exists.intro) <;> first | exact ⟨⟨k + 1, _, rfl, by omega, by first | rw [hw1] | go_num, HR7, HO7, OWN7⟩, rfl⟩ | exact undef)
   case measure => (simp [intOf]; omega)
  ·obtain rfl : k = N := by omega
   have hi1 : ¬ ((k : Int) < (k : Int)) := by omega
   obtain ⟨oa, c, rfl, -, hP, hB⟩ := pk_of_own OWN.out
   have HP := hid1 hP
   have HO9 := hid1 (HO.trans HO1.out)
   have hsz0 := HO.size
   clear OWN hP HO HO1
   go_wp2
   go_ret
   first | exact ⟨_, _, rfl, HP.out, fun ad e => ⟨Nat.le_trans hsz0 (hB ad e).1, (hB ad e).2⟩, HR.out, HO9.out⟩ | exact ⟨_, ⟨_, rfl⟩, HP.out, fun ad e => ⟨Nat.le_trans hsz0 (hB ad e).1, (hB ad e).2⟩, HR.out, HO9.out⟩
end Go.Proofs.YtncjdlahiohlbaaGreatDoor
namespace Go.Proofs.YtncjdlahiohlbaaGreatDoor
open Go.RowKit Go.Extern
set_option linter.unusedVariables false
set_option linter.unusedSimpArgs false
theorem by_two' (a : Prop) {G : Prop} (h1 : a → G) (h2 : ¬ a → G) : G := (Classical.em a).elim h1 h2
theorem stab_erv' (u : Value) (E : Int) : Stab (fun w => ErV w u E) none := fun w w' h e => h.later e
theorem by_fitsE {P : Prop} (h : P := by first | exact by_fits | ((repeat (refine fits_cons ⟨by (first | exact stab_hdr_at _ _ _ _ | exact stab_erv' _ _ | exact stab_hdr _ _ _ | exact stab_full _ _ _), by (first | exact stab_hdr_at _ _ _ _ | exact stab_erv' _ _ | exact stab_hdr _ _ _ | exact stab_full _ _ _)⟩ ?_)); exact fits_nil (by (first | exact stab_hdr_at _ _ _ _ | exact stab_erv' _ _ | exact stab_hdr _ _ _ | exact stab_full _ _ _)))) : P := h
def ESh (u : Value) : Prop := u = .nilIface ∨ ∃ t x, u = .iface t x
theorem build2e (u v : Value) (hu : ESh u) (hv : ESh v) (W : World) : (Instr.buildSlice 180 2 #[(0, u), (1, v)]).run Tryz.prog W = .ok (.slice (some ⟨W.heap.size, 0, none⟩) 2 2) (W.alloc (.cells #[u, v] 47)) := by
 rcases hu with rfl | ⟨t, x, rfl⟩ <;> rcases hv with rfl | ⟨t', x', rfl⟩ <;> kernel_rfl
theorem bparse_walk (S S1 S2 S4 : ByteArray) (E0 E1 E2 E4 nm X : Int) (n : Nat) (I : Nat → Int) (K : Nat → Nat → Int) (w : World) (hE0 : E0 = if S.size < 8 then 1 else 0) (cH : ∀ (g : Nat) (W : World), RdAt W g S E0 → Calls Tryz.prog 37 #[.pointer (some ⟨g, 0, none⟩), .int .u64 1] W fun e w' => e = .returned (.tuple #[]) ∧ RdAt w' g S1 E1 ∧ Oth g W w') (cN : ∀ (g : Nat) (W : World), RdAt W g S1 E1 → Calls Tryz.prog 13 #[.pointer (some ⟨g, 0, none⟩), .int .i64 4] W fun e w' => e = .returned (.int .u64 nm) ∧ RdAt w' g S2 E2 ∧ Oth g W w') (cP : ∀ (g : Nat) (W : World), RdAt W g S2 E2 → Calls Tryz.prog 66 #[.pointer (some ⟨g, 0, none⟩)] W fun e w' => ∃ oa c, e = .returned (.slice oa n c) ∧ PkAt w' oa n I K ∧ (∀ ad, oa = some ad → W.heap.size ≤ ad.block ∧ ad.block < w'.heap.size) ∧ RdAt w' g S4 E4 ∧ Oth g W w') (hnm : 0 ≤ nm ∧ nm < 4294967296) (hn : n ≤ 64) (hI : ∀ j, j < n → 0 ≤ I j ∧ I j < 4294967296) (hX : X = if enE S4 E4 = 0 then dupE I n else enE S4 E4) :
  Calls Tryz.prog 33 #[.string S] w fun e w' => ∃ v u, e = .returned (.tuple #[v, u]) ∧ BunAt w' v (if X = 0 then nm else 0) (if X = 0 then n else 0) I K ∧ ErV w' u X ∧ Below w.heap.size w w' := by
 have hnw : IntKind.u32.wrap nm = nm := by rw [IntKind.wrap_u32]; omega
 replace hX := hid1 hX
 replace hE0 := hid1 hE0
 go_enter Tryz.func33, Tryz.ntmps33
 go_wp2_with fail
 refine (rover_any _ _).mono ?_
 rintro e w1 ⟨rfl, rfl⟩
 have fr : objAt ((w.alloc (.cells #[.int .u32 0, .slice none 0 0] 71)).alloc (.cells #[.string S, .nilIface] 120)) w.heap.size = some (.cells #[.int .u32 0, .slice none 0 0] 71) := keep_alloc _ (objAt_alloc_at _ _ _ rfl)
 have HR := hid1 (RdAt.over (w.alloc (.cells #[.int .u32 0, .slice none 0 0] 71)) S)
 have hG : Below w.heap.size w ((w.alloc (.cells #[.int .u32 0, .slice none 0 0] 71)).alloc (.cells #[.string S, .nilIface] 120)) := Grew.alloc (Grew.alloc (Grew.refl _) _) _
 have hz : (w.alloc (.cells #[.int .u32 0, .slice none 0 0] 71)).heap.size = w.heap.size + 1 := by simp
 rw [hz] at HR
 go_wp2_with fail
 generalize (w.alloc (.cells #[.int .u32 0, .slice none 0 0] 71)).alloc (.cells #[.string S, .nilIface] 120) = w1 at *
 have hne : w.heap.size ≠ w.heap.size + 1 := by omega
 have hgl : w.heap.size ≤ w.heap.size + 1 := by omega
 clear hz
 generalize w.heap.size + 1 = g at *
 refine (left_st HR.out).mono ?_
 rintro e w1 ⟨rfl, rfl⟩
 refine by_two' (S.size < 8) ?ga ?gb
 case' ga =>
  intro hs
  have hsi : (S.size : Int) < 8 := by omega
  have q0 : E0 = 1 := by rw [hE0.out, if_pos hs]
  go_wp2_with fail
  refine (fail_st _ HR.out (ErV.num _ 1 (by decide))).mono ?_
  rintro e w2 ⟨rfl, HR2, HO⟩
  rw [if_pos rfl, ← q0] at HR2
  replace HR := hid1 HR2
  replace fr := HO.keep fr hne
  replace hG := HO.below hG hgl
  clear HR2 HO
  go_wp2_with fail
 case' gb =>
  intro hs
  have hsi : ¬ ((S.size : Int) < 8) := by omega
  have q0 : E0 = 0 := by rw [hE0.out, if_neg hs]
  rw [← q0] at HR
  obtain ⟨w2, rfl⟩ : ∃ x, x = w1 := ⟨_, rfl⟩
  go_wp2_with fail
 all_goals
  refine (cH _ _ HR.out).mono ?_
  rintro e w3 ⟨rfl, HR3, HO⟩
  replace fr := HO.keep fr hne
  replace hG := HO.below hG hgl
  replace HR := hid1 HR3
  clear HR3 HO
  go_wp2_with fail
  refine (cN _ _ HR.out).mono ?_
  rintro e w4 ⟨rfl, HR3, HO⟩
  replace fr := HO.keep fr hne
  replace hG := HO.below hG hgl
  replace HR := hid1 HR3
  clear HR3 HO
  go_wp2_with fail
  have hgw := lt_of_objAt fr
  refine (cP _ _ HR.out).mono ?_
  rintro e w5 ⟨oa, c, rfl, hP, hoa, HR3, HO⟩
  replace fr := HO.keep fr hne
  replace hG := HO.below hG hgl
  replace HR := hid1 HR3
  replace hP := hid1 hP
  replace hoa := hid1 hoa
  clear HR3 HO
  go_wp2_with fail
  have fb : objAt (w5.alloc (.cells #[.int .u32 nm, .slice oa n c] 71)) w5.heap.size = some (.cells #[.int .u32 nm, .slice oa n c] 71) := objAt_alloc_at _ _ _ rfl
  replace fr := keep_alloc (.cells #[.int .u32 nm, .slice oa n c] 71) fr
  replace hG := Grew.alloc hG (.cells #[.int .u32 nm, .slice oa n c] 71)
  replace HR := hid1 (RdAt.later HR.out (Grew.alloc (Grew.refl w5) (.cells #[.int .u32 nm, .slice oa n c] 71)))
  replace hP := hid1 (hP.out.later (Grew.alloc (Grew.refl w5) (.cells #[.int .u32 nm, .slice oa n c] 71)))
  have hoa2 : Hid (∀ ad, oa = some ad → ad.block < (w5.alloc (.cells #[.int .u32 nm, .slice oa n c] 71)).heap.size) := fun ad e => by have := (hoa.out ad e).2; simp; omega
  have hob : Hid (∀ ad, oa = some ad → ad.block ≠ w.heap.size) := fun ad e => by have := (hoa.out ad e).1; omega
  clear hoa hgw
  generalize w5.alloc (.cells #[.int .u32 nm, .slice oa n c] 71) = w6 at *
  generalize w5.heap.size = gb at *
  have lfb := lt_of_objAt fb
  have lfr := lt_of_objAt fr
  have lg := HR.out.lt
  have cE := fun (W : World) (hb : Below w6.heap.size w6 W) => end_st (HR.out.later hb)
  have cC := fun (W : World) (hb : Below w6.heap.size w6 W) => bcheck_any nm oa n c I K W (hP.out.later hb) (by omega) hI (fun ad e => Nat.lt_of_lt_of_le (hoa2.out ad e) hb.size)
  rw [if_neg (show ¬ (64 < n) by omega)] at cC
  refine wp_relv (fun k => k == 1 || k == 3 || k == 5) (fun k => match k with | 1 => fun u => ESh u | 3 => fun u => ESh u | 5 => fun u => ESh u | _ => fun _ => True) (fun k => match k with | 1 => fun u w => ErV w u (enE S4 E4) | 3 => fun u w => ErV w u (dupE I n) | 5 => fun u w => ErV w u X | _ => fun _ _ => True) (fun k => match k with | 1 => .nilIface | 3 => .nilIface | 5 => .nilIface | _ => undef) (fun i hi => ?_) (by kernel_rfl) (by kernel_rfl) ?_
  ·simp only [Bool.or_eq_true, beq_iff_eq] at hi
   rcases hi with (rfl | rfl) | rfl
   ·exact .inl rfl
   ·exact .inl rfl
   ·exact .inl rfl
  (first | refine exv_skip rfl ?_ | (refine exv_call rfl ?_; apply Exists.intro))
  refine exv_call rfl ⟨undef, ?_⟩
  (first | refine exv_skip rfl ?_ | (refine exv_call rfl ?_; apply Exists.intro))
  refine exv_call rfl ⟨undef, ?_⟩
  (first | refine exv_skip rfl ?_ | (refine exv_call rfl ?_; apply Exists.intro))
  refine exv_call rfl ⟨undef, ?_⟩
  (first | refine exv_skip rfl ?_ | (refine exv_call rfl ?_; apply Exists.intro))
  refine exv_nil ?_
  intro γ gv hsv hinj hbase
  obtain ⟨u1, e1⟩ : ∃ u1, gv 1 = u1 := ⟨_, rfl⟩
  obtain ⟨u2, e2⟩ : ∃ u2, gv 3 = u2 := ⟨_, rfl⟩
  obtain ⟨U, e3⟩ : ∃ U, gv 5 = U := ⟨_, rfl⟩
  have h1 : ESh u1 := e1 ▸ hsv 1 rfl
  have h2 : ESh u2 := e2 ▸ hsv 3 rfl
  have hbd := fun W : World => build2e u1 u2 h1 h2 W
  (repeat (first | (refine rel_quiet rfl ?_; ((first | go_big_quiet_skip | (go_big_quiet_want; go_big_quiet_op; go_big_quiet_on)); refine wpQuiet_nil ?_)) | ((first | refine rel_skip_some rfl (fun _ => rfl) ?_); ((first | go_big_quiet_skip | (go_big_quiet_want; go_big_quiet_op; go_big_quiet_on)); refine wpQuiet_nil ?_)) | refine rel_skip_none rfl (fun _ => rfl) ?_))
  refine rel_callv #[.pointer (some ⟨g, 0, none⟩)] (enters_of Tryz.func23 (by kernel_rfl) rfl) rfl e1 rfl rfl rfl rfl (fits_nil (stab_erv' _ _)) (by first | kernel_rfl | simp [go_sem]) ?_ ?_
  ·intro W hC hF
   obtain ⟨mm, rfl⟩ := hC
   refine (cE _ (below_more w6 mm)).mono ?_
   rintro e w9 ⟨u, rfl, hu, hb9⟩
   exact ⟨_, rfl, hu.shape, hu, hb9⟩
  ((first | go_big_quiet_skip | (go_big_quiet_want; go_big_quiet_op; go_big_quiet_on)); refine wpQuiet_nil ?_)
  (repeat (first | (refine rel_quiet rfl ?_; ((first | go_big_quiet_skip | (go_big_quiet_want; go_big_quiet_op; go_big_quiet_on)); refine wpQuiet_nil ?_)) | ((first | refine rel_skip_some rfl (fun _ => rfl) ?_); ((first | go_big_quiet_skip | (go_big_quiet_want; go_big_quiet_op; go_big_quiet_on)); refine wpQuiet_nil ?_)) | refine rel_skip_none rfl (fun _ => rfl) ?_))
  refine rel_callv #[.agg #[.int .u32 nm, .slice oa n c]] (enters_of Tryz.func68 (by kernel_rfl) rfl) rfl e2 rfl rfl rfl rfl (fits_one (stab_erv' _ _) (stab_erv' _ _) rfl rfl (fits_nil (stab_erv' _ _))) (by first | kernel_rfl | simp [go_sem]) ?_ ?_
  ·intro W hC hF
   obtain ⟨mm, rfl⟩ := hC
   refine (cC _ (below_more w6 mm)).mono ?_
   rintro e w9 ⟨u, rfl, hu, hb9⟩
   exact ⟨_, rfl, hu.shape, hu, hb9⟩
  ((first | go_big_quiet_skip | (go_big_quiet_want; go_big_quiet_op; go_big_quiet_on)); refine wpQuiet_nil ?_)
  (repeat (first | (refine rel_quiet rfl ?_; ((first | go_big_quiet_skip | (go_big_quiet_want; go_big_quiet_op; go_big_quiet_on)); refine wpQuiet_nil ?_)) | ((first | refine rel_skip_some rfl (fun _ => rfl) ?_ | ((try simp only [Nat.zero_add, Nat.reduceAdd]); apply rel_slice alloc_cls; (focus rfl); (focus (intro W; simp only [List.map_toArray, List.map_cons, List.map_nil]; first | (with_reducible exact hbd W) | exact hbd W)); (focus (exact by_fitsE)))); ((first | go_big_quiet_skip | (go_big_quiet_want; go_big_quiet_op; go_big_quiet_on)); refine wpQuiet_nil ?_)) | refine rel_skip_none rfl (fun _ => rfl) ?_))
  refine rel_callv #[.slice (some ⟨γ 4, 0, none⟩) 2 2] (enters_of Tryz.func67 (by kernel_rfl) rfl) rfl e3 rfl rfl rfl rfl (by exact by_fitsE) (by first | kernel_rfl | simp [go_sem]) ?_ ?_
  ·intro W hC hF
   obtain ⟨mm, rfl⟩ := hC
   have hE9 : Full (γ 4) #[u1, u2] 47 (more w6 mm) := known hF (List.mem_cons_self ..) (by decide +kernel)
   have hEb : ErV (more w6 mm) u2 (dupE I n) := known hF (List.mem_cons_of_mem _ (List.mem_cons_self ..)) (by decide +kernel)
   have hEa : ErV (more w6 mm) u1 (enE S4 E4) := known hF (List.mem_cons_of_mem _ (List.mem_cons_of_mem _ (List.mem_cons_self ..))) (by decide +kernel)
   refine (first_pair _ u1 u2 _ hE9 h1 h2).mono ?_
   rintro e w9 ⟨rfl, rfl⟩
   exact ⟨_, rfl, (ErV.first hEa hEb).shape, hX.out ▸ ErV.first hEa hEb, Grew.refl _⟩
  ((first | go_big_quiet_skip | (go_big_quiet_want; go_big_quiet_op; go_big_quiet_on)); refine wpQuiet_nil ?_)
  (repeat (first | (refine rel_quiet rfl ?_; ((first | go_big_quiet_skip | (go_big_quiet_want; go_big_quiet_op; go_big_quiet_on)); refine wpQuiet_nil ?_)) | ((first | refine rel_skip_some rfl (fun _ => rfl) ?_); ((first | go_big_quiet_skip | (go_big_quiet_want; go_big_quiet_op; go_big_quiet_on)); refine wpQuiet_nil ?_)) | refine rel_skip_none rfl (fun _ => rfl) ?_))
  (refine rel_nil ?_; rintro _ ⟨mq, rfl⟩ hF; simp only [List.forall_mem_cons] at hF; obtain ⟨f5, -, -, -, -⟩ := hF)
  have hfv := hid1 f5
  replace fr := keep_more mq fr
  replace fb := keep_more mq fb
  replace hG := Grew.more hG mq
  replace hP := hid1 (hP.out.later (below_more w6 mq))
  clear cE cC f5 hinj hbase hsv e1 e2 e3 lfb lfr lg hbd h1 h2 HR
  generalize more w6 mq = w7 at *
  have lfb := lt_of_objAt fb
  have lfr := lt_of_objAt fr
  by_cases hX0 : X = 0
  ·rw [hX0] at hfv
   rcases hfv with ⟨-, rfl⟩ | ⟨h0, -⟩
   ·have hP9 := hid1 (hP.out)
    go_wp2
    refine ret_key_tmp rfl _ 71 #[.int .u32 nm, .slice oa n c] (0, 0) _ _ rfl rfl (keep_row _ fr) Tryz.underlying71 rfl (by kernel_rfl) rfl ?_
    have hB9 : BunAt (w7.setRow w.heap.size #[.int .u32 nm, .slice oa n c]) (.agg #[.int .u32 nm, .slice oa n c]) nm n I K := ⟨oa, c, rfl, hP9.out.aside _ (fun ad e => hob.out ad e) _⟩
    exact ⟨_, _, rfl, by first | exact hB9 | (rw [if_pos hX0, if_pos hX0]; exact hB9), .inl ⟨by first | rfl | exact hX0, rfl⟩, Grew.setRow hG _ _ (Nat.le_refl _)⟩
   ·exact absurd rfl h0
  ·obtain ⟨t, x, rfl, hw⟩ := hfv.out.wrap hX0
   go_wp2_with fail
   refine (wrap_any _ _ _ _).mono ?_
   rintro e w8 ⟨rfl, rfl⟩
   have hw9 := hid1 (hw ⟨#[98, 117, 110, 100, 108, 101]⟩)
   replace fr := keep_alloc (.cells #[.string ⟨#[98, 117, 110, 100, 108, 101]⟩, .iface t x] 129) fr
   replace hG := Grew.alloc hG (.cells #[.string ⟨#[98, 117, 110, 100, 108, 101]⟩, .iface t x] 129)
   clear hw lfb lfr
   generalize (Value.iface 127 (.pointer (some ⟨w7.heap.size, 0, none⟩))) = fv at *
   generalize w7.alloc (.cells #[.string ⟨#[98, 117, 110, 100, 108, 101]⟩, .iface t x] 129) = w8 at *
   have lfr := lt_of_objAt fr
   go_wp2
   refine ret_key_tmp rfl _ 71 #[.int .u32 0, .slice none 0 0] (0, 0) _ _ rfl rfl (keep_row _ fr) Tryz.underlying71 rfl (by kernel_rfl) rfl ?_
   exact ⟨_, _, rfl, by first | (rw [if_neg hX0, if_neg hX0]; exact ⟨none, 0, rfl, .inl rfl⟩) | exact ⟨none, 0, rfl, .inl rfl⟩, hw9.out.put fr (by decide) _, Grew.setRow hG _ _ (Nat.le_refl _)⟩
end Go.Proofs.YtncjdlahiohlbaaGreatDoor
namespace Go.Proofs.YtncjdlahiohlbaaGreatDoor
open Go.RowKit Go.Extern
set_option linter.unusedVariables false
set_option linter.unusedSimpArgs false
attribute [local go_sem high] byteAt_in
def pnI (S : ByteArray) : Int := beK (S.extract 6 8) (S.extract 6 8).size
def pnN (S : ByteArray) : Nat := (pnI S).toNat
def nmF (S : ByteArray) : Int := beK (S.extract 2 6) (S.extract 2 6).size
def idF (S : ByteArray) (j : Nat) : Int := beK (S.extract (8 + 36 * j) (8 + 36 * j + 4)) (S.extract (8 + 36 * j) (8 + 36 * j + 4)).size
def pkF (S : ByteArray) (j i : Nat) : Int := byteAt S (8 + 36 * j + 4 + i)
noncomputable def pcE (S : ByteArray) : Int :=
 if S.size < 8 then 1 else if byteAt S 0 ≠ 1 then 3 else if byteAt S 1 ≠ 1 then 14 else if 64 < pnI S then 18
 else if (S.size : Int) < 8 + 36 * pnI S then 1 else if 8 + 36 * pnI S < (S.size : Int) then 2 else dupE (idF S) (pnN S)
theorem ext_size (S : ByteArray) (a d : Nat) : (S.extract a (a + d)).size ≤ d := by rw [ByteArray.size_extract]; omega
theorem pnI_bd (S : ByteArray) : 0 ≤ pnI S ∧ pnI S < 4294967296 := beK_bd4 _ (Nat.le_trans (ext_size S 6 2) (by decide))
theorem nmF_bd (S : ByteArray) : 0 ≤ nmF S ∧ nmF S < 4294967296 := beK_bd4 _ (Nat.le_trans (ext_size S 2 4) (by decide))
theorem idF_bd (S : ByteArray) (j : Nat) : 0 ≤ idF S j ∧ idF S j < 4294967296 := beK_bd4 _ (ext_size S (8 + 36 * j) 4)
def pkP (S : ByteArray) (k j : Nat) : Nat → Int := fun i => if i < j then pkF S k i else 0
theorem pkC_congr {x : Int} {f g : Nat → Int} (h : ∀ i, i < 32 → f i = g i) : pkC x f = pkC x g := by
 apply Array.ext_getElem?
 intro i
 by_cases hi : i < 33
 ·rcases Nat.eq_zero_or_pos i with rfl | hp
  ·rw [pkC_0, pkC_0]
  ·obtain ⟨q, rfl⟩ : ∃ q, i = 1 + q := ⟨i - 1, by omega⟩
   rw [pkC_k _ _ _ (by omega), pkC_k _ _ _ (by omega), h q (by omega)]
 ·rw [Array.getElem?_eq_none (by rw [pkC_size]; omega), Array.getElem?_eq_none (by rw [pkC_size]; omega)]
theorem pkP_zero (S : ByteArray) (k : Nat) (x : Int) : pkC x (pkP S k 0) = pkC x nought := pkC_congr fun i hi => by
 unfold pkP nought
 rw [if_neg (by omega)]
theorem pkP_succ (S : ByteArray) (k j : Nat) (x : Int) : pkC x (upd (pkP S k j) j (byteAt S (8 + 36 * k + 4 + j))) = pkC x (pkP S k (j + 1)) := pkC_congr fun i hi => by
 unfold upd pkP
 by_cases e : i = j
 ·subst e
  rw [if_pos rfl, if_pos (by omega)]
  rfl
 ·rw [if_neg e]
  by_cases h : i < j
  ·rw [if_pos h, if_pos (by omega)]
  ·rw [if_neg h, if_neg (by omega)]
theorem pkP_all (S : ByteArray) (k : Nat) (x : Int) : pkC x (pkP S k 32) = pkC x (pkF S k) := pkC_congr fun i hi => by
 unfold pkP
 rw [if_pos hi]
theorem rparse17_any (S : ByteArray) (w : World) (hS : S.size ≤ 100000) :
  Calls Tryz.prog 34 #[.string S] w fun e w' => ∃ v, e = .returned (.tuple #[v, .int .i64 (pcE S)]) ∧ BunAt w' v (if pcE S = 0 then nmF S else 0) (if pcE S = 0 then pnN S else 0) (idF S) (pkF S) ∧ Below w.heap.size w w' := by
 go_enter Tryz.func34, Tryz.ntmps34
 by_cases c1 : S.size < 8
 ·have c1i : (S.size : Int) < 8 := by omega
  have hp : pcE S = 1 := by unfold pcE; rw [if_pos c1]
  rw [hp, if_neg (by decide), if_neg (by decide)]
  go_wp2
  refine ret_key_tmp rfl _ 76 #[.int .u32 0, .slice none 0 0] (0, 0) _ _ rfl rfl (by exact keep_auto) Tryz.underlying76 rfl (by kernel_rfl) rfl (by first | exact ⟨_, rfl, ⟨_, _, rfl, .inl rfl⟩, by exact grew_auto⟩ | exact ⟨⟨_, rfl⟩, ⟨_, _, rfl, .inl rfl⟩, by exact grew_auto⟩)
 have c1i : ¬ ((S.size : Int) < 8) := by omega
 have s0 : 0 < S.size := by omega
 have s1 : 1 < S.size := by omega
 have s0i : (0 : Int) < (S.size : Int) := by omega
 have s1i : (1 : Int) < (S.size : Int) := by omega
 by_cases c2 : byteAt S 0 = 1
 case neg =>
  have hp : pcE S = 3 := by unfold pcE; rw [if_neg c1, if_pos c2]
  rw [hp, if_neg (by decide), if_neg (by decide)]
  go_wp2
  refine ret_key_tmp rfl _ 76 #[.int .u32 0, .slice none 0 0] (0, 0) _ _ rfl rfl (by exact keep_auto) Tryz.underlying76 rfl (by kernel_rfl) rfl (by first | exact ⟨_, rfl, ⟨_, _, rfl, .inl rfl⟩, by exact grew_auto⟩ | exact ⟨⟨_, rfl⟩, ⟨_, _, rfl, .inl rfl⟩, by exact grew_auto⟩)
 by_cases c3 : byteAt S 1 = 1
 case neg =>
  have hp : pcE S = 14 := by unfold pcE; rw [if_neg c1, if_neg (fun h => h c2), if_pos c3]
  rw [hp, if_neg (by decide), if_neg (by decide)]
  go_wp2
  refine ret_key_tmp rfl _ 76 #[.int .u32 0, .slice none 0 0] (0, 0) _ _ rfl rfl (by exact keep_auto) Tryz.underlying76 rfl (by kernel_rfl) rfl (by first | exact ⟨_, rfl, ⟨_, _, rfl, .inl rfl⟩, by exact grew_auto⟩ | exact ⟨⟨_, rfl⟩, ⟨_, _, rfl, .inl rfl⟩, by exact grew_auto⟩)
 have h68 : (6 : Nat) ≤ 8 ∧ 8 ≤ S.size := ⟨by decide, by omega⟩
 have h8i : (8 : Int) ≤ (S.size : Int) := by omega
 have c6 := fun W => num17_any (S.extract 6 8) W (Nat.le_trans (ext_size S 6 2) (by decide))
 have hpn : beK (S.extract 6 8) (S.extract 6 8).size = pnI S := rfl
 rw [hpn] at c6
 clear hpn
 obtain ⟨n, hn⟩ : ∃ n : Nat, pnI S = n := ⟨(pnI S).toNat, by have := pnI_bd S; omega⟩
 have hnb : n < 4294967296 := by have := pnI_bd S; omega
 have hpN : pnN S = n := by unfold pnN; rw [hn]; rfl
 rw [hn] at c6
 by_cases c4 : 64 < n
 ·have c4i : (64 : Int) < (n : Int) := by omega
  have hp : pcE S = 18 := by unfold pcE; rw [if_neg c1, if_neg (fun h => h c2), if_neg (fun h => h c3), hn, if_pos c4i]
  rw [hp, if_neg (by decide), if_neg (by decide)]
  go_wp2_with fail
  refine (c6 _).mono ?_
  rintro e w1 ⟨rfl, hb⟩
  have fr := keep_below hb (objAt_alloc_at w _ _ rfl : objAt (w.alloc (.cells #[.int .u32 0, .slice none 0 0] 76)) w.heap.size = some (.cells #[.int .u32 0, .slice none 0 0] 76))
  have hG := Grew.trans (Grew.alloc (Grew.refl w) (.cells #[.int .u32 0, .slice none 0 0] 76)) hb
  have lr := lt_of_objAt fr
  clear hb
  go_wp2
  refine ret_key_tmp rfl _ 76 #[.int .u32 0, .slice none 0 0] (0, 0) _ _ rfl rfl (keep_row _ fr) Tryz.underlying76 rfl (by kernel_rfl) rfl (by first | exact ⟨_, rfl, ⟨_, _, rfl, .inl rfl⟩, Grew.setRow hG _ _ (Nat.le_refl _)⟩ | exact ⟨⟨_, rfl⟩, ⟨_, _, rfl, .inl rfl⟩, Grew.setRow hG _ _ (Nat.le_refl _)⟩)
 have c4i : ¬ ((64 : Int) < (n : Int)) := by omega
 have fr : objAt (w.alloc (.cells #[.int .u32 0, .slice none 0 0] 76)) w.heap.size = some (.cells #[.int .u32 0, .slice none 0 0] 76) := objAt_alloc_at _ _ _ rfl
 have hG : Below w.heap.size w (w.alloc (.cells #[.int .u32 0, .slice none 0 0] 76)) := Grew.alloc (Grew.refl w) _
 by_cases c5 : (S.size : Int) < 8 + 36 * (n : Int)
 ·have hp : pcE S = 1 := by unfold pcE; rw [if_neg c1, if_neg (fun h => h c2), if_neg (fun h => h c3), hn, if_neg c4i, if_pos c5]
  rw [hp, if_neg (by decide), if_neg (by decide)]
  go_wp2_with fail
  refine (c6 _).mono ?_
  rintro e w1 ⟨rfl, hb⟩
  replace fr := keep_below hb fr
  replace hG := Grew.trans hG hb
  have lr := lt_of_objAt fr
  clear hb
  go_wp2
  refine ret_key_tmp rfl _ 76 #[.int .u32 0, .slice none 0 0] (0, 0) _ _ rfl rfl (keep_row _ fr) Tryz.underlying76 rfl (by kernel_rfl) rfl (by first | exact ⟨_, rfl, ⟨_, _, rfl, .inl rfl⟩, Grew.setRow hG _ _ (Nat.le_refl _)⟩ | exact ⟨⟨_, rfl⟩, ⟨_, _, rfl, .inl rfl⟩, Grew.setRow hG _ _ (Nat.le_refl _)⟩)
 by_cases c5b : 8 + 36 * (n : Int) < (S.size : Int)
 ·have hp : pcE S = 2 := by unfold pcE; rw [if_neg c1, if_neg (fun h => h c2), if_neg (fun h => h c3), hn, if_neg c4i, if_neg c5, if_pos c5b]
  rw [hp, if_neg (by decide), if_neg (by decide)]
  go_wp2_with fail
  refine (c6 _).mono ?_
  rintro e w1 ⟨rfl, hb⟩
  replace fr := keep_below hb fr
  replace hG := Grew.trans hG hb
  have lr := lt_of_objAt fr
  clear hb
  go_wp2
  refine ret_key_tmp rfl _ 76 #[.int .u32 0, .slice none 0 0] (0, 0) _ _ rfl rfl (keep_row _ fr) Tryz.underlying76 rfl (by kernel_rfl) rfl (by first | exact ⟨_, rfl, ⟨_, _, rfl, .inl rfl⟩, Grew.setRow hG _ _ (Nat.le_refl _)⟩ | exact ⟨⟨_, rfl⟩, ⟨_, _, rfl, .inl rfl⟩, Grew.setRow hG _ _ (Nat.le_refl _)⟩)
 have hp : pcE S = dupE (idF S) n := by unfold pcE; rw [if_neg c1, if_neg (fun h => h c2), if_neg (fun h => h c3), hn, if_neg c4i, if_neg c5, if_neg c5b, hpN]
 rw [hp, hpN]
 have hsz : S.size = 8 + 36 * n := by omega
 have c26 := fun W => num17_any (S.extract 2 6) W (Nat.le_trans (ext_size S 2 4) (by decide))
 have hnm : beK (S.extract 2 6) (S.extract 2 6).size = nmF S := rfl
 rw [hnm] at c26
 clear hnm hp
 have hnmb := nmF_bd S
 have hnmw : IntKind.u32.wrap (nmF S) = nmF S := by rw [IntKind.wrap_u32]; omega
 have h26 : (2 : Nat) ≤ 6 ∧ 6 ≤ S.size := ⟨by decide, by omega⟩
 have h6i : (6 : Int) ≤ (S.size : Int) := by omega
 go_wp2_with fail
 refine (c6 _).mono ?_
 rintro e w1 ⟨rfl, hb⟩
 replace fr := keep_below hb fr
 replace hG := Grew.trans hG hb
 clear hb c6
 go_wp2_with fail
 refine (c26 _).mono ?_
 rintro e w2 ⟨rfl, hb⟩
 replace fr := keep_below hb fr
 replace hG := Grew.trans hG hb
 clear hb c26
 have hg2 := hG.size
 have lr2 := lt_of_objAt fr
 obtain ⟨nm, hnv⟩ : ∃ x, x = nmF S := ⟨_, rfl⟩
 rw [← hnv] at hnmb hnmw ⊢
 replace hnv := hid1 hnv
 go_wp2_with fail
 have fo : objAt (w2.alloc (.cells #[.int .u32 nm, .slice none 0 0] 76)) w2.heap.size = some (.cells #[.int .u32 nm, .slice none 0 0] 76) := objAt_alloc_at _ _ _ rfl
 replace fr := keep_alloc (.cells #[.int .u32 nm, .slice none 0 0] 76) fr
 replace hG := Grew.alloc hG (.cells #[.int .u32 nm, .slice none 0 0] 76)
 have hro : w.heap.size < w2.heap.size := lr2
 have hso : (w2.alloc (.cells #[.int .u32 nm, .slice none 0 0] 76)).heap.size = w2.heap.size + 1 := by simp
 clear lr2
 generalize w2.alloc (.cells #[.int .u32 nm, .slice none 0 0] 76) = w3 at *
 generalize w2.heap.size = go at *
 go_loopw [6] (fun i wr => ∃ (k : Nat) (v0 : Value), k ≤ n ∧ i = .int .i64 k ∧ Below w.heap.size w wr ∧ objAt wr w.heap.size = some (.cells #[.int .u32 0, .slice none 0 0] 76) ∧ objAt wr go = some (.cells #[.int .u32 nm, v0] 76) ∧ Hid (wr.ownsRow (go + 1) 147 33 v0 k (pkL (idF S) (pkF S) k))) (fun i _ => n - (intOf i).toNat)
 case atStart => exact ⟨0, _, by omega, rfl, hG, fr, fo, World.ownsRow_nil _ _ _ _⟩
 case round =>
  clear hG fr fo hso
  obtain ⟨k, v0, hk, rfl, hG, fr, fo, OWN⟩ := hrel
  have lr := lt_of_objAt fr
  have lo := lt_of_objAt fo
  by_cases hlt : k < n
  ·have hi1 : (k : Int) < (n : Int) := by omega
   have cK := fun W => num17_any (S.extract (8 + 36 * k) (8 + 36 * k + 4)) W (ext_size S (8 + 36 * k) 4)
   have hidx : beK (S.extract (8 + 36 * k) (8 + 36 * k + 4)) (S.extract (8 + 36 * k) (8 + 36 * k + 4)).size = idF S k := rfl
   rw [hidx] at cK
   have hib := idF_bd S k
   have hiw : IntKind.u32.wrap (idF S k) = idF S k := by rw [IntKind.wrap_u32]; omega
   have ht1 : ((8 : Int) + 36 * (k : Int)).toNat = 8 + 36 * k := by omega
   have ht2 : ((8 : Int) + 36 * (k : Int) + 4).toNat = 8 + 36 * k + 4 := by omega
   have b1 : (0 : Int) ≤ 8 + 36 * (k : Int) := by omega
   have b2 : (8 : Int) + 36 * (k : Int) ≤ 8 + 36 * (k : Int) + 4 := by omega
   have b3 : (8 : Int) + 36 * (k : Int) + 4 ≤ (S.size : Int) := by omega
   have b4 : 8 + 36 * k + 4 ≤ S.size := by omega
   have HI : Hid (idF S k = idF S k) := rfl
   clear hidx
   go_wp2_with fail
   refine (cK _).mono ?_
   rintro e w6 ⟨rfl, hb⟩
   replace fr := keep_below hb fr
   replace fo := keep_below hb fo
   replace hG := Grew.trans hG hb
   replace OWN := hid1 (own_later OWN.out hb)
   clear hb cK lr lo
   have lr := lt_of_objAt fr
   have lo := lt_of_objAt fo
   obtain ⟨x, hx⟩ : ∃ x, x = idF S k := ⟨_, rfl⟩
   rw [← hx] at hiw hib ⊢
   replace hx := hid1 hx
   clear HI
   go_wp2_with fail
   go_loopw [9] (fun i wr => ∃ j : Nat, j ≤ 32 ∧ i = .int .i64 j ∧ wr = w6.alloc (.cells (pkC x (pkP S k j)) 147)) (fun i _ => 32 - (intOf i).toNat)
   case atStart => exact ⟨0, by omega, rfl, by rw [pkP_zero]⟩
   case round =>
    obtain ⟨j, hj, rfl, rfl⟩ := hrel
    by_cases hj2 : j < 32
    ·have hj3 : (j : Int) < 32 := by omega
     have hj4 : (0 : Int) ≤ (j : Int) := by omega
     have hu := pkP_succ S k j x
     have hcell := pkC_k x (pkP S k j) j hj2
     have ht3 : ((8 : Int) + 36 * (k : Int) + 4 + (j : Int)).toNat = 8 + 36 * k + 4 + j := by omega
     have b5 : (0 : Int) ≤ 8 + 36 * (k : Int) + 4 + (j : Int) := by omega
     have b6 : (8 : Int) + 36 * (k : Int) + 4 + (j : Int) < (S.size : Int) := by omega
     have b7 : 8 + 36 * k + 4 + j < S.size := by omega
     go_wp2
     go_roundw
     case rel => exact ⟨j + 1, by omega, by go_num, by first | rfl | rw [hu]⟩
     case measure => simp [intOf]; omega
    ·obtain rfl : j = 32 := by omega
     have hall := pkP_all S k x
     obtain ⟨g3, c3, w7, hr3, own7, hb7, hk7⟩ := append_rpk w ((w6.alloc (.cells (pkC x (pkF S k)) 147)).alloc (.cells (pkC x (pkF S k)) 147)) (go + 1) _ k (idF S) (pkF S) (w6.heap.size + 1) _ _ (World.ownsRow.alloc (World.ownsRow.alloc OWN.out _) _) (by omega) (by rw [← hx.out]; exact objAt_alloc_at _ _ _ (by simp)) (Grew.alloc (Grew.alloc hG _) _) (by omega) (by simp; omega)
     have fr7 := hk7 _ _ (by omega) (keep_alloc (.cells (pkC x (pkF S k)) 147) (keep_alloc (.cells (pkC x (pkF S k)) 147) fr))
     have fo7 := hk7 _ _ (by omega) (keep_alloc (.cells (pkC x (pkF S k)) 147) (keep_alloc (.cells (pkC x (pkF S k)) 147) fo))
     have lo7 := lt_of_objAt fo7
     have OWN7 : Hid ((w7.setRow go #[.int .u32 nm, .slice (some ⟨g3, 0, none⟩) (k + 1) c3]).ownsRow (go + 1) 147 33 (.slice (some ⟨g3, 0, none⟩) (k + 1) c3) (k + 1) (pkL (idF S) (pkF S) (k + 1))) := own_setRow own7 (by omega)
     have hG7 := Grew.setRow hb7 go #[.int .u32 nm, .slice (some ⟨g3, 0, none⟩) (k + 1) c3] (by omega)
     have fr8 := keep_setRow go #[.int .u32 nm, .slice (some ⟨g3, 0, none⟩) (k + 1) c3] fr7 (by omega)
     have fo8 := keep_row #[.int .u32 nm, .slice (some ⟨g3, 0, none⟩) (k + 1) c3] fo7
     clear own7 hk7 OWN hb7
     rw [hall]
     generalize pkF S k = y at *
     go_wp2
     go_roundw
     case rel => first | exact ⟨k + 1, _, by omega, by go_num, hG7, fr8, fo8, OWN7⟩ | ((repeat' apply Exists.intro) <;> first | exact ⟨⟨k + 1, _, by omega, by go_num, hG7, fr8, fo8, OWN7⟩, rfl⟩ | exact undef)
     case measure => (simp [intOf]; omega)
  ·obtain rfl : k = n := by omega
   have hi1 : ¬ ((k : Int) < (k : Int)) := by omega
   obtain ⟨oa2, c2, rfl, -, hP2, hB2⟩ := pk_of_own OWN.out
   have HP2 : Hid (PkAt wr oa2 k (idF S) (pkF S)) := hP2
   have cC := fun W (hb : Below wr.heap.size wr W) => rcheck17_any nm oa2 k c2 (idF S) (pkF S) W (HP2.out.later hb) (by omega)
   clear OWN hP2
   go_wp2_with fail
   refine (cC _ (Grew.refl _)).mono ?_
   rintro e w6 ⟨rfl, hb⟩
   replace fr := keep_below hb fr
   replace fo := keep_below hb fo
   replace hG := Grew.trans hG hb
   replace HP2 := hid1 (HP2.out.later hb)
   have lr := lt_of_objAt fr
   have lo := lt_of_objAt fo
   clear hb cC
   by_cases hd : dupE (idF S) k = 0
   ·have hP9 := hid1 (HP2.out.aside w.heap.size (fun ad e => by have := (hB2 ad e).1; omega) #[.int .u32 nm, .slice oa2 k c2])
    go_wp2
    refine ret_key_tmp rfl _ 76 #[.int .u32 nm, .slice oa2 k c2] (0, 0) _ _ rfl rfl (keep_row _ fr) Tryz.underlying76 rfl (by kernel_rfl) rfl ?_
    exact ⟨_, by first | rfl | (rw [hd]; rfl), by first | (rw [if_pos hd, if_pos hd]; exact ⟨_, _, by rw [← hnv.out], hP9.out⟩) | exact ⟨_, _, by rw [← hnv.out], hP9.out⟩, Grew.setRow hG _ _ (Nat.le_refl _)⟩
   ·go_wp2
    refine ret_key_tmp rfl _ 76 #[.int .u32 0, .slice none 0 0] (0, 0) _ _ rfl rfl (keep_row _ fr) Tryz.underlying76 rfl (by kernel_rfl) rfl ?_
    exact ⟨_, rfl, by first | (rw [if_neg hd, if_neg hd]; exact ⟨none, 0, rfl, .inl rfl⟩) | exact ⟨none, 0, rfl, .inl rfl⟩, Grew.setRow hG _ _ (Nat.le_refl _)⟩
end Go.Proofs.YtncjdlahiohlbaaGreatDoor
namespace Go.Proofs.YtncjdlahiohlbaaGreatDoor
open Go.RowKit Go.Extern
set_option linter.unusedVariables false
set_option linter.unusedSimpArgs false
theorem ext_ext (S : ByteArray) (a b c : Nat) (h : a + c ≤ S.size) : (S.extract a S.size).extract b c = S.extract (a + b) (a + c) := eq_of_byteAt (by simp only [ByteArray.size_extract]; omega) fun i hi => by
 simp only [ByteArray.size_extract] at hi
 rw [byteAt_ext _ _ _ _ (by omega) (by rw [ByteArray.size_extract]; omega), byteAt_ext _ _ _ _ (by omega) (Nat.le_refl _), byteAt_ext _ _ _ _ (by omega) (by omega), Nat.add_assoc]
theorem ext_end (S : ByteArray) (a b : Nat) : (S.extract a S.size).extract b (S.extract a S.size).size = S.extract (a + b) S.size := eq_of_byteAt (by simp only [ByteArray.size_extract]; omega) fun i hi => by
 simp only [ByteArray.size_extract] at hi
 rw [byteAt_ext _ _ _ _ (by rw [ByteArray.size_extract]; omega) (Nat.le_refl _), byteAt_ext _ _ _ _ (by omega) (Nat.le_refl _), byteAt_ext _ _ _ _ (by omega) (Nat.le_refl _), Nat.add_assoc]
theorem tk_at (S : ByteArray) (a n : Nat) (h : a + n ≤ S.size) : tkT (S.extract a S.size) 0 (n : Int) = S.extract a (a + n) ∧ tkS (S.extract a S.size) 0 (n : Int) = S.extract (a + n) S.size ∧ tkE (S.extract a S.size) 0 (n : Int) = 0 := by
 obtain ⟨e1, e2, e3⟩ := tk_ok (S := S.extract a S.size) (n := n) (by rw [ByteArray.size_extract]; omega)
 rw [e1, e2, e3, ext_ext S a 0 n h, ext_end]
 exact ⟨rfl, rfl, rfl⟩
theorem tk_bad {S : ByteArray} {E : Int} (n : Int) (h : E ≠ 0) : tkT S E n = ⟨#[]⟩ ∧ tkS S E n = S ∧ tkE S E n = E := by
 obtain ⟨e1, e2⟩ := tk_err (S := S) (E := E) (n := n) (.inl h)
 exact ⟨e1, e2, by unfold tkE; rw [if_pos h]⟩
theorem tk_low (S : ByteArray) (n : Nat) (h : S.size < n) : tkE S 0 (n : Int) = 1 := by
 unfold tkE
 rw [if_neg (by simp), if_pos (by omega)]
theorem pkSt_ok (S : ByteArray) (a : Nat) : ∀ j, a + 36 * j ≤ S.size → pkSt (S.extract a S.size) 0 j = (S.extract (a + 36 * j) S.size, 0)
 | 0, _ => rfl
 | j + 1, h => by
  have ih := pkSt_ok S a j (by omega)
  obtain ⟨-, e2, e3⟩ := tk_at S (a + 36 * j) 4 (by omega)
  obtain ⟨-, f2, f3⟩ := tk_at S (a + 36 * j + 4) 32 (by omega)
  show (tkS (tkS (pkSt _ 0 j).1 (pkSt _ 0 j).2 4) (tkE (pkSt _ 0 j).1 (pkSt _ 0 j).2 4) 32, tkE (tkS (pkSt _ 0 j).1 (pkSt _ 0 j).2 4) (tkE (pkSt _ 0 j).1 (pkSt _ 0 j).2 4) 32) = _
  rw [ih]
  show (tkS (tkS _ 0 ((4 : Nat) : Int)) (tkE _ 0 ((4 : Nat) : Int)) ((32 : Nat) : Int), tkE (tkS _ 0 ((4 : Nat) : Int)) (tkE _ 0 ((4 : Nat) : Int)) ((32 : Nat) : Int)) = _
  rw [e2, e3, f2, f3, show a + 36 * j + 4 + 32 = a + 36 * (j + 1) by omega]
theorem pkSt_short (S : ByteArray) (a : Nat) (ha : a ≤ S.size) : ∀ j, S.size < a + 36 * j → (pkSt (S.extract a S.size) 0 j).2 = 1
 | 0, h => by omega
 | j + 1, h => by
  show tkE (tkS (pkSt _ 0 j).1 (pkSt _ 0 j).2 4) (tkE (pkSt _ 0 j).1 (pkSt _ 0 j).2 4) 32 = 1
  by_cases h1 : S.size < a + 36 * j
  ·have ih := pkSt_short S a ha j h1
   rw [ih]
   obtain ⟨-, -, e3⟩ := tk_bad (S := (pkSt (S.extract a S.size) 0 j).1) (E := 1) 4 (by decide)
   rw [e3]
   exact (tk_bad 32 (by decide)).2.2
  ·rw [pkSt_ok S a j (by omega)]
   by_cases h2 : S.size < a + 36 * j + 4
   ·have e3 := tk_low (S.extract (a + 36 * j) S.size) 4 (by rw [ByteArray.size_extract]; omega)
    show tkE _ (tkE (S.extract (a + 36 * j) S.size) 0 ((4 : Nat) : Int)) 32 = 1
    rw [e3]
    exact (tk_bad 32 (by decide)).2.2
   ·obtain ⟨-, e2, e3⟩ := tk_at S (a + 36 * j) 4 (by omega)
    show tkE (tkS (S.extract (a + 36 * j) S.size) 0 ((4 : Nat) : Int)) (tkE (S.extract (a + 36 * j) S.size) 0 ((4 : Nat) : Int)) ((32 : Nat) : Int) = 1
    rw [e2, e3]
    exact tk_low _ 32 (by rw [ByteArray.size_extract]; omega)
theorem pkI_ok (S : ByteArray) (a j : Nat) (h : a + 36 * (j + 1) ≤ S.size) : pkI (S.extract a S.size) 0 j = beK (S.extract (a + 36 * j) (a + 36 * j + 4)) (S.extract (a + 36 * j) (a + 36 * j + 4)).size := by
 obtain ⟨e1, -, -⟩ := tk_at S (a + 36 * j) 4 (by omega)
 unfold pkI
 rw [pkSt_ok S a j (by omega)]
 show beK (tkT _ 0 ((4 : Nat) : Int)) (tkT _ 0 ((4 : Nat) : Int)).size = _
 rw [e1]
theorem pkK_ok (S : ByteArray) (a j : Nat) (h : a + 36 * (j + 1) ≤ S.size) (i : Nat) (hi : i < 32) : pkK (S.extract a S.size) 0 j i = byteAt S (a + 36 * j + 4 + i) := by
 obtain ⟨-, e2, e3⟩ := tk_at S (a + 36 * j) 4 (by omega)
 obtain ⟨f1, -, -⟩ := tk_at S (a + 36 * j + 4) 32 (by omega)
 unfold pkK
 rw [pkSt_ok S a j (by omega)]
 show putT nought 0 (tkT (tkS _ 0 ((4 : Nat) : Int)) (tkE _ 0 ((4 : Nat) : Int)) ((32 : Nat) : Int)).size (tkT (tkS _ 0 ((4 : Nat) : Int)) (tkE _ 0 ((4 : Nat) : Int)) ((32 : Nat) : Int)) i = _
 rw [e2, e3, f1]
 unfold putT
 rw [if_pos ⟨Nat.zero_le _, by rw [ByteArray.size_extract]; omega⟩, Nat.sub_zero, byteAt_ext _ _ _ _ (by omega) (by omega)]
theorem ext_self (S : ByteArray) : S.extract 0 S.size = S := eq_of_byteAt (by rw [ByteArray.size_extract]; omega) fun i hi => by
 rw [ByteArray.size_extract] at hi
 rw [byteAt_ext _ _ _ _ (by omega) (Nat.le_refl _), Nat.zero_add]
theorem beK_two (S : ByteArray) (h : 2 ≤ S.size) : beK (S.extract 0 (0 + 2)) (S.extract 0 (0 + 2)).size = byteAt S 0 * 256 + byteAt S 1 := by
 have hs : (S.extract 0 (0 + 2)).size = 2 := by rw [ByteArray.size_extract]; omega
 rw [hs]
 show (0 * 256 + byteAt (S.extract 0 (0 + 2)) 0) * 256 + byteAt (S.extract 0 (0 + 2)) 1 = _
 rw [byteAt_ext _ _ _ _ (by omega) (by omega), byteAt_ext _ _ _ _ (by omega) (by omega)]
 simp
theorem Twice.congr {I J : Nat → Int} {n : Nat} (h : ∀ j, j < n → I j = J j) : Twice I n ↔ Twice J n :=
 ⟨fun ⟨i, hi, k, hk, e⟩ => ⟨i, hi, k, hk, by rw [← h i hi, ← h k (by omega)]; exact e⟩, fun ⟨i, hi, k, hk, e⟩ => ⟨i, hi, k, hk, by rw [h i hi, h k (by omega)]; exact e⟩⟩
theorem dupE_congr {I J : Nat → Int} {n : Nat} (h : ∀ j, j < n → I j = J j) : dupE I n = dupE J n := by
 by_cases hd : Twice I n
 ·rw [dupE_yes hd, dupE_yes ((Twice.congr h).1 hd)]
 ·rw [dupE_no hd, dupE_no (fun h2 => hd ((Twice.congr h).2 h2))]
theorem BunAt.congr {w : World} {v : Value} {nm : Int} {n : Nat} {I J : Nat → Int} {K M : Nat → Nat → Int} (h : BunAt w v nm n I K) (hI : ∀ j, j < n → I j = J j) (hK : ∀ j, j < n → ∀ i, i < 32 → K j i = M j i) : BunAt w v nm n J M := by
 obtain ⟨oa, c, e, hp⟩ := h
 refine ⟨oa, c, e, ?_⟩
 rcases hp with h0 | ⟨ad, ho, hl, hc⟩
 ·exact .inl h0
 ·refine .inr ⟨ad, ho, hl, fun j hj i hi => ?_⟩
  rw [hc j hj i hi, hI j hj]
  rcases Nat.eq_zero_or_pos i with rfl | hp
  ·rw [pkC_0, pkC_0]
  ·obtain ⟨q, rfl⟩ : ∃ q, i = 1 + q := ⟨i - 1, by omega⟩
   rw [pkC_k _ _ _ (by omega), pkC_k _ _ _ (by omega), hK j hj q (by omega)]
theorem bparse_any (S : ByteArray) (w : World) (hS : S.size ≤ 100000) :
  Calls Tryz.prog 33 #[.string S] w fun e w' => ∃ v u, e = .returned (.tuple #[v, u]) ∧ BunAt w' v (if pcE S = 0 then nmF S else 0) (if pcE S = 0 then pnN S else 0) (idF S) (pkF S) ∧ ErV w' u (pcE S) ∧ Below w.heap.size w w' := by
 have hbad : ∀ (E0 E1 : Int) (S1 : ByteArray), E0 = (if S.size < 8 then 1 else 0) → E1 ≠ 0 → tkS S E0 2 = S1 → hd3 (hd2 (tkE S E0 2) (beK (tkT S E0 2) (tkT S E0 2).size)) (beK (tkT S E0 2) (tkT S E0 2).size) 1 = E1 → pcE S = E1 →
   Calls Tryz.prog 33 #[.string S] w fun e w' => ∃ v u, e = .returned (.tuple #[v, u]) ∧ BunAt w' v (if pcE S = 0 then nmF S else 0) (if pcE S = 0 then pnN S else 0) (idF S) (pkF S) ∧ ErV w' u (pcE S) ∧ Below w.heap.size w w' := fun E0 E1 S1 h0 h1 hs he hp => by
  obtain ⟨a1, a2, a3⟩ := tk_bad (S := S1) (E := E1) 4 h1
  obtain ⟨b1, b2, b3⟩ := tk_bad (S := S1) (E := E1) 2 h1
  have hen : enE S1 E1 = E1 := by unfold enE; rw [if_neg (fun h => h1 h.1)]
  have z4 : beK (⟨#[]⟩ : ByteArray) (⟨#[]⟩ : ByteArray).size = 0 := rfl
  have := bparse_walk S S1 S1 S1 E0 E1 E1 E1 0 (pcE S) 0 (pkI S1 E1) (pkK S1 E1) w h0
   (fun g W hR => by have h := head_st 1 hR; rw [hs, he] at h; exact h)
   (fun g W hR => by
    have h := num_st 4 hR
    rw [show min (max (4 : Int) 0) 8 = 4 by decide, a1, a2, a3, z4] at h
    exact h)
   (fun g W hR => by
    have h := prekeys_few (N := 0) b2 b3 (by rw [b1]; rfl) hR (by decide)
    exact h)
   ⟨by decide, by decide⟩ (by decide) (fun j hj => by omega) (by rw [hen, if_neg h1, hp])
  refine this.mono ?_
  rintro e w' ⟨v, u, he, hB, hu, hb⟩
  rw [hp, if_neg h1, if_neg h1] at hB
  refine ⟨v, u, he, ?_, hu, hb⟩
  rw [hp, if_neg h1, if_neg h1]
  obtain ⟨oa, c, ev, -⟩ := hB
  exact ⟨oa, c, ev, .inl rfl⟩
 by_cases c1 : S.size < 8
 ·obtain ⟨a1, a2, a3⟩ := tk_bad (S := S) (E := 1) 2 (by decide)
  refine hbad 1 1 S (by rw [if_pos c1]) (by decide) a2 ?_ (by unfold pcE; rw [if_pos c1])
  rw [a1, a3]
  rfl
 obtain ⟨a1, a2, a3⟩ := tk_at S 0 2 (by omega)
 rw [ext_self] at a1 a2 a3
 have hb0 := byteAt_b S 0
 have hb1 := byteAt_b S 1
 have hV := beK_two S (by omega)
 have q1 : (byteAt S 0 * 256 + byteAt S 1) / 256 = byteAt S 0 := by omega
 have q2 : (byteAt S 0 * 256 + byteAt S 1) % 256 = byteAt S 1 := by omega
 have hE0 : (0 : Int) = if S.size < 8 then 1 else 0 := by rw [if_neg c1]
 have hH : hd3 (hd2 (tkE S 0 2) (beK (tkT S 0 2) (tkT S 0 2).size)) (beK (tkT S 0 2) (tkT S 0 2).size) 1 = if byteAt S 0 = 1 then (if byteAt S 1 = 1 then 0 else 14) else 3 := by
  rw [show (2 : Int) = ((2 : Nat) : Int) from rfl, a1, a3, hV]
  unfold hd3 hd2
  rw [q1, q2]
  by_cases h0 : byteAt S 0 = 1 <;> by_cases h1 : byteAt S 1 = 1 <;> simp [h0, h1]
 have hS1 : tkS S 0 2 = S.extract 2 S.size := by
  rw [show (2 : Int) = ((2 : Nat) : Int) from rfl, a2]
 by_cases c2 : byteAt S 0 = 1
 case neg =>
  refine hbad 0 3 _ hE0 (by decide) hS1 (by rw [hH, if_neg c2]) ?_
  unfold pcE; rw [if_neg c1, if_pos c2]
 by_cases c3 : byteAt S 1 = 1
 case neg =>
  refine hbad 0 14 _ hE0 (by decide) hS1 (by rw [hH, if_pos c2, if_neg c3]) ?_
  unfold pcE; rw [if_neg c1, if_neg (fun h => h c2), if_pos c3]
 rw [if_pos c2, if_pos c3] at hH
 obtain ⟨b1, b2, b3⟩ := tk_at S 2 4 (by omega)
 obtain ⟨d1, d2, d3⟩ := tk_at S 6 2 (by omega)
 obtain ⟨N, hN⟩ : ∃ N : Nat, pnI S = N := ⟨(pnI S).toNat, by have := pnI_bd S; omega⟩
 have hpN : pnN S = N := by unfold pnN; rw [hN]; rfl
 have cH : ∀ (g : Nat) (W : World), RdAt W g S 0 → Calls Tryz.prog 37 #[.pointer (some ⟨g, 0, none⟩), .int .u64 1] W fun e w' => e = .returned (.tuple #[]) ∧ RdAt w' g (S.extract 2 S.size) 0 ∧ Oth g W w' := fun g W hR => by
  have h := head_st 1 hR
  rw [hS1, hH] at h
  exact h
 have cN : ∀ (g : Nat) (W : World), RdAt W g (S.extract 2 S.size) 0 → Calls Tryz.prog 13 #[.pointer (some ⟨g, 0, none⟩), .int .i64 4] W fun e w' => e = .returned (.int .u64 (nmF S)) ∧ RdAt w' g (S.extract 6 S.size) 0 ∧ Oth g W w' := fun g W hR => by
  have h := num_st 4 hR
  rw [show min (max (4 : Int) 0) 8 = ((4 : Nat) : Int) by decide, b1, b2, b3] at h
  exact h
 have hPk : tkS (S.extract 6 S.size) 0 2 = S.extract 8 S.size := d2
 have hPe : tkE (S.extract 6 S.size) 0 2 = 0 := d3
 have hPv : beK (tkT (S.extract 6 S.size) 0 2) (tkT (S.extract 6 S.size) 0 2).size = (N : Int) := by
  rw [show (2 : Int) = ((2 : Nat) : Int) from rfl, d1]
  exact hN
 by_cases c4 : 64 < N
 ·have hp : pcE S = 18 := by unfold pcE; rw [if_neg c1, if_neg (fun h => h c2), if_neg (fun h => h c3), hN, if_pos (by omega)]
  have hen : enE (S.extract 8 S.size) 18 = 18 := by unfold enE; rw [if_neg (fun h => absurd h.1 (by decide))]
  have := bparse_walk S _ _ (S.extract 8 S.size) 0 0 0 18 (nmF S) (pcE S) 0 (idF S) (pkF S) w hE0 cH cN
   (fun g W hR => (prekeys_many 18 (by rw [if_pos rfl]) hPk hPe hPv hR c4).mono fun e w' ⟨e1, e2, e3⟩ => ⟨none, 0, e1, .inl rfl, fun ad h => (by cases h), e2, e3⟩)
   (nmF_bd S) (by decide) (fun j hj => by omega) (by rw [hen, if_neg (by decide), hp])
  refine this.mono ?_
  rintro e w' ⟨v, u, he, hB, hu, hb⟩
  refine ⟨v, u, he, ?_, hu, hb⟩
  rw [hp, if_neg (by decide), if_neg (by decide)] at hB ⊢
  exact hB
 have cP : ∀ (g : Nat) (W : World), RdAt W g (S.extract 6 S.size) 0 → Calls Tryz.prog 66 #[.pointer (some ⟨g, 0, none⟩)] W fun e w' => ∃ oa c, e = .returned (.slice oa N c) ∧ PkAt w' oa N (pkI (S.extract 8 S.size) 0) (pkK (S.extract 8 S.size) 0) ∧ (∀ ad, oa = some ad → W.heap.size ≤ ad.block ∧ ad.block < w'.heap.size) ∧ RdAt w' g (pkSt (S.extract 8 S.size) 0 N).1 (pkSt (S.extract 8 S.size) 0 N).2 ∧ Oth g W w' := fun g W hR => prekeys_few hPk hPe hPv hR (by omega)
 by_cases c5 : S.size < 8 + 36 * N
 ·have hp : pcE S = 1 := by unfold pcE; rw [if_neg c1, if_neg (fun h => h c2), if_neg (fun h => h c3), hN, if_neg (by omega), if_pos (by omega)]
  have hsh := pkSt_short S 8 (by omega) N c5
  rw [hsh] at cP
  have hen : enE (pkSt (S.extract 8 S.size) 0 N).1 1 = 1 := by unfold enE; rw [if_neg (fun h => absurd h.1 (by decide))]
  have := bparse_walk S _ _ _ 0 0 0 1 (nmF S) (pcE S) N (pkI (S.extract 8 S.size) 0) (pkK (S.extract 8 S.size) 0) w hE0 cH cN cP (nmF_bd S) (by omega) (fun j hj => pkI_bd _ _ _) (by rw [hen, if_neg (by decide), hp])
  refine this.mono ?_
  rintro e w' ⟨v, u, he, hB, hu, hb⟩
  refine ⟨v, u, he, ?_, hu, hb⟩
  rw [hp, if_neg (by decide), if_neg (by decide)] at hB ⊢
  obtain ⟨oa, c, ev, -⟩ := hB
  exact ⟨oa, c, ev, .inl rfl⟩
 have hI : ∀ j, j < N → pkI (S.extract 8 S.size) 0 j = idF S j := fun j hj => pkI_ok S 8 j (by omega)
 have hK : ∀ j, j < N → ∀ i, i < 32 → pkK (S.extract 8 S.size) 0 j i = pkF S j i := fun j hj i hi => pkK_ok S 8 j (by omega) i hi
 rw [pkSt_ok S 8 N (by omega)] at cP
 have hsz : (S.extract (8 + 36 * N) S.size).size = S.size - (8 + 36 * N) := by rw [ByteArray.size_extract]; omega
 have hX : pcE S = if enE (S.extract (8 + 36 * N) S.size) 0 = 0 then dupE (pkI (S.extract 8 S.size) 0) N else enE (S.extract (8 + 36 * N) S.size) 0 := by
  by_cases c6 : 8 + 36 * N < S.size
  ·have hen : enE (S.extract (8 + 36 * N) S.size) 0 = 2 := by unfold enE; rw [if_pos ⟨rfl, by rw [hsz]; omega⟩]
   rw [hen, if_neg (by decide)]
   unfold pcE; rw [if_neg c1, if_neg (fun h => h c2), if_neg (fun h => h c3), hN, if_neg (by omega), if_neg (by omega), if_pos (by omega)]
  ·have hen : enE (S.extract (8 + 36 * N) S.size) 0 = 0 := by unfold enE; rw [if_neg (fun h => h.2 (by rw [hsz]; omega))]
   rw [hen, if_pos rfl, dupE_congr hI]
   unfold pcE; rw [if_neg c1, if_neg (fun h => h c2), if_neg (fun h => h c3), hN, if_neg (by omega), if_neg (by omega), if_neg (by omega), hpN]
 have := bparse_walk S _ _ (S.extract (8 + 36 * N) S.size) 0 0 0 0 (nmF S) (pcE S) N (pkI (S.extract 8 S.size) 0) (pkK (S.extract 8 S.size) 0) w hE0 cH cN cP (nmF_bd S) (by omega) (fun j hj => pkI_bd _ _ _) hX
 refine this.mono ?_
 rintro e w' ⟨v, u, he, hB, hu, hb⟩
 refine ⟨v, u, he, ?_, hu, hb⟩
 rw [hpN]
 by_cases h0 : pcE S = 0
 ·rw [if_pos h0, if_pos h0] at hB ⊢
  exact hB.congr hI hK
 ·rw [if_neg h0, if_neg h0] at hB ⊢
  obtain ⟨oa, c, ev, -⟩ := hB
  exact ⟨oa, c, ev, .inl rfl⟩
end Go.Proofs.YtncjdlahiohlbaaGreatDoor
namespace Go.Proofs.YtncjdlahiohlbaaGreatDoor
open Go.RowKit Go.Extern
set_option linter.unusedVariables false
set_option linter.unusedSimpArgs false
def WSh (u : Value) : Prop := ∃ g : Nat, u = .agg #[.pointer (some ⟨g, 0, none⟩)]
def PcW (l : List ByteArray) (u : Value) (w : World) : Prop := ∀ v, u = .agg #[v] → Pcs w l v
theorem stab_pcw (l : List ByteArray) (u : Value) : Stab (PcW l u) none := fun w w' h e v hu => (h v hu).later e
theorem stab_pcw_at (l : List ByteArray) (u : Value) (g' : Nat) : Stab (PcW l u) (some (g', 59)) := fun w w' h ⟨old, cs', t', h1, ⟨_, h2⟩, e⟩ v hu => by
 subst e
 subst h2
 exact (h v hu).put h1 (by decide) _
theorem by_fitsP9 {P : Prop} (h : P := by first | exact by_fits | ((repeat (refine fits_cons ⟨by (first | exact stab_hdr_at _ _ _ _ | exact stab_pcw_at _ _ _ | exact stab_pcw _ _ | exact stab_hdr _ _ _ | exact stab_full _ _ _), by (first | exact stab_hdr_at _ _ _ _ | exact stab_pcw_at _ _ _ | exact stab_pcw _ _ | exact stab_hdr _ _ _ | exact stab_full _ _ _)⟩ ?_)); exact fits_nil (by (first | exact stab_hdr_at _ _ _ _ | exact stab_pcw_at _ _ _ | exact stab_pcw _ _ | exact stab_hdr _ _ _ | exact stab_full _ _ _)))) : P := h
theorem zero_writer9 (w : World) : (zeroValue 59).run Tryz.prog w = .ok (.agg #[.pointer none]) w := by kernel_rfl
@[go_sem] theorem none_writer (w : World) : (noneNext 59).run Tryz.prog w = .ok (.value (.agg #[.pointer none])) w := by kernel_rfl
def headF (nm : Int) (n : Int) : Nat → ByteArray
 | 0 => numB 1 1
 | 1 => numB 1 1
 | 2 => numB 4 nm
 | _ => numB 2 n
theorem bwrite_nil (nm : Int) (w : World) (h0 : 0 ≤ nm) (h1 : nm < 4294967296) :
  Calls Tryz.prog 39 #[.agg #[.int .u32 nm, .slice none 0 0]] w fun e w' => e = .returned (.tuple #[.string (catS (headF nm 0) 4), .nilIface]) ∧ Below w.heap.size w w' := by
 go_enter Tryz.func39, Tryz.ntmps39
 go_wp2_with fail
 have fb : objAt (w.alloc (.cells #[.int .u32 nm, .slice none 0 0] 71)) w.heap.size = some (.cells #[.int .u32 nm, .slice none 0 0] 71) := objAt_alloc_at _ _ _ rfl
 have hG : Below w.heap.size w (w.alloc (.cells #[.int .u32 nm, .slice none 0 0] 71)) := Grew.alloc (Grew.refl _) _
 generalize w.alloc (.cells #[.int .u32 nm, .slice none 0 0] 71) = w1 at *
 refine (bcheck_any nm none 0 0 (fun _ => 0) (fun _ _ => 0) _ (.inl rfl) (by decide) (fun j hj => by omega) (fun ad e => by cases e)).mono ?_
 rintro e w2 ⟨u, rfl, hu, hb⟩
 rw [if_neg (by decide), dupE_no (fun ⟨i, hi, _⟩ => by omega)] at hu
 replace fb := keep_below hb fb
 replace hG := Grew.trans hG hb
 clear hb
 rcases hu with ⟨-, rfl⟩ | ⟨h9, -⟩
 case inr => exact absurd rfl h9
 have lb := lt_of_objAt fb
 have hw1 : IntKind.u64.wrap nm = nm := by rw [IntKind.wrap_u64]; omega
 go_wp2_with fail
 refine wp_relv (fun k => k == 1 || k == 2 || k == 6 || k == 11) (fun k => match k with | 1 => fun u => WSh u | 2 => fun u => WSh u | 6 => fun u => WSh u | 11 => fun u => WSh u | _ => fun _ => True) (fun k => match k with | 1 => fun u w => PcW [numB 1 1] u w | 2 => fun u w => PcW [numB 1 1, numB 1 1] u w | 6 => fun u w => PcW [numB 4 nm, numB 1 1, numB 1 1] u w | 11 => fun u w => PcW [numB 2 0, numB 4 nm, numB 1 1, numB 1 1] u w | _ => fun _ _ => True) (fun k => match k with | 1 => .agg #[.pointer (some ⟨0, 0, none⟩)] | 2 => .agg #[.pointer (some ⟨0, 0, none⟩)] | 6 => .agg #[.pointer (some ⟨0, 0, none⟩)] | 11 => .agg #[.pointer (some ⟨0, 0, none⟩)] | _ => undef) (fun i hi => ?_) (by kernel_rfl) (by kernel_rfl) ?_
 ·simp only [Bool.or_eq_true, beq_iff_eq] at hi
  rcases hi with ((rfl | rfl) | rfl) | rfl
  ·exact ⟨0, rfl⟩
  ·exact ⟨0, rfl⟩
  ·exact ⟨0, rfl⟩
  ·exact ⟨0, rfl⟩
 (first | refine exv_skip rfl ?_ | (refine exv_call rfl ?_; apply Exists.intro))
 refine exv_call rfl ⟨undef, ?_⟩
 refine exv_call rfl ⟨undef, ?_⟩
 iterate 3 (first | refine exv_skip rfl ?_ | (refine exv_call rfl ?_; apply Exists.intro))
 refine exv_call rfl ⟨undef, ?_⟩
 iterate 4 (first | refine exv_skip rfl ?_ | (refine exv_call rfl ?_; apply Exists.intro))
 refine exv_call rfl ⟨undef, ?_⟩
 iterate 2 (first | refine exv_skip rfl ?_ | (refine exv_call rfl ?_; apply Exists.intro))
 refine exv_nil ?_
 intro γ gv hsv hinj hbase
 obtain ⟨g1, e1⟩ := hsv 1 rfl
 obtain ⟨g2, e2⟩ := hsv 2 rfl
 obtain ⟨g3, e3⟩ := hsv 6 rfl
 obtain ⟨g4, e4⟩ := hsv 11 rfl
 (repeat (first | (refine rel_quiet rfl ?_; ((first | go_big_quiet_skip | (go_big_quiet_want; go_big_quiet_op; go_big_quiet_on)); refine wpQuiet_nil ?_)) | ((first | refine rel_skip_some rfl (fun _ => rfl) ?_ | (apply rel_fact; (focus rfl); (focus rfl); (focus rfl); (focus (intro W hC hF; (skip); go_big_quiet_want; go_big_quiet_op; (first | go_big_quiet_on | (apply Exists.intro; refine ⟨fun _ => ?_, ?_⟩; (focus ((fail))); go_big_quiet_on)); exact wpQuiet_nil rfl)); (focus (first | exact fun _ => ⟨rfl, rfl⟩ | exact fun h => absurd h (by decide))))); ((first | go_big_quiet_skip | (go_big_quiet_want; go_big_quiet_op; go_big_quiet_on)); refine wpQuiet_nil ?_)) | refine rel_skip_none rfl (fun _ => rfl) ?_))
 refine rel_callv #[.agg #[.pointer none], .int .i64 1, .int .u64 1] (enters_of Tryz.func25 (by kernel_rfl) rfl) rfl e1 rfl rfl rfl rfl (by exact by_fitsP9) (by first | kernel_rfl | simp [go_sem]) ?_ ?_
 ·intro W hC hF
  obtain ⟨mm, rfl⟩ := hC
  refine (wnum_any 1 1 none _ (by omega) (by omega)).mono ?_
  rintro e w9 ⟨g, rfl, fg, hb9⟩
  exact ⟨_, rfl, ⟨g, rfl⟩, (fun v ev => by cases ev; exact ⟨g, _, rfl, fg, rfl⟩), hb9⟩
 ((first | go_big_quiet_skip | (go_big_quiet_want; go_big_quiet_op; go_big_quiet_on)); refine wpQuiet_nil ?_)
 (repeat (first | (refine rel_quiet rfl ?_; ((first | go_big_quiet_skip | (go_big_quiet_want; go_big_quiet_op; go_big_quiet_on)); refine wpQuiet_nil ?_)) | ((first | refine rel_skip_some rfl (fun _ => rfl) ?_ | (apply rel_fact; (focus rfl); (focus rfl); (focus rfl); (focus (intro W hC hF; (skip); go_big_quiet_want; go_big_quiet_op; (first | go_big_quiet_on | (apply Exists.intro; refine ⟨fun _ => ?_, ?_⟩; (focus ((fail))); go_big_quiet_on)); exact wpQuiet_nil rfl)); (focus (first | exact fun _ => ⟨rfl, rfl⟩ | exact fun h => absurd h (by decide))))); ((first | go_big_quiet_skip | (go_big_quiet_want; go_big_quiet_op; go_big_quiet_on)); refine wpQuiet_nil ?_)) | refine rel_skip_none rfl (fun _ => rfl) ?_))
 refine rel_callv #[.agg #[.pointer (some ⟨g1, 0, none⟩)], .int .i64 1, .int .u64 1] (enters_of Tryz.func25 (by kernel_rfl) rfl) rfl e2 rfl rfl rfl rfl (by exact by_fitsP9) (by first | kernel_rfl | simp [go_sem]) ?_ ?_
 ·intro W hC hF
  obtain ⟨mm, rfl⟩ := hC
  have hE0 : PcW [numB 1 1] (.agg #[.pointer (some ⟨g1, 0, none⟩)]) (more w2 mm) := known hF (List.mem_cons_self ..) (by decide +kernel)
  refine (wnum_any 1 1 (some ⟨g1, 0, none⟩) _ (by omega) (by omega)).mono ?_
  rintro e w9 ⟨g, rfl, fg, hb9⟩
  exact ⟨_, rfl, ⟨g, rfl⟩, (fun v ev => by cases ev; exact ⟨g, _, rfl, fg, (hE0 _ rfl).later hb9⟩), hb9⟩
 ((first | go_big_quiet_skip | (go_big_quiet_want; go_big_quiet_op; go_big_quiet_on)); refine wpQuiet_nil ?_)
 (repeat (first | (refine rel_quiet rfl ?_; ((first | go_big_quiet_skip | (go_big_quiet_want; go_big_quiet_op; go_big_quiet_on)); refine wpQuiet_nil ?_)) | ((first | refine rel_skip_some rfl (fun _ => rfl) ?_ | (apply rel_fact; (focus rfl); (focus rfl); (focus rfl); (focus (intro W hC hF; (skip); go_big_quiet_want; go_big_quiet_op; (first | go_big_quiet_on | (apply Exists.intro; refine ⟨fun _ => ?_, ?_⟩; (focus ((fail))); go_big_quiet_on)); exact wpQuiet_nil rfl)); (focus (first | exact fun _ => ⟨rfl, rfl⟩ | exact fun h => absurd h (by decide))))); ((first | go_big_quiet_skip | (go_big_quiet_want; go_big_quiet_op; go_big_quiet_on)); refine wpQuiet_nil ?_)) | refine rel_skip_none rfl (fun _ => rfl) ?_))
 refine rel_callv #[.agg #[.pointer (some ⟨g2, 0, none⟩)], .int .i64 4, .int .u64 nm] (enters_of Tryz.func25 (by kernel_rfl) rfl) rfl e3 rfl rfl rfl rfl (by exact by_fitsP9) (by first | kernel_rfl | simp [go_sem]) ?_ ?_
 ·intro W hC hF
  obtain ⟨mm, rfl⟩ := hC
  have hE0 : PcW [numB 1 1, numB 1 1] (.agg #[.pointer (some ⟨g2, 0, none⟩)]) (more w2 mm) := known hF (List.mem_cons_self ..) (by decide +kernel)
  refine (wnum_any 4 nm (some ⟨g2, 0, none⟩) _ (by omega) (by omega)).mono ?_
  rintro e w9 ⟨g, rfl, fg, hb9⟩
  exact ⟨_, rfl, ⟨g, rfl⟩, (fun v ev => by cases ev; exact ⟨g, _, rfl, fg, (hE0 _ rfl).later hb9⟩), hb9⟩
 ((first | go_big_quiet_skip | (go_big_quiet_want; go_big_quiet_op; go_big_quiet_on)); refine wpQuiet_nil ?_)
 (repeat (first | (refine rel_quiet rfl ?_; ((first | go_big_quiet_skip | (go_big_quiet_want; go_big_quiet_op; go_big_quiet_on)); refine wpQuiet_nil ?_)) | ((first | refine rel_skip_some rfl (fun _ => rfl) ?_ | (apply rel_fact; (focus rfl); (focus rfl); (focus rfl); (focus (intro W hC hF; (skip); go_big_quiet_want; go_big_quiet_op; (first | go_big_quiet_on | (apply Exists.intro; refine ⟨fun _ => ?_, ?_⟩; (focus ((fail))); go_big_quiet_on)); exact wpQuiet_nil rfl)); (focus (first | exact fun _ => ⟨rfl, rfl⟩ | exact fun h => absurd h (by decide))))); ((first | go_big_quiet_skip | (go_big_quiet_want; go_big_quiet_op; go_big_quiet_on)); refine wpQuiet_nil ?_)) | refine rel_skip_none rfl (fun _ => rfl) ?_))
 refine rel_callv #[.agg #[.pointer (some ⟨g3, 0, none⟩)], .int .i64 2, .int .u64 0] (enters_of Tryz.func25 (by kernel_rfl) rfl) rfl e4 rfl rfl rfl rfl (by exact by_fitsP9) (by first | kernel_rfl | simp [go_sem]) ?_ ?_
 ·intro W hC hF
  obtain ⟨mm, rfl⟩ := hC
  have hE0 : PcW [numB 4 nm, numB 1 1, numB 1 1] (.agg #[.pointer (some ⟨g3, 0, none⟩)]) (more w2 mm) := known hF (List.mem_cons_self ..) (by decide +kernel)
  refine (wnum_any 2 0 (some ⟨g3, 0, none⟩) _ (by omega) (by omega)).mono ?_
  rintro e w9 ⟨g, rfl, fg, hb9⟩
  exact ⟨_, rfl, ⟨g, rfl⟩, (fun v ev => by cases ev; exact ⟨g, _, rfl, fg, (hE0 _ rfl).later hb9⟩), hb9⟩
 ((first | go_big_quiet_skip | (go_big_quiet_want; go_big_quiet_op; go_big_quiet_on)); refine wpQuiet_nil ?_)
 (repeat (first | (refine rel_quiet rfl ?_; ((first | go_big_quiet_skip | (go_big_quiet_want; go_big_quiet_op; go_big_quiet_on)); refine wpQuiet_nil ?_)) | ((first | refine rel_skip_some rfl (fun _ => rfl) ?_ | ((try simp only [Nat.zero_add, Nat.reduceAdd]); apply rel_alloc _ _ alloc_cls; (focus rfl); (focus (intro W; (first | exact zero_key _ | exact zero_elem _ | exact zero_num _ | exact zero_pair _ | exact zero_rnode _ | exact zero_kpair _ | exact zero_writer9 _))); (focus (first | exact cells_ints _ _ _ | exact cells_two _ _ | rfl)); (focus (exact by_fitsP9))) | (apply rel_fact; (focus rfl); (focus rfl); (focus rfl); (focus (intro W hC hF; (skip); go_big_quiet_want; go_big_quiet_op; (first | go_big_quiet_on | (apply Exists.intro; refine ⟨fun _ => ?_, ?_⟩; (focus ((fail))); go_big_quiet_on)); exact wpQuiet_nil rfl)); (focus (first | exact fun _ => ⟨rfl, rfl⟩ | exact fun h => absurd h (by decide))))); ((first | go_big_quiet_skip | (go_big_quiet_want; go_big_quiet_op; go_big_quiet_on)); refine wpQuiet_nil ?_)) | refine rel_skip_none rfl (fun _ => rfl) ?_ | ((try simp only [Nat.zero_add, Nat.reduceAdd]); apply rel_store (setRow_cls (hbase _)); (focus rfl); (focus rfl); (focus rfl); (focus (first | exact cells_agg _ | exact cells_int _ _ | exact cells_bool _ | rfl)); rotate_left 3; (focus (exact by_mem)); rotate_right 3; (focus kernel_rfl); (focus (first | exact ints_size _ _ _ | rfl)); (focus (first | exact ints_ones _ _ _ | exact ones_two _ _ _ _ | kernel_rfl)); (focus (decide +kernel)); (focus (exact by_fitsP9)))))
 (refine rel_nil ?_; rintro _ ⟨mq, rfl⟩ hF; simp only [List.forall_mem_cons] at hF; obtain ⟨fv, -, f4, -⟩ := hF)
 have hP := f4 _ rfl
 replace hG := Grew.more hG mq
 replace fv : objAt (more w2 mq) (γ 12) = some (.cells #[.pointer (some ⟨g4, 0, none⟩)] 59) := fv
 replace fb := keep_more mq fb
 replace hP := hid1 hP
 clear f4 hinj hbase hsv e1 e2 e3 e4 lb
 generalize γ 12 = gv5 at *
 generalize more w2 mq = w3 at *
 clear γ
 have lb := lt_of_objAt fb
 have lv := lt_of_objAt fv
 have cT := fun (W : World) (hb : Below w3.heap.size w3 W) => wtext_rev (headF nm 0) 4 (.pointer (some ⟨g4, 0, none⟩)) W (hP.out.later hb) (by decide) (by
  show (ByteArray.empty ++ numB 1 1 ++ numB 1 1 ++ numB 4 nm ++ numB 2 0).size + 4 ≤ _
  simp only [ByteArray.size_append, numB_size]
  decide)
 generalize hTX : catS (headF nm 0) 4 = TX at *
 go_wp2_with fail
 go_loopw [28] (fun i wr => i = .int .i64 0 ∧ wr = w3) (fun _ _ => 0)
 case atStart => exact ⟨rfl, rfl⟩
 case round =>
  obtain ⟨rfl, rfl⟩ := hrel
  go_wp2_with fail
  refine (cT _ (Grew.refl _)).mono ?_
  rintro e w4 ⟨rfl, hb⟩
  replace hG := Grew.trans hG hb
  go_wp2
  refine ⟨rfl, .tuple #[.string TX, .nilIface], ?_, by rw [hTX], hG⟩
  first | rfl | kernel_rfl | simp [go_sem, results]
theorem Awake16_any (aw : ∀ W : World, Tabs W → EtAt W → Calls Tryz.prog 10 #[] W fun e w' => e = .returned (.bool true) ∧ Below W.heap.size W w') (w : World) (hT : Tabs w) (hE : EtAt w) :
  Calls Tryz.prog 65 #[] w fun e w' => e = .returned (.bool true) ∧ Below w.heap.size w w' := by
 go_enter Tryz.func65, Tryz.ntmps65
 go_wp2_with fail
 refine (aw _ hT hE).mono ?_
 rintro e w2 ⟨rfl, hb⟩
 go_wp2
 go_ret
 exact ⟨rfl, hb⟩
theorem awake17_any (aw : ∀ W : World, Tabs W → EtAt W → Calls Tryz.prog 65 #[] W fun e w' => e = .returned (.bool true) ∧ Below W.heap.size W w') (w : World) (hT : Tabs w) (hE : EtAt w) :
  Calls Tryz.prog 32 #[] w fun e w' => e = .returned (.bool true) ∧ Below w.heap.size w w' := by
 go_enter Tryz.func32, Tryz.ntmps32
 have ht : catS (headF 7 0) 4 = ⟨#[1, 1, 0, 0, 0, 7, 0, 0]⟩ := by decide +kernel
 have cB := fun W => bwrite_nil 7 W (by decide) (by decide)
 rw [ht] at cB
 clear ht
 go_wp2_with fail
 refine (cB _).mono ?_
 rintro e w1 ⟨rfl, hG⟩
 go_wp2_with fail
 refine (aw _ (hT.later hG) (hE.later hG)).mono ?_
 rintro e w2 ⟨rfl, hb⟩
 have hG2 := Grew.trans hG hb
 go_wp2
 go_ret
 exact ⟨rfl, hG2⟩
end Go.Proofs.YtncjdlahiohlbaaGreatDoor
namespace Go.Proofs.YtncjdlahiohlbaaGreatDoor
open Go.RowKit Go.Extern
set_option linter.unusedVariables false
set_option linter.unusedSimpArgs false
attribute [local go_sem high] byteAt_in
def kdF (S : ByteArray) : Int := if 1 < S.size then byteAt S 1 else 0
def kcF (S : ByteArray) (kind : Int) : Int := if S.size < 2 then 1 else if byteAt S 0 ≠ 1 then 3 else if byteAt S 1 ≠ kind then 14 else if 2 < S.size then 2 else 0
def hdS (S : ByteArray) : ByteArray := tkS S 0 2
def hdE (S : ByteArray) (kind : Int) : Int := hd3 (hd2 (tkE S 0 2) (beK (tkT S 0 2) (tkT S 0 2).size)) (beK (tkT S 0 2) (tkT S 0 2).size) kind
theorem kc_eq (S : ByteArray) (kind : Int) : enE (hdS S) (hdE S kind) = kcF S kind := by
 unfold kcF hdE hdS
 by_cases c1 : S.size < 2
 ·rw [if_pos c1]
  have hor : (0 : Int) ≠ 0 ∨ (S.size : Int) < (2 : Int) := .inr (by omega)
  obtain ⟨e1, e2⟩ := tk_err hor
  have e3 : tkE S 0 2 = 1 := tk_low S 2 c1
  rw [e1, e2, e3]
  have hz : beK (⟨#[]⟩ : ByteArray) (⟨#[]⟩ : ByteArray).size = 0 := rfl
  rw [hz]
  unfold hd3 hd2 enE
  by_cases hk : (0 : Int) % 256 = kind <;> simp [hk]
 rw [if_neg c1]
 obtain ⟨a1, a2, a3⟩ := tk_at S 0 2 (by omega)
 rw [ext_self] at a1 a2 a3
 have hb0 := byteAt_b S 0
 have hb1 := byteAt_b S 1
 have hV := beK_two S (by omega)
 have q1 : (byteAt S 0 * 256 + byteAt S 1) / 256 = byteAt S 0 := by omega
 have q2 : (byteAt S 0 * 256 + byteAt S 1) % 256 = byteAt S 1 := by omega
 have hsz : (S.extract (0 + 2) S.size).size = S.size - 2 := by rw [ByteArray.size_extract]; omega
 have f1 : tkT S 0 2 = S.extract 0 (0 + 2) := a1
 have f2 : tkS S 0 2 = S.extract (0 + 2) S.size := a2
 have f3 : tkE S 0 2 = 0 := a3
 rw [f1, f2, f3, hV]
 unfold hd3 hd2 enE
 rw [q1, q2, hsz]
 by_cases h2 : 2 < S.size
 ·have hz : S.size - 2 ≠ 0 := by omega
  by_cases h0 : byteAt S 0 = 1 <;> by_cases h1 : byteAt S 1 = kind <;> simp [h0, h1, h2, hz]
 ·have hz : S.size - 2 = 0 := by omega
  by_cases h0 : byteAt S 0 = 1 <;> by_cases h1 : byteAt S 1 = kind <;> simp [h0, h1, h2, hz]
theorem stab_pk (nm : Int) (n : Nat) (I : Nat → Int) (K : Nat → Nat → Int) (u : Value) : Stab (fun w => ∀ oa c, u = .agg #[.int .u32 nm, .slice oa n c] → PkAt w oa n I K) none := fun w w' h e oa c hu => (h oa c hu).later e
theorem pn_le (S : ByteArray) : (if pcE S = 0 then pnN S else 0) ≤ 64 := by
 by_cases h : pcE S = 0
 ·rw [if_pos h]
  unfold pcE at h
  have := pnI_bd S
  unfold pnN
  (repeat' split at h) <;> omega
 ·rw [if_neg h]
  decide
theorem kindOf_any (S : ByteArray) (w : World) :
  Calls Tryz.prog 38 #[.string S] w fun e w' => e = .returned (.int .u64 (kdF S)) ∧ Below w.heap.size w w' := by
 go_enter Tryz.func38, Tryz.ntmps38
 unfold kdF
 by_cases c : 1 < S.size
 ·have hn : ¬ ((S.size : Int) < 2) := by omega
  have hi : (1 : Int) < (S.size : Int) := by omega
  have hb := byteAt_b S 1
  have hw : IntKind.u64.wrap (byteAt S 1) = byteAt S 1 := by rw [IntKind.wrap_u64]; omega
  rw [if_pos c]
  go_wp2
  go_ret
  exact ⟨rfl, Grew.refl _⟩
 ·have hn : (S.size : Int) < 2 := by omega
  rw [if_neg c]
  go_wp2
  go_ret
  exact ⟨rfl, Grew.refl _⟩
theorem bundleReads_any (aw : ∀ (w : World), Tabs w → EtAt w → Calls Tryz.prog 32 #[] w fun e w' => e = .returned (.bool true) ∧ Below w.heap.size w w') (S : ByteArray) (kind : Int) (w : World) (hk0 : 0 ≤ kind) (hk1 : kind ≤ 255) (hT : Tabs w) (hE : EtAt w) :
  Calls Tryz.prog 5 #[.string S, .int .u8 kind] w fun e w' => e = .returned (.bool true) ∧ Below w.heap.size w w' := by
 have HE : Hid (EtAt w) := hE
 go_enter Tryz.func5, Tryz.ntmps5
 go_wp2_with fail
 refine (aw _ hT hE).mono ?_
 rintro e w1 ⟨rfl, hG⟩
 clear hT hE aw
 by_cases hbig : (4000 : Int) < (S.size : Int)
 ·go_wp2
  go_ret
  exact ⟨rfl, hG⟩
 have hn64 := pn_le S
 have hkc := hid1 (kc_eq S kind)
 have cP := fun W => bparse_any S W (by omega)
 have cR := fun W => rparse17_any S W (by omega)
 generalize idF S = I at *
 generalize pkF S = K at *
 generalize (if pcE S = 0 then nmF S else 0) = nm at *
 generalize (if pcE S = 0 then pnN S else 0) = n at *
 generalize pcE S = X at *
 go_wp2_with fail
 refine (cP _).mono ?_
 rintro e w2 ⟨v, u, rfl, ⟨oa, c, rfl, hp⟩, hu, hb⟩
 replace hG := Grew.trans hG hb
 clear hb
 have HU : Hid (ErV (w2.alloc (.cells #[.int .u32 nm, .slice oa n c] 71)) u X) := hu.later (Grew.alloc (Grew.refl _) _)
 have HP : Hid (PkAt (w2.alloc (.cells #[.int .u32 nm, .slice oa n c] 71)) oa n I K) := hp.later (Grew.alloc (Grew.refl _) _)
 have fb : objAt (w2.alloc (.cells #[.int .u32 nm, .slice oa n c] 71)) w2.heap.size = some (.cells #[.int .u32 nm, .slice oa n c] 71) := objAt_alloc_at _ _ _ rfl
 have hgb := hG.size
 replace hG := Grew.alloc hG (.cells #[.int .u32 nm, .slice oa n c] 71)
 clear hu hp cP
 go_wp2_with fail
 generalize w2.alloc (.cells #[.int .u32 nm, .slice oa n c] 71) = w3 at *
 generalize w2.heap.size = gb at *
 refine (cR _).mono ?_
 rintro e w4 ⟨v, rfl, ⟨ob, d, rfl, hq⟩, hb⟩
 replace HU : Hid (ErV (w4.alloc (.cells #[.int .u32 nm, .slice ob n d] 76)) u X) := (HU.out.later hb).later (Grew.alloc (Grew.refl _) _)
 replace HP : Hid (PkAt (w4.alloc (.cells #[.int .u32 nm, .slice ob n d] 76)) oa n I K) := (HP.out.later hb).later (Grew.alloc (Grew.refl _) _)
 have HQ : Hid (PkAt (w4.alloc (.cells #[.int .u32 nm, .slice ob n d] 76)) ob n I K) := hq.later (Grew.alloc (Grew.refl _) _)
 replace fb := keep_alloc (.cells #[.int .u32 nm, .slice ob n d] 76) (keep_below hb fb)
 have fr : objAt (w4.alloc (.cells #[.int .u32 nm, .slice ob n d] 76)) w4.heap.size = some (.cells #[.int .u32 nm, .slice ob n d] 76) := objAt_alloc_at _ _ _ rfl
 replace hG := Grew.alloc (Grew.trans hG hb) (.cells #[.int .u32 nm, .slice ob n d] 76)
 clear hb hq cR
 go_wp2_with fail
 generalize w4.alloc (.cells #[.int .u32 nm, .slice ob n d] 76) = w5 at *
 generalize w4.heap.size = gr at *
 have lb := lt_of_objAt fb
 have lr := lt_of_objAt fr
 have cO := fun (W : World) (hb : Below w5.heap.size w5 W) => of17_any nm oa n c I K W (HP.out.later hb) (by omega)
 rcases Classical.em (X = 0) with hX | hX
 ·subst hX
  have hu0 : u = .nilIface := by rcases HU.out with ⟨-, h⟩ | ⟨h, -⟩; exact h; exact absurd rfl h
  subst hu0
  refine wp_relv (fun k => k == 1) (fun k => match k with | 1 => fun u => ∃ oa c, u = .agg #[.int .u32 nm, .slice oa n c] | _ => fun _ => True) (fun k => match k with | 1 => fun u w => ∀ oa c, u = .agg #[.int .u32 nm, .slice oa n c] → PkAt w oa n I K | _ => fun _ _ => True) (fun k => match k with | 1 => .agg #[.int .u32 nm, .slice none n 0] | _ => undef) (fun i hi => ?_) (by kernel_rfl) (by kernel_rfl) ?_
  ·simp only [Bool.or_eq_true, beq_iff_eq] at hi
   subst hi
   exact ⟨none, 0, rfl⟩
  (first | refine exv_skip rfl ?_ | (refine exv_call rfl ?_; apply Exists.intro))
  refine exv_call rfl ⟨undef, ?_⟩
  iterate 16 (first | refine exv_skip rfl ?_ | (refine exv_call rfl ?_; apply Exists.intro))
  refine exv_nil ?_
  intro γ gv hsv hinj hbase
  obtain ⟨o1, c1, e1⟩ := hsv 1 rfl
  (repeat (first | (refine rel_quiet rfl ?_; ((first | go_big_quiet_skip | (go_big_quiet_want; go_big_quiet_op; go_big_quiet_on)); refine wpQuiet_nil ?_)) | ((first | refine rel_skip_some rfl (fun _ => rfl) ?_ | (apply rel_fact; (focus rfl); (focus rfl); (focus rfl); (focus (intro W hC hF; (have hbW : Below w5.heap.size w5 W := by obtain ⟨mm, rfl⟩ := hC; exact below_more w5 mm); go_big_quiet_want; go_big_quiet_op; (first | go_big_quiet_on | (apply Exists.intro; refine ⟨fun _ => ?_, ?_⟩; (focus ((fail))); go_big_quiet_on)); exact wpQuiet_nil rfl)); (focus (first | exact fun _ => ⟨rfl, rfl⟩ | exact fun h => absurd h (by decide))))); ((first | go_big_quiet_skip | (go_big_quiet_want; go_big_quiet_op; go_big_quiet_on)); refine wpQuiet_nil ?_)) | refine rel_skip_none rfl (fun _ => rfl) ?_))
  refine rel_callv #[.agg #[.int .u32 nm, .slice oa n c]] (enters_of Tryz.func36 (by kernel_rfl) rfl) rfl e1 rfl rfl rfl rfl (fits_nil (stab_pk _ _ _ _ _)) (by first | kernel_rfl | simp [go_sem]) ?_ ?_
  ·intro W hC hF
   obtain ⟨mm, rfl⟩ := hC
   refine (cO _ (below_more w5 mm)).mono ?_
   rintro e w9 ⟨v, rfl, ⟨o9, c9, rfl, hp9⟩, hb9⟩
   exact ⟨_, rfl, ⟨_, _, rfl⟩, (fun oa2 c2 e2 => by cases e2; exact hp9), hb9⟩
  ((first | go_big_quiet_skip | (go_big_quiet_want; go_big_quiet_op; go_big_quiet_on)); refine wpQuiet_nil ?_)
  (repeat (first | (refine rel_quiet rfl ?_; ((first | go_big_quiet_skip | (go_big_quiet_want; go_big_quiet_op; go_big_quiet_on)); refine wpQuiet_nil ?_)) | ((first | refine rel_skip_some rfl (fun _ => rfl) ?_ | (apply rel_fact; (focus rfl); (focus rfl); (focus rfl); (focus (intro W hC hF; (have hbW : Below w5.heap.size w5 W := by obtain ⟨mm, rfl⟩ := hC; exact below_more w5 mm); (have hGW : Below w.heap.size w W := Grew.trans hG hbW); (try (have hP0 : ∀ oa c, (.agg #[.int .u32 nm, .slice o1 n c1] : Value) = .agg #[.int .u32 nm, .slice oa n c] → PkAt W oa n I K := known hF (List.mem_cons_self ..) (by decide +kernel))); go_big_quiet_want; go_big_quiet_op; (first | go_big_quiet_on | (apply Exists.intro; refine ⟨fun _ => ?_, ?_⟩; (focus (first | (exact Calls.of_more (same17_any nm o1 ob n c1 d I K _ (by omega) ((hP0 _ _ rfl).later (below_more W _)) (HQ.out.later (Grew.more hbW _)))) | (exact Calls.of_more (code_st _ (HE.out.later (Grew.more hGW _)) (HU.out.later (Grew.more hbW _)))))); go_big_quiet_on)); exact wpQuiet_nil rfl)); (focus (first | exact fun _ => ⟨rfl, rfl⟩ | exact fun h => absurd h (by decide))))); ((first | go_big_quiet_skip | (go_big_quiet_want; go_big_quiet_op; go_big_quiet_on)); refine wpQuiet_nil ?_)) | refine rel_skip_none rfl (fun _ => rfl) ?_))
  (refine rel_nil ?_; rintro _ ⟨mq, rfl⟩ hF; simp only [List.forall_mem_cons] at hF; obtain ⟨-, -⟩ := hF)
  replace hG := Grew.more hG mq
  clear hinj hbase hsv e1 HP HQ fb fr lb lr HU
  generalize more w5 mq = w6 at *
  clear γ
  have hb0 := byteAt_b S 0
  have hb1 := byteAt_b S 1
  have hw1 : IntKind.u64.wrap (byteAt S 1) = byteAt S 1 := by rw [IntKind.wrap_u64]; omega
  have hw2 : IntKind.u64.wrap kind = kind := by rw [IntKind.wrap_u64]; omega
  have cK := fun W => kindOf_any S W
  have cE := fun (g : Nat) (W : World) (h : RdAt W g (hdS S) (hdE S kind)) => end_st h
  have hHd := fun (g : Nat) (W : World) (h : RdAt W g S 0) => head_st kind h
  replace hHd : ∀ (g : Nat) (W : World), RdAt W g S 0 → Calls Tryz.prog 37 #[.pointer (some ⟨g, 0, none⟩), .int .u64 kind] W fun e w' => e = .returned (.tuple #[]) ∧ RdAt w' g (hdS S) (hdE S kind) ∧ Oth g W w' := hHd
  have hkc2 := hkc
  unfold kcF at hkc2
  unfold kdF at cK
  generalize hdS S = S2 at *
  generalize hdE S kind = E2 at *
  rcases (by omega : S.size < 2 ∨ (2 ≤ S.size ∧ ¬ byteAt S 0 = 1) ∨ (2 ≤ S.size ∧ byteAt S 0 = 1 ∧ ¬ byteAt S 1 = kind) ∨ (2 < S.size ∧ byteAt S 0 = 1 ∧ byteAt S 1 = kind) ∨ (S.size = 2 ∧ byteAt S 0 = 1 ∧ byteAt S 1 = kind)) with h | ⟨h, h0⟩ | ⟨h, h0, h1⟩ | ⟨h, h0, h1⟩ | ⟨h, h0, h1⟩
  ·have n1 : ¬ (1 < S.size) := by omega
   have n1i : ¬ ((1 : Int) < (S.size : Int)) := by omega
   have n2i : (S.size : Int) < 2 := by omega
   have hc : enE S2 E2 = 1 := by rw [hkc2.out, if_pos h]
   rw [if_neg n1] at cK
   clear hkc hkc2
   go_wp2_with fail
   refine (rover_any _ _).mono ?_
   rintro e w7 ⟨rfl, rfl⟩
   have HR : Hid (RdAt (w6.alloc (.cells #[.string S, .nilIface] 120)) w6.heap.size S 0) := RdAt.over w6 S
   have hgl := hG.size
   replace hG := Grew.alloc hG (.cells #[.string S, .nilIface] 120)
   go_wp2_with fail
   generalize w6.alloc (.cells #[.string S, .nilIface] 120) = w7 at *
   generalize w6.heap.size = g at *
   refine (hHd _ _ HR.out).mono ?_
   rintro e w8 ⟨rfl, hR2, HO⟩
   replace HR : Hid (RdAt _ g S2 E2) := hR2
   replace hG := HO.below hG hgl
   clear HO hR2
   go_wp2_with fail
   refine (cK _).mono ?_
   rintro e w9 ⟨rfl, hb⟩
   replace HR : Hid (RdAt _ g S2 E2) := HR.out.later hb
   replace hG := Grew.trans hG hb
   clear hb
   go_wp2_with fail
   refine (cE _ _ HR.out).mono ?_
   rintro e w10 ⟨u2, rfl, hu2, hb⟩
   rw [hc] at hu2
   replace hG := Grew.trans hG hb
   clear hb
   go_wp2_with fail
   refine (code_st u2 (HE.out.later hG) hu2).mono ?_
   rintro e w11 ⟨rfl, hb⟩
   replace hG := Grew.trans hG hb
   go_wp2
   go_ret
   exact ⟨rfl, hG⟩
  ·have hc : enE S2 E2 = 3 := by rw [hkc2.out, if_neg (by omega), if_pos h0]
   have n1 : 1 < S.size := by omega
   have n0 : 0 < S.size := by omega
   have n0i : (0 : Int) < (S.size : Int) := by omega
   have n1i : (1 : Int) < (S.size : Int) := by omega
   have n2i : ¬ ((S.size : Int) < 2) := by omega
   rw [if_pos n1] at cK
   clear hkc hkc2
   go_wp2_with fail
   refine (rover_any _ _).mono ?_
   rintro e w7 ⟨rfl, rfl⟩
   have HR : Hid (RdAt (w6.alloc (.cells #[.string S, .nilIface] 120)) w6.heap.size S 0) := RdAt.over w6 S
   have hgl := hG.size
   replace hG := Grew.alloc hG (.cells #[.string S, .nilIface] 120)
   go_wp2_with fail
   generalize w6.alloc (.cells #[.string S, .nilIface] 120) = w7 at *
   generalize w6.heap.size = g at *
   refine (hHd _ _ HR.out).mono ?_
   rintro e w8 ⟨rfl, hR2, HO⟩
   replace HR : Hid (RdAt _ g S2 E2) := hR2
   replace hG := HO.below hG hgl
   clear HO hR2
   go_wp2_with fail
   refine (cK _).mono ?_
   rintro e w9 ⟨rfl, hb⟩
   replace HR : Hid (RdAt _ g S2 E2) := HR.out.later hb
   replace hG := Grew.trans hG hb
   clear hb
   go_wp2_with fail
   refine (cE _ _ HR.out).mono ?_
   rintro e w10 ⟨u2, rfl, hu2, hb⟩
   rw [hc] at hu2
   replace hG := Grew.trans hG hb
   clear hb
   go_wp2_with fail
   refine (code_st u2 (HE.out.later hG) hu2).mono ?_
   rintro e w11 ⟨rfl, hb⟩
   replace hG := Grew.trans hG hb
   go_wp2
   go_ret
   exact ⟨rfl, hG⟩
  ·have hc : enE S2 E2 = 14 := by rw [hkc2.out, if_neg (by omega), if_neg (fun x => x h0), if_pos h1]
   have n1 : 1 < S.size := by omega
   have n0 : 0 < S.size := by omega
   have n0i : (0 : Int) < (S.size : Int) := by omega
   have n1i : (1 : Int) < (S.size : Int) := by omega
   have n2i : ¬ ((S.size : Int) < 2) := by omega
   rw [if_pos n1] at cK
   clear hkc hkc2
   go_wp2_with fail
   refine (rover_any _ _).mono ?_
   rintro e w7 ⟨rfl, rfl⟩
   have HR : Hid (RdAt (w6.alloc (.cells #[.string S, .nilIface] 120)) w6.heap.size S 0) := RdAt.over w6 S
   have hgl := hG.size
   replace hG := Grew.alloc hG (.cells #[.string S, .nilIface] 120)
   go_wp2_with fail
   generalize w6.alloc (.cells #[.string S, .nilIface] 120) = w7 at *
   generalize w6.heap.size = g at *
   refine (hHd _ _ HR.out).mono ?_
   rintro e w8 ⟨rfl, hR2, HO⟩
   replace HR : Hid (RdAt _ g S2 E2) := hR2
   replace hG := HO.below hG hgl
   clear HO hR2
   go_wp2_with fail
   refine (cK _).mono ?_
   rintro e w9 ⟨rfl, hb⟩
   replace HR : Hid (RdAt _ g S2 E2) := HR.out.later hb
   replace hG := Grew.trans hG hb
   clear hb
   go_wp2_with fail
   refine (cE _ _ HR.out).mono ?_
   rintro e w10 ⟨u2, rfl, hu2, hb⟩
   rw [hc] at hu2
   replace hG := Grew.trans hG hb
   clear hb
   go_wp2_with fail
   refine (code_st u2 (HE.out.later hG) hu2).mono ?_
   rintro e w11 ⟨rfl, hb⟩
   replace hG := Grew.trans hG hb
   go_wp2
   go_ret
   exact ⟨rfl, hG⟩
  ·have hc : enE S2 E2 = 2 := by rw [hkc2.out, if_neg (by omega), if_neg (fun x => x h0), if_neg (fun x => x h1), if_pos h]
   have n1 : 1 < S.size := by omega
   have n0 : 0 < S.size := by omega
   have n0i : (0 : Int) < (S.size : Int) := by omega
   have n1i : (1 : Int) < (S.size : Int) := by omega
   have n2i : ¬ ((S.size : Int) < 2) := by omega
   have n3i : (2 : Int) < (S.size : Int) := by omega
   rw [if_pos n1] at cK
   clear hkc hkc2
   go_wp2_with fail
   refine (rover_any _ _).mono ?_
   rintro e w7 ⟨rfl, rfl⟩
   have HR : Hid (RdAt (w6.alloc (.cells #[.string S, .nilIface] 120)) w6.heap.size S 0) := RdAt.over w6 S
   have hgl := hG.size
   replace hG := Grew.alloc hG (.cells #[.string S, .nilIface] 120)
   go_wp2_with fail
   generalize w6.alloc (.cells #[.string S, .nilIface] 120) = w7 at *
   generalize w6.heap.size = g at *
   refine (hHd _ _ HR.out).mono ?_
   rintro e w8 ⟨rfl, hR2, HO⟩
   replace HR : Hid (RdAt _ g S2 E2) := hR2
   replace hG := HO.below hG hgl
   clear HO hR2
   go_wp2_with fail
   refine (cK _).mono ?_
   rintro e w9 ⟨rfl, hb⟩
   replace HR : Hid (RdAt _ g S2 E2) := HR.out.later hb
   replace hG := Grew.trans hG hb
   clear hb
   go_wp2_with fail
   refine (cE _ _ HR.out).mono ?_
   rintro e w10 ⟨u2, rfl, hu2, hb⟩
   rw [hc] at hu2
   replace hG := Grew.trans hG hb
   clear hb
   go_wp2_with fail
   refine (code_st u2 (HE.out.later hG) hu2).mono ?_
   rintro e w11 ⟨rfl, hb⟩
   replace hG := Grew.trans hG hb
   go_wp2
   go_ret
   exact ⟨rfl, hG⟩
  ·have hc : enE S2 E2 = 0 := by rw [hkc2.out, if_neg (by omega), if_neg (fun x => x h0), if_neg (fun x => x h1), if_neg (by omega)]
   have n1 : 1 < S.size := by omega
   have n0 : 0 < S.size := by omega
   have n0i : (0 : Int) < (S.size : Int) := by omega
   have n1i : (1 : Int) < (S.size : Int) := by omega
   have n2i : ¬ ((S.size : Int) < 2) := by omega
   have n3i : ¬ ((2 : Int) < (S.size : Int)) := by omega
   rw [if_pos n1] at cK
   clear hkc hkc2
   go_wp2_with fail
   refine (rover_any _ _).mono ?_
   rintro e w7 ⟨rfl, rfl⟩
   have HR : Hid (RdAt (w6.alloc (.cells #[.string S, .nilIface] 120)) w6.heap.size S 0) := RdAt.over w6 S
   have hgl := hG.size
   replace hG := Grew.alloc hG (.cells #[.string S, .nilIface] 120)
   go_wp2_with fail
   generalize w6.alloc (.cells #[.string S, .nilIface] 120) = w7 at *
   generalize w6.heap.size = g at *
   refine (hHd _ _ HR.out).mono ?_
   rintro e w8 ⟨rfl, hR2, HO⟩
   replace HR : Hid (RdAt _ g S2 E2) := hR2
   replace hG := HO.below hG hgl
   clear HO hR2
   go_wp2_with fail
   refine (cK _).mono ?_
   rintro e w9 ⟨rfl, hb⟩
   replace HR : Hid (RdAt _ g S2 E2) := HR.out.later hb
   replace hG := Grew.trans hG hb
   clear hb
   go_wp2_with fail
   refine (cE _ _ HR.out).mono ?_
   rintro e w10 ⟨u2, rfl, hu2, hb⟩
   rw [hc] at hu2
   replace hG := Grew.trans hG hb
   clear hb
   go_wp2_with fail
   refine (code_st u2 (HE.out.later hG) hu2).mono ?_
   rintro e w11 ⟨rfl, hb⟩
   replace hG := Grew.trans hG hb
   go_wp2
   go_ret
   exact ⟨rfl, hG⟩
 ·have hxe : (X == 0) = false := by simp [hX]
  obtain ⟨t, x, hux⟩ : ∃ t x, u = .iface t x := by rcases HU.out with ⟨h, -⟩ | ⟨-, t, x, l, h, -⟩; exact absurd h hX; exact ⟨t, x, h⟩
  subst hux
  refine wp_relv (fun k => k == 1) (fun k => match k with | 1 => fun u => ∃ oa c, u = .agg #[.int .u32 nm, .slice oa n c] | _ => fun _ => True) (fun k => match k with | 1 => fun u w => ∀ oa c, u = .agg #[.int .u32 nm, .slice oa n c] → PkAt w oa n I K | _ => fun _ _ => True) (fun k => match k with | 1 => .agg #[.int .u32 nm, .slice none n 0] | _ => undef) (fun i hi => ?_) (by kernel_rfl) (by kernel_rfl) ?_
  ·simp only [Bool.or_eq_true, beq_iff_eq] at hi
   subst hi
   exact ⟨none, 0, rfl⟩
  (first | refine exv_skip rfl ?_ | (refine exv_call rfl ?_; apply Exists.intro))
  refine exv_call rfl ⟨undef, ?_⟩
  iterate 16 (first | refine exv_skip rfl ?_ | (refine exv_call rfl ?_; apply Exists.intro))
  refine exv_nil ?_
  intro γ gv hsv hinj hbase
  obtain ⟨o1, c1, e1⟩ := hsv 1 rfl
  (repeat (first | (refine rel_quiet rfl ?_; ((first | go_big_quiet_skip | (go_big_quiet_want; go_big_quiet_op; go_big_quiet_on)); refine wpQuiet_nil ?_)) | ((first | refine rel_skip_some rfl (fun _ => rfl) ?_ | (apply rel_fact; (focus rfl); (focus rfl); (focus rfl); (focus (intro W hC hF; (have hbW : Below w5.heap.size w5 W := by obtain ⟨mm, rfl⟩ := hC; exact below_more w5 mm); go_big_quiet_want; go_big_quiet_op; (first | go_big_quiet_on | (apply Exists.intro; refine ⟨fun _ => ?_, ?_⟩; (focus ((fail))); go_big_quiet_on)); exact wpQuiet_nil rfl)); (focus (first | exact fun _ => ⟨rfl, rfl⟩ | exact fun h => absurd h (by decide))))); ((first | go_big_quiet_skip | (go_big_quiet_want; go_big_quiet_op; go_big_quiet_on)); refine wpQuiet_nil ?_)) | refine rel_skip_none rfl (fun _ => rfl) ?_))
  refine rel_callv #[.agg #[.int .u32 nm, .slice oa n c]] (enters_of Tryz.func36 (by kernel_rfl) rfl) rfl e1 rfl rfl rfl rfl (fits_nil (stab_pk _ _ _ _ _)) (by first | kernel_rfl | simp [go_sem]) ?_ ?_
  ·intro W hC hF
   obtain ⟨mm, rfl⟩ := hC
   refine (cO _ (below_more w5 mm)).mono ?_
   rintro e w9 ⟨v, rfl, ⟨o9, c9, rfl, hp9⟩, hb9⟩
   exact ⟨_, rfl, ⟨_, _, rfl⟩, (fun oa2 c2 e2 => by cases e2; exact hp9), hb9⟩
  ((first | go_big_quiet_skip | (go_big_quiet_want; go_big_quiet_op; go_big_quiet_on)); refine wpQuiet_nil ?_)
  (repeat (first | (refine rel_quiet rfl ?_; ((first | go_big_quiet_skip | (go_big_quiet_want; go_big_quiet_op; go_big_quiet_on)); refine wpQuiet_nil ?_)) | ((first | refine rel_skip_some rfl (fun _ => rfl) ?_ | (apply rel_fact; (focus rfl); (focus rfl); (focus rfl); (focus (intro W hC hF; (have hbW : Below w5.heap.size w5 W := by obtain ⟨mm, rfl⟩ := hC; exact below_more w5 mm); (have hGW : Below w.heap.size w W := Grew.trans hG hbW); (try (have hP0 : ∀ oa c, (.agg #[.int .u32 nm, .slice o1 n c1] : Value) = .agg #[.int .u32 nm, .slice oa n c] → PkAt W oa n I K := known hF (List.mem_cons_self ..) (by decide +kernel))); go_big_quiet_want; go_big_quiet_op; (first | go_big_quiet_on | (apply Exists.intro; refine ⟨fun _ => ?_, ?_⟩; (focus (first | (exact Calls.of_more (same17_any nm o1 ob n c1 d I K _ (by omega) ((hP0 _ _ rfl).later (below_more W _)) (HQ.out.later (Grew.more hbW _)))) | (exact Calls.of_more (code_st _ (HE.out.later (Grew.more hGW _)) (HU.out.later (Grew.more hbW _)))))); go_big_quiet_on)); exact wpQuiet_nil rfl)); (focus (first | exact fun _ => ⟨rfl, rfl⟩ | exact fun h => absurd h (by decide))))); ((first | go_big_quiet_skip | (go_big_quiet_want; go_big_quiet_op; go_big_quiet_on)); refine wpQuiet_nil ?_)) | refine rel_skip_none rfl (fun _ => rfl) ?_))
  (refine rel_nil ?_; rintro _ ⟨mq, rfl⟩ hF; simp only [List.forall_mem_cons] at hF; obtain ⟨-, -⟩ := hF)
  replace hG := Grew.more hG mq
  clear hinj hbase hsv e1 HP HQ fb fr lb lr HU
  generalize more w5 mq = w6 at *
  clear γ
  have hb0 := byteAt_b S 0
  have hb1 := byteAt_b S 1
  have hw1 : IntKind.u64.wrap (byteAt S 1) = byteAt S 1 := by rw [IntKind.wrap_u64]; omega
  have hw2 : IntKind.u64.wrap kind = kind := by rw [IntKind.wrap_u64]; omega
  have cK := fun W => kindOf_any S W
  have cE := fun (g : Nat) (W : World) (h : RdAt W g (hdS S) (hdE S kind)) => end_st h
  have hHd := fun (g : Nat) (W : World) (h : RdAt W g S 0) => head_st kind h
  replace hHd : ∀ (g : Nat) (W : World), RdAt W g S 0 → Calls Tryz.prog 37 #[.pointer (some ⟨g, 0, none⟩), .int .u64 kind] W fun e w' => e = .returned (.tuple #[]) ∧ RdAt w' g (hdS S) (hdE S kind) ∧ Oth g W w' := hHd
  have hkc2 := hkc
  unfold kcF at hkc2
  unfold kdF at cK
  generalize hdS S = S2 at *
  generalize hdE S kind = E2 at *
  rcases (by omega : S.size < 2 ∨ (2 ≤ S.size ∧ ¬ byteAt S 0 = 1) ∨ (2 ≤ S.size ∧ byteAt S 0 = 1 ∧ ¬ byteAt S 1 = kind) ∨ (2 < S.size ∧ byteAt S 0 = 1 ∧ byteAt S 1 = kind) ∨ (S.size = 2 ∧ byteAt S 0 = 1 ∧ byteAt S 1 = kind)) with h | ⟨h, h0⟩ | ⟨h, h0, h1⟩ | ⟨h, h0, h1⟩ | ⟨h, h0, h1⟩
  ·have n1 : ¬ (1 < S.size) := by omega
   have n1i : ¬ ((1 : Int) < (S.size : Int)) := by omega
   have n2i : (S.size : Int) < 2 := by omega
   have hc : enE S2 E2 = 1 := by rw [hkc2.out, if_pos h]
   rw [if_neg n1] at cK
   clear hkc hkc2
   go_wp2_with fail
   refine (rover_any _ _).mono ?_
   rintro e w7 ⟨rfl, rfl⟩
   have HR : Hid (RdAt (w6.alloc (.cells #[.string S, .nilIface] 120)) w6.heap.size S 0) := RdAt.over w6 S
   have hgl := hG.size
   replace hG := Grew.alloc hG (.cells #[.string S, .nilIface] 120)
   go_wp2_with fail
   generalize w6.alloc (.cells #[.string S, .nilIface] 120) = w7 at *
   generalize w6.heap.size = g at *
   refine (hHd _ _ HR.out).mono ?_
   rintro e w8 ⟨rfl, hR2, HO⟩
   replace HR : Hid (RdAt _ g S2 E2) := hR2
   replace hG := HO.below hG hgl
   clear HO hR2
   go_wp2_with fail
   refine (cK _).mono ?_
   rintro e w9 ⟨rfl, hb⟩
   replace HR : Hid (RdAt _ g S2 E2) := HR.out.later hb
   replace hG := Grew.trans hG hb
   clear hb
   go_wp2_with fail
   refine (cE _ _ HR.out).mono ?_
   rintro e w10 ⟨u2, rfl, hu2, hb⟩
   rw [hc] at hu2
   replace hG := Grew.trans hG hb
   clear hb
   go_wp2_with fail
   refine (code_st u2 (HE.out.later hG) hu2).mono ?_
   rintro e w11 ⟨rfl, hb⟩
   replace hG := Grew.trans hG hb
   go_wp2
   go_ret
   exact ⟨rfl, hG⟩
  ·have hc : enE S2 E2 = 3 := by rw [hkc2.out, if_neg (by omega), if_pos h0]
   have n1 : 1 < S.size := by omega
   have n0 : 0 < S.size := by omega
   have n0i : (0 : Int) < (S.size : Int) := by omega
   have n1i : (1 : Int) < (S.size : Int) := by omega
   have n2i : ¬ ((S.size : Int) < 2) := by omega
   rw [if_pos n1] at cK
   clear hkc hkc2
   go_wp2_with fail
   refine (rover_any _ _).mono ?_
   rintro e w7 ⟨rfl, rfl⟩
   have HR : Hid (RdAt (w6.alloc (.cells #[.string S, .nilIface] 120)) w6.heap.size S 0) := RdAt.over w6 S
   have hgl := hG.size
   replace hG := Grew.alloc hG (.cells #[.string S, .nilIface] 120)
   go_wp2_with fail
   generalize w6.alloc (.cells #[.string S, .nilIface] 120) = w7 at *
   generalize w6.heap.size = g at *
   refine (hHd _ _ HR.out).mono ?_
   rintro e w8 ⟨rfl, hR2, HO⟩
   replace HR : Hid (RdAt _ g S2 E2) := hR2
   replace hG := HO.below hG hgl
   clear HO hR2
   go_wp2_with fail
   refine (cK _).mono ?_
   rintro e w9 ⟨rfl, hb⟩
   replace HR : Hid (RdAt _ g S2 E2) := HR.out.later hb
   replace hG := Grew.trans hG hb
   clear hb
   go_wp2_with fail
   refine (cE _ _ HR.out).mono ?_
   rintro e w10 ⟨u2, rfl, hu2, hb⟩
   rw [hc] at hu2
   replace hG := Grew.trans hG hb
   clear hb
   go_wp2_with fail
   refine (code_st u2 (HE.out.later hG) hu2).mono ?_
   rintro e w11 ⟨rfl, hb⟩
   replace hG := Grew.trans hG hb
   go_wp2
   go_ret
   exact ⟨rfl, hG⟩
  ·have hc : enE S2 E2 = 14 := by rw [hkc2.out, if_neg (by omega), if_neg (fun x => x h0), if_pos h1]
   have n1 : 1 < S.size := by omega
   have n0 : 0 < S.size := by omega
   have n0i : (0 : Int) < (S.size : Int) := by omega
   have n1i : (1 : Int) < (S.size : Int) := by omega
   have n2i : ¬ ((S.size : Int) < 2) := by omega
   rw [if_pos n1] at cK
   clear hkc hkc2
   go_wp2_with fail
   refine (rover_any _ _).mono ?_
   rintro e w7 ⟨rfl, rfl⟩
   have HR : Hid (RdAt (w6.alloc (.cells #[.string S, .nilIface] 120)) w6.heap.size S 0) := RdAt.over w6 S
   have hgl := hG.size
   replace hG := Grew.alloc hG (.cells #[.string S, .nilIface] 120)
   go_wp2_with fail
   generalize w6.alloc (.cells #[.string S, .nilIface] 120) = w7 at *
   generalize w6.heap.size = g at *
   refine (hHd _ _ HR.out).mono ?_
   rintro e w8 ⟨rfl, hR2, HO⟩
   replace HR : Hid (RdAt _ g S2 E2) := hR2
   replace hG := HO.below hG hgl
   clear HO hR2
   go_wp2_with fail
   refine (cK _).mono ?_
   rintro e w9 ⟨rfl, hb⟩
   replace HR : Hid (RdAt _ g S2 E2) := HR.out.later hb
   replace hG := Grew.trans hG hb
   clear hb
   go_wp2_with fail
   refine (cE _ _ HR.out).mono ?_
   rintro e w10 ⟨u2, rfl, hu2, hb⟩
   rw [hc] at hu2
   replace hG := Grew.trans hG hb
   clear hb
   go_wp2_with fail
   refine (code_st u2 (HE.out.later hG) hu2).mono ?_
   rintro e w11 ⟨rfl, hb⟩
   replace hG := Grew.trans hG hb
   go_wp2
   go_ret
   exact ⟨rfl, hG⟩
  ·have hc : enE S2 E2 = 2 := by rw [hkc2.out, if_neg (by omega), if_neg (fun x => x h0), if_neg (fun x => x h1), if_pos h]
   have n1 : 1 < S.size := by omega
   have n0 : 0 < S.size := by omega
   have n0i : (0 : Int) < (S.size : Int) := by omega
   have n1i : (1 : Int) < (S.size : Int) := by omega
   have n2i : ¬ ((S.size : Int) < 2) := by omega
   have n3i : (2 : Int) < (S.size : Int) := by omega
   rw [if_pos n1] at cK
   clear hkc hkc2
   go_wp2_with fail
   refine (rover_any _ _).mono ?_
   rintro e w7 ⟨rfl, rfl⟩
   have HR : Hid (RdAt (w6.alloc (.cells #[.string S, .nilIface] 120)) w6.heap.size S 0) := RdAt.over w6 S
   have hgl := hG.size
   replace hG := Grew.alloc hG (.cells #[.string S, .nilIface] 120)
   go_wp2_with fail
   generalize w6.alloc (.cells #[.string S, .nilIface] 120) = w7 at *
   generalize w6.heap.size = g at *
   refine (hHd _ _ HR.out).mono ?_
   rintro e w8 ⟨rfl, hR2, HO⟩
   replace HR : Hid (RdAt _ g S2 E2) := hR2
   replace hG := HO.below hG hgl
   clear HO hR2
   go_wp2_with fail
   refine (cK _).mono ?_
   rintro e w9 ⟨rfl, hb⟩
   replace HR : Hid (RdAt _ g S2 E2) := HR.out.later hb
   replace hG := Grew.trans hG hb
   clear hb
   go_wp2_with fail
   refine (cE _ _ HR.out).mono ?_
   rintro e w10 ⟨u2, rfl, hu2, hb⟩
   rw [hc] at hu2
   replace hG := Grew.trans hG hb
   clear hb
   go_wp2_with fail
   refine (code_st u2 (HE.out.later hG) hu2).mono ?_
   rintro e w11 ⟨rfl, hb⟩
   replace hG := Grew.trans hG hb
   go_wp2
   go_ret
   exact ⟨rfl, hG⟩
  ·have hc : enE S2 E2 = 0 := by rw [hkc2.out, if_neg (by omega), if_neg (fun x => x h0), if_neg (fun x => x h1), if_neg (by omega)]
   have n1 : 1 < S.size := by omega
   have n0 : 0 < S.size := by omega
   have n0i : (0 : Int) < (S.size : Int) := by omega
   have n1i : (1 : Int) < (S.size : Int) := by omega
   have n2i : ¬ ((S.size : Int) < 2) := by omega
   have n3i : ¬ ((2 : Int) < (S.size : Int)) := by omega
   rw [if_pos n1] at cK
   clear hkc hkc2
   go_wp2_with fail
   refine (rover_any _ _).mono ?_
   rintro e w7 ⟨rfl, rfl⟩
   have HR : Hid (RdAt (w6.alloc (.cells #[.string S, .nilIface] 120)) w6.heap.size S 0) := RdAt.over w6 S
   have hgl := hG.size
   replace hG := Grew.alloc hG (.cells #[.string S, .nilIface] 120)
   go_wp2_with fail
   generalize w6.alloc (.cells #[.string S, .nilIface] 120) = w7 at *
   generalize w6.heap.size = g at *
   refine (hHd _ _ HR.out).mono ?_
   rintro e w8 ⟨rfl, hR2, HO⟩
   replace HR : Hid (RdAt _ g S2 E2) := hR2
   replace hG := HO.below hG hgl
   clear HO hR2
   go_wp2_with fail
   refine (cK _).mono ?_
   rintro e w9 ⟨rfl, hb⟩
   replace HR : Hid (RdAt _ g S2 E2) := HR.out.later hb
   replace hG := Grew.trans hG hb
   clear hb
   go_wp2_with fail
   refine (cE _ _ HR.out).mono ?_
   rintro e w10 ⟨u2, rfl, hu2, hb⟩
   rw [hc] at hu2
   replace hG := Grew.trans hG hb
   clear hb
   go_wp2_with fail
   refine (code_st u2 (HE.out.later hG) hu2).mono ?_
   rintro e w11 ⟨rfl, hb⟩
   replace hG := Grew.trans hG hb
   go_wp2
   go_ret
   exact ⟨rfl, hG⟩
end Go.Proofs.YtncjdlahiohlbaaGreatDoor
namespace Go.Proofs.YtncjdlahiohlbaaGreatDoor
open Go.ChangeShapes Go.WideShapes Go.ChangeAt Go.RowKit
open Go.ChangeMaps (open_string shut_string)
set_option linter.unusedVariables false
set_option linter.unusedSimpArgs false
theorem bundleReads_lifted (os : Os) (started : os.Started) (H : Type) (enc : TypeId × Value → H) :
  ReturnsInHanded {} Tryz.checked os 5 .any (fun w args => (Rows.bundleReadsSpec.pre enc Tryz.prog Tryz.f5 [] false w args ∧ laidMetH Tryz.prog Rows.bundleReadsRow.laid w) ∧ sizedMet enc Tryz.prog Tryz.f5 (OpenSpec.ofChange Rows.bundleReadsSpec) false w args)
   (Rows.bundleReadsSpec.post enc Tryz.prog Tryz.f5 false true false false) := by
 refine returnsInHanded_of_change_and (C := Tryz.checked) (X := fun w _ => laidMetH Tryz.prog Rows.bundleReadsRow.laid w) (fun _ _ _ hh h => h.of_heap hh) own started (by kernel_rfl) Tryz.func5
  (ChangeSpec.witness_shaped (enc := enc) (C := Tryz.checked) (os := os) (X := fun w _ => laidMetH Tryz.prog Rows.bundleReadsRow.laid w) false (hwL os) #[.string ⟨#[]⟩, .int .u8 0] 8 (hwL_os os)
   (World.shaped_of_ZipB (by kernel_rfl) (by kernel_rfl)) (by kernel_rfl) (by kernel_rfl) (by kernel_rfl)
   (hwL_met os _)) ?_
 intro W base args ds gs before hval0 hW _ _ hL _
 have hval : ∀ (j : Nat) t v, Tryz.f5.params[j]? = some t → args[j]? = some v → Value.okWide Tryz.prog W .any base t v := hval0
 have hW' := hW
 obtain ⟨p, q, hA0, hV, rfl, hfz, hnd⟩ := hW
 have hA : DataW.TrodAll enc Tryz.prog W 0 (fun _ => true) true Tryz.f5.params.toList args.toList ds p := hA0
 rw [Tryz.params5] at hA hval
 obtain ⟨v0, vs0, d0, ds0, p0, q0, hargs, rfl, rfl, h0, r0⟩ := trodAll_cons hA
 obtain ⟨v1, vs1, d1, ds1, p1, q1, rfl, rfl, rfl, h1, r1⟩ := trodAll_cons r0
 obtain ⟨rfl, rfl, rfl⟩ := trodAll_nil r1
 obtain rfl : args = #[v0, v1] := by cases args; simp_all
 obtain ⟨rfl, rfl⟩ := trodVars_none hV
 have k0 := h0
 have lt0 : ∀ x ∈ p0, x.block < W.heap.size := by obtain ⟨m, hm⟩ := k0; exact DataW.trod_lt m _ _ _ hm
 have k1 := h1
 have lt1 : ∀ x ∈ p1, x.block < W.heap.size := by obtain ⟨m, hm⟩ := k1; exact DataW.trod_lt m _ _ _ hm
 obtain ⟨a0, rfl, _, _, w0⟩ := open_string Tryz.underlying9 (hval 0 9 v0 rfl rfl) h0
 obtain ⟨a1, rfl, _, _, w1⟩ := open_int Tryz.underlying5 (hval 1 5 v1 rfl rfl) h1
 clear hA0 hval0
 obtain ⟨hT, hE⟩ := laid3_of hL
 refine (bundleReads_any (fun W h hE => awake17_any (fun W h hE => Awake16_any (fun W h hE => awake16_any (fun W h hE => Awake15_any (fun W h hE => awake15_any (fun W h => Awake14_any (fun W h => awake14_any (fun W h => Awake13_any (fun W h => awake13_any (fun W h => Awake12_any aw12 W h) W h) W h) W h) W h) W h hE) W h hE) W h hE) W h hE) W h hE) a0 a1 W (bounds_u8 w1).1 (bounds_u8 w1).2 hT hE).mono fun e W' ⟨he, bel⟩ => ?_
 subst he
 exact ⟨_, rfl, _, _, _, [], _, [], hW', trodAll_mk1 (shut_bool Tryz.underlying4 _), (trodAll_cons_mk (Below.trod laidOut (by kernel_rfl) (of_decide_eq_true (by kernel_rfl)) k0 bel lt0) (trodAll_cons_mk (Below.trod laidOut (by kernel_rfl) (of_decide_eq_true (by kernel_rfl)) k1 bel lt1) trodAll_mk0)), rfl, bel.frame _, fun h => by cases h⟩
theorem bundleReads_closed : joinedFacts Tryz.prog 5 Tryz.f5 (Rows.bundleReadsSpec) Rows.bundleReadsRow = true := by
 first
 | (unfold joinedFacts; rw [may_enter, make_is, lifts_is]; first | (rw [norec 5 (by decide)]; kernel_rfl) | kernel_rfl)
 | kernel_rfl
theorem bundleReads_said : Rows.BundleReadsSaid :=
 OpenClaim.holds_of_wide 5 Tryz.f5 rfl rfl rfl rfl rfl rfl rfl ⟨rfl, rfl, rfl, rfl, rfl⟩ rfl rfl rfl rfl rfl (by kernel_rfl) Tryz.func5 (by first | exact bundleReads_closed | kernel_rfl)
  (of_decide_eq_true (by kernel_rfl)) (by unfold Func.isWrapper; first | (rw [if_pos (by decide +kernel)]; kernel_rfl) | (rw [if_neg (by decide +kernel)]; exact ⟨rfl, rfl⟩))
  (fun os started H enc _ => bundleReads_lifted os started H enc)
theorem bundleReads_card : Rows.BundleReadsCardSaid :=
 Claim7.holds_tied_plain_at .later [] _ _ _ _ bundleReads_said (fun _ h => by cases h) (by kernel_rfl) (fun _ h => by cases h) bundleReads_row_tie rfl ⟨rfl, rfl⟩ (by kernel_rfl) rfl
  (fun f fn hf hfn => by
   obtain rfl : f = 5 := Option.some.inj ((show Tryz.prog.funcNamed "sapwood/sapwoodlaw17.BundleReads" = some 5 by kernel_rfl).symm.trans hf) |>.symm
   obtain rfl : fn = Tryz.f5 := (Option.some.inj (Tryz.func5.symm.trans hfn)).symm
   exact ⟨by kernel_rfl, fun j t ht => by
    rw [Tryz.params5] at ht
    have hm : t ∈ [9, 5] := by simpa using Array.mem_of_getElem? ht
    have hall : ([9, 5].all fun u => !Tryz.prog.wantsStandIn u) = true := by kernel_rfl
    exact (show Tryz.prog.wantsStandIn t = false by simpa using List.all_eq_true.1 hall t hm)⟩)
  (by kernel_rfl)
end Go.Proofs.YtncjdlahiohlbaaGreatDoor
