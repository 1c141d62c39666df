/- B17 -/
import Derived.Test.YtnjghcnhcbobhaaGreatDoorR12
import Derived.Test.YtnjghcnhcbobhaaGreatDoorR11
import Derived.Test.YtnjghcnhcbobhaaGreatDoorFrame
import Derived.Test.YtnjghcnhcbobhaaGreatDoorQ14
import Derived.Test.YtnjghcnhcbobhaaGreatDoorC16
import Derived.Test.YtnjghcnhcbobhaaGreatDoorTrk
import Derived.Test.YtnjghcnhcbobhaaGreatDoorQ13
import Derived.Maps.OwnIn
import Derived.Test.YtnjghcnhcbobhaaGreatDoorE15
import Derived.ChangeSame
set_option maxRecDepth 100000
set_option maxHeartbeats 4000000
namespace Go.Proofs.YtnjghcnhcbobhaaGreatDoor
open Go.RowKit Go.Lib
set_option linter.unusedVariables false
set_option linter.unusedSimpArgs false
def pkC (i : Int) (k : Nat → Int) : Array Value := #[Value.int .u32 i] ++ ints .u8 32 k
@[go_sem] theorem pkC_size (i : Int) (k : Nat → Int) : (pkC i k).size = 33 := by simp [pkC, ints_size]
@[go_sem] theorem pkC_one (i : Int) (k : Nat → Int) : oneCells (pkC i k) = true := by
 have h2 := ints_one .u8 32 k
 unfold oneCells at *
 unfold pkC
 rw [Array.all_append, h2]
 simp [Value.oneCell']
theorem pkC_ones (i : Int) (k : Nat → Int) : (pkC i k).all (·.oneCell') = true := by
 have h := pkC_one i k
 unfold oneCells at h
 exact h
@[go_sem] theorem pkC_0 (i : Int) (k : Nat → Int) : (pkC i k)[0]? = some (.int .u32 i) := by
 unfold pkC
 rw [Array.getElem?_append_left (by simp)]
 simp
@[go_sem] theorem pkC_0' (i : Int) (k : Nat → Int) (h : 0 < (pkC i k).size) : (pkC i k)[0] = .int .u32 i := by
 have := pkC_0 i k
 rw [Array.getElem?_eq_getElem h] at this
 exact Option.some.inj this
theorem pkC_k (i : Int) (k : Nat → Int) (j : Nat) (h : j < 32) : (pkC i k)[1 + j]? = some (.int .u8 (k j)) := by
 unfold pkC
 rw [Array.getElem?_append_right (by simp), show 1 + j - (#[Value.int .u32 i] : Array Value).size = j by simp, ints_get _ _ _ _ h]
theorem pkC_ext (i : Int) (k : Nat → Int) : (pkC i k).extract 1 (1 + 32) = ints .u8 32 k := by
 apply Array.ext_getElem?
 intro j
 by_cases h : j < 32
 ·rw [ints_get _ _ _ _ h, Array.getElem?_extract, if_pos (by rw [pkC_size]; omega), pkC_k _ _ _ h]
 ·rw [Array.getElem?_eq_none (by simp [pkC_size]; omega), Array.getElem?_eq_none (by rw [ints_size]; omega)]
@[go_sem] theorem pkC_set (x : Int) (y : Nat → Int) (j : Nat) (v : Int) : (pkC x y).setIfInBounds (1 + j) (.int .u8 v) = pkC x (upd y j v) := by
 apply Array.ext_getElem?
 intro i
 rw [Array.getElem?_setIfInBounds]
 by_cases hi : i < 33
 ·rcases Nat.eq_zero_or_pos i with rfl | hp
  ·rw [if_neg (by omega), pkC_0, pkC_0]
  ·obtain ⟨q, rfl⟩ : ∃ q, i = 1 + q := ⟨i - 1, by omega⟩
   have hq : q < 32 := by omega
   rw [pkC_k _ _ _ hq, pkC_k _ _ _ hq]
   unfold upd
   by_cases e : q = j
   ·subst e
    rw [if_pos rfl, if_pos rfl, if_pos (by rw [pkC_size]; omega)]
   ·rw [if_neg (by omega), if_neg e]
 ·rw [Array.getElem?_eq_none (by rw [pkC_size]; omega), Array.getElem?_eq_none (by rw [pkC_size]; omega)]
  split
  ·rw [if_neg (by rw [pkC_size]; omega)]
  ·rfl
@[go_sem] theorem pkC_set' (x : Int) (y : Nat → Int) (j : Nat) (v : Int) : (pkC x y).setIfInBounds (j + 1) (.int .u8 v) = pkC x (upd y j v) := by rw [Nat.add_comm]; exact pkC_set x y j v
def pkL (I : Nat → Int) (K : Nat → Nat → Int) : Nat → List Value
 | 0 => []
 | n + 1 => pkL I K n ++ (pkC (I n) (K n)).toList
theorem pkL_len (I : Nat → Int) (K : Nat → Nat → Int) : ∀ n, (pkL I K n).length = n * 33
 | 0 => rfl
 | n + 1 => by
  show (pkL I K n ++ _).length = _
  rw [List.length_append, pkL_len I K n, Array.length_toList, pkC_size]
  omega
theorem pkL_get (I : Nat → Int) (K : Nat → Nat → Int) (j i : Nat) (hi : i < 33) : ∀ n, j < n → (pkL I K n)[j * 33 + i]? = (pkC (I j) (K j))[i]?
 | 0, h => absurd h (Nat.not_lt_zero _)
 | n + 1, h => by
  show (pkL I K n ++ _)[_]? = _
  by_cases hj : j < n
  ·rw [List.getElem?_append_left (by rw [pkL_len]; omega)]
   exact pkL_get I K j i hi n hj
  ·obtain rfl : j = n := by omega
   rw [List.getElem?_append_right (by rw [pkL_len]; omega), pkL_len, show j * 33 + i - j * 33 = i by omega, Array.getElem?_toList]
def PkAt (w : World) (oa : Option Addr) (n : Nat) (I : Nat → Int) (K : Nat → Nat → Int) : Prop :=
 n = 0 ∨ ∃ ad : Addr, oa = some ad ∧ ad.block < w.heap.size ∧ ∀ j, j < n → ∀ i, i < 33 → w.cell? ((ad.add (j * 33)).add i) = (pkC (I j) (K j))[i]?
theorem add_blk (ad : Addr) (i : Nat) : (ad.add i).block = ad.block := by unfold Addr.add; split <;> rfl
theorem PkAt.kept {B : Nat} {w w' : World} {oa : Option Addr} {n : Nat} {I : Nat → Int} {K : Nat → Nat → Int} (h : PkAt w oa n I K) (hb : Below B w w') (hB : ∀ ad, oa = some ad → ad.block < B) : PkAt w' oa n I K := by
 rcases h with h | ⟨ad, ho, hl, hc⟩
 ·exact .inl h
 ·have hlt := hB ad ho
  refine .inr ⟨ad, ho, Nat.lt_of_lt_of_le hl hb.size, fun j hj i hi => ?_⟩
  rw [hb.cell (by rw [add_blk, add_blk]; exact hlt)]
  exact hc j hj i hi
theorem PkAt.blk {w : World} {oa : Option Addr} {n : Nat} {I : Nat → Int} {K : Nat → Nat → Int} (h : PkAt w oa n I K) (hn : 0 < n) : ∃ ad, oa = some ad ∧ ad.block < w.heap.size := by
 rcases h with h | ⟨ad, ho, hl, _⟩
 ·omega
 ·exact ⟨ad, ho, hl⟩
theorem PkAt.later {w w' : World} {oa : Option Addr} {n : Nat} {I : Nat → Int} {K : Nat → Nat → Int} (h : PkAt w oa n I K) (hb : Below w.heap.size w w') : PkAt w' oa n I K := by
 have h0 := h
 rcases h with h | ⟨ad, ho, hl, hc⟩
 ·exact .inl h
 ·exact h0.kept hb fun ad' e => by cases ho.symm.trans e; exact hl
theorem PkAt.aside {w : World} {oa : Option Addr} {n : Nat} {I : Nat → Int} {K : Nat → Nat → Int} (h : PkAt w oa n I K) (g : Nat) (hne : ∀ ad, oa = some ad → ad.block ≠ g) (cs : Array Value) : PkAt (w.setRow g cs) oa n I K := by
 rcases h with h | ⟨ad, ho, hl, hc⟩
 ·exact .inl h
 ·refine .inr ⟨ad, ho, by rw [size_setRow']; exact hl, fun j hj i hi => ?_⟩
  rw [cell_aside _ _ _ _ (by rw [add_blk, add_blk]; exact hne ad ho)]
  exact hc j hj i hi
theorem PkAt.nil (w : World) (oa : Option Addr) (I : Nat → Int) (K : Nat → Nat → Int) : PkAt w oa 0 I K := .inl rfl
theorem pk_of_own {w : World} {base n : Nat} {v : Value} {I : Nat → Int} {K : Nat → Nat → Int} {t : TypeId} (h : w.ownsRow base t 33 v n (pkL I K n)) : ∃ oa c, v = .slice oa n c ∧ n ≤ c ∧ PkAt w oa n I K ∧ (∀ ad, oa = some ad → base ≤ ad.block ∧ ad.block < w.heap.size) := by
 rcases h.2 with ⟨rfl, h0⟩ | ⟨g, cap, cur, rfl, hb, hg, hnc, hcm, hcs, htake⟩
 ·subst h0
  exact ⟨none, 0, rfl, Nat.le_refl _, .inl rfl, fun ad e => by cases e⟩
 ·refine ⟨_, _, rfl, hnc, .inr ⟨_, rfl, lt_of_objAt hg, fun j hj i hi => ?_⟩, fun ad e => by cases e; exact ⟨hb, lt_of_objAt hg⟩⟩
  have e1 : ((⟨g, 0, none⟩ : Addr).add (j * 33)).add i = ⟨g, j * 33 + i, none⟩ := by
   rw [Go.Deep.add_add]
   unfold Addr.add
   split <;> simp_all
  rw [e1, cell_of_row w g (j * 33 + i) _ _ _ hg, ← pkL_get I K j i hi n hj, ← htake, List.getElem?_take, if_pos (by omega), Array.getElem?_toList]
def Twice (I : Nat → Int) (n : Nat) : Prop := ∃ i, i < n ∧ ∃ k, k < i ∧ I i = I k
open Classical in
noncomputable def dupE (I : Nat → Int) (n : Nat) : Int := if Twice I n then 17 else 0
theorem dupE_yes {I : Nat → Int} {n : Nat} (h : Twice I n) : dupE I n = 17 := if_pos h
theorem dupE_no {I : Nat → Int} {n : Nat} (h : ¬ Twice I n) : dupE I n = 0 := if_neg h
def BunAt (w : World) (v : Value) (nm : Int) (n : Nat) (I : Nat → Int) (K : Nat → Nat → Int) : Prop := ∃ oa c, v = .agg #[.int .u32 nm, .slice oa n c] ∧ PkAt w oa n I K
theorem BunAt.later {w w' : World} {v : Value} {nm : Int} {n : Nat} {I : Nat → Int} {K : Nat → Nat → Int} (h : BunAt w v nm n I K) (hb : Below w.heap.size w w') : BunAt w' v nm n I K := by
 obtain ⟨oa, c, e, hp⟩ := h
 exact ⟨oa, c, e, hp.later hb⟩
theorem own_blk {w : World} {base size n : Nat} {e : TypeId} {v : Value} {xs : List Value} (h : w.ownsRow base e size v n xs) : ∀ r, v.ownBlock = some r → base ≤ r ∧ ∃ cs, objAt w r = some (.cells cs e) := fun r hr => by
 rcases h.2 with ⟨rfl, _⟩ | ⟨g, cap, cur, rfl, hb, hg, _⟩
 ·cases hr
 ·cases hr
  exact ⟨hb, cur, hg⟩
theorem PkAt.load_pk {w : World} {ad : Addr} {n : Nat} {I : Nat → Int} {K : Nat → Nat → Int} (h : PkAt w (some ad) n I K) {j : Nat} (hj : j < n) : (loadNext 103 (.pointer (some (ad.add (j * 33))))).run Tryz.prog w = .ok (.value (.agg (pkC (I j) (K j)))) w := by
 rcases h with h | ⟨ad', ho, hl, hc⟩
 ·omega
 ·cases ho
  exact run_load_row Tryz.underlying103 rfl (by kernel_rfl) w _ _ (pkC_size _ _) (hc j hj)
@[go_sem ↓ high] theorem load_pk (ρ : Operand → Value) (d : Option Tmp) (x : Operand) (t : TypeId) (pos : String) (af : Array Edge) (g : Option (Nat × Bool)) :
  execOp ρ ⟨d, .load 103 x, t, pos, af, g⟩ = loadNext 103 (ρ x) := op_load _ ρ d x t pos af g
@[go_sem high] theorem load_pk' (ρ : Operand → Value) (d : Option Tmp) (x : Operand) (t : TypeId) (pos : String) (af : Array Edge) (g : Option (Nat × Bool)) :
  execOp ρ ⟨d, .load 103 x, t, pos, af, g⟩ = loadNext 103 (ρ x) := op_load _ ρ d x t pos af g
@[go_sem] theorem load_pk_at (g : Nat) (w : World) : (loadNext 103 (.pointer (some ⟨g, 0, none⟩))).run Tryz.prog w = (loadOf Tryz.prog 103 g 33 w (objAt w g)).andThen fun v w' => .ok (.value v) w' := by
 rw [run_loadNext, loadRow_eq Tryz.underlying103 rfl (by kernel_rfl) g w]
@[go_sem] theorem load_pk_of (g : Nat) (w : World) (cs : Array Value) (t' : TypeId) (fr : Nat × Nat) (h : cs.size = 33) : loadOf Tryz.prog 103 g 33 w (some (.cells cs t' fr)) = .ok (.agg cs) w := loadOf_cells cs t' fr h
@[go_sem ↓ high] theorem store_pk (ρ : Operand → Value) (d : Option Tmp) (x y : Operand) (t : TypeId) (pos : String) (af : Array Edge) (g : Option (Nat × Bool)) :
  execOp ρ ⟨d, .store 103 x y, t, pos, af, g⟩ = storeNext 103 (ρ x) (ρ y) := op_store _ ρ d x y t pos af g
@[go_sem high] theorem store_pk' (ρ : Operand → Value) (d : Option Tmp) (x y : Operand) (t : TypeId) (pos : String) (af : Array Edge) (g : Option (Nat × Bool)) :
  execOp ρ ⟨d, .store 103 x y, t, pos, af, g⟩ = storeNext 103 (ρ x) (ρ y) := op_store _ ρ d x y t pos af g
@[go_sem] theorem store_pk_at (g : Nat) (cs : Array Value) (w : World) : (storeNext 103 (.pointer (some ⟨g, 0, none⟩)) (.agg cs)).run Tryz.prog w = (storeOf Tryz.prog 103 g 33 (.agg cs) w (objAt w g)).andThen fun _ w' => .ok .skip w' := by
 rw [run_storeNext, storeRow_eq (by kernel_rfl) g cs w]
@[go_sem] theorem store_pk_of (g : Nat) (w : World) (old cs : Array Value) (t' : TypeId) (h1 : old.size = 33) (h2 : cs.size = 33) (h3 : oneCells cs = true) :
  storeOf Tryz.prog 103 g 33 (.agg cs) w (some (.cells old t' (0, 0))) = .ok () (w.setRow g cs) := storeOf_cells old cs t' h1 h2 h3
@[go_sem high] theorem zero_pk' (w : World) : (zeroValue 103).run Tryz.prog w = .ok (.agg (pkC 0 nought)) w := by kernel_rfl
@[go_sem ↓ high] theorem zero_pk (w : World) : (zeroValue 103).run Tryz.prog w = .ok (.agg (pkC 0 nought)) w := by kernel_rfl
@[go_sem] theorem none_pk (w : World) : (noneNext 103).run Tryz.prog w = .ok (.value (.agg (pkC 0 nought))) w := by kernel_rfl
def pkNext (a b : Value) : Sem Next := do pure (.value (← Instr.build 103 #[(0, a), (1, b)]))
@[go_sem ↓ high] theorem op_pk (ρ : Operand → Value) (dd : Option Tmp) (a b : Operand) (t : TypeId) (pos : String) (af : Array Edge) (gg : Option (Nat × Bool)) :
  execOp ρ ⟨dd, .build 103 #[(0, a), (1, b)], t, pos, af, gg⟩ = pkNext (ρ a) (ρ b) := by simp [execOp, pkNext]
@[go_sem high] theorem op_pk' (ρ : Operand → Value) (dd : Option Tmp) (a b : Operand) (t : TypeId) (pos : String) (af : Array Edge) (gg : Option (Nat × Bool)) :
  execOp ρ ⟨dd, .build 103 #[(0, a), (1, b)], t, pos, af, gg⟩ = pkNext (ρ a) (ρ b) := by simp [execOp, pkNext]
theorem run_pk (a : Int) (k : Nat → Int) (w : World) : (Instr.build 103 #[(0, .int .u32 a), (1, .agg (ints .u8 32 k))]).run Tryz.prog w = .ok (.agg (pkC a k)) w := by kernel_rfl
@[go_sem] theorem run_pkNext (a : Int) (k : Nat → Int) (w : World) : (pkNext (.int .u32 a) (.agg (ints .u8 32 k))).run Tryz.prog w = .ok (.value (.agg (pkC a k))) w := by
 unfold pkNext
 rw [Sem.run_bind, run_pk]
 rfl
theorem build1_pk (a : Int) (k : Nat → Int) (W : World) : (Instr.buildSlice 23 1 #[(0, .agg (pkC a k))]).run Tryz.prog W = .ok (.slice (some ⟨W.heap.size, 0, none⟩) 1 1) (W.alloc (.cells (pkC a k) 103)) := by kernel_rfl
def pkB1 (v : Value) : Sem Next := do pure (.value (← Instr.buildSlice 23 1 #[(0, v)]))
@[go_sem ↓ high] theorem op_pkB1 (ρ : Operand → Value) (d : Option Tmp) (x : Operand) (t : TypeId) (pos : String) (af : Array Edge) (g : Option (Nat × Bool)) :
  execOp ρ ⟨d, .buildSlice 23 1 #[(0, x)], t, pos, af, g⟩ = pkB1 (ρ x) := by
 unfold execOp pkB1
 simp
@[go_sem high] theorem op_pkB1' (ρ : Operand → Value) (d : Option Tmp) (x : Operand) (t : TypeId) (pos : String) (af : Array Edge) (g : Option (Nat × Bool)) :
  execOp ρ ⟨d, .buildSlice 23 1 #[(0, x)], t, pos, af, g⟩ = pkB1 (ρ x) := op_pkB1 ρ d x t pos af g
@[go_sem] theorem run_pkB1 (a : Int) (k : Nat → Int) (W : World) : (pkB1 (.agg (pkC a k))).run Tryz.prog W = .ok (.value (.slice (some ⟨W.heap.size, 0, none⟩) 1 1)) (W.alloc (.cells (pkC a k) 103)) := by
 unfold pkB1
 simp only [Sem.run_bind, build1_pk, Result.andThen_ok, Sem.run_pure]
@[go_sem ↓ high] theorem append_pks (ty : TypeId) (cs : Array Bool) (args : Array Value) : builtin .append #[23, 23] ty cs args = appendNext #[23, 23] ty args := by unfold appendNext; rfl
theorem append_pkG (W : World) (base : Nat) (v : Value) (n : Nat) (I : Nat → Int) (K : Nat → Nat → Int) (g2 : Nat) (t2 : TypeId) (fr : Nat × Nat) (own : W.ownsRow base 103 33 v n (pkL I K n)) (hn : n ≤ 1048576)
  (hg2 : objAt W g2 = some (.cells (pkC (I n) (K n)) t2 fr)) (hbW : base ≤ W.heap.size) :
  ∃ g cap w', (appendNext #[23, 23] 23 #[v, .slice (some ⟨g2, 0, none⟩) 1 1]).run Tryz.prog W = .ok (.value (.slice (some ⟨g, 0, none⟩) (n + 1) cap)) w' ∧ w'.ownsRow base 103 33 (.slice (some ⟨g, 0, none⟩) (n + 1) cap) (n + 1) (pkL I K (n + 1)) ∧ W.grownBy w' v.ownBlock := by
 obtain ⟨g, cap, w', hr, ho, hg, _, _⟩ := run_append_lies (P := Tryz.prog) W 23 23 base 103 ((Tryz.prog.info? 103).get (by kernel_rfl)) (((Tryz.prog.info? 103).get (by kernel_rfl)).zero.get (by kernel_rfl)) 33 36 Tryz.underlying23 (by kernel_rfl) (by kernel_rfl) (by kernel_rfl) (by kernel_rfl) (by kernel_rfl) (by decide) v n (pkL I K n) own ⟨g2, 0, none⟩ 1 1 (pkC (I n) (K n)).toList (by rw [Array.length_toList, pkC_size])
  (fun j u hu => by
   rw [Array.getElem?_toList] at hu
   have hadd : (⟨g2, 0, none⟩ : Addr).add j = ⟨g2, j, none⟩ := by unfold Addr.add; split <;> simp_all
   rw [hadd, cell_of_row W g2 j _ _ _ hg2]
   exact hu)
  (fun u hu => by
   have h1 := pkC_ones (I n) (K n)
   rw [Array.all_eq_true'] at h1
   exact h1 u (by simpa using hu)) (by decide) (by unfold maxLen; omega) (by omega) hbW W.heap.size rfl
 exact ⟨g, cap, w', by unfold appendNext; simp only [Sem.run_bind, hr, Result.andThen_ok, Sem.run_pure], ho, hg⟩
theorem PkAt.load_rpk {w : World} {ad : Addr} {n : Nat} {I : Nat → Int} {K : Nat → Nat → Int} (h : PkAt w (some ad) n I K) {j : Nat} (hj : j < n) : (loadNext 116 (.pointer (some (ad.add (j * 33))))).run Tryz.prog w = .ok (.value (.agg (pkC (I j) (K j)))) w := by
 rcases h with h | ⟨ad', ho, hl, hc⟩
 ·omega
 ·cases ho
  exact run_load_row Tryz.underlying116 rfl (by kernel_rfl) w _ _ (pkC_size _ _) (hc j hj)
@[go_sem ↓ high] theorem load_rpk (ρ : Operand → Value) (d : Option Tmp) (x : Operand) (t : TypeId) (pos : String) (af : Array Edge) (g : Option (Nat × Bool)) :
  execOp ρ ⟨d, .load 116 x, t, pos, af, g⟩ = loadNext 116 (ρ x) := op_load _ ρ d x t pos af g
@[go_sem high] theorem load_rpk' (ρ : Operand → Value) (d : Option Tmp) (x : Operand) (t : TypeId) (pos : String) (af : Array Edge) (g : Option (Nat × Bool)) :
  execOp ρ ⟨d, .load 116 x, t, pos, af, g⟩ = loadNext 116 (ρ x) := op_load _ ρ d x t pos af g
@[go_sem] theorem load_rpk_at (g : Nat) (w : World) : (loadNext 116 (.pointer (some ⟨g, 0, none⟩))).run Tryz.prog w = (loadOf Tryz.prog 116 g 33 w (objAt w g)).andThen fun v w' => .ok (.value v) w' := by
 rw [run_loadNext, loadRow_eq Tryz.underlying116 rfl (by kernel_rfl) g w]
@[go_sem] theorem load_rpk_of (g : Nat) (w : World) (cs : Array Value) (t' : TypeId) (fr : Nat × Nat) (h : cs.size = 33) : loadOf Tryz.prog 116 g 33 w (some (.cells cs t' fr)) = .ok (.agg cs) w := loadOf_cells cs t' fr h
@[go_sem ↓ high] theorem store_rpk (ρ : Operand → Value) (d : Option Tmp) (x y : Operand) (t : TypeId) (pos : String) (af : Array Edge) (g : Option (Nat × Bool)) :
  execOp ρ ⟨d, .store 116 x y, t, pos, af, g⟩ = storeNext 116 (ρ x) (ρ y) := op_store _ ρ d x y t pos af g
@[go_sem high] theorem store_rpk' (ρ : Operand → Value) (d : Option Tmp) (x y : Operand) (t : TypeId) (pos : String) (af : Array Edge) (g : Option (Nat × Bool)) :
  execOp ρ ⟨d, .store 116 x y, t, pos, af, g⟩ = storeNext 116 (ρ x) (ρ y) := op_store _ ρ d x y t pos af g
@[go_sem] theorem store_rpk_at (g : Nat) (cs : Array Value) (w : World) : (storeNext 116 (.pointer (some ⟨g, 0, none⟩)) (.agg cs)).run Tryz.prog w = (storeOf Tryz.prog 116 g 33 (.agg cs) w (objAt w g)).andThen fun _ w' => .ok .skip w' := by
 rw [run_storeNext, storeRow_eq (by kernel_rfl) g cs w]
@[go_sem] theorem store_rpk_of (g : Nat) (w : World) (old cs : Array Value) (t' : TypeId) (h1 : old.size = 33) (h2 : cs.size = 33) (h3 : oneCells cs = true) :
  storeOf Tryz.prog 116 g 33 (.agg cs) w (some (.cells old t' (0, 0))) = .ok () (w.setRow g cs) := storeOf_cells old cs t' h1 h2 h3
@[go_sem high] theorem zero_rpk' (w : World) : (zeroValue 116).run Tryz.prog w = .ok (.agg (pkC 0 nought)) w := by kernel_rfl
@[go_sem ↓ high] theorem zero_rpk (w : World) : (zeroValue 116).run Tryz.prog w = .ok (.agg (pkC 0 nought)) w := by kernel_rfl
@[go_sem] theorem none_rpk (w : World) : (noneNext 116).run Tryz.prog w = .ok (.value (.agg (pkC 0 nought))) w := by kernel_rfl
def rpkNext (a b : Value) : Sem Next := do pure (.value (← Instr.build 116 #[(0, a), (1, b)]))
@[go_sem ↓ high] theorem op_rpk (ρ : Operand → Value) (dd : Option Tmp) (a b : Operand) (t : TypeId) (pos : String) (af : Array Edge) (gg : Option (Nat × Bool)) :
  execOp ρ ⟨dd, .build 116 #[(0, a), (1, b)], t, pos, af, gg⟩ = rpkNext (ρ a) (ρ b) := by simp [execOp, rpkNext]
@[go_sem high] theorem op_rpk' (ρ : Operand → Value) (dd : Option Tmp) (a b : Operand) (t : TypeId) (pos : String) (af : Array Edge) (gg : Option (Nat × Bool)) :
  execOp ρ ⟨dd, .build 116 #[(0, a), (1, b)], t, pos, af, gg⟩ = rpkNext (ρ a) (ρ b) := by simp [execOp, rpkNext]
theorem run_rpk (a : Int) (k : Nat → Int) (w : World) : (Instr.build 116 #[(0, .int .u32 a), (1, .agg (ints .u8 32 k))]).run Tryz.prog w = .ok (.agg (pkC a k)) w := by kernel_rfl
@[go_sem] theorem run_rpkNext (a : Int) (k : Nat → Int) (w : World) : (rpkNext (.int .u32 a) (.agg (ints .u8 32 k))).run Tryz.prog w = .ok (.value (.agg (pkC a k))) w := by
 unfold rpkNext
 rw [Sem.run_bind, run_rpk]
 rfl
theorem build1_rpk (a : Int) (k : Nat → Int) (W : World) : (Instr.buildSlice 35 1 #[(0, .agg (pkC a k))]).run Tryz.prog W = .ok (.slice (some ⟨W.heap.size, 0, none⟩) 1 1) (W.alloc (.cells (pkC a k) 116)) := by kernel_rfl
def rpkB1 (v : Value) : Sem Next := do pure (.value (← Instr.buildSlice 35 1 #[(0, v)]))
@[go_sem ↓ high] theorem op_rpkB1 (ρ : Operand → Value) (d : Option Tmp) (x : Operand) (t : TypeId) (pos : String) (af : Array Edge) (g : Option (Nat × Bool)) :
  execOp ρ ⟨d, .buildSlice 35 1 #[(0, x)], t, pos, af, g⟩ = rpkB1 (ρ x) := by
 unfold execOp rpkB1
 simp
@[go_sem high] theorem op_rpkB1' (ρ : Operand → Value) (d : Option Tmp) (x : Operand) (t : TypeId) (pos : String) (af : Array Edge) (g : Option (Nat × Bool)) :
  execOp ρ ⟨d, .buildSlice 35 1 #[(0, x)], t, pos, af, g⟩ = rpkB1 (ρ x) := op_rpkB1 ρ d x t pos af g
@[go_sem] theorem run_rpkB1 (a : Int) (k : Nat → Int) (W : World) : (rpkB1 (.agg (pkC a k))).run Tryz.prog W = .ok (.value (.slice (some ⟨W.heap.size, 0, none⟩) 1 1)) (W.alloc (.cells (pkC a k) 116)) := by
 unfold rpkB1
 simp only [Sem.run_bind, build1_rpk, Result.andThen_ok, Sem.run_pure]
@[go_sem ↓ high] theorem append_rpks (ty : TypeId) (cs : Array Bool) (args : Array Value) : builtin .append #[35, 35] ty cs args = appendNext #[35, 35] ty args := by unfold appendNext; rfl
theorem append_rpk (w W : World) (base : Nat) (v : Value) (n : Nat) (I : Nat → Int) (K : Nat → Nat → Int) (g2 : Nat) (t2 : TypeId) (fr : Nat × Nat) (own : W.ownsRow base 116 33 v n (pkL I K n)) (hn : n ≤ 1048576)
  (hg2 : objAt W g2 = some (.cells (pkC (I n) (K n)) t2 fr)) (hG : Below w.heap.size w W) (hwb : w.heap.size ≤ base) (hbW : base ≤ W.heap.size) :
  ∃ g cap w', (appendNext #[35, 35] 35 #[v, .slice (some ⟨g2, 0, none⟩) 1 1]).run Tryz.prog W = .ok (.value (.slice (some ⟨g, 0, none⟩) (n + 1) cap)) w' ∧ w'.ownsRow base 116 33 (.slice (some ⟨g, 0, none⟩) (n + 1) cap) (n + 1) (pkL I K (n + 1)) ∧
   Below w.heap.size w w' ∧ (∀ m o, m < base → objAt W m = some o → objAt w' m = some o) := by
 obtain ⟨g, cap, w', hr, ho, hb, hk, _⟩ := append_part (i := (Tryz.prog.info? 116).get (by kernel_rfl)) (z := ((Tryz.prog.info? 116).get (by kernel_rfl)).zero.get (by kernel_rfl)) 33 36 Tryz.underlying35 (by kernel_rfl) (by kernel_rfl) (by kernel_rfl) (by kernel_rfl) (by kernel_rfl) (by decide) (by decide) 35 w W base v n (pkL I K n) ⟨g2, 0, none⟩ 1 1 (pkC (I n) (K n)).toList own (by omega) (by decide) (by rw [Array.length_toList, pkC_size])
  (fun j u hu => by
   rw [Array.getElem?_toList] at hu
   have hadd : (⟨g2, 0, none⟩ : Addr).add j = ⟨g2, j, none⟩ := by unfold Addr.add; split <;> simp_all
   rw [hadd, cell_of_row W g2 j _ _ _ hg2]
   exact hu)
  (fun u hu => by
   have h1 := pkC_ones (I n) (K n)
   rw [Array.all_eq_true'] at h1
   exact h1 u (by simpa using hu)) hG hwb hbW
 exact ⟨g, cap, w', hr, ho, hb, hk⟩
def rpkNext0 (a : Value) : Sem Next := do pure (.value (← Instr.build 116 #[(0, a)]))
@[go_sem ↓ high] theorem op_rpk0 (ρ : Operand → Value) (dd : Option Tmp) (a : Operand) (t : TypeId) (pos : String) (af : Array Edge) (gg : Option (Nat × Bool)) :
  execOp ρ ⟨dd, .build 116 #[(0, a)], t, pos, af, gg⟩ = rpkNext0 (ρ a) := by simp [execOp, rpkNext0]
@[go_sem high] theorem op_rpk0' (ρ : Operand → Value) (dd : Option Tmp) (a : Operand) (t : TypeId) (pos : String) (af : Array Edge) (gg : Option (Nat × Bool)) :
  execOp ρ ⟨dd, .build 116 #[(0, a)], t, pos, af, gg⟩ = rpkNext0 (ρ a) := by simp [execOp, rpkNext0]
theorem run_rpk0 (a : Int) (w : World) : (Instr.build 116 #[(0, .int .u32 a)]).run Tryz.prog w = .ok (.agg (pkC a nought)) w := by kernel_rfl
@[go_sem] theorem run_rpkNext0 (a : Int) (w : World) : (rpkNext0 (.int .u32 a)).run Tryz.prog w = .ok (.value (.agg (pkC a nought))) w := by
 unfold rpkNext0
 rw [Sem.run_bind, run_rpk0]
 rfl
@[go_sem] theorem load_key_1 (g : Nat) (w : World) : (loadNext 44 (.pointer (some ⟨g, 1, none⟩))).run Tryz.prog w = (loadMid Tryz.prog 44 g 1 32 w (objAt w g)).andThen fun v w' => .ok (.value v) w' := by
 rw [run_loadNext, loadMid_eq Tryz.underlying44 rfl (by kernel_rfl) g 1 w]
@[go_sem] theorem load_pk_k (g : Nat) (w : World) (a : Int) (k : Nat → Int) (t' : TypeId) (fr : Nat × Nat) : loadMid Tryz.prog 44 g 1 32 w (some (.cells (pkC a k) t' fr)) = .ok (.agg (ints .u8 32 k)) w := by
 unfold loadMid
 simp only [pkC_size]
 rw [if_pos (by decide), pkC_ext]
@[go_sem] theorem none_bun (w : World) : (noneNext 25).run Tryz.prog w = .ok (.value (.agg #[.int .u32 0, .slice none 0 0])) w := by kernel_rfl
@[go_sem] theorem none_rbun (w : World) : (noneNext 37).run Tryz.prog w = .ok (.value (.agg #[.int .u32 0, .slice none 0 0])) w := by kernel_rfl
attribute [irreducible] pkC pkNext pkB1 rpkNext rpkB1 rpkNext0
end Go.Proofs.YtnjghcnhcbobhaaGreatDoor
namespace Go.Proofs.YtnjghcnhcbobhaaGreatDoor
open Go.RowKit Go.Extern
set_option linter.unusedVariables false
set_option linter.unusedSimpArgs false
theorem Oth.trans {g : Nat} {a b c : World} (h : Oth g a b) (k : Oth g b c) : Oth g a c := by
 obtain ⟨c1, h1⟩ := h
 obtain ⟨c2, h2⟩ := k
 have h3 := setRow_below h1 g c2
 rw [setRow_setRow] at h3
 have hs := h1.size
 rw [size_setRow'] at hs
 exact ⟨c2, h3.trans (h2.mono hs)⟩
def hd2 (E V : Int) : Int := if V / 256 = 1 then E else if E = 0 then 3 else E
def hd3 (E V kind : Int) : Int := if V % 256 = kind then E else if E = 0 then 14 else E
theorem beK2_bd {T : ByteArray} (h : T.size ≤ 2) : 0 ≤ beK T T.size ∧ beK T T.size ≤ 65535 := by
 have h1 := beK_b T T.size
 rcases (by omega : T.size = 0 ∨ T.size = 1 ∨ T.size = 2) with h | h | h <;> rw [h] at h1 ⊢ <;> simp at h1 <;> omega
theorem head_st {g : Nat} {S : ByteArray} {E : Int} {w : World} (kind : Int) (hR : RdAt w g S E) :
  Calls Tryz.prog 48 #[.pointer (some ⟨g, 0, none⟩), .int .u64 kind] w fun e w' => e = .returned (.tuple #[]) ∧ RdAt w' g (tkS S E 2) (hd3 (hd2 (tkE S E 2) (beK (tkT S E 2) (tkT S E 2).size)) (beK (tkT S E 2) (tkT S E 2).size) kind) ∧ Oth g w w' := by
 have e2 : min (max (2 : Int) 0) 8 = 2 := by decide
 have cN := num_st 2 hR
 rw [e2] at cN
 have hV := beK2_bd (T := tkT S E 2) (by have := tkT_size S E 2; omega)
 generalize beK (tkT S E 2) (tkT S E 2).size = V at *
 generalize tkS S E 2 = S1 at *
 generalize tkE S E 2 = E1 at *
 go_enter Tryz.func48, Tryz.ntmps48
 go_wp2_with fail
 refine cN.mono ?_
 rintro e w1 ⟨rfl, HR, HO⟩
 replace HR := hid1 HR
 clear cN hR
 have hsh : V / 2 ^ 8 = V / 256 := by rw [show (2 : Int) ^ 8 = 256 from rfl]
 have hand : bits .and .u64 V 255 = V % 256 := bits_mask .u64 64 (by decide) wraps_u64 8 (by decide) V hV.1 (by omega)
 by_cases h1 : V / 256 = 1
 ·have q2 : hd2 E1 V = E1 := by unfold hd2; rw [if_pos h1]
  by_cases h2 : V % 256 = kind
  ·have q3 : hd3 E1 V kind = E1 := by unfold hd3; rw [if_pos h2]
   go_wp2
   go_end0
   exact ⟨rfl, by rw [q2, q3]; exact HR.out, HO⟩
  ·have q3 : hd3 E1 V kind = if E1 = 0 then 14 else E1 := by unfold hd3; rw [if_neg h2]
   go_wp2_with fail
   refine (fail_st _ HR.out (ErV.num _ 14 (by decide))).mono ?_
   rintro e w2 ⟨rfl, HR2, HO2⟩
   go_wp2
   go_end0
   exact ⟨rfl, by rw [q2, q3]; exact HR2, HO.trans HO2⟩
 ·have q2 : hd2 E1 V = if E1 = 0 then 3 else E1 := by unfold hd2; rw [if_neg h1]
  go_wp2_with fail
  refine (fail_st _ HR.out (ErV.num _ 3 (by decide))).mono ?_
  rintro e w2 ⟨rfl, HR2, HO2⟩
  replace HR2 := hid1 HR2
  replace HO := HO.trans HO2
  clear HO2 HR
  rw [← q2] at HR2
  clear q2
  obtain ⟨E2, hE2⟩ : ∃ x, x = hd2 E1 V := ⟨_, rfl⟩
  rw [← hE2] at HR2
  by_cases h2 : V % 256 = kind
  ·have q3 : hd3 E2 V kind = E2 := by unfold hd3; rw [if_pos h2]
   go_wp2
   go_end0
   exact ⟨rfl, by rw [← hE2, q3]; exact HR2.out, HO⟩
  ·have q3 : hd3 E2 V kind = if E2 = 0 then 14 else E2 := by unfold hd3; rw [if_neg h2]
   go_wp2_with fail
   refine (fail_st _ HR2.out (ErV.num _ 14 (by decide))).mono ?_
   rintro e w3 ⟨rfl, HR3, HO3⟩
   go_wp2
   go_end0
   exact ⟨rfl, by rw [← hE2, q3]; exact HR3, HO.trans HO3⟩
def firstV (u v : Value) : Value := match u with
 | .nilIface => v
 | _ => u
theorem ErV.shape {w : World} {u : Value} {E : Int} (h : ErV w u E) : u = .nilIface ∨ ∃ t x, u = .iface t x := by
 rcases h with ⟨_, h⟩ | ⟨_, t, x, _, h, _⟩
 ·exact .inl h
 ·exact .inr ⟨t, x, h⟩
theorem ErV.first {w : World} {u v : Value} {E F : Int} (h : ErV w u E) (k : ErV w v F) : ErV w (firstV u v) (if E = 0 then F else E) := by
 rcases h with ⟨rfl, rfl⟩ | ⟨h0, t, x, l, rfl, hc⟩
 ·rw [if_pos rfl]
  exact k
 ·rw [if_neg h0]
  exact .inr ⟨h0, t, x, l, rfl, hc⟩
theorem ErV.wrap {w : World} {u : Value} {E : Int} (h : ErV w u E) (h0 : E ≠ 0) : ∃ t x, u = .iface t x ∧ ∀ s, ErV (w.alloc (.cells #[.string s, u] 167)) (.iface 165 (.pointer (some ⟨w.heap.size, 0, none⟩))) E := by
 rcases h with ⟨h1, _⟩ | ⟨_, t, x, l, rfl, hc⟩
 ·exact absurd h1 h0
 ·exact ⟨t, x, rfl, fun s => .inr ⟨h0, _, _, s :: l, rfl, _, _, rfl, objAt_alloc_at _ _ _ rfl, hc.later (Grew.alloc (Grew.refl _) _)⟩⟩
theorem first_pair (g : Nat) (u v : Value) (w : World) (h : objAt w g = some (.cells #[u, v] 29)) (hu : u = .nilIface ∨ ∃ t x, u = .iface t x) (hv : v = .nilIface ∨ ∃ t x, v = .iface t x) : Calls Tryz.prog 51 #[.slice (some ⟨g, 0, none⟩) 2 2] w fun e w' => e = .returned (firstV u v) ∧ w' = w := by
 rcases hu with rfl | ⟨t, x, rfl⟩
 ·rw [show firstV .nilIface v = v from rfl]
  rcases hv with rfl | ⟨t, x, rfl⟩
  ·(go_enter Tryz.func51, Tryz.ntmps51; go_wp2_with fail)
   refine wp_loop_rounds 3 ?_
   rw [rounds_succ]
   go_wp2_with fail
   rw [rounds_succ]
   go_wp2_with fail
   rw [rounds_succ]
   go_wp2
   go_ret
   exact ⟨rfl, rfl⟩
  ·(go_enter Tryz.func51, Tryz.ntmps51; go_wp2_with fail)
   refine wp_loop_rounds 2 ?_
   rw [rounds_succ]
   go_wp2_with fail
   rw [rounds_succ]
   go_wp2
   go_ret
   exact ⟨rfl, rfl⟩
 ·rw [show firstV (.iface t x) v = .iface t x from rfl]
  (go_enter Tryz.func51, Tryz.ntmps51; go_wp2_with fail)
  refine wp_loop_rounds 1 ?_
  rw [rounds_succ]
  go_wp2
  go_ret
  exact ⟨rfl, rfl⟩
end Go.Proofs.YtnjghcnhcbobhaaGreatDoor
namespace Go.Proofs.YtnjghcnhcbobhaaGreatDoor
open Go.RowKit Go.Extern
set_option linter.unusedVariables false
set_option linter.unusedSimpArgs false
attribute [local go_sem high] byteAt_in
theorem beK_bd4 {T : ByteArray} : ∀ k, k ≤ 4 → 0 ≤ beK T k ∧ beK T k < 4294967296 := fun k hk => by
 have h1 := beK_b T k
 rcases (by omega : k = 0 ∨ k = 1 ∨ k = 2 ∨ k = 3 ∨ k = 4) with h | h | h | h | h <;> subst h <;> simp at h1 <;> omega
theorem eqk_32 (k : Nat → Int) (w : World) : (Op.equalIn 9999 43 (.agg (ints .u8 32 k)) (.agg (ints .u8 32 k))).run Tryz.prog w = .ok true w := by
 obtain ⟨i, hi, hs⟩ : ∃ i, Tryz.prog.info? 5 = some i ∧ i.size = 1 := ⟨(Tryz.prog.info? 5).get (by kernel_rfl), by kernel_rfl, by kernel_rfl⟩
 have hc : Tryz.prog.cellsOf 5 = 1 := by simp [Program.cellsOf, hi, hs]
 have hr := same_refl 32 k
 unfold same at hr
 rw [show (9999 : Nat) = 9997 + 1 + 1 from rfl, run_equalIn_array w (9997 + 1) _ _ Tryz.underlying43 hi, run_items w 9997 5 .u8 32 k k Tryz.underlying5 hc (List.range 32) (by simp)]
 first | rw [hr] | simp
theorem ext_all (k : Nat → Int) : (ints .u8 32 k).extract 0 32 = ints .u8 32 k := by
 apply Array.ext_getElem?
 intro j
 by_cases h : j < 32
 ·rw [ints_get _ _ _ _ h, Array.getElem?_extract, if_pos (by rw [ints_size]; omega), Nat.zero_add, ints_get _ _ _ _ h]
 ·rw [Array.getElem?_eq_none (by simp [ints_size]; omega), Array.getElem?_eq_none (by rw [ints_size]; omega)]
theorem neq_rpk (a : Int) (k : Nat → Int) (w : World) : (binOp .neq 116 (.agg (pkC a k)) (.agg (pkC a k))).run Tryz.prog w = .ok (.bool false) w := by
 have h : ∀ c : Int, (c == c) = true := fun c => by simp
 have h2 := ext_all k
 have h3 := eqk_32 k w
 unfold pkC
 simp [go_sem, h, h2, h3]
theorem same17_any (nm : Int) (oa ob : Option Addr) (n c d : Nat) (I : Nat → Int) (K : Nat → Nat → Int) (w : World) (hn : n ≤ 1000) (hA : PkAt w oa n I K) (hB : PkAt w ob n I K) :
  Calls Tryz.prog 11 #[.agg #[.int .u32 nm, .slice oa n c], .agg #[.int .u32 nm, .slice ob n d]] w fun e w' => e = .returned (.bool true) ∧ Below w.heap.size w w' := by
 have HA : Hid (PkAt w oa n I K) := hA
 have HB : Hid (PkAt w ob n I K) := hB
 clear hA hB
 go_enter Tryz.func11, Tryz.ntmps11
 go_wp2_with fail
 have fa : objAt ((w.alloc (.cells #[.int .u32 nm, .slice oa n c] 37)).alloc (.cells #[.int .u32 nm, .slice ob n d] 37)) w.heap.size = some (.cells #[.int .u32 nm, .slice oa n c] 37) := keep_alloc _ (objAt_alloc_at _ _ _ rfl)
 have fb : objAt ((w.alloc (.cells #[.int .u32 nm, .slice oa n c] 37)).alloc (.cells #[.int .u32 nm, .slice ob n d] 37)) (w.heap.size + 1) = some (.cells #[.int .u32 nm, .slice ob n d] 37) := objAt_alloc_at _ _ _ (by simp)
 have hG0 : Below w.heap.size w ((w.alloc (.cells #[.int .u32 nm, .slice oa n c] 37)).alloc (.cells #[.int .u32 nm, .slice ob n d] 37)) := Grew.alloc (Grew.alloc (Grew.refl _) _) _
 have HA1 : Hid (PkAt ((w.alloc (.cells #[.int .u32 nm, .slice oa n c] 37)).alloc (.cells #[.int .u32 nm, .slice ob n d] 37)) oa n I K) := HA.out.later hG0
 have HB1 : Hid (PkAt ((w.alloc (.cells #[.int .u32 nm, .slice oa n c] 37)).alloc (.cells #[.int .u32 nm, .slice ob n d] 37)) ob n I K) := HB.out.later hG0
 generalize (w.alloc (.cells #[.int .u32 nm, .slice oa n c] 37)).alloc (.cells #[.int .u32 nm, .slice ob n d] 37) = w1 at *
 generalize w.heap.size + 1 = gb at *
 have la0 := lt_of_objAt fa
 have lb0 := lt_of_objAt fb
 go_loopw [23] (fun i wr => ∃ k : Nat, k ≤ n ∧ i = .int .i64 k ∧ (∃ m, wr = more w1 m)) (fun i _ => n - (intOf i).toNat)
 case atStart => exact ⟨0, by omega, rfl, ⟨⟨w1.drawn, #[]⟩, by simp [more]⟩⟩
 case round =>
  obtain ⟨i, hi, rfl, ⟨m, rfl⟩⟩ := hrel
  have fa1 := keep_more m fa
  have fb1 := keep_more m fb
  have la := lt_of_objAt fa1
  have lb := lt_of_objAt fb1
  by_cases hlt : i < n
  ·have hi1 : (i : Int) < (n : Int) := by omega
   have hi0 : (0 : Int) ≤ (i : Int) := by omega
   obtain ⟨ad, rfl, -⟩ := HA1.out.blk (by omega)
   obtain ⟨bd, rfl, -⟩ := HB1.out.blk (by omega)
   have l1 := fun q : More => (HA1.out.later (below_more w1 q)).load_rpk hlt
   have l2 := fun q : More => (HB1.out.later (below_more w1 q)).load_rpk hlt
   have hnq := neq_rpk (I i) (K i)
   generalize I i = x at *
   generalize K i = y at *
   go_wp2_with fail
   ((first | (with_reducible refine wp_region_on (by kernel_rfl) (by kernel_rfl) ?_) | refine wp_region_more (by kernel_rfl) (by kernel_rfl) ?_); (repeat (first | go_big_quiet_skip | (go_big_quiet_want; go_big_quiet_op; first | go_big_quiet_on | (apply Exists.intro; refine ⟨fun _ => ?_, ?_⟩; (focus (fail)); go_big_quiet_on)))); refine wpQuiet_nil ?_; rintro _ ⟨mq, rfl⟩)
   clear l1 l2 fa1 fb1 la lb
   go_wp2
   go_roundw
   case rel => first | exact ⟨i + 1, by omega, by go_num, ⟨mq, rfl⟩⟩ | ((repeat' apply Exists.intro) <;> first | exact ⟨⟨i + 1, by omega, by go_num, ⟨mq, rfl⟩⟩, rfl⟩ | exact undef)
   case measure => (simp [intOf]; omega)
  ·obtain rfl : i = n := by omega
   have hi1 : ¬ ((i : Int) < (i : Int)) := by omega
   go_wp2
   go_ret
   exact ⟨rfl, Grew.more hG0 _⟩
theorem of17_any (nm : Int) (oa : Option Addr) (n c : Nat) (I : Nat → Int) (K : Nat → Nat → Int) (w : World) (hP : PkAt w oa n I K) (hn : n ≤ 1000) :
  Calls Tryz.prog 12 #[.agg #[.int .u32 nm, .slice oa n c]] w fun e w' => ∃ v, e = .returned (v) ∧ BunAt w' v nm n I K ∧ Below w.heap.size w w' := by
 have HP : Hid (PkAt w oa n I K) := hP
 clear hP
 go_enter Tryz.func12, Tryz.ntmps12
 go_wp2_with fail
 have fb : objAt (((w.alloc (.cells #[.int .u32 nm, .slice oa n c] 25)).alloc (.cells #[.int .u32 0, .slice none 0 0] 37)).alloc (.cells #[.int .u32 nm, .slice none 0 0] 37)) w.heap.size = some (.cells #[.int .u32 nm, .slice oa n c] 25) := keep_alloc _ (keep_alloc _ (objAt_alloc_at _ _ _ rfl))
 have fr : objAt (((w.alloc (.cells #[.int .u32 nm, .slice oa n c] 25)).alloc (.cells #[.int .u32 0, .slice none 0 0] 37)).alloc (.cells #[.int .u32 nm, .slice none 0 0] 37)) (w.heap.size + 1) = some (.cells #[.int .u32 0, .slice none 0 0] 37) := keep_alloc _ (objAt_alloc_at _ _ _ (by simp))
 have fo : objAt (((w.alloc (.cells #[.int .u32 nm, .slice oa n c] 25)).alloc (.cells #[.int .u32 0, .slice none 0 0] 37)).alloc (.cells #[.int .u32 nm, .slice none 0 0] 37)) (w.heap.size + 1 + 1) = some (.cells #[.int .u32 nm, .slice none 0 0] 37) := objAt_alloc_at _ _ _ (by simp)
 have hG : Below w.heap.size w (((w.alloc (.cells #[.int .u32 nm, .slice oa n c] 25)).alloc (.cells #[.int .u32 0, .slice none 0 0] 37)).alloc (.cells #[.int .u32 nm, .slice none 0 0] 37)) := Grew.alloc (Grew.alloc (Grew.alloc (Grew.refl _) _) _) _
 generalize ((w.alloc (.cells #[.int .u32 nm, .slice oa n c] 25)).alloc (.cells #[.int .u32 0, .slice none 0 0] 37)).alloc (.cells #[.int .u32 nm, .slice none 0 0] 37) = w1 at *
 go_loopw [12] (fun i wr => ∃ (k : Nat) (v0 : Value), k ≤ n ∧ i = .int .i64 k ∧ Below w.heap.size w wr ∧ objAt wr (w.heap.size + 1) = some (.cells #[.int .u32 0, .slice none 0 0] 37) ∧ objAt wr (w.heap.size + 1 + 1) = some (.cells #[.int .u32 nm, v0] 37) ∧ Hid (wr.ownsRow (w.heap.size + 3) 116 33 v0 k (pkL I K k))) (fun i _ => n - (intOf i).toNat)
 case atStart => exact ⟨0, _, by omega, rfl, hG, fr, fo, World.ownsRow_nil _ _ _ _⟩
 case round =>
  clear hG fr fo fb
  obtain ⟨k, v0, hk, rfl, hG, fr, fo, OWN⟩ := hrel
  have lr := lt_of_objAt fr
  have lo := lt_of_objAt fo
  by_cases hlt : k < n
  ·have hi1 : (k : Int) < (n : Int) := by omega
   have hi0 : (0 : Int) ≤ (k : Int) := by omega
   obtain ⟨ad, rfl, -⟩ := HP.out.blk (by omega)
   have hl := (HP.out.later hG).load_pk hlt
   obtain ⟨g3, c3, w7, hr3, own7, hb7, hk7⟩ := append_rpk w ((wr.alloc (.cells (pkC (I k) (K k)) 103)).alloc (.cells (pkC (I k) (K k)) 116)) (w.heap.size + 3) _ k I K (wr.heap.size + 1) _ _ (World.ownsRow.alloc (World.ownsRow.alloc OWN.out _) _) (by omega) (objAt_alloc_at _ _ _ (by simp)) (Grew.alloc (Grew.alloc hG _) _) (by omega) (by simp; omega)
   have fr7 := hk7 _ _ (by omega) (keep_alloc (.cells (pkC (I k) (K k)) 116) (keep_alloc (.cells (pkC (I k) (K k)) 103) fr))
   have fo7 := hk7 _ _ (by omega) (keep_alloc (.cells (pkC (I k) (K k)) 116) (keep_alloc (.cells (pkC (I k) (K k)) 103) fo))
   have lo7 := lt_of_objAt fo7
   have OWN7 : Hid ((w7.setRow (w.heap.size + 1 + 1) #[.int .u32 nm, .slice (some ⟨g3, 0, none⟩) (k + 1) c3]).ownsRow (w.heap.size + 3) 116 33 (.slice (some ⟨g3, 0, none⟩) (k + 1) c3) (k + 1) (pkL I K (k + 1))) := own_setRow own7 (by omega)
   have hG7 := Grew.setRow hb7 (w.heap.size + 1 + 1) #[.int .u32 nm, .slice (some ⟨g3, 0, none⟩) (k + 1) c3] (by omega)
   have fr8 := keep_setRow (w.heap.size + 1 + 1) #[.int .u32 nm, .slice (some ⟨g3, 0, none⟩) (k + 1) c3] fr7 (by omega)
   have fo8 := keep_row #[.int .u32 nm, .slice (some ⟨g3, 0, none⟩) (k + 1) c3] fo7
   clear own7 hk7 OWN hb7
   generalize I k = x at *
   generalize K k = y at *
   go_wp2
   go_roundw
   case rel => first | exact ⟨k + 1, _, by omega, by go_num, hG7, fr8, fo8, OWN7⟩ | ((repeat' apply Exists.intro) <;> first | exact ⟨⟨k + 1, _, by omega, by go_num, hG7, fr8, fo8, OWN7⟩, rfl⟩ | exact undef)
   case measure => (simp [intOf]; omega)
  ·obtain rfl : k = n := by omega
   have hi1 : ¬ ((k : Int) < (k : Int)) := by omega
   obtain ⟨oa2, c2, rfl, -, hP2, hB2⟩ := pk_of_own OWN.out
   have HP2 : Hid (PkAt (wr.setRow (w.heap.size + 1) #[.int .u32 nm, .slice oa2 k c2]) oa2 k I K) := hP2.aside _ (fun ad e => by have := (hB2 ad e).1; omega) _
   clear OWN hP2
   go_wp2
   refine ret_row rfl _ 37 _ (0, 0) _ rfl (keep_row _ fr) Tryz.underlying37 rfl (by kernel_rfl) rfl (by first | exact ⟨_, rfl, ⟨_, _, rfl, HP2.out⟩, Grew.setRow hG _ _ (by omega)⟩ | exact ⟨⟨_, rfl⟩, ⟨_, _, rfl, HP2.out⟩, Grew.setRow hG _ _ (by omega)⟩)
end Go.Proofs.YtnjghcnhcbobhaaGreatDoor
namespace Go.Proofs.YtnjghcnhcbobhaaGreatDoor
open Go.RowKit Go.Maps
set_option linter.unusedVariables false
set_option linter.unusedSimpArgs false
attribute [local go_sem] Oper.semAt_some
def klit (v : Int) : Lit := .int .u32 v
theorem klit_key (v : Int) : WideAt.IsKeyLit (klit v) := by unfold klit; simp [WideAt.IsKeyLit]
theorem klit_inj {a b : Int} (h : klit a = klit b) : a = b := by unfold klit at h; cases h; rfl
def plD (f : Nat → Int) (g : Nat → Int) : Nat → DataW Unit
 | 0 => .map []
 | k + 1 => (plD f g k).put (klit (f k)) (.lit (.int .i64 (g k)))
theorem plD_is (f g : Nat → Int) : ∀ k, Tidy (plD f g k) ∧ Maps.size (plD f g k) ≤ k ∧ (∀ v, Maps.has (plD f g k) (klit v) = true ↔ ∃ j, j < k ∧ f j = v) ∧
  ((∀ a, a < k → ∀ b, b < a → f a ≠ f b) → Maps.size (plD f g k) = k) ∧ ((∃ a, a < k ∧ ∃ b, b < a ∧ f a = f b) → Maps.size (plD f g k) < k)
 | 0 => ⟨tidy_empty, Nat.le_refl _, fun v => Iff.intro (fun h => by cases h) (fun ⟨j, hj, _⟩ => by omega), fun _ => rfl, fun ⟨a, ha, _⟩ => by omega⟩
 | k + 1 => by
  obtain ⟨h1, h2, h3, h4, h5⟩ := plD_is f g k
  have hs := size_put (k := klit (f k)) h1 (.lit (.int .i64 (g k)))
  have he : plD f g (k + 1) = (plD f g k).put (klit (f k)) (.lit (.int .i64 (g k))) := rfl
  rw [← he] at hs
  refine ⟨h1.put (klit_key _) _, ?_, fun v => ?_, fun h => ?_, fun ⟨a, ha, b, hb, e⟩ => ?_⟩
  ·rw [hs]; split <;> omega
  ·by_cases e : v = f k
   ·subst e
    rw [he, has_put_same h1.isMap (klit_key _)]
    exact ⟨fun _ => ⟨k, by omega, rfl⟩, fun _ => rfl⟩
   ·rw [he, has_put_other (fun h => e (klit_inj h)), h3]
    exact ⟨fun ⟨j, hj, h⟩ => ⟨j, by omega, h⟩, fun ⟨j, hj, h⟩ => ⟨j, by
     rcases (by omega : j < k ∨ j = k) with hj' | rfl
     ·exact hj'
     ·exact absurd h.symm e, h⟩⟩
  ·have hn : ¬ (Maps.has (plD f g k) (klit (f k)) = true) := fun hh => by
    obtain ⟨j, hj, e⟩ := (h3 _).1 hh
    exact h k (by omega) j hj e.symm
   rw [hs, if_neg hn, h4 fun a ha b hb => h a (by omega) b hb]
  ·rw [hs]
   rcases (by omega : a < k ∨ a = k) with ha' | rfl
   ·have := h5 ⟨a, ha', b, hb, e⟩
    split <;> omega
   ·rw [if_pos ((h3 _).2 ⟨b, hb, e.symm⟩)]
    omega
def plL {n : Nat} (I : Nat → Int) (l : List (BkT n)) : DataW Unit := l.foldl (fun m x => m.put (klit (I x.1)) (.lit (.int .i64 (x.1 : Int)))) (.map [])
theorem plL_itA {n : Nat} (I : Nat → Int) : ∀ k, k ≤ n → plL I (itA n k) = plD (fun k => I (n - 1 - k)) (fun k => ((n - 1 - k : Nat) : Int)) k
 | 0, _ => rfl
 | k + 1, h => by
  rw [itA_succ (by omega)]
  unfold plL
  rw [List.foldl_append]
  have := plL_itA (n := n) I k (by omega)
  unfold plL at this
  rw [this]
  rfl
def plcD (I : Nat → Int) (n : Nat) : DataW Unit := plD (fun k => I (n - 1 - k)) (fun k => ((n - 1 - k : Nat) : Int)) n
theorem plD_back (I : Nat → Int) (g : Nat → Int) (n : Nat) : (Twice I n → Maps.size (plD (fun k => I (n - 1 - k)) g n) < n) ∧ (¬ Twice I n → Maps.size (plD (fun k => I (n - 1 - k)) g n) = n) := by
 obtain ⟨_, _, _, h4, h5⟩ := plD_is (fun k => I (n - 1 - k)) g n
 refine ⟨fun ⟨i, hi, k, hk, e⟩ => h5 ⟨n - 1 - k, by omega, n - 1 - i, by omega, ?_⟩, fun h => h4 fun a ha b hb e => h ⟨n - 1 - b, by omega, n - 1 - a, by omega, e.symm⟩⟩
 show I (n - 1 - (n - 1 - k)) = I (n - 1 - (n - 1 - i))
 rw [show n - 1 - (n - 1 - k) = k by omega, show n - 1 - (n - 1 - i) = i by omega]
 exact e.symm
theorem back17_in (l Bs n₀ c N : Nat) (oa : Option Addr) (I : Nat → Int) (K : Nat → Nat → Int) (n : Nat) (hn : 1 ≤ n) (hL : N ≤ 100000) (hg : 0 < N → ∀ ad, oa = some ad → ad.block < n₀) (J Jx : List (BkT N) → World → Prop)
  (hY : ∀ (pre : List (BkT N)) (x : BkT N) (W : World), J pre W → pre.length < N → YieldAt Fence.wide (n - 1) Tryz.prog l #[.int .i64 (x.1 : Int), .agg (pkC (I x.1) (K x.1))] W fun e W' =>
   (e = .returned (.bool true) ∧ J (pre ++ [x]) W' ∧ KpB n₀ Bs W W') ∨ (e = .returned (.bool false) ∧ Jx (pre ++ [x]) W'))
  (W : World) (hBs : objAt W Bs = some (.cells #[.slice oa N c] 23 (0, 0))) (hN : PkAt W oa N I K) (h0 : J [] W) :
  CallsIn Fence.wide n Tryz.prog 144 #[.func (.yield l) #[] #[], .pointer (some ⟨Bs, 0, none⟩)] W fun e W' => (∃ v, e = .returned v) ∧
   ((∃ ys, ys = itA N N ∧ J ys W') ∨ (∃ pre, True ∧ Jx pre W')) := by
 have HN : Hid (PkAt W oa N I K) := hN
 clear hN
 refine callsIn_of_wp Tryz.func144 rfl trivial ?_
 simp only [Tryz.ntmps144, List.size_toArray, List.length_cons, List.length_nil, Nat.reduceAdd, Nat.reduceSub, Array.replicate_succ, Array.replicate_zero, List.push_toArray, List.append_toArray, List.nil_append, List.cons_append]
 have lBs := lt_of_objAt hBs
 gi_wp2
 gi_loopw [3] (fun i wr => ∃ k : Nat, k ≤ N ∧ i = .int .i64 ((N : Int) - (k : Int) - 1) ∧ J (itA N k) wr ∧ Hid (KpB n₀ Bs W wr)) (fun i _ => (intOf i + 1).toNat)
 case atStart => exact ⟨0, Nat.zero_le _, by go_num, h0, KpB.refl _ _ _⟩
 case round =>
  obtain ⟨k, hk, rfl, hJs, hkp⟩ := hrel
  by_cases hlt : k < N
  ·obtain ⟨ad, rfl, -⟩ := HN.out.blk (by omega)
   obtain ⟨fn, tmps, assign, body, hy, hR⟩ := hY _ ⟨N - 1 - k, by omega⟩ wr hJs (by rw [itA_len k hk]; exact hlt)
   dsimp only at hy
   have hB := hkp.out.2 _ _ _ hBs
   have lB := lt_of_objAt hB
   have l1 := (HN.out.kept hkp.out.1 (hg (by omega))).load_pk (show N - 1 - k < N by omega)
   have ej : ((N - 1 - k : Nat) : Int) = (N : Int) - (k : Int) - 1 := by omega
   have en : ((N : Int) - (k : Int) - 1).toNat = N - 1 - k := by omega
   rw [ej] at hy
   have hi0 : (0 : Int) ≤ (N : Int) - (k : Int) - 1 := by omega
   have hi1 : (N : Int) - (k : Int) - 1 < (N : Int) := by omega
   have hnx := itA_succ hlt
   clear hY
   generalize I (N - 1 - k) = x at *
   generalize K (N - 1 - k) = y at *
   gi_wp2
   refine hR.mono ?_
   rintro e W3 (⟨rfl, hJ3, hk3⟩ | ⟨rfl, hJx3⟩)
   ·have hkp3 : Hid (KpB n₀ Bs W W3) := hkp.out.trans hk3
    clear hy hk3 hB lB l1 hR
    gi_wp2
    go_roundw
    case rel => exact ⟨k + 1, by omega, by go_num, by rw [hnx]; exact hJ3, hkp3⟩
    case measure => (simp [intOf] <;> omega)
   ·gi_wp2
    refine bodyPost_ret (results_none rfl _ _ _) rfl ?_
    exact ⟨⟨_, rfl⟩, .inr ⟨_, trivial, hJx3⟩⟩
  ·obtain rfl : k = N := by omega
   gi_wp2
   go_end0
   exact ⟨⟨_, rfl⟩, .inl ⟨_, rfl, hJs⟩⟩
theorem backward17_any (oa : Option Addr) (n c : Nat) (w : World) : Calls Tryz.prog 122 #[.slice oa n c] w fun e w' => e = .returned (.func (.func 144) #[] #[.pointer (some ⟨w.heap.size, 0, none⟩)]) ∧ w' = w.alloc (.cells #[.slice oa n c] 23) := by
 have hmf : ∀ (fn : Fn) (first cap : Array Value) (w : World), (Instr.makeFunc fn first cap).run Tryz.prog w = .ok (.func fn first cap) w := fun _ _ _ _ => rfl
 go_enter Tryz.func122, Tryz.ntmps122
 go_wp2
 go_ret
 exact ⟨rfl, rfl⟩
theorem back17_stops (Bs n₀ c N : Nat) (oa : Option Addr) (I : Nat → Int) (K : Nat → Nat → Int) (n : Nat) (hn : 1 ≤ n) (hL : N ≤ 100000) (hg : 0 < N → ∀ ad, oa = some ad → ad.block < n₀) (w : World) (hn₀ : n₀ ≤ w.heap.size)
  (hBs : objAt w Bs = some (.cells #[.slice oa N c] 23 (0, 0))) (hN : PkAt w oa N I K) :
  SeqStopsK Fence.wide n Tryz.prog 144 #[.pointer (some ⟨Bs, 0, none⟩)] (fun x : BkT N => #[Value.int .i64 (x.1 : Int), .agg (pkC (I x.1) (K x.1))]) (KpB n₀ Bs) (fun ys => ys = itA N N) (fun _ => True) N w :=
 fun l J Jx W hW _ _ hY h0 => back17_in l Bs n₀ c N oa I K n hn hL hg J Jx hY W (keep_below hW hBs) (hN.later hW) h0
theorem places_any (nm : Int) (oa : Option Addr) (n c : Nat) (I : Nat → Int) (K : Nat → Nat → Int) (w : World) (hP : PkAt w oa n I K) (hn : n ≤ 1000) (hI : ∀ j, j < n → 0 ≤ I j ∧ I j < 4294967296) (hoa : 0 < n → ∀ ad, oa = some ad → ad.block < w.heap.size) :
  Calls Tryz.prog 86 #[.agg #[.int .u32 nm, .slice oa n c]] w fun e w' => ∃ b q, e = .returned (.map (some b)) ∧ w'.ownsMap Tryz.prog 22 (plainElem (H := Unit) Tryz.prog 3) b q (plcD I n) ∧ Below w.heap.size w w' := by
 have HP : Hid (PkAt w oa n I K) := hP
 clear hP
 have hmm := @run_makeMap Tryz.prog
 have LK : Keyed Tryz.prog 22 := int_keyed Tryz.underlying22
 refine (callsIn_wide (n := 5)).1 ?_
 refine callsIn_of_wp_marks Tryz.func86 rfl trivial ?_
 simp only [Tryz.ntmps86, List.size_toArray, List.length_cons, List.length_nil, Nat.reduceAdd, Nat.reduceSub, Array.replicate_succ, Array.replicate_zero, List.push_toArray, List.append_toArray, List.nil_append, List.cons_append]
 gi_wp2_with fail
 refine ⟨trivial, (callsIn_wide.2 (backward17_any _ _ _ _)).mono ?_⟩
 rintro e w4 ⟨rfl, rfl⟩
 gi_wp2_with fail
 have fm : objAt ((((w.alloc (.cells #[.int .u32 nm, .slice oa n c] 25)).alloc (.map #[] 0)).alloc (.cells #[.map (some (w.heap.size + 1))] 147)).alloc (.cells #[.slice oa n c] 23)) (w.heap.size + 1 + 1) = some (.cells #[.map (some (w.heap.size + 1))] 147) := keep_alloc _ (objAt_alloc_at _ _ _ (by simp))
 have fb : objAt ((((w.alloc (.cells #[.int .u32 nm, .slice oa n c] 25)).alloc (.map #[] 0)).alloc (.cells #[.map (some (w.heap.size + 1))] 147)).alloc (.cells #[.slice oa n c] 23)) (w.heap.size + 1 + 1 + 1) = some (.cells #[.slice oa n c] 23) := objAt_alloc_at _ _ _ (by simp)
 have hmp : ((((w.alloc (.cells #[.int .u32 nm, .slice oa n c] 25)).alloc (.map #[] 0)).alloc (.cells #[.map (some (w.heap.size + 1))] 147)).alloc (.cells #[.slice oa n c] 23)).ownsMap Tryz.prog 22 (plainElem (H := Unit) Tryz.prog 3) (w.heap.size + 1) 0 (.map []) := by
  have := World.ownsMap_made (w.alloc (.cells #[.int .u32 nm, .slice oa n c] 25)) Tryz.prog 22 (plainElem (H := Unit) Tryz.prog 3)
  rw [World.size_alloc] at this
  exact (this.alloc _).alloc _
 have hsz : w.heap.size + 4 ≤ ((((w.alloc (.cells #[.int .u32 nm, .slice oa n c] 25)).alloc (.map #[] 0)).alloc (.cells #[.map (some (w.heap.size + 1))] 147)).alloc (.cells #[.slice oa n c] 23)).heap.size := by simp
 have hG : Below w.heap.size w ((((w.alloc (.cells #[.int .u32 nm, .slice oa n c] 25)).alloc (.map #[] 0)).alloc (.cells #[.map (some (w.heap.size + 1))] 147)).alloc (.cells #[.slice oa n c] 23)) := Grew.alloc (Grew.alloc (Grew.alloc (Grew.alloc (Grew.refl _) _) _) _) _
 have HP5 : Hid (PkAt ((((w.alloc (.cells #[.int .u32 nm, .slice oa n c] 25)).alloc (.map #[] 0)).alloc (.cells #[.map (some (w.heap.size + 1))] 147)).alloc (.cells #[.slice oa n c] 23)) oa n I K) := HP.out.later hG
 clear hmm HP
 generalize (((w.alloc (.cells #[.int .u32 nm, .slice oa n c] 25)).alloc (.map #[] 0)).alloc (.cells #[.map (some (w.heap.size + 1))] 147)).alloc (.cells #[.slice oa n c] 23) = w5 at *
 refine wpIn_rangeFunc_ownH rfl (by decide) (gf := 144) (lb := #[.pointer (some ⟨w.heap.size + 1 + 1 + 1, 0, none⟩)]) rfl trivial (enters_of Tryz.func144 (by kernel_rfl) rfl)
  (back17_stops (w.heap.size + 1 + 1 + 1) w.heap.size c n oa I K 4 (by decide) (by omega) hoa w5 (by omega) fb HP5.out) kpB_t (kpB_b (by omega)) (Below.refl _ _) (fun _ => rfl)
  (fun pre W => Below w.heap.size w W ∧ objAt W (w.heap.size + 1 + 1) = some (.cells #[.map (some (w.heap.size + 1))] 147) ∧ w.heap.size + 4 ≤ W.heap.size ∧ W.ownsMap Tryz.prog 22 (plainElem (H := Unit) Tryz.prog 3) (w.heap.size + 1) pre.length (plL I pre))
  (fun _ _ _ => False)
  (fun pre W W' row hs hg hr => ⟨(ownFrom_below (β := Unit) (Nat.le_refl _) (by omega)) () W W' row hs.1 hg hr, (cells_kept hs.2.1 hg hr).trans hs.2.1, Nat.le_trans hs.2.2.1 hg.size, hs.2.2.2.kept hg (fun e => by have := (hr _ e.symm).1; omega)⟩)
  (fun _ _ _ _ _ hs _ _ => hs)
  ⟨hG, fm, hsz, hmp⟩
  (fun x a' W => ∃ Bv, w.heap.size + 4 ≤ Bv ∧ objAt W Bv = some (.cells (pkC (I x.1) (K x.1)) 103) ∧ a' = { tmps := #[.agg #[.int .u32 nm, .slice oa n c], .pointer (some ⟨w.heap.size, 0, none⟩), .map none, .pointer (some ⟨w.heap.size + 1 + 1, 0, none⟩), .int .i64 (x.1 : Int), .pointer (some ⟨Bv, 0, none⟩), .map (some (w.heap.size + 1)), .pointer (some ⟨w.heap.size, 1, none⟩), .slice oa n c, .func (.func 144) #[] #[.pointer (some ⟨w.heap.size + 1 + 1 + 1, 0, none⟩)], .int .i64 (x.1 : Int), .agg (pkC (I x.1) (K x.1)), undef, undef, undef, undef, undef], defers := [] })
  (fun x a' _ W W' row hs hg hr => by
   obtain ⟨Bv, h1, h2, h3⟩ := hs
   exact ⟨Bv, h1, (cells_kept h2 hg hr).trans h2, h3⟩)
  ?assign ?body ?done ?stop
 case assign =>
  rintro l pre x W K' ⟨hb, hp, hs, hm⟩ hK
  gi_wp2
  exact hK _ _ ((KeepsOthers.alloc _ _).from _) ⟨(Below.refl w.heap.size W).alloc hb.size _, fun _ _ _ e => keep_alloc _ e⟩ ⟨Grew.alloc hb _, keep_alloc _ hp, by simp; omega, hm.alloc _⟩ ⟨W.heap.size, hs, objAt_alloc_at _ _ _ rfl, rfl⟩
 case body =>
  rintro l pre ⟨i, hi⟩ a' W hl - ⟨hb, hp, hs, hm⟩ ⟨Bv, hBv, fv, rfl⟩ hpl
  have lfv := lt_of_objAt fv
  have lp := lt_of_objAt hp
  obtain ⟨hi0, hi1⟩ := hI i hi
  have wfk : (Lit.int .u32 (I i)).wf = true := by simp [Lit.wf, IntKind.min, IntKind.max, IntKind.signed, IntKind.bits]; omega
  have wfi : (Lit.int .i64 (i : Int)).wf = true := by simp [Lit.wf, IntKind.min, IntKind.max, IntKind.signed, IntKind.bits]; omega
  have hkey : keyOf Tryz.prog 22 (.int .u32 (I i)) = some (klit (I i)) := keyOf_int_mk Tryz.underlying22 wfk
  have hfold : plL I (pre ++ [(⟨i, hi⟩ : BkT n)]) = (plL I pre).put (klit (I i)) (.lit (.int .i64 (i : Int))) := by unfold plL; rw [List.foldl_append]; rfl
  simp only at fv ⊢
  generalize hx : I i = x at *
  generalize K i = y at *
  gi_wp2_with (gi_at_mapUpdate; refine wpListIn_mapUpdate_own _ rfl _ _ _ 147 rfl 22 3 LK Tryz.underlying147 (plainElem (H := Unit) Tryz.prog 3) (w.heap.size + 1) pre.length _ rfl hm (by unfold maxLen; omega) _ _ _ rfl rfl hkey _ [] (plainElem_int Tryz.underlying3 wfi) ?_)
  intro w6 hown hgrow
  gi_wp2
  have hW : ∀ k, k < W.heap.size → k ≠ w.heap.size + 1 → w6.heap[k]? = W.heap[k]? := fun k hk hne => hgrow.block k hk (fun e => hne (by cases e; rfl))
  refine ⟨⟨hgrow.size, fun k o hk ho _ => (hW k (Array.getElem?_eq_some_iff.1 ho).1 (by omega)).trans ho⟩, ⟨(Below.refl w.heap.size W).grown hgrow hb.size (fun j e => by cases e; omega), fun cs t fr e => (hW _ (lt_of_objAt e) (by omega)).trans e⟩, hb.grown hgrow hb.size (fun j e => by cases e; omega), (hW _ lp (by omega)).trans hp, Nat.le_trans hs hgrow.size, ?_⟩
  rw [List.length_append, hfold]
  exact hown
 case done =>
  rintro D xs W hD rfl ⟨hb, hp, hs, hm⟩ hKD
  have lp := lt_of_objAt hp
  have hm2 : (W.putObj D (.deferred none)).ownsMap Tryz.prog 22 (plainElem (H := Unit) Tryz.prog 3) (w.heap.size + 1) (itA n n).length (plcD I n) := by
   unfold plcD
   rw [← plL_itA I n (Nat.le_refl _)]
   obtain ⟨es, clock, h1, h2⟩ := hm
   exact ⟨es, clock, (World.putObj_heap_other (by omega)).trans h1, h2⟩
  have hb2 : Below w.heap.size w (W.putObj D (.deferred none)) := hb.trans (belowK_b (w := w) (Nat.le_refl _) _ D _ _ (by omega) hKD rfl rfl)
  gi_wp2
  refine ⟨by simp, .inl ⟨_, _, rfl, run_takeDeferred hKD, ?_⟩⟩
  exact ⟨_, results_tmp rfl _ _ _, _, _, rfl, hm2, hb2⟩
 case stop =>
  rintro D c pre W _ _ h _
  exact h.elim
end Go.Proofs.YtnjghcnhcbobhaaGreatDoor
namespace Go.Proofs.YtnjghcnhcbobhaaGreatDoor
open Go.RowKit Go.Maps
set_option linter.unusedVariables false
set_option linter.unusedSimpArgs false
theorem plc_size (I : Nat → Int) (n : Nat) : (Twice I n → Maps.size (plcD I n) < n) ∧ (¬ Twice I n → Maps.size (plcD I n) = n) := plD_back I _ n
def PlAt (D : DataW Unit) (u : Value) (w : World) : Prop := ∀ b, u = .map (some b) → ∃ q, w.ownsMap Tryz.prog 22 (plainElem (H := Unit) Tryz.prog 3) b q D
theorem owns_later {w w' : World} {b q : Nat} {D : DataW Unit} (h : w.ownsMap Tryz.prog 22 (plainElem (H := Unit) Tryz.prog 3) b q D) (hb : Below w.heap.size w w') : w'.ownsMap Tryz.prog 22 (plainElem (H := Unit) Tryz.prog 3) b q D := by
 have hlt := h.lt
 obtain ⟨es, clock, h1, h2⟩ := h
 exact ⟨es, clock, (hb.block _ hlt).trans h1, h2⟩
theorem stab_pl (D : DataW Unit) (u : Value) : Stab (PlAt D u) none := fun w w' h e b hu => by
 obtain ⟨q, hq⟩ := h b hu
 exact ⟨q, owns_later hq e⟩
theorem bcheck_any (nm : Int) (oa : Option Addr) (n c : Nat) (I : Nat → Int) (K : Nat → Nat → Int) (w : World) (hP : PkAt w oa n I K) (hn : n ≤ 1000) (hI : ∀ j, j < n → 0 ≤ I j ∧ I j < 4294967296) (hoa : 0 < n → ∀ ad, oa = some ad → ad.block < w.heap.size) :
  Calls Tryz.prog 41 #[.agg #[.int .u32 nm, .slice oa n c]] w fun e w' => ∃ u, e = .returned (u) ∧ ErV w' u (if 64 < n then 18 else dupE I n) ∧ Below w.heap.size w w' := by
 have HP : Hid (PkAt w oa n I K) := hP
 clear hP
 go_enter Tryz.func41, Tryz.ntmps41
 by_cases h64 : 64 < n
 ·have hi : (64 : Int) < (n : Int) := by omega
  rw [if_pos h64]
  go_wp2_with fail
  have hG : Below w.heap.size w (w.alloc (.cells #[.int .u32 nm, .slice oa n c] 25)) := Grew.alloc (Grew.refl _) _
  generalize w.alloc (.cells #[.int .u32 nm, .slice oa n c] 25) = w1 at *
  refine (wrap_any _ _ _ _).mono ?_
  rintro e w2 ⟨rfl, rfl⟩
  go_wp2
  go_ret
  exact ⟨_, rfl, erv_wrap _ 18 (by decide), Grew.alloc hG _⟩
 have hi : ¬ ((64 : Int) < (n : Int)) := by omega
 rw [if_neg h64]
 go_wp2_with fail
 have fb : objAt (w.alloc (.cells #[.int .u32 nm, .slice oa n c] 25)) w.heap.size = some (.cells #[.int .u32 nm, .slice oa n c] 25) := objAt_alloc_at _ _ _ rfl
 have hG : Below w.heap.size w (w.alloc (.cells #[.int .u32 nm, .slice oa n c] 25)) := Grew.alloc (Grew.refl _) _
 have HP1 : Hid (PkAt (w.alloc (.cells #[.int .u32 nm, .slice oa n c] 25)) oa n I K) := HP.out.later hG
 generalize w.alloc (.cells #[.int .u32 nm, .slice oa n c] 25) = w1 at *
 have lb := lt_of_objAt fb
 obtain ⟨s, hs⟩ : ∃ s, Maps.size (plcD I n) = s := ⟨_, rfl⟩
 obtain ⟨s1, s2⟩ := plc_size I n
 rw [hs] at s1 s2
 have cP := fun (W : World) (hb : Below w1.heap.size w1 W) => places_any nm oa n c I K W (HP1.out.later hb) hn hI (fun h ad e => Nat.lt_of_lt_of_le (hoa h ad e) (Nat.le_trans hG.size hb.size))
 refine wp_relv (fun k => k == 1) (fun k => match k with | 1 => fun u => ∃ b, u = .map (some b) | _ => fun _ => True) (fun k => match k with | 1 => fun u w => PlAt (plcD I n) u w | _ => fun _ _ => True) (fun k => match k with | 1 => .map (some 0) | _ => undef) (fun i hi => ?_) (by kernel_rfl) (by kernel_rfl) ?_
 ·simp only [Bool.or_eq_true, beq_iff_eq] at hi
  subst hi
  exact ⟨0, rfl⟩
 (first | refine exv_skip rfl ?_ | (refine exv_call rfl ?_; apply Exists.intro))
 refine exv_call rfl ⟨undef, ?_⟩
 iterate 5 (first | refine exv_skip rfl ?_ | (refine exv_call rfl ?_; apply Exists.intro))
 refine exv_nil ?_
 intro γ gv hsv hinj hbase
 obtain ⟨b1, e1⟩ := hsv 1 rfl
 (repeat (first | (refine rel_quiet rfl ?_; ((first | go_big_quiet_skip | (go_big_quiet_want; go_big_quiet_op; go_big_quiet_on)); refine wpQuiet_nil ?_)) | ((first | refine rel_skip_some rfl (fun _ => rfl) ?_); ((first | go_big_quiet_skip | (go_big_quiet_want; go_big_quiet_op; go_big_quiet_on)); refine wpQuiet_nil ?_)) | refine rel_skip_none rfl (fun _ => rfl) ?_))
 refine rel_callv #[.agg #[.int .u32 nm, .slice oa n c]] (enters_of Tryz.func86 (by kernel_rfl) rfl) rfl e1 rfl rfl rfl rfl (fits_nil (stab_pl _ _)) (by first | kernel_rfl | simp [go_sem]) ?_ ?_
 ·intro W hC hF
  obtain ⟨mm, rfl⟩ := hC
  refine (cP _ (below_more w1 mm)).mono ?_
  rintro e w9 ⟨b, q, rfl, hq, hb9⟩
  exact ⟨_, rfl, ⟨b, rfl⟩, (fun b2 e2 => by cases e2; exact ⟨q, hq⟩), hb9⟩
 ((first | go_big_quiet_skip | (go_big_quiet_want; go_big_quiet_op; go_big_quiet_on)); refine wpQuiet_nil ?_)
 apply rel_fact
 ·rfl
 ·rfl
 ·rfl
 ·intro W hC hF
  have hE0 : PlAt (plcD I n) (.map (some b1)) W := known hF (List.mem_cons_self ..) (by decide +kernel)
  obtain ⟨q1, hq1⟩ := hE0 b1 rfl
  have hlen := fun m : More => (owns_later hq1 (below_more W m)).len Tryz.underlying147 3
  rw [hs] at hlen
  go_big_quiet_want
  go_big_quiet_op
  go_big_quiet_on
  exact wpQuiet_nil rfl
 ·first | exact fun _ => ⟨rfl, rfl⟩ | exact fun h => absurd h (by decide)
 ((first | go_big_quiet_skip | (go_big_quiet_want; go_big_quiet_op; go_big_quiet_on)); refine wpQuiet_nil ?_)
 (repeat (first | (refine rel_quiet rfl ?_; ((first | go_big_quiet_skip | (go_big_quiet_want; go_big_quiet_op; go_big_quiet_on)); refine wpQuiet_nil ?_)) | ((first | refine rel_skip_some rfl (fun _ => rfl) ?_ | (apply rel_fact; (focus rfl); (focus rfl); (focus rfl); (focus (intro W hC hF; (skip); go_big_quiet_want; go_big_quiet_op; (first | go_big_quiet_on | (apply Exists.intro; refine ⟨fun _ => ?_, ?_⟩; (focus ((fail))); go_big_quiet_on)); exact wpQuiet_nil rfl)); (focus (first | exact fun _ => ⟨rfl, rfl⟩ | exact fun h => absurd h (by decide))))); ((first | go_big_quiet_skip | (go_big_quiet_want; go_big_quiet_op; go_big_quiet_on)); refine wpQuiet_nil ?_)) | refine rel_skip_none rfl (fun _ => rfl) ?_))
 (refine rel_nil ?_; rintro _ ⟨mq, rfl⟩ hF; simp only [List.forall_mem_cons] at hF; obtain ⟨-, -⟩ := hF)
 replace hG := Grew.more hG mq
 replace fb := keep_more mq fb
 clear cP lb hinj hbase hsv e1
 generalize more w1 mq = w2 at *
 by_cases hd : Twice I n
 ·have hlt : (s : Int) < (n : Int) := by have := s1 hd; omega
  go_wp2_with fail
  refine (wrap_any _ _ _ _).mono ?_
  rintro e w3 ⟨rfl, rfl⟩
  go_wp2
  go_ret
  exact ⟨_, rfl, by rw [dupE_yes hd]; exact erv_wrap _ 17 (by decide), Grew.alloc hG _⟩
 ·have hlt : ¬ ((s : Int) < (n : Int)) := by have := s2 hd; omega
  go_wp2
  go_ret
  exact ⟨_, rfl, by rw [dupE_no hd]; exact .inl ⟨rfl, rfl⟩, hG⟩
end Go.Proofs.YtnjghcnhcbobhaaGreatDoor
namespace Go.Proofs.YtnjghcnhcbobhaaGreatDoor
open Go.RowKit Go.Extern
set_option linter.unusedVariables false
set_option linter.unusedSimpArgs false
def pkSt (S : ByteArray) (E : Int) : Nat → ByteArray × Int
 | 0 => (S, E)
 | j + 1 => (tkS (tkS (pkSt S E j).1 (pkSt S E j).2 4) (tkE (pkSt S E j).1 (pkSt S E j).2 4) 32, tkE (tkS (pkSt S E j).1 (pkSt S E j).2 4) (tkE (pkSt S E j).1 (pkSt S E j).2 4) 32)
def pkI (S : ByteArray) (E : Int) (j : Nat) : Int := beK (tkT (pkSt S E j).1 (pkSt S E j).2 4) (tkT (pkSt S E j).1 (pkSt S E j).2 4).size
def pkK (S : ByteArray) (E : Int) (j : Nat) : Nat → Int := putT nought 0 (tkT (tkS (pkSt S E j).1 (pkSt S E j).2 4) (tkE (pkSt S E j).1 (pkSt S E j).2 4) 32).size (tkT (tkS (pkSt S E j).1 (pkSt S E j).2 4) (tkE (pkSt S E j).1 (pkSt S E j).2 4) 32)
theorem pkI_bd (S : ByteArray) (E : Int) (j : Nat) : 0 ≤ pkI S E j ∧ pkI S E j < 4294967296 := beK_bd4 _ (by
 have := tkT_size (pkSt S E j).1 (pkSt S E j).2 4
 omega)
theorem Oth.own {g base size n : Nat} {w w' : World} {t : TypeId} {v : Value} {xs : List Value} (h : Oth g w w') (hg : g < base) (own : w.ownsRow base t size v n xs) : w'.ownsRow base t size v n xs := by
 obtain ⟨cs, hb⟩ := h
 exact own_later (own_setRow own hg) (by rw [size_setRow']; exact hb)
theorem chn_grown {w w' : World} {row : Option Nat} (hg : w.grownBy w' row) (hr : ∀ r, row = some r → ∃ t cs, objAt w r = some (.cells cs t) ∧ t ≠ 167) : ∀ {l : List ByteArray} {b v : Value}, Chn w l b v → Chn w' l b v
 | [], _, _, h => h
 | s :: l, b, v, ⟨k, u, e, hk, hu⟩ => ⟨k, u, e, (hg.block k (lt_of_objAt hk) (fun e => by
   obtain ⟨t, cs, h1, h2⟩ := hr k e.symm
   rw [h1] at hk
   cases hk
   exact h2 rfl)).trans hk, chn_grown hg hr hu⟩
theorem RdAt.grown {w w' : World} {g : Nat} {S : ByteArray} {E : Int} {row : Option Nat} (h : RdAt w g S E) (hg : w.grownBy w' row) (hr : ∀ r, row = some r → r ≠ g ∧ ∃ t cs, objAt w r = some (.cells cs t) ∧ t ≠ 167) : RdAt w' g S E := by
 obtain ⟨v, h1, he⟩ := h
 refine ⟨v, (hg.block g (lt_of_objAt h1) (fun e => (hr g e.symm).1 rfl)).trans h1, ?_⟩
 rcases he with he | ⟨h0, t, x, l, e, hc⟩
 ·exact .inl he
 ·exact .inr ⟨h0, t, x, l, e, chn_grown hg (fun r e => (hr r e).2) hc⟩
theorem Oth.grown {g : Nat} {w0 w w' : World} {row : Option Nat} (h : Oth g w0 w) (hg : w.grownBy w' row) (hr : ∀ r, row = some r → w0.heap.size ≤ r) : Oth g w0 w' := by
 obtain ⟨cs, hb⟩ := h
 have hs := hb.size
 rw [size_setRow'] at hs
 exact ⟨cs, hb.grown hg hs hr⟩
theorem Oth.later {g : Nat} {w0 w w' : World} (h : Oth g w0 w) (hb : Below w.heap.size w w') : Oth g w0 w' := by
 obtain ⟨cs, h1⟩ := h
 have hs := h1.size
 rw [size_setRow'] at hs
 exact ⟨cs, h1.trans (hb.mono hs)⟩
theorem prekeys_many {g : Nat} {S S1 : ByteArray} {E E1 : Int} {N : Nat} {w : World} (E3 : Int) (h3 : (if E1 = 0 then 18 else E1) = E3) (hS : tkS S E 2 = S1) (hE : tkE S E 2 = E1) (hV : beK (tkT S E 2) (tkT S E 2).size = (N : Int)) (hR : RdAt w g S E) (h64 : 64 < N) :
  Calls Tryz.prog 50 #[.pointer (some ⟨g, 0, none⟩)] w fun e w' => e = .returned (.slice none 0 0) ∧ RdAt w' g (S1) (E3) ∧ Oth g w w' := by
 replace h3 := hid1 h3
 have e2 : min (max (2 : Int) 0) 8 = 2 := by decide
 have cN := num_st 2 hR
 rw [e2, hS, hE, hV] at cN
 clear hS hE hV e2
 go_enter Tryz.func50, Tryz.ntmps50
 go_wp2_with fail
 refine cN.mono ?_
 rintro e w1 ⟨rfl, HR, HO⟩
 replace HR := hid1 HR
 clear cN hR
 have hi : (64 : Int) < (N : Int) := by omega
 go_wp2_with fail
 refine (fail_st _ HR.out (ErV.num _ 18 (by decide))).mono ?_
 rintro e w2 ⟨rfl, HR2, HO2⟩
 rw [h3.out] at HR2
 go_wp2
 go_ret
 exact ⟨rfl, HR2, HO.trans HO2⟩
theorem prekeys_few {g : Nat} {S S1 : ByteArray} {E E1 : Int} {N : Nat} {w : World} (hS : tkS S E 2 = S1) (hE : tkE S E 2 = E1) (hV : beK (tkT S E 2) (tkT S E 2).size = (N : Int)) (hR : RdAt w g S E) (h64 : N ≤ 64) :
  Calls Tryz.prog 50 #[.pointer (some ⟨g, 0, none⟩)] w fun e w' => ∃ oa c, e = .returned (.slice oa N c) ∧ PkAt w' oa N (pkI S1 E1) (pkK S1 E1) ∧ (∀ ad, oa = some ad → w.heap.size ≤ ad.block ∧ ad.block < w'.heap.size) ∧ RdAt w' g ((pkSt S1 E1 N).1) ((pkSt S1 E1 N).2) ∧ Oth g w w' := by
 have e2 : min (max (2 : Int) 0) 8 = 2 := by decide
 have cN := num_st 2 hR
 rw [e2, hS, hE, hV] at cN
 clear hS hE hV e2
 go_enter Tryz.func50, Tryz.ntmps50
 go_wp2_with fail
 refine cN.mono ?_
 rintro e w1 ⟨rfl, HR, HO⟩
 replace HR := hid1 HR
 clear cN hR
 have hi : ¬ ((64 : Int) < (N : Int)) := by omega
 have lg0 := HR.out.lt
 go_wp2_with fail
 have hO1 : Hid (Oth g w1 w1) := by
  obtain ⟨v, h1, _⟩ := HR.out
  exact Oth.refl h1
 go_loopw [4, 13] (fun v i wr => ∃ (k : Nat) (v0 : Value), v0 = v ∧ k ≤ N ∧ i = .int .u64 k ∧ Hid (RdAt wr g (pkSt S1 E1 k).1 (pkSt S1 E1 k).2) ∧ Hid (Oth g w1 wr) ∧ Hid (wr.ownsRow w1.heap.size 103 33 v0 k (pkL (pkI S1 E1) (pkK S1 E1) k))) (fun _ i _ => N - (intOf i).toNat)
 case atStart => exact ⟨0, _, rfl, by omega, rfl, HR, hO1, World.ownsRow_nil _ _ _ _⟩
 case round =>
  clear HR hO1
  obtain ⟨k, v0, rfl, hk, rfl, HR, HO1, OWN⟩ := hrel
  by_cases hlt : k < N
  ·have hi1 : (k : Int) < (N : Int) := by omega
   have hw1 : IntKind.u64.wrap ((k : Int) + 1) = ((k + 1 : Nat) : Int) := by rw [IntKind.wrap_u64]; omega
   have HX : Hid (pkI S1 E1 k = beK (tkT (pkSt S1 E1 k).1 (pkSt S1 E1 k).2 4) (tkT (pkSt S1 E1 k).1 (pkSt S1 E1 k).2 4).size) := rfl
   have HY : Hid (pkK S1 E1 k = putT nought 0 (tkT (tkS (pkSt S1 E1 k).1 (pkSt S1 E1 k).2 4) (tkE (pkSt S1 E1 k).1 (pkSt S1 E1 k).2 4) 32).size (tkT (tkS (pkSt S1 E1 k).1 (pkSt S1 E1 k).2 4) (tkE (pkSt S1 E1 k).1 (pkSt S1 E1 k).2 4) 32)) := rfl
   have HST : Hid (pkSt S1 E1 (k + 1) = (tkS (tkS (pkSt S1 E1 k).1 (pkSt S1 E1 k).2 4) (tkE (pkSt S1 E1 k).1 (pkSt S1 E1 k).2 4) 32, tkE (tkS (pkSt S1 E1 k).1 (pkSt S1 E1 k).2 4) (tkE (pkSt S1 E1 k).1 (pkSt S1 E1 k).2 4) 32)) := rfl
   obtain ⟨hx0, hx1⟩ := pkI_bd S1 E1 k
   rw [HX.out] at hx0 hx1
   have e4 : min (max (4 : Int) 0) 8 = 4 := by decide
   have cN := num_st 4 HR.out
   rw [e4] at cN
   clear e4 HR
   generalize (pkSt S1 E1 k).1 = s at *
   generalize (pkSt S1 E1 k).2 = e at *
   have cK := fun (W : World) (h : RdAt W g (tkS s e 4) (tkE s e 4)) => key_st h
   generalize beK (tkT s e 4) (tkT s e 4).size = x at *
   generalize tkS s e 4 = s1 at *
   generalize tkE s e 4 = e1 at *
   generalize putT nought 0 (tkT s1 e1 32).size (tkT s1 e1 32) = y at *
   generalize tkS s1 e1 32 = s2 at *
   generalize tkE s1 e1 32 = e2 at *
   have hwx : IntKind.u32.wrap x = x := by rw [IntKind.wrap_u32]; omega
   go_wp2_with fail
   refine cN.mono ?_
   rintro e9 w2 ⟨rfl, HR2, HO2⟩
   replace HR2 := hid1 HR2
   have OWN2 := hid1 (HO2.own lg0 OWN.out)
   replace HO1 := hid1 (HO1.out.trans HO2)
   clear OWN HO2 cN
   go_wp2_with fail
   refine (cK _ HR2.out).mono ?_
   rintro e9 w3 ⟨rfl, HR3, HO3⟩
   replace HR3 := hid1 (RdAt.later HR3 (Grew.alloc (Grew.refl w3) (.cells (pkC x y) 103)))
   have OWN3 := World.ownsRow.alloc (HO3.own lg0 OWN2.out) (.cells (pkC x y) 103)
   replace HO1 := hid1 ((HO1.out.trans HO3).later (Grew.alloc (Grew.refl w3) (.cells (pkC x y) 103)))
   have hsz : w1.heap.size ≤ (w3.alloc (.cells (pkC x y) 103)).heap.size := HO1.out.size
   have hbk := own_blk OWN3
   obtain ⟨g3, c3, w7, hr3, own7, hgr⟩ := append_pkG (w3.alloc (.cells (pkC x y) 103)) w1.heap.size _ k (pkI S1 E1) (pkK S1 E1) w3.heap.size _ _ OWN3 (by omega) (by rw [HX.out, HY.out]; exact objAt_alloc_at _ _ _ rfl) hsz
   have OWN7 := hid1 own7
   have HR7 : Hid (RdAt w7 g (pkSt S1 E1 (k + 1)).1 (pkSt S1 E1 (k + 1)).2) := by
    rw [HST.out]
    exact HR3.out.grown hgr (fun r e => ⟨by have := (hbk r e).1; omega, _, _, (hbk r e).2.choose_spec, by decide⟩)
   have HO7 : Hid (Oth g w1 w7) := HO1.out.grown hgr (fun r e => (hbk r e).1)
   clear own7 hgr hbk HR3 OWN3 HO1 HO3 OWN2 HR2 cK
   go_wp2
   go_roundw
   case rel => first | exact ⟨k + 1, _, rfl, by omega, by first | rw [hw1] | go_num, HR7, HO7, OWN7⟩ | ((repeat' apply Exists.intro) <;> first | exact ⟨⟨k + 1, _, rfl, by omega, by first | rw [hw1] | go_num, HR7, HO7, OWN7⟩, rfl⟩ | exact undef)
   case measure => (simp [intOf]; omega)
  ·obtain rfl : k = N := by omega
   have hi1 : ¬ ((k : Int) < (k : Int)) := by omega
   obtain ⟨oa, c, rfl, -, hP, hB⟩ := pk_of_own OWN.out
   have HP := hid1 hP
   have HO9 := hid1 (HO.trans HO1.out)
   have hsz0 := HO.size
   clear OWN hP HO HO1
   go_wp2
   go_ret
   first | exact ⟨_, _, rfl, HP.out, fun ad e => ⟨Nat.le_trans hsz0 (hB ad e).1, (hB ad e).2⟩, HR.out, HO9.out⟩ | exact ⟨_, ⟨_, rfl⟩, HP.out, fun ad e => ⟨Nat.le_trans hsz0 (hB ad e).1, (hB ad e).2⟩, HR.out, HO9.out⟩
end Go.Proofs.YtnjghcnhcbobhaaGreatDoor
namespace Go.Proofs.YtnjghcnhcbobhaaGreatDoor
open Go.RowKit Go.Extern
set_option linter.unusedVariables false
set_option linter.unusedSimpArgs false
theorem by_two' (a : Prop) {G : Prop} (h1 : a → G) (h2 : ¬ a → G) : G := (Classical.em a).elim h1 h2
theorem stab_erv' (u : Value) (E : Int) : Stab (fun w => ErV w u E) none := fun w w' h e => h.later e
theorem by_fitsE {P : Prop} (h : P := by first | exact by_fits | ((repeat (refine fits_cons ⟨by (first | exact stab_hdr_at _ _ _ _ | exact stab_erv' _ _ | exact stab_hdr _ _ _ | exact stab_full _ _ _), by (first | exact stab_hdr_at _ _ _ _ | exact stab_erv' _ _ | exact stab_hdr _ _ _ | exact stab_full _ _ _)⟩ ?_)); exact fits_nil (by (first | exact stab_hdr_at _ _ _ _ | exact stab_erv' _ _ | exact stab_hdr _ _ _ | exact stab_full _ _ _)))) : P := h
def ESh (u : Value) : Prop := u = .nilIface ∨ ∃ t x, u = .iface t x
theorem build2e (u v : Value) (hu : ESh u) (hv : ESh v) (W : World) : (Instr.buildSlice 164 2 #[(0, u), (1, v)]).run Tryz.prog W = .ok (.slice (some ⟨W.heap.size, 0, none⟩) 2 2) (W.alloc (.cells #[u, v] 29)) := by
 rcases hu with rfl | ⟨t, x, rfl⟩ <;> rcases hv with rfl | ⟨t', x', rfl⟩ <;> kernel_rfl
theorem bparse_walk (S S1 S2 S4 : ByteArray) (E0 E1 E2 E4 nm X : Int) (n : Nat) (I : Nat → Int) (K : Nat → Nat → Int) (w : World) (hE0 : E0 = if S.size < 8 then 1 else 0) (cH : ∀ (g : Nat) (W : World), RdAt W g S E0 → Calls Tryz.prog 48 #[.pointer (some ⟨g, 0, none⟩), .int .u64 1] W fun e w' => e = .returned (.tuple #[]) ∧ RdAt w' g S1 E1 ∧ Oth g W w') (cN : ∀ (g : Nat) (W : World), RdAt W g S1 E1 → Calls Tryz.prog 49 #[.pointer (some ⟨g, 0, none⟩), .int .i64 4] W fun e w' => e = .returned (.int .u64 nm) ∧ RdAt w' g S2 E2 ∧ Oth g W w') (cP : ∀ (g : Nat) (W : World), RdAt W g S2 E2 → Calls Tryz.prog 50 #[.pointer (some ⟨g, 0, none⟩)] W fun e w' => ∃ oa c, e = .returned (.slice oa n c) ∧ PkAt w' oa n I K ∧ (∀ ad, oa = some ad → W.heap.size ≤ ad.block ∧ ad.block < w'.heap.size) ∧ RdAt w' g S4 E4 ∧ Oth g W w') (hnm : 0 ≤ nm ∧ nm < 4294967296) (hn : n ≤ 64) (hI : ∀ j, j < n → 0 ≤ I j ∧ I j < 4294967296) (hX : X = if enE S4 E4 = 0 then dupE I n else enE S4 E4) :
  Calls Tryz.prog 10 #[.string S] w fun e w' => ∃ v u, e = .returned (.tuple #[v, u]) ∧ BunAt w' v (if X = 0 then nm else 0) (if X = 0 then n else 0) I K ∧ ErV w' u X ∧ Below w.heap.size w w' := by
 have hnw : IntKind.u32.wrap nm = nm := by rw [IntKind.wrap_u32]; omega
 replace hX := hid1 hX
 replace hE0 := hid1 hE0
 go_enter Tryz.func10, Tryz.ntmps10
 go_wp2_with fail
 refine (rover_any _ _).mono ?_
 rintro e w1 ⟨rfl, rfl⟩
 have fr : objAt ((w.alloc (.cells #[.int .u32 0, .slice none 0 0] 25)).alloc (.cells #[.string S, .nilIface] 161)) w.heap.size = some (.cells #[.int .u32 0, .slice none 0 0] 25) := keep_alloc _ (objAt_alloc_at _ _ _ rfl)
 have HR := hid1 (RdAt.over (w.alloc (.cells #[.int .u32 0, .slice none 0 0] 25)) S)
 have hG : Below w.heap.size w ((w.alloc (.cells #[.int .u32 0, .slice none 0 0] 25)).alloc (.cells #[.string S, .nilIface] 161)) := Grew.alloc (Grew.alloc (Grew.refl _) _) _
 have hz : (w.alloc (.cells #[.int .u32 0, .slice none 0 0] 25)).heap.size = w.heap.size + 1 := by simp
 rw [hz] at HR
 go_wp2_with fail
 generalize (w.alloc (.cells #[.int .u32 0, .slice none 0 0] 25)).alloc (.cells #[.string S, .nilIface] 161) = w1 at *
 have hne : w.heap.size ≠ w.heap.size + 1 := by omega
 have hgl : w.heap.size ≤ w.heap.size + 1 := by omega
 clear hz
 generalize w.heap.size + 1 = g at *
 refine (left_st HR.out).mono ?_
 rintro e w1 ⟨rfl, rfl⟩
 refine by_two' (S.size < 8) ?ga ?gb
 case' ga =>
  intro hs
  have hsi : (S.size : Int) < 8 := by omega
  have q0 : E0 = 1 := by rw [hE0.out, if_pos hs]
  go_wp2_with fail
  refine (fail_st _ HR.out (ErV.num _ 1 (by decide))).mono ?_
  rintro e w2 ⟨rfl, HR2, HO⟩
  rw [if_pos rfl, ← q0] at HR2
  replace HR := hid1 HR2
  replace fr := HO.keep fr hne
  replace hG := HO.below hG hgl
  clear HR2 HO
  go_wp2_with fail
 case' gb =>
  intro hs
  have hsi : ¬ ((S.size : Int) < 8) := by omega
  have q0 : E0 = 0 := by rw [hE0.out, if_neg hs]
  rw [← q0] at HR
  obtain ⟨w2, rfl⟩ : ∃ x, x = w1 := ⟨_, rfl⟩
  go_wp2_with fail
 all_goals
  refine (cH _ _ HR.out).mono ?_
  rintro e w3 ⟨rfl, HR3, HO⟩
  replace fr := HO.keep fr hne
  replace hG := HO.below hG hgl
  replace HR := hid1 HR3
  clear HR3 HO
  go_wp2_with fail
  refine (cN _ _ HR.out).mono ?_
  rintro e w4 ⟨rfl, HR3, HO⟩
  replace fr := HO.keep fr hne
  replace hG := HO.below hG hgl
  replace HR := hid1 HR3
  clear HR3 HO
  go_wp2_with fail
  have hgw := lt_of_objAt fr
  refine (cP _ _ HR.out).mono ?_
  rintro e w5 ⟨oa, c, rfl, hP, hoa, HR3, HO⟩
  replace fr := HO.keep fr hne
  replace hG := HO.below hG hgl
  replace HR := hid1 HR3
  replace hP := hid1 hP
  replace hoa := hid1 hoa
  clear HR3 HO
  go_wp2_with fail
  have fb : objAt (w5.alloc (.cells #[.int .u32 nm, .slice oa n c] 25)) w5.heap.size = some (.cells #[.int .u32 nm, .slice oa n c] 25) := objAt_alloc_at _ _ _ rfl
  replace fr := keep_alloc (.cells #[.int .u32 nm, .slice oa n c] 25) fr
  replace hG := Grew.alloc hG (.cells #[.int .u32 nm, .slice oa n c] 25)
  replace HR := hid1 (RdAt.later HR.out (Grew.alloc (Grew.refl w5) (.cells #[.int .u32 nm, .slice oa n c] 25)))
  replace hP := hid1 (hP.out.later (Grew.alloc (Grew.refl w5) (.cells #[.int .u32 nm, .slice oa n c] 25)))
  have hoa2 : Hid (∀ ad, oa = some ad → ad.block < (w5.alloc (.cells #[.int .u32 nm, .slice oa n c] 25)).heap.size) := fun ad e => by have := (hoa.out ad e).2; simp; omega
  have hob : Hid (∀ ad, oa = some ad → ad.block ≠ w.heap.size) := fun ad e => by have := (hoa.out ad e).1; omega
  clear hoa hgw
  generalize w5.alloc (.cells #[.int .u32 nm, .slice oa n c] 25) = w6 at *
  generalize w5.heap.size = gb at *
  have lfb := lt_of_objAt fb
  have lfr := lt_of_objAt fr
  have lg := HR.out.lt
  have cE := fun (W : World) (hb : Below w6.heap.size w6 W) => end_st (HR.out.later hb)
  have cC := fun (W : World) (hb : Below w6.heap.size w6 W) => bcheck_any nm oa n c I K W (hP.out.later hb) (by omega) hI (fun _ ad e => Nat.lt_of_lt_of_le (hoa2.out ad e) hb.size)
  rw [if_neg (show ¬ (64 < n) by omega)] at cC
  refine wp_relv (fun k => k == 1 || k == 3 || k == 5) (fun k => match k with | 1 => fun u => ESh u | 3 => fun u => ESh u | 5 => fun u => ESh u | _ => fun _ => True) (fun k => match k with | 1 => fun u w => ErV w u (enE S4 E4) | 3 => fun u w => ErV w u (dupE I n) | 5 => fun u w => ErV w u X | _ => fun _ _ => True) (fun k => match k with | 1 => .nilIface | 3 => .nilIface | 5 => .nilIface | _ => undef) (fun i hi => ?_) (by kernel_rfl) (by kernel_rfl) ?_
  ·simp only [Bool.or_eq_true, beq_iff_eq] at hi
   rcases hi with (rfl | rfl) | rfl
   ·exact .inl rfl
   ·exact .inl rfl
   ·exact .inl rfl
  (first | refine exv_skip rfl ?_ | (refine exv_call rfl ?_; apply Exists.intro))
  refine exv_call rfl ⟨undef, ?_⟩
  (first | refine exv_skip rfl ?_ | (refine exv_call rfl ?_; apply Exists.intro))
  refine exv_call rfl ⟨undef, ?_⟩
  (first | refine exv_skip rfl ?_ | (refine exv_call rfl ?_; apply Exists.intro))
  refine exv_call rfl ⟨undef, ?_⟩
  (first | refine exv_skip rfl ?_ | (refine exv_call rfl ?_; apply Exists.intro))
  refine exv_nil ?_
  intro γ gv hsv hinj hbase
  obtain ⟨u1, e1⟩ : ∃ u1, gv 1 = u1 := ⟨_, rfl⟩
  obtain ⟨u2, e2⟩ : ∃ u2, gv 3 = u2 := ⟨_, rfl⟩
  obtain ⟨U, e3⟩ : ∃ U, gv 5 = U := ⟨_, rfl⟩
  have h1 : ESh u1 := e1 ▸ hsv 1 rfl
  have h2 : ESh u2 := e2 ▸ hsv 3 rfl
  have hbd := fun W : World => build2e u1 u2 h1 h2 W
  (repeat (first | (refine rel_quiet rfl ?_; ((first | go_big_quiet_skip | (go_big_quiet_want; go_big_quiet_op; go_big_quiet_on)); refine wpQuiet_nil ?_)) | ((first | refine rel_skip_some rfl (fun _ => rfl) ?_); ((first | go_big_quiet_skip | (go_big_quiet_want; go_big_quiet_op; go_big_quiet_on)); refine wpQuiet_nil ?_)) | refine rel_skip_none rfl (fun _ => rfl) ?_))
  refine rel_callv #[.pointer (some ⟨g, 0, none⟩)] (enters_of Tryz.func52 (by kernel_rfl) rfl) rfl e1 rfl rfl rfl rfl (fits_nil (stab_erv' _ _)) (by first | kernel_rfl | simp [go_sem]) ?_ ?_
  ·intro W hC hF
   obtain ⟨mm, rfl⟩ := hC
   refine (cE _ (below_more w6 mm)).mono ?_
   rintro e w9 ⟨u, rfl, hu, hb9⟩
   exact ⟨_, rfl, hu.shape, hu, hb9⟩
  ((first | go_big_quiet_skip | (go_big_quiet_want; go_big_quiet_op; go_big_quiet_on)); refine wpQuiet_nil ?_)
  (repeat (first | (refine rel_quiet rfl ?_; ((first | go_big_quiet_skip | (go_big_quiet_want; go_big_quiet_op; go_big_quiet_on)); refine wpQuiet_nil ?_)) | ((first | refine rel_skip_some rfl (fun _ => rfl) ?_); ((first | go_big_quiet_skip | (go_big_quiet_want; go_big_quiet_op; go_big_quiet_on)); refine wpQuiet_nil ?_)) | refine rel_skip_none rfl (fun _ => rfl) ?_))
  refine rel_callv #[.agg #[.int .u32 nm, .slice oa n c]] (enters_of Tryz.func41 (by kernel_rfl) rfl) rfl e2 rfl rfl rfl rfl (fits_one (stab_erv' _ _) (stab_erv' _ _) rfl rfl (fits_nil (stab_erv' _ _))) (by first | kernel_rfl | simp [go_sem]) ?_ ?_
  ·intro W hC hF
   obtain ⟨mm, rfl⟩ := hC
   refine (cC _ (below_more w6 mm)).mono ?_
   rintro e w9 ⟨u, rfl, hu, hb9⟩
   exact ⟨_, rfl, hu.shape, hu, hb9⟩
  ((first | go_big_quiet_skip | (go_big_quiet_want; go_big_quiet_op; go_big_quiet_on)); refine wpQuiet_nil ?_)
  (repeat (first | (refine rel_quiet rfl ?_; ((first | go_big_quiet_skip | (go_big_quiet_want; go_big_quiet_op; go_big_quiet_on)); refine wpQuiet_nil ?_)) | ((first | refine rel_skip_some rfl (fun _ => rfl) ?_ | ((try simp only [Nat.zero_add, Nat.reduceAdd]); apply rel_slice alloc_cls; (focus rfl); (focus (intro W; simp only [List.map_toArray, List.map_cons, List.map_nil]; first | (with_reducible exact hbd W) | exact hbd W)); (focus (exact by_fitsE)))); ((first | go_big_quiet_skip | (go_big_quiet_want; go_big_quiet_op; go_big_quiet_on)); refine wpQuiet_nil ?_)) | refine rel_skip_none rfl (fun _ => rfl) ?_))
  refine rel_callv #[.slice (some ⟨γ 4, 0, none⟩) 2 2] (enters_of Tryz.func51 (by kernel_rfl) rfl) rfl e3 rfl rfl rfl rfl (by exact by_fitsE) (by first | kernel_rfl | simp [go_sem]) ?_ ?_
  ·intro W hC hF
   obtain ⟨mm, rfl⟩ := hC
   have hE9 : Full (γ 4) #[u1, u2] 29 (more w6 mm) := known hF (List.mem_cons_self ..) (by decide +kernel)
   have hEb : ErV (more w6 mm) u2 (dupE I n) := known hF (List.mem_cons_of_mem _ (List.mem_cons_self ..)) (by decide +kernel)
   have hEa : ErV (more w6 mm) u1 (enE S4 E4) := known hF (List.mem_cons_of_mem _ (List.mem_cons_of_mem _ (List.mem_cons_self ..))) (by decide +kernel)
   refine (first_pair _ u1 u2 _ hE9 h1 h2).mono ?_
   rintro e w9 ⟨rfl, rfl⟩
   exact ⟨_, rfl, (ErV.first hEa hEb).shape, hX.out ▸ ErV.first hEa hEb, Grew.refl _⟩
  ((first | go_big_quiet_skip | (go_big_quiet_want; go_big_quiet_op; go_big_quiet_on)); refine wpQuiet_nil ?_)
  (repeat (first | (refine rel_quiet rfl ?_; ((first | go_big_quiet_skip | (go_big_quiet_want; go_big_quiet_op; go_big_quiet_on)); refine wpQuiet_nil ?_)) | ((first | refine rel_skip_some rfl (fun _ => rfl) ?_); ((first | go_big_quiet_skip | (go_big_quiet_want; go_big_quiet_op; go_big_quiet_on)); refine wpQuiet_nil ?_)) | refine rel_skip_none rfl (fun _ => rfl) ?_))
  (refine rel_nil ?_; rintro _ ⟨mq, rfl⟩ hF; simp only [List.forall_mem_cons] at hF; obtain ⟨f5, -, -, -, -⟩ := hF)
  have hfv := hid1 f5
  replace fr := keep_more mq fr
  replace fb := keep_more mq fb
  replace hG := Grew.more hG mq
  replace hP := hid1 (hP.out.later (below_more w6 mq))
  clear cE cC f5 hinj hbase hsv e1 e2 e3 lfb lfr lg hbd h1 h2 HR
  generalize more w6 mq = w7 at *
  have lfb := lt_of_objAt fb
  have lfr := lt_of_objAt fr
  by_cases hX0 : X = 0
  ·rw [hX0] at hfv
   rcases hfv with ⟨-, rfl⟩ | ⟨h0, -⟩
   ·have hP9 := hid1 (hP.out)
    go_wp2
    refine ret_key_tmp rfl _ 25 #[.int .u32 nm, .slice oa n c] (0, 0) _ _ rfl rfl (keep_row _ fr) Tryz.underlying25 rfl (by kernel_rfl) rfl ?_
    have hB9 : BunAt (w7.setRow w.heap.size #[.int .u32 nm, .slice oa n c]) (.agg #[.int .u32 nm, .slice oa n c]) nm n I K := ⟨oa, c, rfl, hP9.out.aside _ (fun ad e => hob.out ad e) _⟩
    exact ⟨_, _, rfl, by first | exact hB9 | (rw [if_pos hX0, if_pos hX0]; exact hB9), .inl ⟨by first | rfl | exact hX0, rfl⟩, Grew.setRow hG _ _ (Nat.le_refl _)⟩
   ·exact absurd rfl h0
  ·obtain ⟨t, x, rfl, hw⟩ := hfv.out.wrap hX0
   go_wp2_with fail
   refine (wrap_any _ _ _ _).mono ?_
   rintro e w8 ⟨rfl, rfl⟩
   have hw9 := hid1 (hw ⟨#[98, 117, 110, 100, 108, 101]⟩)
   replace fr := keep_alloc (.cells #[.string ⟨#[98, 117, 110, 100, 108, 101]⟩, .iface t x] 167) fr
   replace hG := Grew.alloc hG (.cells #[.string ⟨#[98, 117, 110, 100, 108, 101]⟩, .iface t x] 167)
   clear hw lfb lfr
   generalize (Value.iface 165 (.pointer (some ⟨w7.heap.size, 0, none⟩))) = fv at *
   generalize w7.alloc (.cells #[.string ⟨#[98, 117, 110, 100, 108, 101]⟩, .iface t x] 167) = w8 at *
   have lfr := lt_of_objAt fr
   go_wp2
   refine ret_key_tmp rfl _ 25 #[.int .u32 0, .slice none 0 0] (0, 0) _ _ rfl rfl (keep_row _ fr) Tryz.underlying25 rfl (by kernel_rfl) rfl ?_
   exact ⟨_, _, rfl, by first | (rw [if_neg hX0, if_neg hX0]; exact ⟨none, 0, rfl, .inl rfl⟩) | exact ⟨none, 0, rfl, .inl rfl⟩, hw9.out.put fr (by decide) _, Grew.setRow hG _ _ (Nat.le_refl _)⟩
end Go.Proofs.YtnjghcnhcbobhaaGreatDoor
namespace Go.Proofs.YtnjghcnhcbobhaaGreatDoor
open Go.RowKit Go.Extern
set_option linter.unusedVariables false
set_option linter.unusedSimpArgs false
attribute [local go_sem high] byteAt_in
def pnI (S : ByteArray) : Int := beK (S.extract 6 8) (S.extract 6 8).size
def pnN (S : ByteArray) : Nat := (pnI S).toNat
def nmF (S : ByteArray) : Int := beK (S.extract 2 6) (S.extract 2 6).size
def idF (S : ByteArray) (j : Nat) : Int := beK (S.extract (8 + 36 * j) (8 + 36 * j + 4)) (S.extract (8 + 36 * j) (8 + 36 * j + 4)).size
def pkF (S : ByteArray) (j i : Nat) : Int := byteAt S (8 + 36 * j + 4 + i)
noncomputable def pcE (S : ByteArray) : Int :=
 if S.size < 8 then 1 else if byteAt S 0 ≠ 1 then 3 else if byteAt S 1 ≠ 1 then 14 else if 64 < pnI S then 18
 else if (S.size : Int) < 8 + 36 * pnI S then 1 else if 8 + 36 * pnI S < (S.size : Int) then 2 else dupE (idF S) (pnN S)
theorem ext_size (S : ByteArray) (a d : Nat) : (S.extract a (a + d)).size ≤ d := by rw [ByteArray.size_extract]; omega
theorem pnI_bd (S : ByteArray) : 0 ≤ pnI S ∧ pnI S < 4294967296 := beK_bd4 _ (Nat.le_trans (ext_size S 6 2) (by decide))
theorem nmF_bd (S : ByteArray) : 0 ≤ nmF S ∧ nmF S < 4294967296 := beK_bd4 _ (Nat.le_trans (ext_size S 2 4) (by decide))
theorem idF_bd (S : ByteArray) (j : Nat) : 0 ≤ idF S j ∧ idF S j < 4294967296 := beK_bd4 _ (ext_size S (8 + 36 * j) 4)
end Go.Proofs.YtnjghcnhcbobhaaGreatDoor
namespace Go.Proofs.YtnjghcnhcbobhaaGreatDoor
open Go.RowKit Go.Extern
set_option linter.unusedVariables false
set_option linter.unusedSimpArgs false
theorem ext_ext (S : ByteArray) (a b c : Nat) (h : a + c ≤ S.size) : (S.extract a S.size).extract b c = S.extract (a + b) (a + c) := eq_of_byteAt (by simp only [ByteArray.size_extract]; omega) fun i hi => by
 simp only [ByteArray.size_extract] at hi
 rw [byteAt_ext _ _ _ _ (by omega) (by rw [ByteArray.size_extract]; omega), byteAt_ext _ _ _ _ (by omega) (Nat.le_refl _), byteAt_ext _ _ _ _ (by omega) (by omega), Nat.add_assoc]
theorem ext_end (S : ByteArray) (a b : Nat) : (S.extract a S.size).extract b (S.extract a S.size).size = S.extract (a + b) S.size := eq_of_byteAt (by simp only [ByteArray.size_extract]; omega) fun i hi => by
 simp only [ByteArray.size_extract] at hi
 rw [byteAt_ext _ _ _ _ (by rw [ByteArray.size_extract]; omega) (Nat.le_refl _), byteAt_ext _ _ _ _ (by omega) (Nat.le_refl _), byteAt_ext _ _ _ _ (by omega) (Nat.le_refl _), Nat.add_assoc]
theorem tk_at (S : ByteArray) (a n : Nat) (h : a + n ≤ S.size) : tkT (S.extract a S.size) 0 (n : Int) = S.extract a (a + n) ∧ tkS (S.extract a S.size) 0 (n : Int) = S.extract (a + n) S.size ∧ tkE (S.extract a S.size) 0 (n : Int) = 0 := by
 obtain ⟨e1, e2, e3⟩ := tk_ok (S := S.extract a S.size) (n := n) (by rw [ByteArray.size_extract]; omega)
 rw [e1, e2, e3, ext_ext S a 0 n h, ext_end]
 exact ⟨rfl, rfl, rfl⟩
theorem tk_bad {S : ByteArray} {E : Int} (n : Int) (h : E ≠ 0) : tkT S E n = ⟨#[]⟩ ∧ tkS S E n = S ∧ tkE S E n = E := by
 obtain ⟨e1, e2⟩ := tk_err (S := S) (E := E) (n := n) (.inl h)
 exact ⟨e1, e2, by unfold tkE; rw [if_pos h]⟩
theorem tk_low (S : ByteArray) (n : Nat) (h : S.size < n) : tkE S 0 (n : Int) = 1 := by
 unfold tkE
 rw [if_neg (by simp), if_pos (by omega)]
theorem pkSt_ok (S : ByteArray) (a : Nat) : ∀ j, a + 36 * j ≤ S.size → pkSt (S.extract a S.size) 0 j = (S.extract (a + 36 * j) S.size, 0)
 | 0, _ => rfl
 | j + 1, h => by
  have ih := pkSt_ok S a j (by omega)
  obtain ⟨-, e2, e3⟩ := tk_at S (a + 36 * j) 4 (by omega)
  obtain ⟨-, f2, f3⟩ := tk_at S (a + 36 * j + 4) 32 (by omega)
  show (tkS (tkS (pkSt _ 0 j).1 (pkSt _ 0 j).2 4) (tkE (pkSt _ 0 j).1 (pkSt _ 0 j).2 4) 32, tkE (tkS (pkSt _ 0 j).1 (pkSt _ 0 j).2 4) (tkE (pkSt _ 0 j).1 (pkSt _ 0 j).2 4) 32) = _
  rw [ih]
  show (tkS (tkS _ 0 ((4 : Nat) : Int)) (tkE _ 0 ((4 : Nat) : Int)) ((32 : Nat) : Int), tkE (tkS _ 0 ((4 : Nat) : Int)) (tkE _ 0 ((4 : Nat) : Int)) ((32 : Nat) : Int)) = _
  rw [e2, e3, f2, f3, show a + 36 * j + 4 + 32 = a + 36 * (j + 1) by omega]
theorem pkSt_short (S : ByteArray) (a : Nat) (ha : a ≤ S.size) : ∀ j, S.size < a + 36 * j → (pkSt (S.extract a S.size) 0 j).2 = 1
 | 0, h => by omega
 | j + 1, h => by
  show tkE (tkS (pkSt _ 0 j).1 (pkSt _ 0 j).2 4) (tkE (pkSt _ 0 j).1 (pkSt _ 0 j).2 4) 32 = 1
  by_cases h1 : S.size < a + 36 * j
  ·have ih := pkSt_short S a ha j h1
   rw [ih]
   obtain ⟨-, -, e3⟩ := tk_bad (S := (pkSt (S.extract a S.size) 0 j).1) (E := 1) 4 (by decide)
   rw [e3]
   exact (tk_bad 32 (by decide)).2.2
  ·rw [pkSt_ok S a j (by omega)]
   by_cases h2 : S.size < a + 36 * j + 4
   ·have e3 := tk_low (S.extract (a + 36 * j) S.size) 4 (by rw [ByteArray.size_extract]; omega)
    show tkE _ (tkE (S.extract (a + 36 * j) S.size) 0 ((4 : Nat) : Int)) 32 = 1
    rw [e3]
    exact (tk_bad 32 (by decide)).2.2
   ·obtain ⟨-, e2, e3⟩ := tk_at S (a + 36 * j) 4 (by omega)
    show tkE (tkS (S.extract (a + 36 * j) S.size) 0 ((4 : Nat) : Int)) (tkE (S.extract (a + 36 * j) S.size) 0 ((4 : Nat) : Int)) ((32 : Nat) : Int) = 1
    rw [e2, e3]
    exact tk_low _ 32 (by rw [ByteArray.size_extract]; omega)
theorem pkI_ok (S : ByteArray) (a j : Nat) (h : a + 36 * (j + 1) ≤ S.size) : pkI (S.extract a S.size) 0 j = beK (S.extract (a + 36 * j) (a + 36 * j + 4)) (S.extract (a + 36 * j) (a + 36 * j + 4)).size := by
 obtain ⟨e1, -, -⟩ := tk_at S (a + 36 * j) 4 (by omega)
 unfold pkI
 rw [pkSt_ok S a j (by omega)]
 show beK (tkT _ 0 ((4 : Nat) : Int)) (tkT _ 0 ((4 : Nat) : Int)).size = _
 rw [e1]
theorem pkK_ok (S : ByteArray) (a j : Nat) (h : a + 36 * (j + 1) ≤ S.size) (i : Nat) (hi : i < 32) : pkK (S.extract a S.size) 0 j i = byteAt S (a + 36 * j + 4 + i) := by
 obtain ⟨-, e2, e3⟩ := tk_at S (a + 36 * j) 4 (by omega)
 obtain ⟨f1, -, -⟩ := tk_at S (a + 36 * j + 4) 32 (by omega)
 unfold pkK
 rw [pkSt_ok S a j (by omega)]
 show putT nought 0 (tkT (tkS _ 0 ((4 : Nat) : Int)) (tkE _ 0 ((4 : Nat) : Int)) ((32 : Nat) : Int)).size (tkT (tkS _ 0 ((4 : Nat) : Int)) (tkE _ 0 ((4 : Nat) : Int)) ((32 : Nat) : Int)) i = _
 rw [e2, e3, f1]
 unfold putT
 rw [if_pos ⟨Nat.zero_le _, by rw [ByteArray.size_extract]; omega⟩, Nat.sub_zero, byteAt_ext _ _ _ _ (by omega) (by omega)]
theorem ext_self (S : ByteArray) : S.extract 0 S.size = S := eq_of_byteAt (by rw [ByteArray.size_extract]; omega) fun i hi => by
 rw [ByteArray.size_extract] at hi
 rw [byteAt_ext _ _ _ _ (by omega) (Nat.le_refl _), Nat.zero_add]
theorem beK_two (S : ByteArray) (h : 2 ≤ S.size) : beK (S.extract 0 (0 + 2)) (S.extract 0 (0 + 2)).size = byteAt S 0 * 256 + byteAt S 1 := by
 have hs : (S.extract 0 (0 + 2)).size = 2 := by rw [ByteArray.size_extract]; omega
 rw [hs]
 show (0 * 256 + byteAt (S.extract 0 (0 + 2)) 0) * 256 + byteAt (S.extract 0 (0 + 2)) 1 = _
 rw [byteAt_ext _ _ _ _ (by omega) (by omega), byteAt_ext _ _ _ _ (by omega) (by omega)]
 simp
theorem Twice.congr {I J : Nat → Int} {n : Nat} (h : ∀ j, j < n → I j = J j) : Twice I n ↔ Twice J n :=
 ⟨fun ⟨i, hi, k, hk, e⟩ => ⟨i, hi, k, hk, by rw [← h i hi, ← h k (by omega)]; exact e⟩, fun ⟨i, hi, k, hk, e⟩ => ⟨i, hi, k, hk, by rw [h i hi, h k (by omega)]; exact e⟩⟩
theorem dupE_congr {I J : Nat → Int} {n : Nat} (h : ∀ j, j < n → I j = J j) : dupE I n = dupE J n := by
 by_cases hd : Twice I n
 ·rw [dupE_yes hd, dupE_yes ((Twice.congr h).1 hd)]
 ·rw [dupE_no hd, dupE_no (fun h2 => hd ((Twice.congr h).2 h2))]
theorem BunAt.congr {w : World} {v : Value} {nm : Int} {n : Nat} {I J : Nat → Int} {K M : Nat → Nat → Int} (h : BunAt w v nm n I K) (hI : ∀ j, j < n → I j = J j) (hK : ∀ j, j < n → ∀ i, i < 32 → K j i = M j i) : BunAt w v nm n J M := by
 obtain ⟨oa, c, e, hp⟩ := h
 refine ⟨oa, c, e, ?_⟩
 rcases hp with h0 | ⟨ad, ho, hl, hc⟩
 ·exact .inl h0
 ·refine .inr ⟨ad, ho, hl, fun j hj i hi => ?_⟩
  rw [hc j hj i hi, hI j hj]
  rcases Nat.eq_zero_or_pos i with rfl | hp
  ·rw [pkC_0, pkC_0]
  ·obtain ⟨q, rfl⟩ : ∃ q, i = 1 + q := ⟨i - 1, by omega⟩
   rw [pkC_k _ _ _ (by omega), pkC_k _ _ _ (by omega), hK j hj q (by omega)]
theorem bparse_any (S : ByteArray) (w : World) (hS : S.size ≤ 100000) :
  Calls Tryz.prog 10 #[.string S] w fun e w' => ∃ v u, e = .returned (.tuple #[v, u]) ∧ BunAt w' v (if pcE S = 0 then nmF S else 0) (if pcE S = 0 then pnN S else 0) (idF S) (pkF S) ∧ ErV w' u (pcE S) ∧ Below w.heap.size w w' := by
 have hbad : ∀ (E0 E1 : Int) (S1 : ByteArray), E0 = (if S.size < 8 then 1 else 0) → E1 ≠ 0 → tkS S E0 2 = S1 → hd3 (hd2 (tkE S E0 2) (beK (tkT S E0 2) (tkT S E0 2).size)) (beK (tkT S E0 2) (tkT S E0 2).size) 1 = E1 → pcE S = E1 →
   Calls Tryz.prog 10 #[.string S] w fun e w' => ∃ v u, e = .returned (.tuple #[v, u]) ∧ BunAt w' v (if pcE S = 0 then nmF S else 0) (if pcE S = 0 then pnN S else 0) (idF S) (pkF S) ∧ ErV w' u (pcE S) ∧ Below w.heap.size w w' := fun E0 E1 S1 h0 h1 hs he hp => by
  obtain ⟨a1, a2, a3⟩ := tk_bad (S := S1) (E := E1) 4 h1
  obtain ⟨b1, b2, b3⟩ := tk_bad (S := S1) (E := E1) 2 h1
  have hen : enE S1 E1 = E1 := by unfold enE; rw [if_neg (fun h => h1 h.1)]
  have z4 : beK (⟨#[]⟩ : ByteArray) (⟨#[]⟩ : ByteArray).size = 0 := rfl
  have := bparse_walk S S1 S1 S1 E0 E1 E1 E1 0 (pcE S) 0 (pkI S1 E1) (pkK S1 E1) w h0
   (fun g W hR => by have h := head_st 1 hR; rw [hs, he] at h; exact h)
   (fun g W hR => by
    have h := num_st 4 hR
    rw [show min (max (4 : Int) 0) 8 = 4 by decide, a1, a2, a3, z4] at h
    exact h)
   (fun g W hR => by
    have h := prekeys_few (N := 0) b2 b3 (by rw [b1]; rfl) hR (by decide)
    exact h)
   ⟨by decide, by decide⟩ (by decide) (fun j hj => by omega) (by rw [hen, if_neg h1, hp])
  refine this.mono ?_
  rintro e w' ⟨v, u, he, hB, hu, hb⟩
  rw [hp, if_neg h1, if_neg h1] at hB
  refine ⟨v, u, he, ?_, hu, hb⟩
  rw [hp, if_neg h1, if_neg h1]
  obtain ⟨oa, c, ev, -⟩ := hB
  exact ⟨oa, c, ev, .inl rfl⟩
 by_cases c1 : S.size < 8
 ·obtain ⟨a1, a2, a3⟩ := tk_bad (S := S) (E := 1) 2 (by decide)
  refine hbad 1 1 S (by rw [if_pos c1]) (by decide) a2 ?_ (by unfold pcE; rw [if_pos c1])
  rw [a1, a3]
  rfl
 obtain ⟨a1, a2, a3⟩ := tk_at S 0 2 (by omega)
 rw [ext_self] at a1 a2 a3
 have hb0 := byteAt_b S 0
 have hb1 := byteAt_b S 1
 have hV := beK_two S (by omega)
 have q1 : (byteAt S 0 * 256 + byteAt S 1) / 256 = byteAt S 0 := by omega
 have q2 : (byteAt S 0 * 256 + byteAt S 1) % 256 = byteAt S 1 := by omega
 have hE0 : (0 : Int) = if S.size < 8 then 1 else 0 := by rw [if_neg c1]
 have hH : hd3 (hd2 (tkE S 0 2) (beK (tkT S 0 2) (tkT S 0 2).size)) (beK (tkT S 0 2) (tkT S 0 2).size) 1 = if byteAt S 0 = 1 then (if byteAt S 1 = 1 then 0 else 14) else 3 := by
  rw [show (2 : Int) = ((2 : Nat) : Int) from rfl, a1, a3, hV]
  unfold hd3 hd2
  rw [q1, q2]
  by_cases h0 : byteAt S 0 = 1 <;> by_cases h1 : byteAt S 1 = 1 <;> simp [h0, h1]
 have hS1 : tkS S 0 2 = S.extract 2 S.size := by
  rw [show (2 : Int) = ((2 : Nat) : Int) from rfl, a2]
 by_cases c2 : byteAt S 0 = 1
 case neg =>
  refine hbad 0 3 _ hE0 (by decide) hS1 (by rw [hH, if_neg c2]) ?_
  unfold pcE; rw [if_neg c1, if_pos c2]
 by_cases c3 : byteAt S 1 = 1
 case neg =>
  refine hbad 0 14 _ hE0 (by decide) hS1 (by rw [hH, if_pos c2, if_neg c3]) ?_
  unfold pcE; rw [if_neg c1, if_neg (fun h => h c2), if_pos c3]
 rw [if_pos c2, if_pos c3] at hH
 obtain ⟨b1, b2, b3⟩ := tk_at S 2 4 (by omega)
 obtain ⟨d1, d2, d3⟩ := tk_at S 6 2 (by omega)
 obtain ⟨N, hN⟩ : ∃ N : Nat, pnI S = N := ⟨(pnI S).toNat, by have := pnI_bd S; omega⟩
 have hpN : pnN S = N := by unfold pnN; rw [hN]; rfl
 have cH : ∀ (g : Nat) (W : World), RdAt W g S 0 → Calls Tryz.prog 48 #[.pointer (some ⟨g, 0, none⟩), .int .u64 1] W fun e w' => e = .returned (.tuple #[]) ∧ RdAt w' g (S.extract 2 S.size) 0 ∧ Oth g W w' := fun g W hR => by
  have h := head_st 1 hR
  rw [hS1, hH] at h
  exact h
 have cN : ∀ (g : Nat) (W : World), RdAt W g (S.extract 2 S.size) 0 → Calls Tryz.prog 49 #[.pointer (some ⟨g, 0, none⟩), .int .i64 4] W fun e w' => e = .returned (.int .u64 (nmF S)) ∧ RdAt w' g (S.extract 6 S.size) 0 ∧ Oth g W w' := fun g W hR => by
  have h := num_st 4 hR
  rw [show min (max (4 : Int) 0) 8 = ((4 : Nat) : Int) by decide, b1, b2, b3] at h
  exact h
 have hPk : tkS (S.extract 6 S.size) 0 2 = S.extract 8 S.size := d2
 have hPe : tkE (S.extract 6 S.size) 0 2 = 0 := d3
 have hPv : beK (tkT (S.extract 6 S.size) 0 2) (tkT (S.extract 6 S.size) 0 2).size = (N : Int) := by
  rw [show (2 : Int) = ((2 : Nat) : Int) from rfl, d1]
  exact hN
 by_cases c4 : 64 < N
 ·have hp : pcE S = 18 := by unfold pcE; rw [if_neg c1, if_neg (fun h => h c2), if_neg (fun h => h c3), hN, if_pos (by omega)]
  have hen : enE (S.extract 8 S.size) 18 = 18 := by unfold enE; rw [if_neg (fun h => absurd h.1 (by decide))]
  have := bparse_walk S _ _ (S.extract 8 S.size) 0 0 0 18 (nmF S) (pcE S) 0 (idF S) (pkF S) w hE0 cH cN
   (fun g W hR => (prekeys_many 18 (by rw [if_pos rfl]) hPk hPe hPv hR c4).mono fun e w' ⟨e1, e2, e3⟩ => ⟨none, 0, e1, .inl rfl, fun ad h => (by cases h), e2, e3⟩)
   (nmF_bd S) (by decide) (fun j hj => by omega) (by rw [hen, if_neg (by decide), hp])
  refine this.mono ?_
  rintro e w' ⟨v, u, he, hB, hu, hb⟩
  refine ⟨v, u, he, ?_, hu, hb⟩
  rw [hp, if_neg (by decide), if_neg (by decide)] at hB ⊢
  exact hB
 have cP : ∀ (g : Nat) (W : World), RdAt W g (S.extract 6 S.size) 0 → Calls Tryz.prog 50 #[.pointer (some ⟨g, 0, none⟩)] W fun e w' => ∃ oa c, e = .returned (.slice oa N c) ∧ PkAt w' oa N (pkI (S.extract 8 S.size) 0) (pkK (S.extract 8 S.size) 0) ∧ (∀ ad, oa = some ad → W.heap.size ≤ ad.block ∧ ad.block < w'.heap.size) ∧ RdAt w' g (pkSt (S.extract 8 S.size) 0 N).1 (pkSt (S.extract 8 S.size) 0 N).2 ∧ Oth g W w' := fun g W hR => prekeys_few hPk hPe hPv hR (by omega)
 by_cases c5 : S.size < 8 + 36 * N
 ·have hp : pcE S = 1 := by unfold pcE; rw [if_neg c1, if_neg (fun h => h c2), if_neg (fun h => h c3), hN, if_neg (by omega), if_pos (by omega)]
  have hsh := pkSt_short S 8 (by omega) N c5
  rw [hsh] at cP
  have hen : enE (pkSt (S.extract 8 S.size) 0 N).1 1 = 1 := by unfold enE; rw [if_neg (fun h => absurd h.1 (by decide))]
  have := bparse_walk S _ _ _ 0 0 0 1 (nmF S) (pcE S) N (pkI (S.extract 8 S.size) 0) (pkK (S.extract 8 S.size) 0) w hE0 cH cN cP (nmF_bd S) (by omega) (fun j hj => pkI_bd _ _ _) (by rw [hen, if_neg (by decide), hp])
  refine this.mono ?_
  rintro e w' ⟨v, u, he, hB, hu, hb⟩
  refine ⟨v, u, he, ?_, hu, hb⟩
  rw [hp, if_neg (by decide), if_neg (by decide)] at hB ⊢
  obtain ⟨oa, c, ev, -⟩ := hB
  exact ⟨oa, c, ev, .inl rfl⟩
 have hI : ∀ j, j < N → pkI (S.extract 8 S.size) 0 j = idF S j := fun j hj => pkI_ok S 8 j (by omega)
 have hK : ∀ j, j < N → ∀ i, i < 32 → pkK (S.extract 8 S.size) 0 j i = pkF S j i := fun j hj i hi => pkK_ok S 8 j (by omega) i hi
 rw [pkSt_ok S 8 N (by omega)] at cP
 have hsz : (S.extract (8 + 36 * N) S.size).size = S.size - (8 + 36 * N) := by rw [ByteArray.size_extract]; omega
 have hX : pcE S = if enE (S.extract (8 + 36 * N) S.size) 0 = 0 then dupE (pkI (S.extract 8 S.size) 0) N else enE (S.extract (8 + 36 * N) S.size) 0 := by
  by_cases c6 : 8 + 36 * N < S.size
  ·have hen : enE (S.extract (8 + 36 * N) S.size) 0 = 2 := by unfold enE; rw [if_pos ⟨rfl, by rw [hsz]; omega⟩]
   rw [hen, if_neg (by decide)]
   unfold pcE; rw [if_neg c1, if_neg (fun h => h c2), if_neg (fun h => h c3), hN, if_neg (by omega), if_neg (by omega), if_pos (by omega)]
  ·have hen : enE (S.extract (8 + 36 * N) S.size) 0 = 0 := by unfold enE; rw [if_neg (fun h => h.2 (by rw [hsz]; omega))]
   rw [hen, if_pos rfl, dupE_congr hI]
   unfold pcE; rw [if_neg c1, if_neg (fun h => h c2), if_neg (fun h => h c3), hN, if_neg (by omega), if_neg (by omega), if_neg (by omega), hpN]
 have := bparse_walk S _ _ (S.extract (8 + 36 * N) S.size) 0 0 0 0 (nmF S) (pcE S) N (pkI (S.extract 8 S.size) 0) (pkK (S.extract 8 S.size) 0) w hE0 cH cN cP (nmF_bd S) (by omega) (fun j hj => pkI_bd _ _ _) hX
 refine this.mono ?_
 rintro e w' ⟨v, u, he, hB, hu, hb⟩
 refine ⟨v, u, he, ?_, hu, hb⟩
 rw [hpN]
 by_cases h0 : pcE S = 0
 ·rw [if_pos h0, if_pos h0] at hB ⊢
  exact hB.congr hI hK
 ·rw [if_neg h0, if_neg h0] at hB ⊢
  obtain ⟨oa, c, ev, -⟩ := hB
  exact ⟨oa, c, ev, .inl rfl⟩
end Go.Proofs.YtnjghcnhcbobhaaGreatDoor
namespace Go.Proofs.YtnjghcnhcbobhaaGreatDoor
open Go.RowKit Go.Extern
set_option linter.unusedVariables false
set_option linter.unusedSimpArgs false
def WSh (u : Value) : Prop := ∃ g : Nat, u = .agg #[.pointer (some ⟨g, 0, none⟩)]
def PcW (l : List ByteArray) (u : Value) (w : World) : Prop := ∀ v, u = .agg #[v] → Pcs w l v
theorem stab_pcw (l : List ByteArray) (u : Value) : Stab (PcW l u) none := fun w w' h e v hu => (h v hu).later e
theorem stab_pcw_at (l : List ByteArray) (u : Value) (g' : Nat) : Stab (PcW l u) (some (g', 99)) := fun w w' h ⟨old, cs', t', h1, ⟨_, h2⟩, e⟩ v hu => by
 subst e
 subst h2
 exact (h v hu).put h1 (by decide) _
theorem by_fitsP9 {P : Prop} (h : P := by first | exact by_fits | ((repeat (refine fits_cons ⟨by (first | exact stab_hdr_at _ _ _ _ | exact stab_pcw_at _ _ _ | exact stab_pcw _ _ | exact stab_hdr _ _ _ | exact stab_full _ _ _), by (first | exact stab_hdr_at _ _ _ _ | exact stab_pcw_at _ _ _ | exact stab_pcw _ _ | exact stab_hdr _ _ _ | exact stab_full _ _ _)⟩ ?_)); exact fits_nil (by (first | exact stab_hdr_at _ _ _ _ | exact stab_pcw_at _ _ _ | exact stab_pcw _ _ | exact stab_hdr _ _ _ | exact stab_full _ _ _)))) : P := h
theorem zero_writer9 (w : World) : (zeroValue 99).run Tryz.prog w = .ok (.agg #[.pointer none]) w := by kernel_rfl
@[go_sem] theorem none_writer (w : World) : (noneNext 99).run Tryz.prog w = .ok (.value (.agg #[.pointer none])) w := by kernel_rfl
def headF (nm : Int) (n : Int) : Nat → ByteArray
 | 0 => numB 1 1
 | 1 => numB 1 1
 | 2 => numB 4 nm
 | _ => numB 2 n
theorem bwrite_nil (nm : Int) (w : World) (h0 : 0 ≤ nm) (h1 : nm < 4294967296) :
  Calls Tryz.prog 9 #[.agg #[.int .u32 nm, .slice none 0 0]] w fun e w' => e = .returned (.tuple #[.string (catS (headF nm 0) 4), .nilIface]) ∧ Below w.heap.size w w' := by
 go_enter Tryz.func9, Tryz.ntmps9
 go_wp2_with fail
 have fb : objAt (w.alloc (.cells #[.int .u32 nm, .slice none 0 0] 25)) w.heap.size = some (.cells #[.int .u32 nm, .slice none 0 0] 25) := objAt_alloc_at _ _ _ rfl
 have hG : Below w.heap.size w (w.alloc (.cells #[.int .u32 nm, .slice none 0 0] 25)) := Grew.alloc (Grew.refl _) _
 generalize w.alloc (.cells #[.int .u32 nm, .slice none 0 0] 25) = w1 at *
 refine (bcheck_any nm none 0 0 (fun _ => 0) (fun _ _ => 0) _ (.inl rfl) (by decide) (fun j hj => by omega) (fun _ ad e => by cases e)).mono ?_
 rintro e w2 ⟨u, rfl, hu, hb⟩
 rw [if_neg (by decide), dupE_no (fun ⟨i, hi, _⟩ => by omega)] at hu
 replace fb := keep_below hb fb
 replace hG := Grew.trans hG hb
 clear hb
 rcases hu with ⟨-, rfl⟩ | ⟨h9, -⟩
 case inr => exact absurd rfl h9
 have lb := lt_of_objAt fb
 have hw1 : IntKind.u64.wrap nm = nm := by rw [IntKind.wrap_u64]; omega
 go_wp2_with fail
 refine wp_relv (fun k => k == 1 || k == 2 || k == 6 || k == 11) (fun k => match k with | 1 => fun u => WSh u | 2 => fun u => WSh u | 6 => fun u => WSh u | 11 => fun u => WSh u | _ => fun _ => True) (fun k => match k with | 1 => fun u w => PcW [numB 1 1] u w | 2 => fun u w => PcW [numB 1 1, numB 1 1] u w | 6 => fun u w => PcW [numB 4 nm, numB 1 1, numB 1 1] u w | 11 => fun u w => PcW [numB 2 0, numB 4 nm, numB 1 1, numB 1 1] u w | _ => fun _ _ => True) (fun k => match k with | 1 => .agg #[.pointer (some ⟨0, 0, none⟩)] | 2 => .agg #[.pointer (some ⟨0, 0, none⟩)] | 6 => .agg #[.pointer (some ⟨0, 0, none⟩)] | 11 => .agg #[.pointer (some ⟨0, 0, none⟩)] | _ => undef) (fun i hi => ?_) (by kernel_rfl) (by kernel_rfl) ?_
 ·simp only [Bool.or_eq_true, beq_iff_eq] at hi
  rcases hi with ((rfl | rfl) | rfl) | rfl
  ·exact ⟨0, rfl⟩
  ·exact ⟨0, rfl⟩
  ·exact ⟨0, rfl⟩
  ·exact ⟨0, rfl⟩
 (first | refine exv_skip rfl ?_ | (refine exv_call rfl ?_; apply Exists.intro))
 refine exv_call rfl ⟨undef, ?_⟩
 refine exv_call rfl ⟨undef, ?_⟩
 iterate 3 (first | refine exv_skip rfl ?_ | (refine exv_call rfl ?_; apply Exists.intro))
 refine exv_call rfl ⟨undef, ?_⟩
 iterate 4 (first | refine exv_skip rfl ?_ | (refine exv_call rfl ?_; apply Exists.intro))
 refine exv_call rfl ⟨undef, ?_⟩
 iterate 2 (first | refine exv_skip rfl ?_ | (refine exv_call rfl ?_; apply Exists.intro))
 refine exv_nil ?_
 intro γ gv hsv hinj hbase
 obtain ⟨g1, e1⟩ := hsv 1 rfl
 obtain ⟨g2, e2⟩ := hsv 2 rfl
 obtain ⟨g3, e3⟩ := hsv 6 rfl
 obtain ⟨g4, e4⟩ := hsv 11 rfl
 (repeat (first | (refine rel_quiet rfl ?_; ((first | go_big_quiet_skip | (go_big_quiet_want; go_big_quiet_op; go_big_quiet_on)); refine wpQuiet_nil ?_)) | ((first | refine rel_skip_some rfl (fun _ => rfl) ?_ | (apply rel_fact; (focus rfl); (focus rfl); (focus rfl); (focus (intro W hC hF; (skip); go_big_quiet_want; go_big_quiet_op; (first | go_big_quiet_on | (apply Exists.intro; refine ⟨fun _ => ?_, ?_⟩; (focus ((fail))); go_big_quiet_on)); exact wpQuiet_nil rfl)); (focus (first | exact fun _ => ⟨rfl, rfl⟩ | exact fun h => absurd h (by decide))))); ((first | go_big_quiet_skip | (go_big_quiet_want; go_big_quiet_op; go_big_quiet_on)); refine wpQuiet_nil ?_)) | refine rel_skip_none rfl (fun _ => rfl) ?_))
 refine rel_callv #[.agg #[.pointer none], .int .i64 1, .int .u64 1] (enters_of Tryz.func42 (by kernel_rfl) rfl) rfl e1 rfl rfl rfl rfl (by exact by_fitsP9) (by first | kernel_rfl | simp [go_sem]) ?_ ?_
 ·intro W hC hF
  obtain ⟨mm, rfl⟩ := hC
  refine (wnum_any 1 1 none _ (by omega) (by omega)).mono ?_
  rintro e w9 ⟨g, rfl, fg, hb9⟩
  exact ⟨_, rfl, ⟨g, rfl⟩, (fun v ev => by cases ev; exact ⟨g, _, rfl, fg, rfl⟩), hb9⟩
 ((first | go_big_quiet_skip | (go_big_quiet_want; go_big_quiet_op; go_big_quiet_on)); refine wpQuiet_nil ?_)
 (repeat (first | (refine rel_quiet rfl ?_; ((first | go_big_quiet_skip | (go_big_quiet_want; go_big_quiet_op; go_big_quiet_on)); refine wpQuiet_nil ?_)) | ((first | refine rel_skip_some rfl (fun _ => rfl) ?_ | (apply rel_fact; (focus rfl); (focus rfl); (focus rfl); (focus (intro W hC hF; (skip); go_big_quiet_want; go_big_quiet_op; (first | go_big_quiet_on | (apply Exists.intro; refine ⟨fun _ => ?_, ?_⟩; (focus ((fail))); go_big_quiet_on)); exact wpQuiet_nil rfl)); (focus (first | exact fun _ => ⟨rfl, rfl⟩ | exact fun h => absurd h (by decide))))); ((first | go_big_quiet_skip | (go_big_quiet_want; go_big_quiet_op; go_big_quiet_on)); refine wpQuiet_nil ?_)) | refine rel_skip_none rfl (fun _ => rfl) ?_))
 refine rel_callv #[.agg #[.pointer (some ⟨g1, 0, none⟩)], .int .i64 1, .int .u64 1] (enters_of Tryz.func42 (by kernel_rfl) rfl) rfl e2 rfl rfl rfl rfl (by exact by_fitsP9) (by first | kernel_rfl | simp [go_sem]) ?_ ?_
 ·intro W hC hF
  obtain ⟨mm, rfl⟩ := hC
  have hE0 : PcW [numB 1 1] (.agg #[.pointer (some ⟨g1, 0, none⟩)]) (more w2 mm) := known hF (List.mem_cons_self ..) (by decide +kernel)
  refine (wnum_any 1 1 (some ⟨g1, 0, none⟩) _ (by omega) (by omega)).mono ?_
  rintro e w9 ⟨g, rfl, fg, hb9⟩
  exact ⟨_, rfl, ⟨g, rfl⟩, (fun v ev => by cases ev; exact ⟨g, _, rfl, fg, (hE0 _ rfl).later hb9⟩), hb9⟩
 ((first | go_big_quiet_skip | (go_big_quiet_want; go_big_quiet_op; go_big_quiet_on)); refine wpQuiet_nil ?_)
 (repeat (first | (refine rel_quiet rfl ?_; ((first | go_big_quiet_skip | (go_big_quiet_want; go_big_quiet_op; go_big_quiet_on)); refine wpQuiet_nil ?_)) | ((first | refine rel_skip_some rfl (fun _ => rfl) ?_ | (apply rel_fact; (focus rfl); (focus rfl); (focus rfl); (focus (intro W hC hF; (skip); go_big_quiet_want; go_big_quiet_op; (first | go_big_quiet_on | (apply Exists.intro; refine ⟨fun _ => ?_, ?_⟩; (focus ((fail))); go_big_quiet_on)); exact wpQuiet_nil rfl)); (focus (first | exact fun _ => ⟨rfl, rfl⟩ | exact fun h => absurd h (by decide))))); ((first | go_big_quiet_skip | (go_big_quiet_want; go_big_quiet_op; go_big_quiet_on)); refine wpQuiet_nil ?_)) | refine rel_skip_none rfl (fun _ => rfl) ?_))
 refine rel_callv #[.agg #[.pointer (some ⟨g2, 0, none⟩)], .int .i64 4, .int .u64 nm] (enters_of Tryz.func42 (by kernel_rfl) rfl) rfl e3 rfl rfl rfl rfl (by exact by_fitsP9) (by first | kernel_rfl | simp [go_sem]) ?_ ?_
 ·intro W hC hF
  obtain ⟨mm, rfl⟩ := hC
  have hE0 : PcW [numB 1 1, numB 1 1] (.agg #[.pointer (some ⟨g2, 0, none⟩)]) (more w2 mm) := known hF (List.mem_cons_self ..) (by decide +kernel)
  refine (wnum_any 4 nm (some ⟨g2, 0, none⟩) _ (by omega) (by omega)).mono ?_
  rintro e w9 ⟨g, rfl, fg, hb9⟩
  exact ⟨_, rfl, ⟨g, rfl⟩, (fun v ev => by cases ev; exact ⟨g, _, rfl, fg, (hE0 _ rfl).later hb9⟩), hb9⟩
 ((first | go_big_quiet_skip | (go_big_quiet_want; go_big_quiet_op; go_big_quiet_on)); refine wpQuiet_nil ?_)
 (repeat (first | (refine rel_quiet rfl ?_; ((first | go_big_quiet_skip | (go_big_quiet_want; go_big_quiet_op; go_big_quiet_on)); refine wpQuiet_nil ?_)) | ((first | refine rel_skip_some rfl (fun _ => rfl) ?_ | (apply rel_fact; (focus rfl); (focus rfl); (focus rfl); (focus (intro W hC hF; (skip); go_big_quiet_want; go_big_quiet_op; (first | go_big_quiet_on | (apply Exists.intro; refine ⟨fun _ => ?_, ?_⟩; (focus ((fail))); go_big_quiet_on)); exact wpQuiet_nil rfl)); (focus (first | exact fun _ => ⟨rfl, rfl⟩ | exact fun h => absurd h (by decide))))); ((first | go_big_quiet_skip | (go_big_quiet_want; go_big_quiet_op; go_big_quiet_on)); refine wpQuiet_nil ?_)) | refine rel_skip_none rfl (fun _ => rfl) ?_))
 refine rel_callv #[.agg #[.pointer (some ⟨g3, 0, none⟩)], .int .i64 2, .int .u64 0] (enters_of Tryz.func42 (by kernel_rfl) rfl) rfl e4 rfl rfl rfl rfl (by exact by_fitsP9) (by first | kernel_rfl | simp [go_sem]) ?_ ?_
 ·intro W hC hF
  obtain ⟨mm, rfl⟩ := hC
  have hE0 : PcW [numB 4 nm, numB 1 1, numB 1 1] (.agg #[.pointer (some ⟨g3, 0, none⟩)]) (more w2 mm) := known hF (List.mem_cons_self ..) (by decide +kernel)
  refine (wnum_any 2 0 (some ⟨g3, 0, none⟩) _ (by omega) (by omega)).mono ?_
  rintro e w9 ⟨g, rfl, fg, hb9⟩
  exact ⟨_, rfl, ⟨g, rfl⟩, (fun v ev => by cases ev; exact ⟨g, _, rfl, fg, (hE0 _ rfl).later hb9⟩), hb9⟩
 ((first | go_big_quiet_skip | (go_big_quiet_want; go_big_quiet_op; go_big_quiet_on)); refine wpQuiet_nil ?_)
 (repeat (first | (refine rel_quiet rfl ?_; ((first | go_big_quiet_skip | (go_big_quiet_want; go_big_quiet_op; go_big_quiet_on)); refine wpQuiet_nil ?_)) | ((first | refine rel_skip_some rfl (fun _ => rfl) ?_ | ((try simp only [Nat.zero_add, Nat.reduceAdd]); apply rel_alloc _ _ alloc_cls; (focus rfl); (focus (intro W; (first | exact zero_key _ | exact zero_elem _ | exact zero_num _ | exact zero_pair _ | exact zero_rnode _ | exact zero_kpair _ | exact zero_writer9 _))); (focus (first | exact cells_ints _ _ _ | exact cells_two _ _ | rfl)); (focus (exact by_fitsP9))) | (apply rel_fact; (focus rfl); (focus rfl); (focus rfl); (focus (intro W hC hF; (skip); go_big_quiet_want; go_big_quiet_op; (first | go_big_quiet_on | (apply Exists.intro; refine ⟨fun _ => ?_, ?_⟩; (focus ((fail))); go_big_quiet_on)); exact wpQuiet_nil rfl)); (focus (first | exact fun _ => ⟨rfl, rfl⟩ | exact fun h => absurd h (by decide))))); ((first | go_big_quiet_skip | (go_big_quiet_want; go_big_quiet_op; go_big_quiet_on)); refine wpQuiet_nil ?_)) | refine rel_skip_none rfl (fun _ => rfl) ?_ | ((try simp only [Nat.zero_add, Nat.reduceAdd]); apply rel_store (setRow_cls (hbase _)); (focus rfl); (focus rfl); (focus rfl); (focus (first | exact cells_agg _ | exact cells_int _ _ | exact cells_bool _ | rfl)); rotate_left 3; (focus (exact by_mem)); rotate_right 3; (focus kernel_rfl); (focus (first | exact ints_size _ _ _ | rfl)); (focus (first | exact ints_ones _ _ _ | exact ones_two _ _ _ _ | kernel_rfl)); (focus (decide +kernel)); (focus (exact by_fitsP9)))))
 (refine rel_nil ?_; rintro _ ⟨mq, rfl⟩ hF; simp only [List.forall_mem_cons] at hF; obtain ⟨fv, -, f4, -⟩ := hF)
 have hP := f4 _ rfl
 replace hG := Grew.more hG mq
 replace fv : objAt (more w2 mq) (γ 12) = some (.cells #[.pointer (some ⟨g4, 0, none⟩)] 99) := fv
 replace fb := keep_more mq fb
 replace hP := hid1 hP
 clear f4 hinj hbase hsv e1 e2 e3 e4 lb
 generalize γ 12 = gv5 at *
 generalize more w2 mq = w3 at *
 clear γ
 have lb := lt_of_objAt fb
 have lv := lt_of_objAt fv
 have cT := fun (W : World) (hb : Below w3.heap.size w3 W) => wtext_rev (headF nm 0) 4 (.pointer (some ⟨g4, 0, none⟩)) W (hP.out.later hb) (by decide) (by
  show (ByteArray.empty ++ numB 1 1 ++ numB 1 1 ++ numB 4 nm ++ numB 2 0).size + 4 ≤ _
  simp only [ByteArray.size_append, numB_size]
  decide)
 generalize hTX : catS (headF nm 0) 4 = TX at *
 go_wp2_with fail
 go_loopw [28] (fun i wr => i = .int .i64 0 ∧ wr = w3) (fun _ _ => 0)
 case atStart => exact ⟨rfl, rfl⟩
 case round =>
  obtain ⟨rfl, rfl⟩ := hrel
  go_wp2_with fail
  refine (cT _ (Grew.refl _)).mono ?_
  rintro e w4 ⟨rfl, hb⟩
  replace hG := Grew.trans hG hb
  go_wp2
  refine ⟨rfl, .tuple #[.string TX, .nilIface], ?_, by first | rfl | rw [hTX], hG⟩
  first | rfl | kernel_rfl | simp [go_sem, results]
theorem Awake16_any (aw : ∀ W : World, Tabs W → EtAt W → Calls Tryz.prog 85 #[] W fun e w' => e = .returned (.bool true) ∧ Below W.heap.size W w') (w : World) (hT : Tabs w) (hE : EtAt w) :
  Calls Tryz.prog 40 #[] w fun e w' => e = .returned (.bool true) ∧ Below w.heap.size w w' := by
 go_enter Tryz.func40, Tryz.ntmps40
 go_wp2_with fail
 refine (aw _ hT hE).mono ?_
 rintro e w2 ⟨rfl, hb⟩
 go_wp2
 go_ret
 exact ⟨rfl, hb⟩
theorem awake17_any (aw : ∀ W : World, Tabs W → EtAt W → Calls Tryz.prog 40 #[] W fun e w' => e = .returned (.bool true) ∧ Below W.heap.size W w') (w : World) (hT : Tabs w) (hE : EtAt w) :
  Calls Tryz.prog 8 #[] w fun e w' => e = .returned (.bool true) ∧ Below w.heap.size w w' := by
 go_enter Tryz.func8, Tryz.ntmps8
 have ht : catS (headF 7 0) 4 = ⟨#[1, 1, 0, 0, 0, 7, 0, 0]⟩ := by decide +kernel
 have cB := fun W => bwrite_nil 7 W (by decide) (by decide)
 rw [ht] at cB
 clear ht
 go_wp2_with fail
 refine (cB _).mono ?_
 rintro e w1 ⟨rfl, hG⟩
 go_wp2_with fail
 refine (aw _ (hT.later hG) (hE.later hG)).mono ?_
 rintro e w2 ⟨rfl, hb⟩
 have hG2 := Grew.trans hG hb
 go_wp2
 go_ret
 exact ⟨rfl, hG2⟩
end Go.Proofs.YtnjghcnhcbobhaaGreatDoor
namespace Go.Proofs.YtnjghcnhcbobhaaGreatDoor
open Go.RowKit Go.Extern
set_option linter.unusedVariables false
set_option linter.unusedSimpArgs false
attribute [local go_sem high] byteAt_in
theorem stab_pk (nm : Int) (n : Nat) (I : Nat → Int) (K : Nat → Nat → Int) (u : Value) : Stab (fun w => ∀ oa c, u = .agg #[.int .u32 nm, .slice oa n c] → PkAt w oa n I K) none := fun w w' h e oa c hu => (h oa c hu).later e
end Go.Proofs.YtnjghcnhcbobhaaGreatDoor
namespace Go.Proofs.YtnjghcnhcbobhaaGreatDoor
open Go.RowKit Go.Extern
set_option linter.unusedVariables false
set_option linter.unusedSimpArgs false
def bwF (nm : Int) (n : Nat) (I : Nat → Int) (K : Nat → Nat → Int) : Nat → ByteArray
 | 0 => numB 1 1
 | 1 => numB 1 1
 | 2 => numB 4 nm
 | 3 => numB 2 (n : Int)
 | j + 4 => if j % 2 = 0 then numB 4 (I (j / 2)) else keysB (fun _ => K (j / 2)) 1
theorem k32_one {W : World} {g : Nat} {y : Nat → Int} (h : Full g (ints .u8 32 y) 44 W) : K32At W (some ⟨g, 0, none⟩) 1 (fun _ => y) := k32_of_row (n := 1) h (by decide) (fun j hj i hi => by
 obtain rfl : j = 0 := by omega
 rw [Nat.zero_mul, Nat.zero_add])
theorem bwF_even (nm : Int) (n : Nat) (I : Nat → Int) (K : Nat → Nat → Int) (k : Nat) : bwF nm n I K (4 + 2 * k) = numB 4 (I k) := by
 rw [show 4 + 2 * k = 2 * k + 4 by omega]
 show (if (2 * k) % 2 = 0 then _ else _) = _
 rw [if_pos (by omega), show 2 * k / 2 = k by omega]
theorem bwF_odd (nm : Int) (n : Nat) (I : Nat → Int) (K : Nat → Nat → Int) (k : Nat) : bwF nm n I K (4 + 2 * k + 1) = keysB (fun _ => K k) 1 := by
 rw [show 4 + 2 * k + 1 = (2 * k + 1) + 4 by omega]
 show (if (2 * k + 1) % 2 = 0 then _ else _) = _
 rw [if_neg (by omega), show (2 * k + 1) / 2 = k by omega]
theorem bwF_rev (nm : Int) (n : Nat) (I : Nat → Int) (K : Nat → Nat → Int) (k : Nat) : revL (bwF nm n I K) (4 + 2 * (k + 1)) = keysB (fun _ => K k) 1 :: numB 4 (I k) :: revL (bwF nm n I K) (4 + 2 * k) := by
 rw [show 4 + 2 * (k + 1) = 4 + 2 * k + 1 + 1 by omega]
 show bwF nm n I K (4 + 2 * k + 1) :: bwF nm n I K (4 + 2 * k) :: _ = _
 rw [bwF_odd, bwF_even]
theorem bwF_four (nm : Int) (n : Nat) (I : Nat → Int) (K : Nat → Nat → Int) : revL (bwF nm n I K) (4 + 2 * 0) = [numB 2 (n : Int), numB 4 nm, numB 1 1, numB 1 1] := rfl
theorem bwF_size (nm : Int) (n : Nat) (I : Nat → Int) (K : Nat → Nat → Int) : ∀ k, (catS (bwF nm n I K) (4 + 2 * k)).size = 8 + 36 * k
 | 0 => by
  show (ByteArray.empty ++ numB 1 1 ++ numB 1 1 ++ numB 4 nm ++ numB 2 (n : Int)).size = _
  simp only [ByteArray.size_append, numB_size]
  rfl
 | k + 1 => by
  rw [show 4 + 2 * (k + 1) = 4 + 2 * k + 1 + 1 by omega]
  show (catS (bwF nm n I K) (4 + 2 * k) ++ bwF nm n I K (4 + 2 * k) ++ bwF nm n I K (4 + 2 * k + 1)).size = _
  rw [ByteArray.size_append, ByteArray.size_append, bwF_size nm n I K k, bwF_odd, bwF_even, keysB_size, numB_size]
  omega
theorem bwrite_any (nm : Int) (oa : Option Addr) (n c : Nat) (I : Nat → Int) (K : Nat → Nat → Int) (w : World) (h0 : 0 ≤ nm) (h1 : nm < 4294967296) (hP : PkAt w oa n I K) (hn : n ≤ 64) (hI : ∀ j, j < n → 0 ≤ I j ∧ I j < 4294967296) (hK : ∀ j, j < n → Bytes 32 (K j)) (hd : dupE I n = 0) :
  Calls Tryz.prog 9 #[.agg #[.int .u32 nm, .slice oa n c]] w fun e w' => e = .returned (.tuple #[.string (catS (bwF nm n I K) (4 + 2 * n)), .nilIface]) ∧ Below w.heap.size w w' := by
 have hoa : 0 < n → ∀ ad, oa = some ad → ad.block < w.heap.size := fun h ad e => by obtain ⟨ad', e', hl⟩ := hP.blk h; rw [e] at e'; cases e'; exact hl
 have HP : Hid (PkAt w oa n I K) := hP
 have hIK := hid1 (And.intro hI hK)
 clear hP
 go_enter Tryz.func9, Tryz.ntmps9
 go_wp2_with fail
 have fb : objAt (w.alloc (.cells #[.int .u32 nm, .slice oa n c] 25)) w.heap.size = some (.cells #[.int .u32 nm, .slice oa n c] 25) := objAt_alloc_at _ _ _ rfl
 have hG : Below w.heap.size w (w.alloc (.cells #[.int .u32 nm, .slice oa n c] 25)) := Grew.alloc (Grew.refl _) _
 have hoa1 : 0 < n → ∀ ad, oa = some ad → ad.block < (w.alloc (.cells #[.int .u32 nm, .slice oa n c] 25)).heap.size := fun h ad e => Nat.lt_of_lt_of_le (hoa h ad e) hG.size
 generalize w.alloc (.cells #[.int .u32 nm, .slice oa n c] 25) = w1 at *
 refine (bcheck_any nm oa n c I K _ (HP.out.later hG) (by omega) hI hoa1).mono ?_
 rintro e w2 ⟨u, rfl, hu, hb⟩
 rw [if_neg (by omega), hd] at hu
 replace fb := keep_below hb fb
 replace hG := Grew.trans hG hb
 clear hb hoa1 hoa hI hK
 rcases hu with ⟨-, rfl⟩ | ⟨h9, -⟩
 case inr => exact absurd rfl h9
 have lb := lt_of_objAt fb
 have hw1 : IntKind.u64.wrap nm = nm := by rw [IntKind.wrap_u64]; omega
 have hw2 : IntKind.u64.wrap (n : Int) = (n : Int) := by rw [IntKind.wrap_u64]; omega
 go_wp2_with fail
 refine wp_relv (fun k => k == 1 || k == 2 || k == 6 || k == 11) (fun k => match k with | 1 => fun u => WSh u | 2 => fun u => WSh u | 6 => fun u => WSh u | 11 => fun u => WSh u | _ => fun _ => True) (fun k => match k with | 1 => fun u w => PcW [numB 1 1] u w | 2 => fun u w => PcW [numB 1 1, numB 1 1] u w | 6 => fun u w => PcW [numB 4 nm, numB 1 1, numB 1 1] u w | 11 => fun u w => PcW [numB 2 (n : Int), numB 4 nm, numB 1 1, numB 1 1] u w | _ => fun _ _ => True) (fun k => match k with | 1 => .agg #[.pointer (some ⟨0, 0, none⟩)] | 2 => .agg #[.pointer (some ⟨0, 0, none⟩)] | 6 => .agg #[.pointer (some ⟨0, 0, none⟩)] | 11 => .agg #[.pointer (some ⟨0, 0, none⟩)] | _ => undef) (fun i hi => ?_) (by kernel_rfl) (by kernel_rfl) ?_
 ·simp only [Bool.or_eq_true, beq_iff_eq] at hi
  rcases hi with ((rfl | rfl) | rfl) | rfl
  ·exact ⟨0, rfl⟩
  ·exact ⟨0, rfl⟩
  ·exact ⟨0, rfl⟩
  ·exact ⟨0, rfl⟩
 (first | refine exv_skip rfl ?_ | (refine exv_call rfl ?_; apply Exists.intro))
 refine exv_call rfl ⟨undef, ?_⟩
 refine exv_call rfl ⟨undef, ?_⟩
 iterate 3 (first | refine exv_skip rfl ?_ | (refine exv_call rfl ?_; apply Exists.intro))
 refine exv_call rfl ⟨undef, ?_⟩
 iterate 4 (first | refine exv_skip rfl ?_ | (refine exv_call rfl ?_; apply Exists.intro))
 refine exv_call rfl ⟨undef, ?_⟩
 iterate 2 (first | refine exv_skip rfl ?_ | (refine exv_call rfl ?_; apply Exists.intro))
 refine exv_nil ?_
 intro γ gv hsv hinj hbase
 obtain ⟨g1, e1⟩ := hsv 1 rfl
 obtain ⟨g2, e2⟩ := hsv 2 rfl
 obtain ⟨g3, e3⟩ := hsv 6 rfl
 obtain ⟨g4, e4⟩ := hsv 11 rfl
 (repeat (first | (refine rel_quiet rfl ?_; ((first | go_big_quiet_skip | (go_big_quiet_want; go_big_quiet_op; go_big_quiet_on)); refine wpQuiet_nil ?_)) | ((first | refine rel_skip_some rfl (fun _ => rfl) ?_ | (apply rel_fact; (focus rfl); (focus rfl); (focus rfl); (focus (intro W hC hF; (skip); go_big_quiet_want; go_big_quiet_op; (first | go_big_quiet_on | (apply Exists.intro; refine ⟨fun _ => ?_, ?_⟩; (focus ((fail))); go_big_quiet_on)); exact wpQuiet_nil rfl)); (focus (first | exact fun _ => ⟨rfl, rfl⟩ | exact fun h => absurd h (by decide))))); ((first | go_big_quiet_skip | (go_big_quiet_want; go_big_quiet_op; go_big_quiet_on)); refine wpQuiet_nil ?_)) | refine rel_skip_none rfl (fun _ => rfl) ?_))
 refine rel_callv #[.agg #[.pointer none], .int .i64 1, .int .u64 1] (enters_of Tryz.func42 (by kernel_rfl) rfl) rfl e1 rfl rfl rfl rfl (by exact by_fitsP9) (by first | kernel_rfl | simp [go_sem]) ?_ ?_
 ·intro W hC hF
  obtain ⟨mm, rfl⟩ := hC
  refine (wnum_any 1 1 none _ (by omega) (by omega)).mono ?_
  rintro e w9 ⟨g, rfl, fg, hb9⟩
  exact ⟨_, rfl, ⟨g, rfl⟩, (fun v ev => by cases ev; exact ⟨g, _, rfl, fg, rfl⟩), hb9⟩
 ((first | go_big_quiet_skip | (go_big_quiet_want; go_big_quiet_op; go_big_quiet_on)); refine wpQuiet_nil ?_)
 (repeat (first | (refine rel_quiet rfl ?_; ((first | go_big_quiet_skip | (go_big_quiet_want; go_big_quiet_op; go_big_quiet_on)); refine wpQuiet_nil ?_)) | ((first | refine rel_skip_some rfl (fun _ => rfl) ?_ | (apply rel_fact; (focus rfl); (focus rfl); (focus rfl); (focus (intro W hC hF; (skip); go_big_quiet_want; go_big_quiet_op; (first | go_big_quiet_on | (apply Exists.intro; refine ⟨fun _ => ?_, ?_⟩; (focus ((fail))); go_big_quiet_on)); exact wpQuiet_nil rfl)); (focus (first | exact fun _ => ⟨rfl, rfl⟩ | exact fun h => absurd h (by decide))))); ((first | go_big_quiet_skip | (go_big_quiet_want; go_big_quiet_op; go_big_quiet_on)); refine wpQuiet_nil ?_)) | refine rel_skip_none rfl (fun _ => rfl) ?_))
 refine rel_callv #[.agg #[.pointer (some ⟨g1, 0, none⟩)], .int .i64 1, .int .u64 1] (enters_of Tryz.func42 (by kernel_rfl) rfl) rfl e2 rfl rfl rfl rfl (by exact by_fitsP9) (by first | kernel_rfl | simp [go_sem]) ?_ ?_
 ·intro W hC hF
  obtain ⟨mm, rfl⟩ := hC
  have hE0 : PcW [numB 1 1] (.agg #[.pointer (some ⟨g1, 0, none⟩)]) (more w2 mm) := known hF (List.mem_cons_self ..) (by decide +kernel)
  refine (wnum_any 1 1 (some ⟨g1, 0, none⟩) _ (by omega) (by omega)).mono ?_
  rintro e w9 ⟨g, rfl, fg, hb9⟩
  exact ⟨_, rfl, ⟨g, rfl⟩, (fun v ev => by cases ev; exact ⟨g, _, rfl, fg, (hE0 _ rfl).later hb9⟩), hb9⟩
 ((first | go_big_quiet_skip | (go_big_quiet_want; go_big_quiet_op; go_big_quiet_on)); refine wpQuiet_nil ?_)
 (repeat (first | (refine rel_quiet rfl ?_; ((first | go_big_quiet_skip | (go_big_quiet_want; go_big_quiet_op; go_big_quiet_on)); refine wpQuiet_nil ?_)) | ((first | refine rel_skip_some rfl (fun _ => rfl) ?_ | (apply rel_fact; (focus rfl); (focus rfl); (focus rfl); (focus (intro W hC hF; (skip); go_big_quiet_want; go_big_quiet_op; (first | go_big_quiet_on | (apply Exists.intro; refine ⟨fun _ => ?_, ?_⟩; (focus ((fail))); go_big_quiet_on)); exact wpQuiet_nil rfl)); (focus (first | exact fun _ => ⟨rfl, rfl⟩ | exact fun h => absurd h (by decide))))); ((first | go_big_quiet_skip | (go_big_quiet_want; go_big_quiet_op; go_big_quiet_on)); refine wpQuiet_nil ?_)) | refine rel_skip_none rfl (fun _ => rfl) ?_))
 refine rel_callv #[.agg #[.pointer (some ⟨g2, 0, none⟩)], .int .i64 4, .int .u64 nm] (enters_of Tryz.func42 (by kernel_rfl) rfl) rfl e3 rfl rfl rfl rfl (by exact by_fitsP9) (by first | kernel_rfl | simp [go_sem]) ?_ ?_
 ·intro W hC hF
  obtain ⟨mm, rfl⟩ := hC
  have hE0 : PcW [numB 1 1, numB 1 1] (.agg #[.pointer (some ⟨g2, 0, none⟩)]) (more w2 mm) := known hF (List.mem_cons_self ..) (by decide +kernel)
  refine (wnum_any 4 nm (some ⟨g2, 0, none⟩) _ (by omega) (by omega)).mono ?_
  rintro e w9 ⟨g, rfl, fg, hb9⟩
  exact ⟨_, rfl, ⟨g, rfl⟩, (fun v ev => by cases ev; exact ⟨g, _, rfl, fg, (hE0 _ rfl).later hb9⟩), hb9⟩
 ((first | go_big_quiet_skip | (go_big_quiet_want; go_big_quiet_op; go_big_quiet_on)); refine wpQuiet_nil ?_)
 (repeat (first | (refine rel_quiet rfl ?_; ((first | go_big_quiet_skip | (go_big_quiet_want; go_big_quiet_op; go_big_quiet_on)); refine wpQuiet_nil ?_)) | ((first | refine rel_skip_some rfl (fun _ => rfl) ?_ | (apply rel_fact; (focus rfl); (focus rfl); (focus rfl); (focus (intro W hC hF; (skip); go_big_quiet_want; go_big_quiet_op; (first | go_big_quiet_on | (apply Exists.intro; refine ⟨fun _ => ?_, ?_⟩; (focus ((fail))); go_big_quiet_on)); exact wpQuiet_nil rfl)); (focus (first | exact fun _ => ⟨rfl, rfl⟩ | exact fun h => absurd h (by decide))))); ((first | go_big_quiet_skip | (go_big_quiet_want; go_big_quiet_op; go_big_quiet_on)); refine wpQuiet_nil ?_)) | refine rel_skip_none rfl (fun _ => rfl) ?_))
 refine rel_callv #[.agg #[.pointer (some ⟨g3, 0, none⟩)], .int .i64 2, .int .u64 (n : Int)] (enters_of Tryz.func42 (by kernel_rfl) rfl) rfl e4 rfl rfl rfl rfl (by exact by_fitsP9) (by first | kernel_rfl | simp [go_sem]) ?_ ?_
 ·intro W hC hF
  obtain ⟨mm, rfl⟩ := hC
  have hE0 : PcW [numB 4 nm, numB 1 1, numB 1 1] (.agg #[.pointer (some ⟨g3, 0, none⟩)]) (more w2 mm) := known hF (List.mem_cons_self ..) (by decide +kernel)
  refine (wnum_any 2 (n : Int) (some ⟨g3, 0, none⟩) _ (by omega) (by omega)).mono ?_
  rintro e w9 ⟨g, rfl, fg, hb9⟩
  exact ⟨_, rfl, ⟨g, rfl⟩, (fun v ev => by cases ev; exact ⟨g, _, rfl, fg, (hE0 _ rfl).later hb9⟩), hb9⟩
 ((first | go_big_quiet_skip | (go_big_quiet_want; go_big_quiet_op; go_big_quiet_on)); refine wpQuiet_nil ?_)
 (repeat (first | (refine rel_quiet rfl ?_; ((first | go_big_quiet_skip | (go_big_quiet_want; go_big_quiet_op; go_big_quiet_on)); refine wpQuiet_nil ?_)) | ((first | refine rel_skip_some rfl (fun _ => rfl) ?_ | ((try simp only [Nat.zero_add, Nat.reduceAdd]); apply rel_alloc _ _ alloc_cls; (focus rfl); (focus (intro W; (first | exact zero_key _ | exact zero_elem _ | exact zero_num _ | exact zero_pair _ | exact zero_rnode _ | exact zero_kpair _ | exact zero_writer9 _))); (focus (first | exact cells_ints _ _ _ | exact cells_two _ _ | rfl)); (focus (exact by_fitsP9))) | (apply rel_fact; (focus rfl); (focus rfl); (focus rfl); (focus (intro W hC hF; (skip); go_big_quiet_want; go_big_quiet_op; (first | go_big_quiet_on | (apply Exists.intro; refine ⟨fun _ => ?_, ?_⟩; (focus ((fail))); go_big_quiet_on)); exact wpQuiet_nil rfl)); (focus (first | exact fun _ => ⟨rfl, rfl⟩ | exact fun h => absurd h (by decide))))); ((first | go_big_quiet_skip | (go_big_quiet_want; go_big_quiet_op; go_big_quiet_on)); refine wpQuiet_nil ?_)) | refine rel_skip_none rfl (fun _ => rfl) ?_ | ((try simp only [Nat.zero_add, Nat.reduceAdd]); apply rel_store (setRow_cls (hbase _)); (focus rfl); (focus rfl); (focus rfl); (focus (first | exact cells_agg _ | exact cells_int _ _ | exact cells_bool _ | rfl)); rotate_left 3; (focus (exact by_mem)); rotate_right 3; (focus kernel_rfl); (focus (first | exact ints_size _ _ _ | rfl)); (focus (first | exact ints_ones _ _ _ | exact ones_two _ _ _ _ | kernel_rfl)); (focus (decide +kernel)); (focus (exact by_fitsP9)))))
 (refine rel_nil ?_; rintro _ ⟨mq, rfl⟩ hF; simp only [List.forall_mem_cons] at hF; obtain ⟨fv, -, f4, -⟩ := hF)
 have hP4 := f4 _ rfl
 replace hG := Grew.more hG mq
 replace fv : objAt (more w2 mq) (γ 12) = some (.cells #[.pointer (some ⟨g4, 0, none⟩)] 99) := fv
 replace fb := keep_more mq fb
 have HPc : Hid (Pcs (more w2 mq) (revL (bwF nm n I K) (4 + 2 * 0)) (.pointer (some ⟨g4, 0, none⟩))) := by rw [bwF_four]; exact hP4
 have hgw : w.heap.size < γ 12 := Nat.lt_of_lt_of_le lb (hbase 12)
 clear f4 hinj hbase hsv e1 e2 e3 e4 lb hP4
 generalize γ 12 = gw at *
 generalize more w2 mq = w3 at *
 clear γ
 have lv := lt_of_objAt fv
 have lb := lt_of_objAt fb
 go_wp2_with fail
 go_loopw [28] (fun i wr => ∃ (k : Nat) (p : Option Addr), k ≤ n ∧ i = .int .i64 k ∧ objAt wr gw = some (.cells #[.pointer p] 99) ∧ Hid (Pcs wr (revL (bwF nm n I K) (4 + 2 * k)) (.pointer p)) ∧ objAt wr w.heap.size = some (.cells #[.int .u32 nm, .slice oa n c] 25) ∧ Below w.heap.size w wr) (fun i _ => n - (intOf i).toNat)
 case atStart => exact ⟨0, _, by omega, rfl, fv, HPc, fb, hG⟩
 case round =>
  clear hG fv fb HPc lv lb
  obtain ⟨k, p, hk, rfl, fv, HPc, fb, hG⟩ := hrel
  have lv := lt_of_objAt fv
  have lb := lt_of_objAt fb
  by_cases hlt : k < n
  ·have hi1 : (k : Int) < (n : Int) := by omega
   have hi0 : (0 : Int) ≤ (k : Int) := by omega
   obtain ⟨ad, rfl, -⟩ := HP.out.blk (by omega)
   have hl := (HP.out.later hG).load_pk hlt
   have hx := hIK.out.1 k hlt
   have hy := hIK.out.2 k hlt
   have HR := hid1 (bwF_rev nm n I K k)
   generalize I k = x at *
   generalize K k = y at *
   have hw3 : IntKind.u64.wrap x = x := by rw [IntKind.wrap_u64]; omega
   have fp : objAt (wr.alloc (.cells (pkC x y) 103)) wr.heap.size = some (.cells (pkC x y) 103) := objAt_alloc_at _ _ _ rfl
   have fv1 := keep_alloc (.cells (pkC x y) 103) fv
   have fb1 := keep_alloc (.cells (pkC x y) 103) fb
   have HP1 : Hid (Pcs (wr.alloc (.cells (pkC x y) 103)) (revL (bwF nm n I K) (4 + 2 * k)) (.pointer p)) := HPc.out.later (Grew.alloc (Grew.refl _) _)
   have hG1 := Grew.alloc hG (.cells (pkC x y) 103)
   go_wp2_with fail
   clear hl fv fb HPc hG lv lb
   generalize wr.alloc (.cells (pkC x y) 103) = w5 at *
   generalize wr.heap.size = gp at *
   have lv := lt_of_objAt fv1
   have lb := lt_of_objAt fb1
   have lp := lt_of_objAt fp
   generalize revL (bwF nm n I K) (4 + 2 * k) = LL at *
   refine wp_relTv (fun k => k == 4 || k == 8) (fun k => match k with | 4 => fun u => WSh u | 8 => fun u => WSh u | _ => fun _ => True) (fun k => match k with | 4 => fun u w => PcW (numB 4 x :: LL) u w | 8 => fun u w => PcW (keysB (fun _ => y) 1 :: numB 4 x :: LL) u w | _ => fun _ _ => True) (fun k => match k with | 4 => .agg #[.pointer (some ⟨0, 0, none⟩)] | 8 => .agg #[.pointer (some ⟨0, 0, none⟩)] | _ => undef) (fun i hi => ?_) 9 (by kernel_rfl) (by kernel_rfl) (by kernel_rfl) (by kernel_rfl) (by kernel_rfl) ?_
   ·simp only [Bool.or_eq_true, beq_iff_eq] at hi
    rcases hi with rfl | rfl
    ·exact ⟨0, rfl⟩
    ·exact ⟨0, rfl⟩
   simp only [List.take_succ_cons, List.take_zero]
   iterate 4 (first | refine exv_skip rfl ?_ | (refine exv_call rfl ?_; apply Exists.intro))
   refine exv_call rfl ⟨undef, ?_⟩
   iterate 3 (first | refine exv_skip rfl ?_ | (refine exv_call rfl ?_; apply Exists.intro))
   refine exv_call rfl ⟨undef, ?_⟩
   refine exv_nil ?_
   intro γ gv hsv hinj hbase
   obtain ⟨g1, e1⟩ := hsv 4 rfl
   obtain ⟨g2, e2⟩ := hsv 8 rfl
   (repeat (first | (refine rel_quiet rfl ?_; ((first | go_big_quiet_skip | (go_big_quiet_want; go_big_quiet_op; go_big_quiet_on)); refine wpQuiet_nil ?_)) | ((first | refine rel_skip_some rfl (fun _ => rfl) ?_ | (apply rel_fact; (focus rfl); (focus rfl); (focus rfl); (focus (intro W hC hF; (skip); go_big_quiet_want; go_big_quiet_op; (first | go_big_quiet_on | (apply Exists.intro; refine ⟨fun _ => ?_, ?_⟩; (focus ((fail))); go_big_quiet_on)); exact wpQuiet_nil rfl)); (focus (first | exact fun _ => ⟨rfl, rfl⟩ | exact fun h => absurd h (by decide))))); ((first | go_big_quiet_skip | (go_big_quiet_want; go_big_quiet_op; go_big_quiet_on)); refine wpQuiet_nil ?_)) | refine rel_skip_none rfl (fun _ => rfl) ?_))
   refine rel_callv #[.agg #[.pointer p], .int .i64 4, .int .u64 x] (enters_of Tryz.func42 (by kernel_rfl) rfl) rfl e1 rfl rfl rfl rfl (by exact by_fitsP9) (by first | kernel_rfl | simp [go_sem]) ?_ ?_
   ·intro W hC hF
    obtain ⟨mm, rfl⟩ := hC
    refine (wnum_any 4 x p _ (by omega) (by omega)).mono ?_
    rintro e w9 ⟨g, rfl, fg, hb9⟩
    exact ⟨_, rfl, ⟨g, rfl⟩, (fun v ev => by cases ev; exact ⟨g, _, rfl, fg, (HP1.out.later (below_more _ _)).later hb9⟩), hb9⟩
   ((first | go_big_quiet_skip | (go_big_quiet_want; go_big_quiet_op; go_big_quiet_on)); refine wpQuiet_nil ?_)
   (repeat (first | (refine rel_quiet rfl ?_; ((first | go_big_quiet_skip | (go_big_quiet_want; go_big_quiet_op; go_big_quiet_on)); refine wpQuiet_nil ?_)) | ((first | refine rel_skip_some rfl (fun _ => rfl) ?_ | ((try simp only [Nat.zero_add, Nat.reduceAdd]); apply rel_slice alloc_cls; (focus rfl); (focus (intro W; simp only [List.map_toArray, List.map_cons, List.map_nil]; first | (with_reducible exact build1k _ W) | exact build1k _ W)); (focus (exact by_fitsP9))) | (apply rel_fact; (focus rfl); (focus rfl); (focus rfl); (focus (intro W hC hF; (skip); go_big_quiet_want; go_big_quiet_op; (first | go_big_quiet_on | (apply Exists.intro; refine ⟨fun _ => ?_, ?_⟩; (focus ((fail))); go_big_quiet_on)); exact wpQuiet_nil rfl)); (focus (first | exact fun _ => ⟨rfl, rfl⟩ | exact fun h => absurd h (by decide))))); ((first | go_big_quiet_skip | (go_big_quiet_want; go_big_quiet_op; go_big_quiet_on)); refine wpQuiet_nil ?_)) | refine rel_skip_none rfl (fun _ => rfl) ?_))
   refine rel_callv #[.agg #[.pointer (some ⟨g1, 0, none⟩)], .slice (some ⟨γ 7, 0, none⟩) 1 1] (enters_of Tryz.func43 (by kernel_rfl) rfl) rfl e2 rfl rfl rfl rfl (by exact by_fitsP9) (by first | kernel_rfl | simp [go_sem]) ?_ ?_
   ·intro W hC hF
    obtain ⟨mm, rfl⟩ := hC
    have hE0 : PcW (numB 4 x :: LL) (.agg #[.pointer (some ⟨g1, 0, none⟩)]) (more w5 mm) := known hF (List.mem_cons_of_mem _ (List.mem_cons_self ..)) (by decide +kernel)
    have hE1 : Full (γ 7) (ints .u8 32 y) 44 (more w5 mm) := known hF (List.mem_cons_self ..) (by decide +kernel)
    refine (wkeys_any (fun _ => y) (some ⟨γ 7, 0, none⟩) 1 1 (some ⟨g1, 0, none⟩) _ (k32_one hE1) (fun i hi => hy) (by decide)).mono ?_
    rintro e w9 ⟨g, rfl, fg, hb9⟩
    exact ⟨_, rfl, ⟨g, rfl⟩, (fun v ev => by cases ev; exact ⟨g, _, rfl, fg, (hE0 _ rfl).later hb9⟩), hb9⟩
   ((first | go_big_quiet_skip | (go_big_quiet_want; go_big_quiet_op; go_big_quiet_on)); refine wpQuiet_nil ?_)
   (repeat (first | (refine rel_quiet rfl ?_; ((first | go_big_quiet_skip | (go_big_quiet_want; go_big_quiet_op; go_big_quiet_on)); refine wpQuiet_nil ?_)) | ((first | refine rel_skip_some rfl (fun _ => rfl) ?_ | (apply rel_fact; (focus rfl); (focus rfl); (focus rfl); (focus (intro W hC hF; (skip); go_big_quiet_want; go_big_quiet_op; (first | go_big_quiet_on | (apply Exists.intro; refine ⟨fun _ => ?_, ?_⟩; (focus ((fail))); go_big_quiet_on)); exact wpQuiet_nil rfl)); (focus (first | exact fun _ => ⟨rfl, rfl⟩ | exact fun h => absurd h (by decide))))); ((first | go_big_quiet_skip | (go_big_quiet_want; go_big_quiet_op; go_big_quiet_on)); refine wpQuiet_nil ?_)) | refine rel_skip_none rfl (fun _ => rfl) ?_))
   (refine relT_nil ?_; rintro _ ⟨mq, rfl⟩ hF; simp only [List.forall_mem_cons] at hF; obtain ⟨f8, -⟩ := hF)
   have hP8 := f8 _ rfl
   replace hG := Grew.more hG1 mq
   replace fv := keep_more mq fv1
   replace fb := keep_more mq fb1
   clear f8 hinj hbase hsv e1 e2 fp lp HP1 hG1 fv1 fb1 lv lb hx hy
   generalize more w5 mq = w6 at *
   generalize γ 7 = gk at *
   clear γ gv
   have lv := lt_of_objAt fv
   (refine tail_one (i := 9) (fuel := 0) (by kernel_rfl) rfl ?_; intro K hK; go_simp; refine hK _ _ ?_; clear hK K)
   (refine wpAny_done (by kernel_rfl) ?_ _)
   have HP9 : Hid (Pcs (w6.setRow gw #[.pointer (some ⟨g2, 0, none⟩)]) (revL (bwF nm n I K) (4 + 2 * (k + 1))) (.pointer (some ⟨g2, 0, none⟩))) := by rw [HR.out]; exact hid1 (hP8.put fv (by decide) _)
   replace hG := Grew.setRow hG gw #[.pointer (some ⟨g2, 0, none⟩)] (by omega)
   have fb9 := keep_setRow gw #[.pointer (some ⟨g2, 0, none⟩)] fb (by omega)
   have fv9 := keep_row #[.pointer (some ⟨g2, 0, none⟩)] fv
   clear hP8 fb fv lv
   generalize w6.setRow gw #[.pointer (some ⟨g2, 0, none⟩)] = w7 at *
   go_wp2
   go_roundw
   case rel => first | exact ⟨k + 1, _, by omega, by go_num, fv9, HP9, fb9, hG⟩ | ((repeat' apply Exists.intro) <;> first | exact ⟨⟨k + 1, _, by omega, by go_num, fv9, HP9, fb9, hG⟩, rfl⟩ | exact undef)
   case measure => (simp [intOf]; omega)
  ·obtain rfl : k = n := by omega
   have hi1 : ¬ ((k : Int) < (k : Int)) := by omega
   have cT := fun (W : World) (hb : Below wr.heap.size wr W) => wtext_rev (bwF nm k I K) (4 + 2 * k) (.pointer p) W (HPc.out.later hb) (by omega) (by rw [bwF_size]; omega)
   generalize hTX : catS (bwF nm k I K) (4 + 2 * k) = TX at *
   go_wp2_with fail
   refine (cT _ (Grew.refl _)).mono ?_
   rintro e w4 ⟨rfl, hb⟩
   replace hG := Grew.trans hG hb
   go_wp2
   refine ⟨rfl, .tuple #[.string TX, .nilIface], ?_, by first | rfl | rw [hTX], hG⟩
   first | rfl | kernel_rfl | simp [go_sem, results]
theorem bwrite_err (nm : Int) (oa : Option Addr) (n c : Nat) (I : Nat → Int) (K : Nat → Nat → Int) (w : World) (hP : PkAt w oa n I K) (hn : n ≤ 64) (hI : ∀ j, j < n → 0 ≤ I j ∧ I j < 4294967296) (hd : dupE I n ≠ 0) :
  Calls Tryz.prog 9 #[.agg #[.int .u32 nm, .slice oa n c]] w fun e w' => ∃ t x, e = .returned (.tuple #[.string ⟨#[]⟩, .iface t x]) ∧ Below w.heap.size w w' := by
 have hoa : 0 < n → ∀ ad, oa = some ad → ad.block < w.heap.size := fun h ad e => by obtain ⟨ad', e', hl⟩ := hP.blk h; rw [e] at e'; cases e'; exact hl
 have HP : Hid (PkAt w oa n I K) := hP
 clear hP
 go_enter Tryz.func9, Tryz.ntmps9
 go_wp2_with fail
 have hG : Below w.heap.size w (w.alloc (.cells #[.int .u32 nm, .slice oa n c] 25)) := Grew.alloc (Grew.refl _) _
 have hoa1 : 0 < n → ∀ ad, oa = some ad → ad.block < (w.alloc (.cells #[.int .u32 nm, .slice oa n c] 25)).heap.size := fun h ad e => Nat.lt_of_lt_of_le (hoa h ad e) hG.size
 refine (bcheck_any nm oa n c I K _ (HP.out.later hG) (by omega) hI hoa1).mono ?_
 rintro e w2 ⟨u, rfl, hu, hb⟩
 rw [if_neg (by omega)] at hu
 replace hG := Grew.trans hG hb
 clear hb hoa1 hoa hI
 rcases hu with ⟨h9, -⟩ | ⟨-, t, x, l, rfl, -⟩
 case inl => exact absurd h9 hd
 go_wp2
 refine ⟨rfl, .tuple #[.string ⟨#[]⟩, .iface t x], ?_, ⟨t, x, rfl, hG⟩⟩
 first | rfl | kernel_rfl | simp [go_sem, results]
end Go.Proofs.YtnjghcnhcbobhaaGreatDoor
namespace Go.Proofs.YtnjghcnhcbobhaaGreatDoor
open Go.RowKit Go.Extern
set_option linter.unusedVariables false
set_option linter.unusedSimpArgs false
theorem catF_split (F : Nat → ByteArray) : ∀ m i, i < m → ∃ R, catS F m = catS F i ++ F i ++ R
 | 0, i, h => absurd h (Nat.not_lt_zero _)
 | m + 1, i, h => by
  by_cases e : i < m
  ·obtain ⟨R, hR⟩ := catF_split F m i e
   exact ⟨R ++ F m, by show catS F m ++ F m = _; rw [hR, ByteArray.append_assoc]⟩
  ·obtain rfl : i = m := by omega
   exact ⟨ByteArray.empty, by show catS F i ++ F i = _; rw [ByteArray.append_empty]⟩
theorem catF_byte (F : Nat → ByteArray) (m i : Nat) (h : i < m) {a : Nat} (ha : (catS F i).size = a) (j : Nat) (hj : j < (F i).size) : byteAt (catS F m) (a + j) = byteAt (F i) j := by
 obtain ⟨R, hR⟩ := catF_split F m i h
 subst ha
 rw [hR, byteAt_left _ _ _ (by rw [ByteArray.size_append]; omega), byteAt_right _ _ _ hj]
theorem catF_at (F : Nat → ByteArray) (m i : Nat) (h : i < m) {a d : Nat} (ha : (catS F i).size = a) (hd : (F i).size = d) : (catS F m).extract a (a + d) = F i := by
 have hs : a + d ≤ (catS F m).size := by
  obtain ⟨R, hR⟩ := catF_split F m i h
  rw [hR, ByteArray.size_append, ByteArray.size_append]
  omega
 refine eq_of_byteAt (by rw [ByteArray.size_extract]; omega) fun j hj => ?_
 rw [ByteArray.size_extract] at hj
 rw [byteAt_ext _ _ _ _ (by omega) hs, catF_byte F m i h ha j (by omega)]
def wB (nm : Int) (n : Nat) (I : Nat → Int) (K : Nat → Nat → Int) : ByteArray := catS (bwF nm n I K) (4 + 2 * n)
theorem wB_size (nm : Int) (n : Nat) (I : Nat → Int) (K : Nat → Nat → Int) : (wB nm n I K).size = 8 + 36 * n := bwF_size nm n I K n
theorem wB_zero (nm : Int) (n : Nat) (I : Nat → Int) (K : Nat → Nat → Int) : byteAt (wB nm n I K) 0 = 1 := by
 have := catF_byte (bwF nm n I K) (4 + 2 * n) 0 (by omega) (a := 0) rfl 0 (by show 0 < (numB 1 1).size; rw [numB_size]; decide)
 rw [Nat.add_zero] at this
 exact this.trans (by show byteAt (numB 1 1) 0 = 1; rw [byteAt_numB _ _ _ (by decide)]; rfl)
theorem wB_one (nm : Int) (n : Nat) (I : Nat → Int) (K : Nat → Nat → Int) : byteAt (wB nm n I K) 1 = 1 := by
 have := catF_byte (bwF nm n I K) (4 + 2 * n) 1 (by omega) (a := 1) (by show (ByteArray.empty ++ numB 1 1).size = 1; rw [ByteArray.size_append, numB_size]; rfl) 0 (by show 0 < (numB 1 1).size; rw [numB_size]; decide)
 rw [Nat.add_zero] at this
 exact this.trans (by show byteAt (numB 1 1) 0 = 1; rw [byteAt_numB _ _ _ (by decide)]; rfl)
theorem wB_nm (nm : Int) (n : Nat) (I : Nat → Int) (K : Nat → Nat → Int) (h0 : 0 ≤ nm) (h1 : nm < 4294967296) : nmF (wB nm n I K) = nm := by
 unfold nmF
 have := catF_at (bwF nm n I K) (4 + 2 * n) 2 (by omega) (a := 2) (d := 4) (by show (ByteArray.empty ++ numB 1 1 ++ numB 1 1).size = 2; simp only [ByteArray.size_append, numB_size]; rfl) (numB_size _ _)
 rw [show (wB nm n I K).extract 2 6 = numB 4 nm from this, numB_read, show (2 : Int) ^ (8 * 4) = 4294967296 by decide]
 exact Int.emod_eq_of_lt h0 h1
theorem wB_pn (nm : Int) (n : Nat) (I : Nat → Int) (K : Nat → Nat → Int) (hn : n ≤ 64) : pnI (wB nm n I K) = (n : Int) := by
 unfold pnI
 have := catF_at (bwF nm n I K) (4 + 2 * n) 3 (by omega) (a := 6) (d := 2) (by show (ByteArray.empty ++ numB 1 1 ++ numB 1 1 ++ numB 4 nm).size = 6; simp only [ByteArray.size_append, numB_size]; rfl) (numB_size _ _)
 rw [show (wB nm n I K).extract 6 8 = numB 2 (n : Int) from this, numB_read, show (2 : Int) ^ (8 * 2) = 65536 by decide]
 exact Int.emod_eq_of_lt (by omega) (by omega)
theorem wB_id (nm : Int) (n : Nat) (I : Nat → Int) (K : Nat → Nat → Int) (j : Nat) (hj : j < n) (h : 0 ≤ I j ∧ I j < 4294967296) : idF (wB nm n I K) j = I j := by
 unfold idF
 have := catF_at (bwF nm n I K) (4 + 2 * n) (4 + 2 * j) (by omega) (a := 8 + 36 * j) (d := 4) (bwF_size nm n I K j) (by rw [bwF_even, numB_size])
 rw [show (wB nm n I K).extract (8 + 36 * j) (8 + 36 * j + 4) = numB 4 (I j) from this.trans (bwF_even nm n I K j), numB_read, show (2 : Int) ^ (8 * 4) = 4294967296 by decide]
 exact Int.emod_eq_of_lt h.1 h.2
theorem wB_pk (nm : Int) (n : Nat) (I : Nat → Int) (K : Nat → Nat → Int) (j i : Nat) (hj : j < n) (hi : i < 32) (h : Bytes 32 (K j)) : pkF (wB nm n I K) j i = K j i := by
 unfold pkF
 have hs : (bwF nm n I K (4 + 2 * j + 1)).size = 32 := by rw [bwF_odd, keysB_size]
 have := catF_byte (bwF nm n I K) (4 + 2 * n) (4 + 2 * j + 1) (by omega) (a := 8 + 36 * j + 4) (by
  show (catS (bwF nm n I K) (4 + 2 * j) ++ bwF nm n I K (4 + 2 * j)).size = _
  rw [ByteArray.size_append, bwF_size, bwF_even, numB_size]) i (by omega)
 refine this.trans ?_
 rw [bwF_odd]
 have h2 := byteAt_keysB (fun _ => K j) 1 (fun _ _ => h) 1 (Nat.le_refl _) 0 (by decide) i hi
 rw [Nat.mul_zero, Nat.zero_add] at h2
 exact h2
theorem wB_pc (nm : Int) (n : Nat) (I : Nat → Int) (K : Nat → Nat → Int) (hn : n ≤ 64) (hI : ∀ j, j < n → 0 ≤ I j ∧ I j < 4294967296) : pcE (wB nm n I K) = dupE I n := by
 have hp := wB_pn nm n I K hn
 have hs := wB_size nm n I K
 unfold pcE
 rw [if_neg (by omega), if_neg (fun h => h (wB_zero nm n I K)), if_neg (fun h => h (wB_one nm n I K)), hp, if_neg (by omega), if_neg (by omega), if_neg (by omega)]
 unfold pnN
 rw [hp, Int.toNat_natCast]
 exact dupE_congr fun j hj => wB_id nm n I K j hj (hI j hj)
theorem ext_same {S S' : ByteArray} {a b m : Nat} (hb : b ≤ m) (h1 : m ≤ S.size) (h2 : m ≤ S'.size) (h : ∀ i, i < m → byteAt S i = byteAt S' i) : S.extract a b = S'.extract a b := eq_of_byteAt (by simp only [ByteArray.size_extract]; omega) fun i hi => by
 rw [ByteArray.size_extract] at hi
 rw [byteAt_ext _ _ _ _ (by omega) (by omega), byteAt_ext _ _ _ _ (by omega) (by omega), h _ (by omega)]
theorem pc_short {S : ByteArray} {n : Nat} (hn : n ≤ 64) (h0 : byteAt S 0 = 1) (h1 : byteAt S 1 = 1) (hp : pnI S = (n : Int)) (hs : S.size = 8 + 36 * n) (m : Nat) (hm : m < S.size) : pcE (S.extract 0 m) = 1 := by
 have hsz : (S.extract 0 m).size = m := by rw [ByteArray.size_extract]; omega
 have hb : ∀ i, i < m → byteAt (S.extract 0 m) i = byteAt S i := fun i hi => by rw [byteAt_ext _ _ _ _ (by omega) (by omega), Nat.zero_add]
 unfold pcE
 by_cases c : m < 8
 ·rw [if_pos (by omega)]
 have hp2 : pnI (S.extract 0 m) = (n : Int) := by
  rw [← hp]
  unfold pnI
  rw [ext_same (m := m) (by omega) (by omega) (by omega) hb]
 rw [if_neg (by omega), hb 0 (by omega), hb 1 (by omega), if_neg (fun h => h h0), if_neg (fun h => h h1), hp2, if_neg (by omega), if_pos (by omega)]
theorem pc_long {S : ByteArray} {n : Nat} (hn : n ≤ 64) (h0 : byteAt S 0 = 1) (h1 : byteAt S 1 = 1) (hp : pnI S = (n : Int)) (hs : S.size = 8 + 36 * n) (X : ByteArray) (hX : 0 < X.size) : pcE (S ++ X) = 2 := by
 have hsz : (S ++ X).size = S.size + X.size := ByteArray.size_append ..
 have hb : ∀ i, i < S.size → byteAt (S ++ X) i = byteAt S i := fun i hi => byteAt_left _ _ _ hi
 have hp2 : pnI (S ++ X) = (n : Int) := by
  rw [← hp]
  unfold pnI
  rw [ext_same (m := S.size) (by omega) (by omega) (by omega) hb]
 unfold pcE
 rw [if_neg (by omega), hb 0 (by omega), hb 1 (by omega), if_neg (fun h => h h0), if_neg (fun h => h h1), hp2, if_neg (by omega), if_neg (by omega), if_pos (by omega)]
theorem beK_div (U : ByteArray) : ∀ d i, i < d → beK U d / 2 ^ (8 * (d - 1 - i)) % 256 = byteAt U i
 | 0, i, h => absurd h (Nat.not_lt_zero _)
 | d + 1, i, h => by
  have hb := byteAt_b U d
  show (beK U d * 256 + byteAt U d) / _ % 256 = _
  by_cases e : i < d
  ·rw [show 8 * (d + 1 - 1 - i) = 8 + 8 * (d - 1 - i) by omega, Int.pow_add, show (2 : Int) ^ 8 = 256 by decide, ← Int.ediv_ediv_of_nonneg (by decide), show (beK U d * 256 + byteAt U d) / 256 = beK U d by omega]
   exact beK_div U d i e
  ·obtain rfl : i = d := by omega
   rw [show i + 1 - 1 - i = 0 by omega, Nat.mul_zero, Int.pow_zero, Int.ediv_one]
   omega
theorem numB_beK (U : ByteArray) : numB U.size (beK U U.size) = U := eq_of_byteAt (numB_size _ _) fun i hi => by
 rw [numB_size] at hi
 rw [byteAt_numB _ _ _ hi, beK_div U _ i hi]
theorem ext_glue (S : ByteArray) (a b : Nat) (h : a ≤ b) (hb : b ≤ S.size) : S.extract 0 a ++ S.extract a b = S.extract 0 b := by
 have s1 : (S.extract 0 a).size = a := by rw [ByteArray.size_extract]; omega
 have s2 : (S.extract a b).size = b - a := by rw [ByteArray.size_extract]; omega
 refine eq_of_byteAt (by rw [ByteArray.size_append, s1, s2, ByteArray.size_extract]; omega) fun i hi => ?_
 rw [ByteArray.size_append, s1, s2] at hi
 rw [byteAt_ext S 0 b i (by omega) hb, Nat.zero_add]
 by_cases c : i < a
 ·rw [byteAt_left _ _ _ (by omega), byteAt_ext _ _ _ _ (by omega) (by omega), Nat.zero_add]
 ·obtain ⟨j, rfl⟩ : ∃ j, i = (S.extract 0 a).size + j := ⟨i - a, by omega⟩
  rw [byteAt_right _ _ _ (by omega), byteAt_ext _ _ _ _ (by omega) hb, s1]
theorem numB_ext (S : ByteArray) (a b d : Nat) (hd : d = b - a) (h : a ≤ b) (hb : b ≤ S.size) : numB d (beK (S.extract a b) (S.extract a b).size) = S.extract a b := by
 have s2 : (S.extract a b).size = d := by rw [ByteArray.size_extract]; omega
 have := numB_beK (S.extract a b)
 rw [s2] at this ⊢
 exact this
theorem numB_one (S : ByteArray) (a : Nat) (h : a < S.size) (h1 : byteAt S a = 1) : numB 1 1 = S.extract a (a + 1) := eq_of_byteAt (by rw [numB_size, ByteArray.size_extract]; omega) fun i hi => by
 rw [numB_size] at hi
 obtain rfl : i = 0 := by omega
 rw [byteAt_ext _ _ _ _ (by omega) (by omega), Nat.add_zero, h1, byteAt_numB _ _ _ (by decide)]
 rfl
theorem wB_back {S : ByteArray} (h : pcE S = 0) : wB (nmF S) (pnN S) (idF S) (pkF S) = S ∧ pnN S ≤ 64 ∧ dupE (idF S) (pnN S) = 0 := by
 have hpb := pnI_bd S
 have hpN : (pnN S : Int) = pnI S := by unfold pnN; omega
 have hh := h
 unfold pcE at hh
 by_cases c1 : S.size < 8
 ·rw [if_pos c1] at hh; cases hh
 by_cases c2 : byteAt S 0 ≠ 1
 ·rw [if_neg c1, if_pos c2] at hh; cases hh
 by_cases c3 : byteAt S 1 ≠ 1
 ·rw [if_neg c1, if_neg c2, if_pos c3] at hh; cases hh
 by_cases c4 : 64 < pnI S
 ·rw [if_neg c1, if_neg c2, if_neg c3, if_pos c4] at hh; cases hh
 by_cases c5 : (S.size : Int) < 8 + 36 * pnI S
 ·rw [if_neg c1, if_neg c2, if_neg c3, if_neg c4, if_pos c5] at hh; cases hh
 by_cases c6 : 8 + 36 * pnI S < (S.size : Int)
 ·rw [if_neg c1, if_neg c2, if_neg c3, if_neg c4, if_neg c5, if_pos c6] at hh; cases hh
 rw [if_neg c1, if_neg c2, if_neg c3, if_neg c4, if_neg c5, if_neg c6] at hh
 refine ⟨?_, by omega, hh⟩
 have b0 : byteAt S 0 = 1 := Classical.not_not.1 c2
 have b1 : byteAt S 1 = 1 := Classical.not_not.1 c3
 have hs : S.size = 8 + 36 * pnN S := by omega
 have key : ∀ k, k ≤ pnN S → catS (bwF (nmF S) (pnN S) (idF S) (pkF S)) (4 + 2 * k) = S.extract 0 (8 + 36 * k) := by
  intro k
  induction k with
  | zero =>
   intro _
   show ByteArray.empty ++ numB 1 1 ++ numB 1 1 ++ numB 4 (nmF S) ++ numB 2 (pnN S : Int) = S.extract 0 8
   have e0 : ByteArray.empty = S.extract 0 0 := eq_of_byteAt (by rw [ByteArray.size_extract]; rfl) fun i hi => absurd hi (Nat.not_lt_zero _)
   have e3 : numB 4 (nmF S) = S.extract 2 6 := numB_ext S 2 6 4 rfl (by decide) (by omega)
   have e4 : numB 2 (pnN S : Int) = S.extract 6 8 := by rw [hpN]; exact numB_ext S 6 8 2 rfl (by decide) (by omega)
   rw [e3, e4, e0]
   have g1 : S.extract 0 0 ++ numB 1 1 = S.extract 0 1 := by rw [numB_one S 0 (by omega) b0]; exact ext_glue S 0 1 (by decide) (by omega)
   have g2 : S.extract 0 1 ++ numB 1 1 = S.extract 0 2 := by rw [numB_one S 1 (by omega) b1]; exact ext_glue S 1 2 (by decide) (by omega)
   rw [g1, g2, ext_glue S 2 6 (by decide) (by omega), ext_glue S 6 8 (by decide) (by omega)]
  | succ k ih =>
   intro hk
   rw [show 4 + 2 * (k + 1) = 4 + 2 * k + 1 + 1 by omega]
   show catS _ (4 + 2 * k) ++ bwF _ _ _ _ (4 + 2 * k) ++ bwF _ _ _ _ (4 + 2 * k + 1) = _
   rw [ih (by omega), bwF_even, bwF_odd]
   have e1 : numB 4 (idF S k) = S.extract (8 + 36 * k) (8 + 36 * k + 4) := numB_ext S _ _ 4 (by omega) (by omega) (by omega)
   have e2 : keysB (fun _ => pkF S k) 1 = S.extract (8 + 36 * k + 4) (8 + 36 * (k + 1)) := by
    refine eq_of_byteAt (by rw [keysB_size, ByteArray.size_extract]; omega) fun i hi => ?_
    rw [keysB_size] at hi
    have h2 := byteAt_keysB (fun _ => pkF S k) 1 (fun _ _ i _ => by have := byteAt_b S (8 + 36 * k + 4 + i); unfold pkF; omega) 1 (Nat.le_refl _) 0 (by decide) i (by omega)
    rw [Nat.mul_zero, Nat.zero_add] at h2
    rw [h2, byteAt_ext _ _ _ _ (by omega) (by omega)]
    rfl
   rw [e1, e2, ext_glue S _ _ (by omega) (by omega), ext_glue S _ _ (by omega) (by omega)]
 have := key (pnN S) (Nat.le_refl _)
 unfold wB
 rw [this, ← hs, ext_self]
end Go.Proofs.YtnjghcnhcbobhaaGreatDoor
namespace Go.Proofs.YtnjghcnhcbobhaaGreatDoor
open Go.RowKit Go.Extern
set_option linter.unusedVariables false
set_option linter.unusedSimpArgs false
theorem parse_good {W : ByteArray} {nm : Int} {n : Nat} {I : Nat → Int} {K : Nat → Nat → Int} (hs : W.size ≤ 100000) (hp : pcE W = 0) (h1 : nmF W = nm) (h2 : pnN W = n) (hI : ∀ j, j < n → idF W j = I j) (hK : ∀ j, j < n → ∀ i, i < 32 → pkF W j i = K j i) (w : World) :
  Calls Tryz.prog 10 #[.string W] w fun e w' => ∃ oa c, e = .returned (.tuple #[.agg #[.int .u32 nm, .slice oa n c], .nilIface]) ∧ PkAt w' oa n I K ∧ Below w.heap.size w w' := by
 refine (bparse_any W w hs).mono ?_
 rintro e w' ⟨v, u, rfl, hB, hu, hb⟩
 rw [hp, if_pos rfl, if_pos rfl, h1, h2] at hB
 obtain ⟨oa, c, rfl, hP⟩ := hB.congr hI hK
 rcases hu with ⟨-, rfl⟩ | ⟨h, -⟩
 ·exact ⟨oa, c, rfl, hP, hb⟩
 ·exact absurd hp h
theorem parse_bad {W : ByteArray} {X : Int} (hs : W.size ≤ 100000) (hp : pcE W = X) (h0 : X ≠ 0) (w : World) :
  Calls Tryz.prog 10 #[.string W] w fun e w' => ∃ oa c t x, e = .returned (.tuple #[.agg #[.int .u32 0, .slice oa 0 c], .iface t x]) ∧ ErV w' (.iface t x) X ∧ Below w.heap.size w w' := by
 refine (bparse_any W w hs).mono ?_
 rintro e w' ⟨v, u, rfl, hB, hu, hb⟩
 rw [hp, if_neg h0, if_neg h0] at hB
 rw [hp] at hu
 obtain ⟨oa, c, rfl, -⟩ := hB
 rcases hu with ⟨h, -⟩ | ⟨h, t, x, l, rfl, hc⟩
 ·exact absurd h h0
 ·exact ⟨oa, c, t, x, rfl, .inr ⟨h, t, x, l, rfl, hc⟩, hb⟩
theorem is_st {E : Int} {w : World} (u : Value) (h0 : E ≠ 0) (h : ErV w u E) :
  Calls Tryz.prog 13 #[u, .int .i64 E] w fun e w' => e = .returned (.bool true) ∧ Below w.heap.size w w' := by
 rcases h with ⟨h, -⟩ | ⟨-, t, x, l, rfl, hc⟩
 ·exact absurd h h0
 ·refine (Is_e E E l _ w hc).mono ?_
  rintro e w' ⟨rfl, rfl⟩
  exact ⟨by simp, Grew.refl _⟩
theorem bundleBack_any (aw : ∀ (w : World), Tabs w → EtAt w → Calls Tryz.prog 8 #[] w fun e w' => e = .returned (.bool true) ∧ Below w.heap.size w w') (nm : Int) (oa : Option Addr) (n c : Nat) (I : Nat → Int) (K : Nat → Nat → Int) (S : ByteArray) (q : Int) (w : World) (hm0 : 0 ≤ nm) (hm1 : nm < 4294967296) (hP : PkAt w oa n I K) (hI : ∀ j, j < n → 0 ≤ I j ∧ I j < 4294967296) (hK : ∀ j, j < n → Bytes 32 (K j)) (hq0 : 0 ≤ q) (hq1 : q ≤ 65535) (hT : Tabs w) (hE : EtAt w) :
  Calls Tryz.prog 3 #[.agg #[.int .u32 nm, .slice oa n c], .string S, .int .u16 q] w fun e w' => e = .returned (.bool true) ∧ Below w.heap.size w w' := by
 have HE : Hid (EtAt w) := hE
 have HP : Hid (PkAt w oa n I K) := hP
 have HIK := hid1 (And.intro hI hK)
 clear hP hI hK
 go_enter Tryz.func3, Tryz.ntmps3
 go_wp2_with fail
 have f0 : objAt (w.alloc (.cells #[.int .u32 nm, .slice oa n c] 25)) w.heap.size = some (.cells #[.int .u32 nm, .slice oa n c] 25) := objAt_alloc_at _ _ _ rfl
 have hG : Below w.heap.size w (w.alloc (.cells #[.int .u32 nm, .slice oa n c] 25)) := Grew.alloc (Grew.refl _) _
 have aw1 := aw (w.alloc (.cells #[.int .u32 nm, .slice oa n c] 25)) (hT.later hG) (hE.later hG)
 clear aw hT hE
 generalize w.alloc (.cells #[.int .u32 nm, .slice oa n c] 25) = w0 at *
 refine aw1.mono ?_
 rintro e w1 ⟨rfl, hb⟩
 replace f0 := keep_below hb f0
 replace hG := Grew.trans hG hb
 clear hb aw1
 have l0 := lt_of_objAt f0
 by_cases hn : (64 : Int) < (n : Int)
 ·go_wp2
  go_ret
  exact ⟨rfl, hG⟩
 by_cases hbig : (4000 : Int) < (S.size : Int)
 ·go_wp2
  go_ret
  exact ⟨rfl, hG⟩
 by_cases hd : dupE I n = 0
 ·have hWs := wB_size nm n I K
  have hWn := hid1 (wB_pn nm n I K (by omega))
  have hW0 := hid1 (wB_zero nm n I K)
  have hW1 := hid1 (wB_one nm n I K)
  have cW := fun (W : World) (hb : Below w.heap.size w W) => bwrite_any nm oa n c I K W hm0 hm1 (HP.out.later hb) (by omega) HIK.out.1 HIK.out.2 hd
  have cG := fun (W : World) => parse_good (W := wB nm n I K) (nm := nm) (n := n) (I := I) (K := K) (by omega) ((wB_pc nm n I K (by omega) HIK.out.1).trans hd) (wB_nm nm n I K hm0 hm1) (by unfold pnN; rw [hWn.out]; rfl) (fun j hj => wB_id nm n I K j hj (HIK.out.1 j hj)) (fun j hj i hi => wB_pk nm n I K j i hj hi (HIK.out.2 j hj)) W
  have hX : 0 < (wB nm n I K).size := by omega
  obtain ⟨m, hm⟩ : ∃ m : Nat, q.tmod ((wB nm n I K).size : Int) = (m : Int) := ⟨(q.tmod ((wB nm n I K).size : Int)).toNat, by have := Int.tmod_nonneg ((wB nm n I K).size : Int) hq0; omega⟩
  have hml : m < (wB nm n I K).size := by have := Int.tmod_lt_of_pos q (show (0 : Int) < ((wB nm n I K).size : Int) by omega); omega
  have cS := fun (W : World) => parse_bad (W := (wB nm n I K).extract 0 m) (by rw [ByteArray.size_extract]; omega) (pc_short (by omega) hW0.out hW1.out hWn.out hWs m hml) (by decide) W
  have cL := fun (W : World) => parse_bad (W := wB nm n I K ++ ⟨#[120]⟩) (by rw [ByteArray.size_append]; have : (⟨#[120]⟩ : ByteArray).size = 1 := rfl; omega) (pc_long (by omega) hW0.out hW1.out hWn.out hWs ⟨#[120]⟩ (by decide)) (by decide) W
  replace cW : ∀ (W : World), Below w.heap.size w W → Calls Tryz.prog 9 #[.agg #[.int .u32 nm, .slice oa n c]] W fun e w' => e = .returned (.tuple #[.string (wB nm n I K), .nilIface]) ∧ Below W.heap.size W w' := cW
  have hme : q % ((wB nm n I K).size : Int) = (m : Int) := by rw [← hm, Int.tmod_eq_emod_of_nonneg hq0]
  clear hWn hW0 hW1
  generalize wB nm n I K = Z at *
  have hz0 : ¬ ((Z.size : Int) = 0) := by omega
  have hm2 : (m : Int) ≤ (Z.size : Int) := by omega
  have hm3 : (0 : Int) ≤ (m : Int) := by omega
  have hz9 : ¬ (9223372036854775807 < Z.size + 1) := by omega
  clear hWs hX hml
  go_wp2_with fail
  refine (cW _ hG).mono ?_
  rintro e w2 ⟨rfl, hb⟩
  replace f0 := keep_below hb f0
  replace hG := Grew.trans hG hb
  clear hb cW
  have l0 := lt_of_objAt f0
  go_wp2_with fail
  refine (cG _).mono ?_
  rintro e w3 ⟨ob, d, rfl, hP1, hb⟩
  have HB : Hid (PkAt (w3.alloc (.cells #[.int .u32 nm, .slice ob n d] 25)) ob n I K) := hP1.later (Grew.alloc (Grew.refl _) _)
  replace f0 := keep_alloc (.cells #[.int .u32 nm, .slice ob n d] 25) (keep_below hb f0)
  have f1 : objAt (w3.alloc (.cells #[.int .u32 nm, .slice ob n d] 25)) w3.heap.size = some (.cells #[.int .u32 nm, .slice ob n d] 25) := objAt_alloc_at _ _ _ rfl
  replace hG := Grew.alloc (Grew.trans hG hb) (.cells #[.int .u32 nm, .slice ob n d] 25)
  clear hb hP1 cG
  go_wp2_with fail
  generalize w3.alloc (.cells #[.int .u32 nm, .slice ob n d] 25) = w4 at *
  generalize w3.heap.size = g1 at *
  refine (cS _).mono ?_
  rintro e w5 ⟨o2, c2, t2, x2, rfl, -, hb⟩
  replace HB : Hid (PkAt (w5.alloc (.cells #[.int .u32 0, .slice o2 0 c2] 25)) ob n I K) := (HB.out.later hb).later (Grew.alloc (Grew.refl _) _)
  replace f0 := keep_alloc (.cells #[.int .u32 0, .slice o2 0 c2] 25) (keep_below hb f0)
  replace f1 := keep_alloc (.cells #[.int .u32 0, .slice o2 0 c2] 25) (keep_below hb f1)
  replace hG := Grew.alloc (Grew.trans hG hb) (.cells #[.int .u32 0, .slice o2 0 c2] 25)
  clear hb cS
  have l1 := lt_of_objAt f1
  go_wp2_with fail
  generalize w5.alloc (.cells #[.int .u32 0, .slice o2 0 c2] 25) = w6 at *
  generalize w5.heap.size = g2 at *
  refine (cL _).mono ?_
  rintro e w7 ⟨o3, c3, t3, x3, rfl, hE3, hb⟩
  have HU : Hid (ErV (w7.alloc (.cells #[.int .u32 0, .slice o3 0 c3] 25)) (.iface t3 x3) 2) := hE3.later (Grew.alloc (Grew.refl _) _)
  replace HB : Hid (PkAt (w7.alloc (.cells #[.int .u32 0, .slice o3 0 c3] 25)) ob n I K) := (HB.out.later hb).later (Grew.alloc (Grew.refl _) _)
  replace f0 := keep_alloc (.cells #[.int .u32 0, .slice o3 0 c3] 25) (keep_below hb f0)
  replace f1 := keep_alloc (.cells #[.int .u32 0, .slice o3 0 c3] 25) (keep_below hb f1)
  replace hG := Grew.alloc (Grew.trans hG hb) (.cells #[.int .u32 0, .slice o3 0 c3] 25)
  clear hb cL hE3 l0 l1
  go_wp2_with fail
  generalize w7.alloc (.cells #[.int .u32 0, .slice o3 0 c3] 25) = w8 at *
  generalize w7.heap.size = g3 at *
  have l0 := lt_of_objAt f0
  have l1 := lt_of_objAt f1
  have HA : Hid (PkAt w8 oa n I K) := HP.out.later hG
  have cA := fun (W : World) (hb : Below w8.heap.size w8 W) => of17_any nm oa n c I K W (HA.out.later hb) (by omega)
  have cB := fun (W : World) (hb : Below w8.heap.size w8 W) => of17_any nm ob n d I K W (HB.out.later hb) (by omega)
  refine wp_relv (fun k => k == 4 || k == 6) (fun k => match k with | 4 => fun u => ∃ oa c, u = .agg #[.int .u32 nm, .slice oa n c] | 6 => fun u => ∃ oa c, u = .agg #[.int .u32 nm, .slice oa n c] | _ => fun _ => True) (fun k => match k with | 4 => fun u w => ∀ oa c, u = .agg #[.int .u32 nm, .slice oa n c] → PkAt w oa n I K | 6 => fun u w => ∀ oa c, u = .agg #[.int .u32 nm, .slice oa n c] → PkAt w oa n I K | _ => fun _ _ => True) (fun k => match k with | 4 => .agg #[.int .u32 nm, .slice none n 0] | 6 => .agg #[.int .u32 nm, .slice none n 0] | _ => undef) (fun i hi => ?_) (by kernel_rfl) (by kernel_rfl) ?_
  ·simp only [Bool.or_eq_true, beq_iff_eq] at hi
   rcases hi with rfl | rfl
   ·exact ⟨none, 0, rfl⟩
   ·exact ⟨none, 0, rfl⟩
  iterate 4 (first | refine exv_skip rfl ?_ | (refine exv_call rfl ?_; apply Exists.intro))
  refine exv_call rfl ⟨undef, ?_⟩
  (first | refine exv_skip rfl ?_ | (refine exv_call rfl ?_; apply Exists.intro))
  refine exv_call rfl ⟨undef, ?_⟩
  iterate 12 (first | refine exv_skip rfl ?_ | (refine exv_call rfl ?_; apply Exists.intro))
  refine exv_nil ?_
  intro γ gv hsv hinj hbase
  obtain ⟨o5, c5, e5⟩ := hsv 4 rfl
  obtain ⟨o6, c6, e6⟩ := hsv 6 rfl
  (repeat (first | (refine rel_quiet rfl ?_; ((first | go_big_quiet_skip | (go_big_quiet_want; go_big_quiet_op; go_big_quiet_on)); refine wpQuiet_nil ?_)) | ((first | refine rel_skip_some rfl (fun _ => rfl) ?_ | (apply rel_fact; (focus rfl); (focus rfl); (focus rfl); (focus (intro W hC hF; (have hbW : Below w8.heap.size w8 W := by obtain ⟨mm, rfl⟩ := hC; exact below_more w8 mm); go_big_quiet_want; go_big_quiet_op; (first | go_big_quiet_on | (apply Exists.intro; refine ⟨fun _ => ?_, ?_⟩; (focus ((fail))); go_big_quiet_on)); exact wpQuiet_nil rfl)); (focus (first | exact fun _ => ⟨rfl, rfl⟩ | exact fun h => absurd h (by decide))))); ((first | go_big_quiet_skip | (go_big_quiet_want; go_big_quiet_op; go_big_quiet_on)); refine wpQuiet_nil ?_)) | refine rel_skip_none rfl (fun _ => rfl) ?_))
  refine rel_callv #[.agg #[.int .u32 nm, .slice oa n c]] (enters_of Tryz.func12 (by kernel_rfl) rfl) rfl e5 rfl rfl rfl rfl (fits_nil (stab_pk _ _ _ _ _)) (by first | kernel_rfl | simp [go_sem]) ?_ ?_
  ·intro W hC hF
   obtain ⟨mm, rfl⟩ := hC
   refine (cA _ (below_more w8 mm)).mono ?_
   rintro e w9 ⟨v, rfl, ⟨o9, c9, rfl, hp9⟩, hb9⟩
   exact ⟨_, rfl, ⟨_, _, rfl⟩, (fun oa2 c2 e2 => by cases e2; exact hp9), hb9⟩
  ((first | go_big_quiet_skip | (go_big_quiet_want; go_big_quiet_op; go_big_quiet_on)); refine wpQuiet_nil ?_)
  (repeat (first | (refine rel_quiet rfl ?_; ((first | go_big_quiet_skip | (go_big_quiet_want; go_big_quiet_op; go_big_quiet_on)); refine wpQuiet_nil ?_)) | ((first | refine rel_skip_some rfl (fun _ => rfl) ?_ | (apply rel_fact; (focus rfl); (focus rfl); (focus rfl); (focus (intro W hC hF; (have hbW : Below w8.heap.size w8 W := by obtain ⟨mm, rfl⟩ := hC; exact below_more w8 mm); go_big_quiet_want; go_big_quiet_op; (first | go_big_quiet_on | (apply Exists.intro; refine ⟨fun _ => ?_, ?_⟩; (focus ((fail))); go_big_quiet_on)); exact wpQuiet_nil rfl)); (focus (first | exact fun _ => ⟨rfl, rfl⟩ | exact fun h => absurd h (by decide))))); ((first | go_big_quiet_skip | (go_big_quiet_want; go_big_quiet_op; go_big_quiet_on)); refine wpQuiet_nil ?_)) | refine rel_skip_none rfl (fun _ => rfl) ?_))
  refine rel_callv #[.agg #[.int .u32 nm, .slice ob n d]] (enters_of Tryz.func12 (by kernel_rfl) rfl) rfl e6 rfl rfl rfl rfl (fits_one (stab_pk _ _ _ _ _) (stab_pk _ _ _ _ _) rfl rfl (fits_nil (stab_pk _ _ _ _ _))) (by first | kernel_rfl | simp [go_sem]) ?_ ?_
  ·intro W hC hF
   obtain ⟨mm, rfl⟩ := hC
   refine (cB _ (below_more w8 mm)).mono ?_
   rintro e w9 ⟨v, rfl, ⟨o9, c9, rfl, hp9⟩, hb9⟩
   exact ⟨_, rfl, ⟨_, _, rfl⟩, (fun oa2 c2 e2 => by cases e2; exact hp9), hb9⟩
  ((first | go_big_quiet_skip | (go_big_quiet_want; go_big_quiet_op; go_big_quiet_on)); refine wpQuiet_nil ?_)
  (repeat (first | (refine rel_quiet rfl ?_; ((first | go_big_quiet_skip | (go_big_quiet_want; go_big_quiet_op; go_big_quiet_on)); refine wpQuiet_nil ?_)) | ((first | refine rel_skip_some rfl (fun _ => rfl) ?_ | (apply rel_fact; (focus rfl); (focus rfl); (focus rfl); (focus (intro W hC hF; (have hbW : Below w8.heap.size w8 W := by obtain ⟨mm, rfl⟩ := hC; exact below_more w8 mm); (try (have hP0 : ∀ oa c, (.agg #[.int .u32 nm, .slice o6 n c6] : Value) = .agg #[.int .u32 nm, .slice oa n c] → PkAt W oa n I K := known hF (List.mem_cons_self ..) (by decide +kernel))); (try (have hP1 : ∀ oa c, (.agg #[.int .u32 nm, .slice o5 n c5] : Value) = .agg #[.int .u32 nm, .slice oa n c] → PkAt W oa n I K := known hF (List.mem_cons_of_mem _ (List.mem_cons_self ..)) (by decide +kernel))); go_big_quiet_want; go_big_quiet_op; (first | go_big_quiet_on | (apply Exists.intro; refine ⟨fun _ => ?_, ?_⟩; (focus (first | (exact Calls.of_more (same17_any nm o5 o6 n c5 c6 I K _ (by omega) ((hP1 _ _ rfl).later (below_more W _)) ((hP0 _ _ rfl).later (below_more W _)))) | (exact Calls.of_more (is_st _ (by decide) (HU.out.later (Grew.more hbW _)))))); go_big_quiet_on)); exact wpQuiet_nil rfl)); (focus (first | exact fun _ => ⟨rfl, rfl⟩ | exact fun h => absurd h (by decide))))); ((first | go_big_quiet_skip | (go_big_quiet_want; go_big_quiet_op; go_big_quiet_on)); refine wpQuiet_nil ?_)) | refine rel_skip_none rfl (fun _ => rfl) ?_))
  (refine rel_nil ?_; rintro _ ⟨mq, rfl⟩ hF; simp only [List.forall_mem_cons] at hF; obtain ⟨-, -, -⟩ := hF)
  replace hG := Grew.more hG mq
  clear hinj hbase hsv e5 e6 HA HB HU f0 f1 l0 l1 cA cB
  generalize more w8 mq = w9 at *
  clear γ gv
  by_cases hX : pcE S = 0
  ·obtain ⟨hb1, hb2, hb3⟩ := wB_back hX
   have cP := fun (W : World) => parse_good (W := S) (nm := nmF S) (n := pnN S) (I := idF S) (K := pkF S) (by omega) hX rfl rfl (fun _ _ => rfl) (fun _ _ _ _ => rfl) W
   have cW := fun (W : World) (o : Option Addr) (cc : Nat) (hp : PkAt W o (pnN S) (idF S) (pkF S)) => bwrite_any (nmF S) o (pnN S) cc (idF S) (pkF S) W (nmF_bd S).1 (nmF_bd S).2 hp hb2 (fun j hj => idF_bd S j) (fun j hj i hi => by have := byteAt_b S (8 + 36 * j + 4 + i); unfold pkF; omega) hb3
   have hb4 : catS (bwF (nmF S) (pnN S) (idF S) (pkF S)) (4 + 2 * pnN S) = S := hb1
   rw [hb4] at cW
   clear hb1 hb2 hb3 hb4 hX
   generalize nmF S = nm2 at *
   generalize pnN S = n2 at *
   generalize idF S = I2 at *
   generalize pkF S = K2 at *
   go_wp2_with fail
   refine (cP _).mono ?_
   rintro e w10 ⟨o4, c4, rfl, hp, hb⟩
   have HQ : Hid (PkAt (w10.alloc (.cells #[.int .u32 nm2, .slice o4 n2 c4] 25)) o4 n2 I2 K2) := hp.later (Grew.alloc (Grew.refl _) _)
   have f4 : objAt (w10.alloc (.cells #[.int .u32 nm2, .slice o4 n2 c4] 25)) w10.heap.size = some (.cells #[.int .u32 nm2, .slice o4 n2 c4] 25) := objAt_alloc_at _ _ _ rfl
   replace hG := Grew.alloc (Grew.trans hG hb) (.cells #[.int .u32 nm2, .slice o4 n2 c4] 25)
   clear hb hp cP
   go_wp2_with fail
   generalize w10.alloc (.cells #[.int .u32 nm2, .slice o4 n2 c4] 25) = w11 at *
   generalize w10.heap.size = g4 at *
   refine (cW _ _ _ HQ.out).mono ?_
   rintro e w12 ⟨rfl, hb⟩
   replace hG := Grew.trans hG hb
   go_wp2
   go_ret
   exact ⟨rfl, hG⟩
  ·have cP := fun (W : World) => parse_bad (W := S) (X := pcE S) (by omega) rfl hX W
   go_wp2_with fail
   refine (cP _).mono ?_
   rintro e w10 ⟨o4, c4, t4, x4, rfl, -, hb⟩
   have f4 : objAt (w10.alloc (.cells #[.int .u32 0, .slice o4 0 c4] 25)) w10.heap.size = some (.cells #[.int .u32 0, .slice o4 0 c4] 25) := objAt_alloc_at _ _ _ rfl
   replace hG := Grew.alloc (Grew.trans hG hb) (.cells #[.int .u32 0, .slice o4 0 c4] 25)
   clear hb cP
   go_wp2_with fail
   generalize w10.alloc (.cells #[.int .u32 0, .slice o4 0 c4] 25) = w11 at *
   generalize w10.heap.size = g4 at *
   refine (of17_any 0 o4 0 c4 I K _ (PkAt.nil _ _ _ _) (by decide)).mono ?_
   rintro e w12 ⟨v, rfl, ⟨o7, c7, rfl, -⟩, hb⟩
   replace hG := Grew.trans hG hb
   clear hb
   go_wp2_with fail
   refine (same17_any 0 o7 none 0 c7 0 I K _ (by decide) (PkAt.nil _ _ _ _) (PkAt.nil _ _ _ _)).mono ?_
   rintro e w13 ⟨rfl, hb⟩
   replace hG := Grew.trans hG hb
   go_wp2
   go_ret
   exact ⟨rfl, hG⟩
 ·have cW := fun (W : World) (hb : Below w.heap.size w W) => bwrite_err nm oa n c I K W (HP.out.later hb) (by omega) HIK.out.1 hd
  go_wp2_with fail
  refine (cW _ hG).mono ?_
  rintro e w9 ⟨t, x, rfl, hb⟩
  replace hG := Grew.trans hG hb
  clear hb cW f0 l0
  by_cases hX : pcE S = 0
  ·obtain ⟨hb1, hb2, hb3⟩ := wB_back hX
   have cP := fun (W : World) => parse_good (W := S) (nm := nmF S) (n := pnN S) (I := idF S) (K := pkF S) (by omega) hX rfl rfl (fun _ _ => rfl) (fun _ _ _ _ => rfl) W
   have cW := fun (W : World) (o : Option Addr) (cc : Nat) (hp : PkAt W o (pnN S) (idF S) (pkF S)) => bwrite_any (nmF S) o (pnN S) cc (idF S) (pkF S) W (nmF_bd S).1 (nmF_bd S).2 hp hb2 (fun j hj => idF_bd S j) (fun j hj i hi => by have := byteAt_b S (8 + 36 * j + 4 + i); unfold pkF; omega) hb3
   have hb4 : catS (bwF (nmF S) (pnN S) (idF S) (pkF S)) (4 + 2 * pnN S) = S := hb1
   rw [hb4] at cW
   clear hb1 hb2 hb3 hb4 hX
   generalize nmF S = nm2 at *
   generalize pnN S = n2 at *
   generalize idF S = I2 at *
   generalize pkF S = K2 at *
   go_wp2_with fail
   refine (cP _).mono ?_
   rintro e w10 ⟨o4, c4, rfl, hp, hb⟩
   have HQ : Hid (PkAt (w10.alloc (.cells #[.int .u32 nm2, .slice o4 n2 c4] 25)) o4 n2 I2 K2) := hp.later (Grew.alloc (Grew.refl _) _)
   have f4 : objAt (w10.alloc (.cells #[.int .u32 nm2, .slice o4 n2 c4] 25)) w10.heap.size = some (.cells #[.int .u32 nm2, .slice o4 n2 c4] 25) := objAt_alloc_at _ _ _ rfl
   replace hG := Grew.alloc (Grew.trans hG hb) (.cells #[.int .u32 nm2, .slice o4 n2 c4] 25)
   clear hb hp cP
   go_wp2_with fail
   generalize w10.alloc (.cells #[.int .u32 nm2, .slice o4 n2 c4] 25) = w11 at *
   generalize w10.heap.size = g4 at *
   refine (cW _ _ _ HQ.out).mono ?_
   rintro e w12 ⟨rfl, hb⟩
   replace hG := Grew.trans hG hb
   go_wp2
   go_ret
   exact ⟨rfl, hG⟩
  ·have cP := fun (W : World) => parse_bad (W := S) (X := pcE S) (by omega) rfl hX W
   go_wp2_with fail
   refine (cP _).mono ?_
   rintro e w10 ⟨o4, c4, t4, x4, rfl, -, hb⟩
   have f4 : objAt (w10.alloc (.cells #[.int .u32 0, .slice o4 0 c4] 25)) w10.heap.size = some (.cells #[.int .u32 0, .slice o4 0 c4] 25) := objAt_alloc_at _ _ _ rfl
   replace hG := Grew.alloc (Grew.trans hG hb) (.cells #[.int .u32 0, .slice o4 0 c4] 25)
   clear hb cP
   go_wp2_with fail
   generalize w10.alloc (.cells #[.int .u32 0, .slice o4 0 c4] 25) = w11 at *
   generalize w10.heap.size = g4 at *
   refine (of17_any 0 o4 0 c4 I K _ (PkAt.nil _ _ _ _) (by decide)).mono ?_
   rintro e w12 ⟨v, rfl, ⟨o7, c7, rfl, -⟩, hb⟩
   replace hG := Grew.trans hG hb
   clear hb
   go_wp2_with fail
   refine (same17_any 0 o7 none 0 c7 0 I K _ (by decide) (PkAt.nil _ _ _ _) (PkAt.nil _ _ _ _)).mono ?_
   rintro e w13 ⟨rfl, hb⟩
   replace hG := Grew.trans hG hb
   go_wp2
   go_ret
   exact ⟨rfl, hG⟩
end Go.Proofs.YtnjghcnhcbobhaaGreatDoor
namespace Go.Proofs.YtnjghcnhcbobhaaGreatDoor
open Go.ChangeShapes Go.WideShapes Go.ChangeAt Go.RowKit
set_option linter.unusedVariables false
set_option linter.unusedSimpArgs false
theorem slice_of_trod {H : Type} {enc : TypeId × Value → H} {P : Program} {W : World} {base : Nat} {sp : Nat → Bool} {held : Bool} {t e : TypeId} {fuel : Nat} {u : Value} {x : DataW H × List MemPlace}
  (ht : P.underlying t = some (.slice e)) (h : DataW.trod enc P W base sp held fuel t [u] = some x) : (∃ o l c, u = .slice o l c) ∧ DataW.Trod enc P W base sp held t u x.1 x.2 := by
 have h1 : ∃ o l c, u = .slice o l c := by
  rcases Go.Deep.open_slice ht h with ⟨h0, _⟩ | ⟨a, len, cap, m, n', D, Pl, hcs, _⟩
  ·cases h0; exact ⟨_, _, _, rfl⟩
  ·cases hcs; exact ⟨_, _, _, rfl⟩
 obtain ⟨o, l, c, rfl⟩ := h1
 exact ⟨⟨_, _, _, rfl⟩, fuel, h⟩
theorem lt_u32 {x : Int} (w : (Lit.int .u32 x).wf = true) : 0 ≤ x ∧ x < 4294967296 := by
 have := bounds_u32 w
 omega
theorem trod_pkC {H : Type} {enc : TypeId × Value → H} {W : World} {base : Nat} {sp : Nat → Bool} {held : Bool} {fuel : Nat} {cs : List Value} {x : DataW H × List MemPlace}
  (hl : cs.length = 33) (h : DataW.trod enc Tryz.prog W base sp held fuel 103 cs = some x) : ∃ (i : Int) (k : Nat → Int), (0 ≤ i ∧ i < 4294967296) ∧ Bytes 32 k ∧ ∀ j, j < 33 → cs[j]? = (pkC i k)[j]? := by
 obtain ⟨y0, y1, n, _, _, e0, e1⟩ := trod_struct2 Tryz.underlying103 h
 have c0 : Tryz.prog.cellsOf 22 = 1 := by kernel_rfl
 have c1 : Tryz.prog.cellsOf 44 = 32 := by kernel_rfl
 have E0 : DataW.trod enc Tryz.prog W base sp held n 22 ((cs.drop 0).take (Tryz.prog.cellsOf 22)) = some y0 := e0
 have E1 : DataW.trod enc Tryz.prog W base sp held n 44 ((cs.drop 1).take (Tryz.prog.cellsOf 44)) = some y1 := e1
 rw [c0] at E0
 rw [c1] at E1
 obtain ⟨i, hi, -, wi⟩ := DataW.trod_int Tryz.underlying22 E0
 obtain ⟨k, hk⟩ := trod_array_ints (n := 32) (k := .u8) Tryz.underlying44 Tryz.underlying5 (by kernel_rfl) (by simp [hl]) E1
 refine ⟨i, k, lt_u32 wi, fun j hj => bounds_u8 (hk j hj).2, fun j hj => ?_⟩
 rcases Nat.eq_zero_or_pos j with rfl | hp
 ·rw [pkC_0]
  have h2 : ((cs.drop 0).take 1)[0]? = some (.int .u32 i) := by rw [hi]; rfl
  simpa using h2
 ·obtain ⟨q, rfl⟩ : ∃ q, j = 1 + q := ⟨j - 1, by omega⟩
  have hq : q < 32 := by omega
  rw [pkC_k _ _ _ hq]
  have h2 := (hk q hq).1
  rw [List.getElem?_take, if_pos hq, List.getElem?_drop] at h2
  exact h2
theorem open_bun {H : Type} {enc : TypeId × Value → H} {W : World} {base : Nat} {sp : Nat → Bool} {held : Bool} {r : Reach} {b0 : Nat} {v : Value} {d : DataW H} {ps : List MemPlace}
  (hval : Value.okWide Tryz.prog W r b0 25 v) (hd : DataW.Trod enc Tryz.prog W base sp held 25 v d ps) :
  ∃ (nm : Int) (oa : Option Addr) (n c : Nat) (I : Nat → Int) (K : Nat → Nat → Int), v = .agg #[.int .u32 nm, .slice oa n c] ∧ (0 ≤ nm ∧ nm < 4294967296) ∧ (∀ j, j < n → 0 ≤ I j ∧ I j < 4294967296) ∧ (∀ j, j < n → Bytes 32 (K j)) ∧ PkAt W oa n I K := by
 unfold Value.okWide at hval
 rw [Tryz.underlying25] at hval
 obtain ⟨cs, rfl, hsz, _⟩ := hval
 rw [show Tryz.prog.cellsOf 25 = 2 by kernel_rfl] at hsz
 obtain ⟨fuel, hf⟩ := hd
 obtain ⟨y0, y1, n, _, _, e0, e1⟩ := trod_struct2 Tryz.underlying25 hf
 have c0 : Tryz.prog.cellsOf 22 = 1 := by kernel_rfl
 have c1 : Tryz.prog.cellsOf 23 = 1 := by kernel_rfl
 have E0 : DataW.trod enc Tryz.prog W base sp held n 22 ((cs.toList.drop 0).take (Tryz.prog.cellsOf 22)) = some y0 := e0
 have E1 : DataW.trod enc Tryz.prog W base sp held n 23 ((cs.toList.drop 1).take (Tryz.prog.cellsOf 23)) = some y1 := e1
 rw [c0] at E0
 rw [c1] at E1
 obtain ⟨u0, u1, rfl⟩ : ∃ u0 u1, cs = #[u0, u1] := by
  obtain ⟨l⟩ := cs
  match l, hsz with
  | [u0, u1], _ => exact ⟨u0, u1, rfl⟩
 have F0 : DataW.trod enc Tryz.prog W base sp held n 22 [u0] = some y0 := E0
 have F1 : DataW.trod enc Tryz.prog W base sp held n 23 [u1] = some y1 := E1
 obtain ⟨nm, hn, -, wn⟩ := DataW.trod_int Tryz.underlying22 F0
 cases hn
 obtain ⟨hsl, hd1⟩ := slice_of_trod Tryz.underlying23 F1
 obtain ⟨oa, m, c, rfl, hm, hF⟩ := open_cells Tryz.underlying23 hsl hd1
 have c3 : Tryz.prog.cellsOf 103 = 33 := by kernel_rfl
 rw [c3] at hF
 have key : m = 0 ∨ ∃ a : Addr, oa = some a ∧ ∀ i, i < m → ∃ (z : Int) (k : Nat → Int), (0 ≤ z ∧ z < 4294967296) ∧ Bytes 32 k ∧ ∀ j, j < 33 → W.cell? (a.add (i * 33 + j)) = (pkC z k)[j]? := by
  rcases hF with h | ⟨a, ho, hc⟩
  ·exact .inl h
  ·refine .inr ⟨a, ho, fun i hi => ?_⟩
   obtain ⟨cs', m', y, hl, hat, hy⟩ := hc i hi
   obtain ⟨z, k, hz, hk, hcs⟩ := trod_pkC hl hy
   exact ⟨z, k, hz, hk, fun j hj => (hat j hj).trans (hcs j hj)⟩
 rcases key with rfl | ⟨a, rfl, hc⟩
 ·exact ⟨nm, oa, 0, c, fun _ => 0, fun _ _ => 0, rfl, lt_u32 wn, fun j hj => by omega, fun j hj => by omega, .inl rfl⟩
 ·refine ⟨nm, some a, m, c, fun i => if h : i < m then Classical.choose (hc i h) else 0, fun i => if h : i < m then Classical.choose (Classical.choose_spec (hc i h)) else fun _ => 0, rfl, lt_u32 wn, fun j hj => ?_, fun j hj => ?_, ?_⟩
  ·simp only [hj, dif_pos]
   exact (Classical.choose_spec (Classical.choose_spec (hc j hj))).1
  ·simp only [hj, dif_pos]
   exact (Classical.choose_spec (Classical.choose_spec (hc j hj))).2.1
  ·rcases Nat.eq_zero_or_pos m with rfl | hp
   ·exact .inl rfl
   refine .inr ⟨a, rfl, ?_, fun j hj i hi => ?_⟩
   ·have h0 := (Classical.choose_spec (Classical.choose_spec (hc 0 hp))).2.2 0 (by decide)
    rw [pkC_0] at h0
    have h1 := cell_lt h0
    rwa [add_blk] at h1
   ·simp only [hj, dif_pos]
    rw [Go.Deep.add_add]
    exact (Classical.choose_spec (Classical.choose_spec (hc j hj))).2.2 i hi
end Go.Proofs.YtnjghcnhcbobhaaGreatDoor
