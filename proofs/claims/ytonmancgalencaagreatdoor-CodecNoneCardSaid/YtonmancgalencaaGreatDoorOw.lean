/- Rows of numbers that the call owns, and what is appended to them. -/
import Derived.Test.YtonmancgalencaaGreatDoorSi
import Derived.Lib.AppendStr
import Derived.Deep.AppendLies
import Derived.Test.YtonmancgalencaaGreatDoorRel
import Derived.Test.YtonmancgalencaaGreatDoorSw
namespace Go.Proofs.YtonmancgalencaaGreatDoor
open Go.RowKit Go.Lib
set_option linter.unusedVariables false
set_option linter.unusedSimpArgs false
def rowL (k : IntKind) (G : Nat → Int) (n : Nat) : List Value := (List.range n).map fun i => Value.int k (G i)
theorem rowL_len (k : IntKind) (G : Nat → Int) (n : Nat) : (rowL k G n).length = n := by simp [rowL]
theorem rowL_get (k : IntKind) (G : Nat → Int) (n i : Nat) (h : i < n) : (rowL k G n)[i]? = some (.int k (G i)) := by
 unfold rowL
 rw [List.getElem?_map, List.getElem?_range h]
 rfl
theorem rowL_succ (k : IntKind) (G : Nat → Int) (n : Nat) : rowL k G (n + 1) = rowL k G n ++ [.int k (G n)] := by
 unfold rowL
 rw [List.range_succ, List.map_append]
 rfl
theorem grown_of_below' {w w' : World} (hb : Below w.heap.size w w') : w.grownBy w' none := ⟨hb.os, hb.tape, hb.output, hb.size, fun k hk _ => hb.block k hk⟩
theorem own_later {w w' : World} {base : Nat} {e : TypeId} {size : Nat} {v : Value} {n : Nat} {xs : List Value} (h : w.ownsRow base e size v n xs) (hb : Below w.heap.size w w') : w'.ownsRow base e size v n xs :=
 h.kept (grown_of_below' hb) (by cases v.ownBlock <;> simp)
theorem own_next {w W w' : World} {base : Nat} {e : TypeId} {v : Value} {n : Nat} {xs : List Value} (own : W.ownsRow base e 1 v n xs) (hg : W.grownBy w' v.ownBlock) (hG : Below w.heap.size w W) (hwb : w.heap.size ≤ base) :
  Below w.heap.size w w' ∧ ∀ m o, m < base → objAt W m = some o → objAt w' m = some o := by
 refine ⟨hG.grown hg hG.size (fun k hk => ?_), fun m o hm hob => ?_⟩
 ·have := (own.lt k hk).1; omega
 ·have hlt := lt_of_objAt hob
  refine (hg.block m hlt fun e => ?_).trans hob
  have := (own.lt m e.symm).1
  omega
theorem append_int {t e : TypeId} {i : TypeInfo} {z : Value} (k : IntKind) (bytes : Nat) (ht : Tryz.prog.underlying t = some (.slice e)) (hi : Tryz.prog.info? e = some i) (hz : i.zero = some z) (hsize : i.size = 1) (hby : i.bytes = bytes) (hzs : z.cells.size = 1) (hb8 : bytes ≤ 8)
  (w W : World) (base : Nat) (v : Value) (n : Nat) (G : Nat → Int) (g2 : Nat) (t2 ty : TypeId) (fr : Nat × Nat) (own : W.ownsRow base e 1 v n (rowL k G n)) (hn : n ≤ 1099511627776)
  (hg2 : objAt W g2 = some (.cells #[.int k (G n)] t2 fr)) (hG : Below w.heap.size w W) (hwb : w.heap.size ≤ base) (hbW : base ≤ W.heap.size) :
  ∃ g cap w', (appendNext #[t, t] ty #[v, .slice (some ⟨g2, 0, none⟩) 1 1]).run Tryz.prog W = .ok (.value (.slice (some ⟨g, 0, none⟩) (n + 1) cap)) w' ∧ w'.ownsRow base e 1 (.slice (some ⟨g, 0, none⟩) (n + 1) cap) (n + 1) (rowL k G (n + 1)) ∧
   Below w.heap.size w w' ∧ (∀ m o, m < base → objAt W m = some o → objAt w' m = some o) ∧ base ≤ g := by
 have hbn : (n + 1) * bytes ≤ 140737488355328 := Nat.le_trans (Nat.mul_le_mul_left (n + 1) hb8) (by omega)
 obtain ⟨g, cap, w', hr, ho, hg, _, _⟩ := run_append_lies (P := Tryz.prog) W t ty base e i z 1 bytes ht hi hz hsize hby hzs (by decide) v n (rowL k G n) own ⟨g2, 0, none⟩ 1 1 [.int k (G n)] rfl
  (fun j u hu => by
   unfold objAt at hg2
   have ha : ((⟨g2, 0, none⟩ : Addr).add j) = ⟨g2, j, none⟩ := by unfold Addr.add; split <;> simp_all
   rw [ha, cell_of_row W g2 j _ _ _ hg2]
   simpa using hu) (fun u hu => by
   rw [List.mem_singleton] at hu
   subst hu
   rfl) (by decide) (by unfold maxLen; omega) hbn hbW W.heap.size rfl
 rw [← rowL_succ] at ho
 obtain ⟨h1, h2⟩ := own_next own hg hG hwb
 exact ⟨g, cap, w', by unfold appendNext; simp only [Sem.run_bind, hr, Result.andThen_ok, Sem.run_pure], ho, h1, h2, (ho.lt g rfl).1⟩
theorem strCells_row (s : ByteArray) : strCells s = rowL .u8 (byteAt s) s.size := by
 apply List.ext_getElem?
 intro j
 by_cases h : j < s.size
 ·rw [rowL_get _ _ _ _ h]
  unfold strCells
  have : s.data.toList[j]? = some s[j] := by
   rw [Array.getElem?_toList]
   exact Array.getElem?_eq_getElem h
  rw [List.getElem?_map, this, ← byteAt_lt s j h]
  rfl
 ·rw [List.getElem?_eq_none (by rw [strCells_length]; omega), List.getElem?_eq_none (by rw [rowL_len]; omega)]
theorem rowL_congr {k : IntKind} {G G' : Nat → Int} {n : Nat} (h : ∀ i, i < n → G i = G' i) : rowL k G n = rowL k G' n := by
 unfold rowL
 exact List.map_congr_left fun i hi => by rw [h i (by simpa using hi)]
@[go_sem ↓ high] theorem append_text (ty : TypeId) (cs : Array Bool) (args : Array Value) : builtin .append #[143, 9] ty cs args = appendNext #[143, 9] ty args := by unfold appendNext; rfl
theorem build1b (x : Int) (W : World) : (Instr.buildSlice 143 1 #[(0, .int .u8 x)]).run Tryz.prog W = .ok (.slice (some ⟨W.heap.size, 0, none⟩) 1 1) (W.alloc (.cells #[.int .u8 x] 5)) := by kernel_rfl
def buildB1 (v : Value) : Sem Next := do pure (.value (← Instr.buildSlice 143 1 #[(0, v)]))
@[go_sem ↓ high] theorem op_buildB1 (ρ : Operand → Value) (d : Option Tmp) (x : Operand) (t : TypeId) (pos : String) (af : Array Edge) (g : Option (Nat × Bool)) :
  execOp ρ ⟨d, .buildSlice 143 1 #[(0, x)], t, pos, af, g⟩ = buildB1 (ρ x) := by
 unfold execOp buildB1
 simp
@[go_sem high] theorem op_buildB1' (ρ : Operand → Value) (d : Option Tmp) (x : Operand) (t : TypeId) (pos : String) (af : Array Edge) (g : Option (Nat × Bool)) :
  execOp ρ ⟨d, .buildSlice 143 1 #[(0, x)], t, pos, af, g⟩ = buildB1 (ρ x) := op_buildB1 ρ d x t pos af g
@[go_sem] theorem run_buildB1 (x : Int) (W : World) : (buildB1 (.int .u8 x)).run Tryz.prog W = .ok (.value (.slice (some ⟨W.heap.size, 0, none⟩) 1 1)) (W.alloc (.cells #[.int .u8 x] 5)) := by
 unfold buildB1
 simp only [Sem.run_bind, build1b, Result.andThen_ok, Sem.run_pure]
attribute [irreducible] buildB1
theorem append_byte (w W : World) (base : Nat) (v : Value) (n : Nat) (G : Nat → Int) (g2 : Nat) (t2 ty : TypeId) (fr : Nat × Nat) (own : W.ownsRow base 5 1 v n (rowL .u8 G n)) (hn : n ≤ 1099511627776)
  (hg2 : objAt W g2 = some (.cells #[.int .u8 (G n)] t2 fr)) (hG : Below w.heap.size w W) (hwb : w.heap.size ≤ base) (hbW : base ≤ W.heap.size) :
  ∃ g cap w', (appendNext #[143, 143] ty #[v, .slice (some ⟨g2, 0, none⟩) 1 1]).run Tryz.prog W = .ok (.value (.slice (some ⟨g, 0, none⟩) (n + 1) cap)) w' ∧ w'.ownsRow base 5 1 (.slice (some ⟨g, 0, none⟩) (n + 1) cap) (n + 1) (rowL .u8 G (n + 1)) ∧
   Below w.heap.size w w' ∧ (∀ m o, m < base → objAt W m = some o → objAt w' m = some o) ∧ base ≤ g :=
 append_int (i := (Tryz.prog.info? 5).get (by kernel_rfl)) (z := ((Tryz.prog.info? 5).get (by kernel_rfl)).zero.get (by kernel_rfl)) .u8 1 Tryz.underlying143 (by kernel_rfl) (by kernel_rfl) (by kernel_rfl) (by kernel_rfl) (by kernel_rfl) (by decide) w W base v n G g2 t2 ty fr own hn hg2 hG hwb hbW
theorem append_str0 (w : World) (s : ByteArray) (ty : TypeId) (hs : s.size ≤ 1099511627776) :
  ∃ v w', (appendNext #[143, 9] ty #[.slice none 0 0, .string s]).run Tryz.prog w = .ok (.value v) w' ∧ w'.ownsRow w.heap.size 5 1 v s.size (rowL .u8 (byteAt s) s.size) ∧ Below w.heap.size w w' := by
 obtain ⟨v, w', hr, ho, hg, _⟩ := run_append_own_string (P := Tryz.prog) w w.heap.size 143 9 ty 5 ((Tryz.prog.info? 5).get (by kernel_rfl)) Tryz.underlying143 Tryz.underlying9 (by kernel_rfl) (by kernel_rfl) (by kernel_rfl) (by kernel_rfl) (.slice none 0 0) 0 [] (World.ownsRow_nil _ _ _ _) s (by unfold maxLen; omega) (by omega) (Nat.le_refl _)
 rw [List.nil_append, strCells_row, Nat.zero_add] at ho
 exact ⟨v, w', by unfold appendNext; simp only [Sem.run_bind, hr, Result.andThen_ok, Sem.run_pure], ho, (own_next (World.ownsRow_nil w w.heap.size 5 1) hg (Grew.refl w) (Nat.le_refl _)).1⟩
end Go.Proofs.YtonmancgalencaaGreatDoor
namespace Go.Proofs.YtonmancgalencaaGreatDoor
open Go.RowKit
set_option linter.unusedVariables false
set_option linter.unusedSimpArgs false
theorem full_at (s : ByteArray) : ∀ i, i < s.size → byteAt s i = byteAt (fullB s) i := fun i hi => (byteAt_left s _ i hi).symm
theorem full_pad (s : ByteArray) (i : Nat) (hi : i < (padB s.size).size) : byteAt (fullB s) (s.size + i) = byteAt (padB s.size) i := byteAt_right s _ i hi
theorem pad_first (n : Nat) : byteAt (padB n) 0 = 128 := by
 unfold padB
 have h1 : (⟨#[128]⟩ : ByteArray).size = 1 := rfl
 rw [byteAt_left _ _ 0 (by rw [ByteArray.size_append, h1]; omega), byteAt_left _ _ 0 (by rw [h1]; omega)]
 rfl
theorem pad_nought (n j : Nat) (hj : j < (119 - n % 64) % 64) : byteAt (padB n) (1 + j) = 0 := by
 unfold padB
 have h1 : (⟨#[128]⟩ : ByteArray).size = 1 := rfl
 rw [byteAt_left _ _ _ (by rw [ByteArray.size_append, h1, zerosB_size]; omega)]
 have := byteAt_right (⟨#[128]⟩ : ByteArray) (zerosB ((119 - n % 64) % 64)) j (by rw [zerosB_size]; exact hj)
 rw [h1] at this
 rw [this, byteAt_zeros]
theorem pad_told (n j : Nat) (hj : j < 8) : byteAt (padB n) (1 + (119 - n % 64) % 64 + j) = toldF n j := by
 unfold padB
 have h1 : (⟨#[128]⟩ : ByteArray).size = 1 := rfl
 have := byteAt_right ((⟨#[128]⟩ : ByteArray) ++ zerosB ((119 - n % 64) % 64)) (strOf 8 (toldF n)) j (by rw [strOf_size]; exact hj)
 rw [ByteArray.size_append, h1, zerosB_size] at this
 rw [this, byteAt_strOf 8 _ j hj (told_bytes n j hj)]
theorem full_size (s : ByteArray) : (fullB s).size = s.size + 1 + (119 - s.size % 64) % 64 + 8 := by
 unfold fullB
 rw [ByteArray.size_append, padB_size]; omega
theorem told_div (n j : Nat) (hn : n < 1152921504606846976) (hj : j < 8) : ((n : Int) * 8) / 256 ^ (7 - j) % 256 = toldF n j := by
 unfold toldF
 have e : (256 : Int) ^ (7 - j) = 2 ^ (56 - 8 * j) := by
  rw [show (256 : Int) = 2 ^ 8 from rfl, ← Int.pow_mul]
  congr 1
  omega
 rw [e, Int.mul_comm]
attribute [local irreducible] strOf shaF zerosB padB fullB hashT
end Go.Proofs.YtonmancgalencaaGreatDoor
namespace Go.Proofs.YtonmancgalencaaGreatDoor
open Go.RowKit
set_option linter.unusedVariables false
set_option linter.unusedSimpArgs false
end Go.Proofs.YtonmancgalencaaGreatDoor
namespace Go.Proofs.YtonmancgalencaaGreatDoor
open Go.RowKit Go.Lib
set_option linter.unusedVariables false
set_option linter.unusedSimpArgs false
section
variable {ops : Array Oper} {o : Oper} {a : Act} {K : Act → World → Prop} {Q : Exit → Act → World → Prop} {E : Prop}
theorem step_int {t e : TypeId} {i : TypeInfo} {z : Value} (k : IntKind) (bytes : Nat) (ht : Tryz.prog.underlying t = some (.slice e)) (hi : Tryz.prog.info? e = some i) (hz : i.zero = some z) (hsize : i.size = 1) (hby : i.bytes = bytes) (hzs : z.cells.size = 1) (hb8 : bytes ≤ 8)
  (hgd : o.guard = none) (s x : Operand) (ho : o.op = .call { callee := .builtin .append, args := #[s, x], argTypes := #[t, t] })
  (w W : World) (base : Nat) (v : Value) (n : Nat) (G : Nat → Int) (g2 : Nat) (t2 : TypeId) (fr : Nat × Nat) (hs : a.eval s = v) (hx : a.eval x = .slice (some ⟨g2, 0, none⟩) 1 1) (own : W.ownsRow base e 1 v n (rowL k G n)) (hn : n ≤ 1099511627776)
  (hg2 : objAt W g2 = some (.cells #[.int k (G n)] t2 fr)) (hG : Below w.heap.size w W) (hwb : w.heap.size ≤ base) (hbW : base ≤ W.heap.size)
  (h : ∀ g cap w', w'.ownsRow base e 1 (.slice (some ⟨g, 0, none⟩) (n + 1) cap) (n + 1) (rowL k G (n + 1)) → Below w.heap.size w w' → (∀ m ob, m < base → objAt W m = some ob → objAt w' m = some ob) → base ≤ g → K (a.put o.dst (.slice (some ⟨g, 0, none⟩) (n + 1) cap)) w') :
  if Region.wanted o (yielded ops a.tmps) = true then Oper.wp Tryz.prog o a W K Q else E := by
 have hbn : (n + 1) * bytes ≤ 140737488355328 := Nat.le_trans (Nat.mul_le_mul_left (n + 1) hb8) (by omega)
 refine step_append_lies (P := Tryz.prog) (w := W) hgd s x t ho base e i z 1 bytes ht hi hz hsize hby hzs (by decide) v n (rowL k G n) hs own ⟨g2, 0, none⟩ 1 1 [.int k (G n)] hx rfl
  (fun j u hu => by
   unfold objAt at hg2
   have ha : ((⟨g2, 0, none⟩ : Addr).add j) = ⟨g2, j, none⟩ := by unfold Addr.add; split <;> simp_all
   rw [ha, cell_of_row W g2 j _ _ _ hg2]
   simpa using hu) (fun u hu => by
   rw [List.mem_singleton] at hu
   subst hu
   rfl) (by decide) (by unfold maxLen; omega) hbn hbW W.heap.size rfl (fun g cap w' ho' hg _ _ => ?_)
 rw [← rowL_succ] at ho'
 obtain ⟨h1, h2⟩ := own_next own hg hG hwb
 exact h g cap w' ho' h1 h2 (ho'.lt g rfl).1
end
section
variable {ops : Array Oper} {o : Oper} {a : Act} {K : Act → World → Prop} {Q : Exit → Act → World → Prop} {E : Prop}
end
def WordsAt (w : World) (g o n : Nat) (G : Nat → Int) : Prop := g < w.heap.size ∧ ∀ i, i < n → cellOf (objAt w g) (o + i) = some (.int .u32 (G i))
theorem WordsAt.later {w w' : World} {g o n : Nat} {G : Nat → Int} (h : WordsAt w g o n G) (hb : Below w.heap.size w w') : WordsAt w' g o n G := by
 refine ⟨Nat.lt_of_lt_of_le h.1 hb.size, fun i hi => ?_⟩
 rw [show objAt w' g = objAt w g from hb.block g h.1]
 exact h.2 i hi
theorem words_of_own {w : World} {base g n c : Nat} {G : Nat → Int} {t : TypeId} (h : w.ownsRow base t 1 (.slice (some ⟨g, 0, none⟩) n c) n (rowL .u32 G n)) : WordsAt w g 0 n G := by
 rcases h.2 with ⟨h0, _⟩ | ⟨g', cap, cur, h0, hb, hg, hnc, hcm, hcs, htake⟩
 ·cases h0
 ·cases h0
  have hlt : g < w.heap.size := lt_of_objAt (show objAt w g = _ from hg)
  refine ⟨hlt, fun i hi => ?_⟩
  rw [show objAt w g = some (.cells cur t (0, 0)) from hg, cellOf_cells, Nat.zero_add]
  have h1 := rowL_get .u32 G n i hi
  rw [← htake, List.getElem?_take, if_pos (by omega)] at h1
  simpa using h1
theorem words_of_eight {w : World} {g : Nat} {x0 x1 x2 x3 x4 x5 x6 x7 : Int} {t : TypeId} {fr : Nat × Nat} {G : Nat → Int} (h : objAt w g = some (.cells #[.int .u32 x0, .int .u32 x1, .int .u32 x2, .int .u32 x3, .int .u32 x4, .int .u32 x5, .int .u32 x6, .int .u32 x7] t fr))
  (h0 : x0 = G 0) (h1 : x1 = G 1) (h2 : x2 = G 2) (h3 : x3 = G 3) (h4 : x4 = G 4) (h5 : x5 = G 5) (h6 : x6 = G 6) (h7 : x7 = G 7) : WordsAt w g 0 8 G := by
 subst h0 h1 h2 h3 h4 h5 h6 h7
 refine ⟨lt_of_objAt h, fun i hi => ?_⟩
 rw [h, cellOf_cells, Nat.zero_add]
 rcases (by omega : i = 0 ∨ i = 1 ∨ i = 2 ∨ i = 3 ∨ i = 4 ∨ i = 5 ∨ i = 6 ∨ i = 7) with rfl | rfl | rfl | rfl | rfl | rfl | rfl | rfl <;> rfl
theorem sch_fix (B : Nat → Int) : ∀ t i, i < t → sch B t i = nextW B (sch B i) i
 | 0, i, h => by omega
 | t + 1, i, h => by
  show upd (sch B t) t (nextW B (sch B t) t) i = _
  by_cases e : i = t
  ·subst e; exact upd_same _ _ _
  ·rw [upd_other _ _ _ _ e]; exact sch_fix B t i (by omega)
theorem sch_low (B : Nat → Int) (i : Nat) (h : i < 16) : sch B 64 i = wd B i := by
 rw [sch_fix B 64 i (by omega)]
 unfold nextW
 rw [if_pos h]
theorem sch_high (B : Nat → Int) (t : Nat) (h0 : 16 ≤ t) (h1 : t < 64) : sch B 64 t = (sm1 (sch B 64 (t - 2)) + sch B 64 (t - 7) + sm0 (sch B 64 (t - 15)) + sch B 64 (t - 16)) % 4294967296 := by
 rw [sch_fix B 64 t h1]
 unfold nextW
 rw [if_neg (by omega), sch_fix B t (t - 2) (by omega), sch_fix B t (t - 7) (by omega), sch_fix B t (t - 15) (by omega), sch_fix B t (t - 16) (by omega), sch_fix B 64 (t - 2) (by omega), sch_fix B 64 (t - 7) (by omega), sch_fix B 64 (t - 15) (by omega), sch_fix B 64 (t - 16) (by omega)]
theorem sm0_is (x : Int) : bits .xor .u32 (bits .xor .u32 (rot 7 x) (rot 18 x)) (x / 8) = sm0 x := by unfold sm0; rfl
theorem sm1_is (x : Int) : bits .xor .u32 (bits .xor .u32 (rot 17 x) (rot 19 x)) (x / 1024) = sm1 x := by unfold sm1; rfl
theorem gr0_is (x : Int) : bits .xor .u32 (bits .xor .u32 (rot 2 x) (rot 13 x)) (rot 22 x) = gr0 x := by unfold gr0; rfl
theorem gr1_is (x : Int) : bits .xor .u32 (bits .xor .u32 (rot 6 x) (rot 11 x)) (rot 25 x) = gr1 x := by unfold gr1; rfl
theorem chs_is (e f g : Int) : bits .xor .u32 (bits .and .u32 e f) (bits .and .u32 (4294967295 - e) g) = chs e f g := by unfold chs; rfl
end Go.Proofs.YtonmancgalencaaGreatDoor
