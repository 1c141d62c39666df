/- Dr -/
import Derived.Test.YteaillmjldoajaaGreatDoorQ12
import Derived.Test.YteaillmjldoajaaGreatDoorC16
import Derived.Test.YteaillmjldoajaaGreatDoorR12
import Derived.Test.YteaillmjldoajaaGreatDoorSm
import Derived.Deep.AppendSrc
import Derived.Deep.DeepAppendWide
import Derived.Test.YteaillmjldoajaaGreatDoorFrame
import Derived.ChangeSame
import Derived.Test.YteaillmjldoajaaGreatDoorE15
import Derived.Test.YteaillmjldoajaaGreatDoorDh
set_option maxRecDepth 100000
set_option maxHeartbeats 4000000
namespace Go.Proofs.YteaillmjldoajaaGreatDoor
open Go.RowKit
set_option linter.unusedVariables false
set_option linter.unusedSimpArgs false
structure Kept (b g : Nat) (w w' : World) : Prop where
 os : w'.os = w.os
 tape : w'.tape = w.tape
 output : w'.output = w.output
 size : w.heap.size ≤ w'.heap.size
 block : ∀ k, k < w.heap.size → k ≠ b → k ≠ g → w'.heap[k]? = w.heap[k]?
theorem Kept.refl (b g : Nat) (w : World) : Kept b g w w := ⟨rfl, rfl, rfl, Nat.le_refl _, fun _ _ _ _ => rfl⟩
theorem Kept.of {b g : Nat} {w w' : World} (h : Below w.heap.size w w') : Kept b g w w' := ⟨h.os, h.tape, h.output, h.size, fun k hk _ _ => h.block k hk⟩
theorem Kept.trans {b g g' : Nat} {w w1 w2 : World} (h : Kept b g w w1) (k : Kept b g' w1 w2) (hg : g' = g ∨ w.heap.size ≤ g') : Kept b g w w2 :=
 ⟨k.os.trans h.os, k.tape.trans h.tape, k.output.trans h.output, Nat.le_trans h.size k.size, fun i hi h1 h2 => (k.block i (Nat.lt_of_lt_of_le hi h.size) h1 (by
  rcases hg with rfl | hg
  ·exact h2
  ·omega)).trans (h.block i hi h1 h2)⟩
theorem Kept.row {b g k : Nat} {w : World} (c : Array Value) (hk : k = b ∨ k = g) : Kept b g w (w.setRow k c) :=
 ⟨rfl, rfl, rfl, by rw [size_setRow']; exact Nat.le_refl _, fun i _ h1 h2 => objAt_setRow_ne w k i c (by rcases hk with rfl | rfl <;> assumption)⟩
theorem Kept.obj {b g k : Nat} {w w' : World} {o : Obj} (h : Kept b g w w') (hk : objAt w k = some o) (h1 : k ≠ b) (h2 : k ≠ g) : objAt w' k = some o := (h.block k (lt_of_objAt hk) h1 h2).trans hk
theorem Kept.below {b g : Nat} {w0 w w' : World} (h : Kept b g w w') (hb : Below w0.heap.size w0 w) (h1 : w0.heap.size ≤ b) (h2 : w0.heap.size ≤ g) : Below w0.heap.size w0 w' :=
 ⟨h.os.trans hb.os, h.tape.trans hb.tape, h.output.trans hb.output, Nat.le_trans hb.size h.size, fun k hk => (h.block k (Nat.lt_of_lt_of_le hk hb.size) (by omega) (by omega)).trans (hb.block k hk)⟩
theorem addD_block (ad : Addr) (i : Nat) : (ad.add i).block = ad.block := by unfold Addr.add; split <;> rfl
theorem k32_lt {w : World} {ad : Addr} {n : Nat} {F : Nat → Nat → Int} (h : K32At w (some ad) n F) (hn : 0 < n) : ad.block < w.heap.size := by
 rcases h with h | ⟨ad', e, hl⟩
 ·omega
 ·cases e
  have := World.block_lt_of_cell? w _ (hl w (Grew.refl _) 0 hn 0 (by decide))
  rwa [addD_block] at this
theorem Kept.kss {b g : Nat} {w w' : World} (h : Kept b g w w') {oa : Option Addr} {n : Nat} {F : Nat → Nat → Int} (hK : K32At w oa n F) (ha : 0 < n → ∀ ad, oa = some ad → ad.block ≠ b ∧ ad.block ≠ g) : K32At w' oa n F := by
 by_cases hn : n = 0
 ·exact .inl hn
 ·rcases hK with h0 | ⟨ad, rfl, hl⟩
  ·exact absurd h0 hn
  ·obtain ⟨h1, h2⟩ := ha (by omega) ad rfl
   have hlt := k32_lt (.inr ⟨ad, rfl, hl⟩ : K32At w (some ad) n F) (by omega)
   refine .inr ⟨ad, rfl, fun W hb j hj i hi => ?_⟩
   have e1 : W.heap[ad.block]? = w.heap[ad.block]? := (hb.block _ (Nat.lt_of_lt_of_le hlt h.size)).trans (h.block _ hlt h1 h2)
   exact (World.cell?_of_block (a := ad.add (j * 32 + i)) (by rw [addD_block]; exact e1)).trans (hl w (Grew.refl _) j hj i hi)
def KIn (cs : Array Value) (o n : Nat) (K : Nat → Nat → Int) : Prop := ∀ j, j < n → ∀ i, i < 32 → cs[o + (j * 32 + i)]? = some (.int .u8 (K j i))
theorem KIn.kss {w : World} {g o n : Nat} {cs : Array Value} {t : TypeId} {fr : Nat × Nat} {K : Nat → Nat → Int} (h : KIn cs o n K) (hg : objAt w g = some (.cells cs t fr)) : K32At w (some ⟨g, o, none⟩) n K :=
 .inr ⟨_, rfl, fun W hb j hj i hi => by
  have e : (⟨g, o, none⟩ : Addr).add (j * 32 + i) = ⟨g, o + (j * 32 + i), none⟩ := by unfold Addr.add; split <;> simp_all
  rw [e, cell_of_row W g _ _ _ _ (keep_below hb hg)]
  exact h j hj i hi⟩
theorem KIn.list {w : World} {g o n : Nat} {cs : Array Value} {t : TypeId} {fr : Nat × Nat} {K : Nat → Nat → Int} (h : KIn cs o n K) (hg : objAt w g = some (.cells cs t fr)) : ∀ x u, (k32L K n)[x]? = some u → w.cell? ((⟨g, o, none⟩ : Addr).add x) = some u := fun x u hu => by
 obtain ⟨j, i, rfl, hj, hi⟩ := flat_at (by decide) (k32L_len K n) hu
 rw [k32L_get K j i hi n hj] at hu
 cases hu
 have e : (⟨g, o, none⟩ : Addr).add (j * 32 + i) = ⟨g, o + (j * 32 + i), none⟩ := by unfold Addr.add; split <;> simp_all
 rw [e, cell_of_row w g _ _ _ _ hg]
 exact h j hj i hi
theorem src_keys {w : World} {oa : Option Addr} {m c : Nat} {F : Nat → Nat → Int} {t e : TypeId} (ht : Tryz.prog.underlying t = some (.slice e)) (h : K32At w oa m F) : Src Tryz.prog 32 t (.slice oa m c) m (k32L F m) w := by
 cases oa with
 | none =>
  rcases h with rfl | ⟨ad, e, -⟩
  ·exact Src.ofNil w ht c
  ·cases e
 | some ad => exact Src.ofSlice w ht ad m c _ (k32L_len F m) (fun x u hu => by
   rcases h with rfl | ⟨ad', e, hl⟩
   ·have hu : ([] : List Value)[x]? = some u := hu
    simp at hu
   ·cases e
    obtain ⟨j, i, rfl, hj, hi⟩ := flat_at (by decide) (k32L_len F m) hu
    rw [k32L_get F j i hi m hj] at hu
    cases hu
    exact hl w (Grew.refl _) j hj i hi) ints_list_ones
def catK (n : Nat) (K F : Nat → Nat → Int) : Nat → Nat → Int := fun j => if j < n then K j else F (j - n)
def Mine (e : TypeId) (w : World) (g : Nat) (oa : Option Addr) (n c : Nat) (K : Nat → Nat → Int) : Prop :=
 (n = 0 ∧ c = 0) ∨ ∃ o cs, oa = some ⟨g, o, none⟩ ∧ n ≤ c ∧ objAt w g = some (.cells cs e) ∧ o + c * 32 ≤ cs.size ∧ KIn cs o n K
theorem Mine.kss {e : TypeId} {w : World} {g : Nat} {oa : Option Addr} {n c : Nat} {K : Nat → Nat → Int} (h : Mine e w g oa n c K) : K32At w oa n K := by
 rcases h with ⟨rfl, -⟩ | ⟨o, cs, rfl, -, hg, -, hK⟩
 ·exact .inl rfl
 ·exact hK.kss hg
theorem Mine.obj {e : TypeId} {w w' : World} {g : Nat} {oa : Option Addr} {n c : Nat} {K : Nat → Nat → Int} (h : Mine e w g oa n c K) (hw : ∀ cs, objAt w g = some (.cells cs e) → objAt w' g = some (.cells cs e)) : Mine e w' g oa n c K := by
 rcases h with h | ⟨o, cs, h1, h2, h3, h4⟩
 ·exact .inl h
 ·exact .inr ⟨o, cs, h1, h2, hw _ h3, h4⟩
theorem Mine.nil (e : TypeId) (w : World) (g : Nat) (oa : Option Addr) (K : Nat → Nat → Int) : Mine e w g oa 0 0 K := .inl ⟨rfl, rfl⟩
theorem app32 {t e : TypeId} {i : TypeInfo} {z : Value} (ht : Tryz.prog.underlying t = some (.slice e)) (hi : Tryz.prog.info? e = some i) (hz : i.zero = some z) (hsize : i.size = 32) (hby : i.bytes = 32) (hzs : z.cells.size = 32)
  (W : World) (g : Nat) (oa oa2 : Option Addr) (n c m c2 : Nat) (K F : Nat → Nat → Int) (hS : Mine e W g oa n c K) (hF : K32At W oa2 m F) (hnm : n + m ≤ 1048576) :
  ∃ g' oa' c' W', (∀ ty : TypeId, (appendNext #[t, t] ty #[.slice oa n c, .slice oa2 m c2]).run Tryz.prog W = .ok (.value (.slice oa' (n + m) c')) W') ∧ Mine e W' g' oa' (n + m) c' (catK n K F) ∧
   ((Below W.heap.size W W' ∧ ((g' = W.heap.size ∧ g' < W'.heap.size) ∨ g' = g)) ∨ (g' = g ∧ ∃ cs cs', objAt W g = some (.cells cs e) ∧ W' = W.setRow g cs')) := by
 have hs := src_keys (c := c2) ht hF
 have hcat : ∀ (cs : Array Value) (o : Nat), KIn cs o n K → (∀ j, j < m → ∀ i, i < 32 → cs[o + n * 32 + (j * 32 + i)]? = some (.int .u8 (F j i))) → KIn cs o (n + m) (catK n K F) := fun cs o h1 h2 j hj i hi => by
  unfold catK
  split
  ·exact h1 j ‹_› i hi
  ·have := h2 (j - n) (by omega) i hi
   rwa [show o + n * 32 + ((j - n) * 32 + i) = o + (j * 32 + i) by omega] at this
 by_cases hroom : n + m ≤ c
 ·rcases hS with ⟨rfl, rfl⟩ | ⟨o, cs, rfl, hnc, hg, hcs, hK⟩
  ·obtain rfl : m = 0 := by omega
   refine ⟨g, oa, 0, W, fun ty => ?_, .inl ⟨rfl, rfl⟩, .inl ⟨Grew.refl _, .inr rfl⟩⟩
   have hr : (Builtin.append_ #[t, t] ty #[.slice oa 0 0, .slice oa2 0 c2]).run Tryz.prog W = .ok (.slice oa 0 0) W := by
    have h1 := hs.len W
    have h2 : (Builtin.firstCells 32 0 (.slice oa2 0 c2)).run Tryz.prog W = .ok #[] W := hs.cells
    cases oa <;> simp [Builtin.append_, run_underlying ht, sizeOf, typeInfo, hi, hsize, h1, h2, storeCells]
   unfold appendNext
   simp only [Sem.run_bind, hr, Result.andThen_ok, Sem.run_pure]
  ·have hl := k32L_len F m
   have hr := fun ty : TypeId => run_append_room_src (P := Tryz.prog) W t t ty e i ht hi g o n c (.slice oa2 m c2) m (k32L F m) (by rw [hsize]; exact hs) hroom
    (fun j hj => by
     rw [hsize, cell_of_row W g _ _ _ _ hg]
     rw [hl] at hj
     simp; omega) (fun j _ => frozen_of_row W g _ _ _ hg)
   simp only [hsize, setCells_row g e _ _ cs W hg] at hr
   have hsz := putAll_size (k32L F m) (o + n * 32) cs
   have hget := fun x => putAll_get (k32L F m) (o + n * 32) cs x (by rw [hl]; omega)
   refine ⟨g, _, c, _, fun ty => ?_, .inr ⟨o, putAll cs (o + n * 32) (k32L F m), rfl, hroom, keep_row _ hg, by rw [hsz]; exact hcs, hcat _ _ (fun j hj i hi => ?_) (fun j hj i hi => ?_)⟩, .inr ⟨rfl, cs, _, hg, rfl⟩⟩
   ·unfold appendNext
    simp only [Sem.run_bind, hr, Result.andThen_ok, Sem.run_pure]
   ·rw [hget, if_neg (by omega)]
    exact hK j hj i hi
   ·rw [hget, if_pos (by rw [hl]; omega), show o + n * 32 + (j * 32 + i) - (o + n * 32) = j * 32 + i by omega, k32L_get F j i hi m hj]
 ·have hold : (Builtin.firstCells i.size n (.slice oa n c)).run Tryz.prog W.drew = .ok (k32L K n).toArray W.drew := by
   rcases hS with ⟨rfl, rfl⟩ | ⟨o, cs, rfl, hnc, hg, hcs, hK⟩
   ·cases oa with
    | none => exact run_firstCells_none W.drew _ 0 0 0
    | some ad => exact run_firstCells_some W.drew _ 0 ad 0 0 [] (by simp) (fun x u hu => by simp at hu)
   ·exact run_firstCells_some W.drew _ n _ n c _ (by rw [hsize]; exact k32L_len K n) (hK.list (w := W.drew) hg)
  have hr := fun ty : TypeId => run_append_grow_src (P := Tryz.prog) W t t ty e i z ht hi hz oa n c (k32L K n) hold (.slice oa2 m c2) m (k32L F m) (by rw [hsize]; exact hs) (by omega) (by omega) (growslice_fits_wide (by omega) (by rw [hby]; omega))
  have hge := grownCap_ge W (n + m) c e
  have lK := k32L_len K n
  have lF := k32L_len F m
  have hsz : ((k32L K n ++ k32L F m).toArray ++ Builtin.zeroCells z.cells (grownCap W (n + m) c e - (n + m))).size = grownCap W (n + m) c e * 32 := by
   simp only [Array.size_append, List.size_toArray, size_zeroCells, hzs, List.length_append, lK, lF]
   rw [← Nat.add_mul, ← Nat.add_mul]
   congr 1
   omega
  have hat : ∀ x u, (k32L K n ++ k32L F m)[x]? = some u → ((k32L K n ++ k32L F m).toArray ++ Builtin.zeroCells z.cells (grownCap W (n + m) c e - (n + m)))[x]? = some u := fun x u hu => by
   have hx : x < (k32L K n ++ k32L F m).length := (List.getElem?_eq_some_iff.1 hu).1
   rw [Array.getElem?_append_left (by rw [List.size_toArray]; exact hx), List.getElem?_toArray]
   exact hu
  refine ⟨W.heap.size, _, _, W.drew.alloc (.cells ((k32L K n ++ k32L F m).toArray ++ Builtin.zeroCells z.cells (grownCap W (n + m) c e - (n + m))) e), fun ty => ?_, .inr ⟨0, _, rfl, hge, objAt_alloc_at _ _ _ rfl, by rw [hsz]; omega, hcat _ _ (fun j hj i hi => hat _ _ ?_) (fun j hj i hi => hat _ _ ?_)⟩, .inl ⟨Grew.alloc (Grew.drewN (Grew.refl _) 1) _, .inl ⟨rfl, by simp⟩⟩⟩
  ·unfold appendNext
   simp only [Sem.run_bind, hr, Result.andThen_ok, Sem.run_pure]
  ·rw [Nat.zero_add, List.getElem?_append_left (by rw [lK]; omega)]
   exact k32L_get K j i hi n hj
  ·rw [List.getElem?_append_right (by rw [lK]; omega), lK, show 0 + n * 32 + (j * 32 + i) - n * 32 = j * 32 + i by omega]
   exact k32L_get F j i hi m hj
def clearNext (ats : Array TypeId) (ty : TypeId) (args : Array Value) : Sem Next := do pure (.value (← Builtin.clear_ ats ty args))
@[go_sem ↓ high] theorem clear_keys (ty : TypeId) (cs : Array Bool) (args : Array Value) : builtin .clear #[22] ty cs args = clearNext #[22] ty args := by unfold clearNext; rfl
theorem clear32 (W : World) (g : Nat) (oa : Option Addr) (n c z : Nat) (K : Nat → Nat → Int) (h : Mine 32 W g oa n c K) (hz : z ≤ n) :
  ∃ W', (∀ ty : TypeId, (clearNext #[22] ty #[.slice oa z c]).run Tryz.prog W = .ok (.value (.tuple #[])) W') ∧
   ((n = 0 ∧ c = 0 ∧ W' = W) ∨ ∃ o cs cs', oa = some ⟨g, o, none⟩ ∧ n ≤ c ∧ objAt W g = some (.cells cs 32) ∧ W' = W.setRow g cs' ∧ o + c * 32 ≤ cs'.size ∧ KIn cs' (o + z * 32) (n - z) (fun j => K (z + j))) := by
 rcases h with ⟨rfl, rfl⟩ | ⟨o, cs, rfl, hnc, hg, hcs, hK⟩
 ·obtain rfl : z = 0 := by omega
  refine ⟨W, fun ty => ?_, .inl ⟨rfl, rfl, rfl⟩⟩
  have hr : (Builtin.clear_ #[22] ty #[.slice oa 0 0]).run Tryz.prog W = .ok (.tuple #[]) W := by
   cases oa <;> simp [Builtin.clear_, run_underlying Tryz.underlying22]
  unfold clearNext
  simp only [Sem.run_bind, hr, Result.andThen_ok, Sem.run_pure]
 ·by_cases hz0 : z = 0
  ·subst hz0
   refine ⟨W, fun ty => ?_, .inr ⟨o, cs, cs, rfl, hnc, hg, (setRow_same hg).symm, hcs, fun j hj i hi => ?_⟩⟩
   ·have hr : (Builtin.clear_ #[22] ty #[.slice (some ⟨g, o, none⟩) 0 c]).run Tryz.prog W = .ok (.tuple #[]) W := by
     simp [Builtin.clear_, run_underlying Tryz.underlying22]
    unfold clearNext
    simp only [Sem.run_bind, hr, Result.andThen_ok, Sem.run_pure]
   ·have := hK j (by omega) i hi
    show cs[o + 0 * 32 + (j * 32 + i)]? = some (.int .u8 (K (0 + j) i))
    rw [Nat.zero_mul, Nat.add_zero, Nat.zero_add]
    exact this
  ·obtain ⟨i, zv, hi, hzv, hzs⟩ : ∃ i zv, Tryz.prog.info? 32 = some i ∧ i.zero = some zv ∧ zv.cells.size = 32 := ⟨(Tryz.prog.info? 32).get (by kernel_rfl), ((Tryz.prog.info? 32).get (by kernel_rfl)).zero.get (by kernel_rfl), by kernel_rfl, by kernel_rfl, by kernel_rfl⟩
   have hone : ∀ v ∈ (Builtin.zeroCells zv.cells z).toList, v.oneCell' = true := by
    have e : zv.cells = ints .u8 32 (fun _ => 0) := by
     have h1 : ((Tryz.prog.info? 32).bind (·.zero)).map (·.cells) = some (ints .u8 32 (fun _ => 0)) := by kernel_rfl
     rw [hi] at h1
     simp [hzv] at h1
     exact h1
    intro v hv
    unfold Builtin.zeroCells at hv
    rw [Array.toList_map, List.mem_map] at hv
    obtain ⟨x, hx, rfl⟩ := hv
    have hlt : x % zv.cells.size < 32 := by rw [hzs]; exact Nat.mod_lt _ (by decide)
    have h2 : zv.cells[x % zv.cells.size]? = some (.int .u8 0) := by rw [e]; exact ints_get _ _ _ _ (by rw [e] at hlt; exact hlt)
    rw [getElem!_def, h2]
    rfl
   have hl : (Builtin.zeroCells zv.cells z).toList.length = z * 32 := by rw [Array.length_toList, size_zeroCells, hzs]
   have hst := run_storeCells_cells (P := Tryz.prog) g o (Builtin.zeroCells zv.cells z).toList 0 W
    (fun j hj => by
     rw [cell_of_row W g _ _ _ _ hg]
     rw [hl] at hj
     simp; omega) (fun j _ => frozen_of_row W g _ _ _ hg) hone
   rw [Nat.add_zero, setCells_row g 32 _ _ cs W hg] at hst
   have hsz := putAll_size (Builtin.zeroCells zv.cells z).toList o cs
   have hget := fun x => putAll_get (Builtin.zeroCells zv.cells z).toList o cs x (by rw [hl]; omega)
   refine ⟨_, fun ty => ?_, .inr ⟨o, cs, _, rfl, hnc, hg, rfl, by rw [hsz]; exact hcs, fun j hj i hi => ?_⟩⟩
   ·have hr : (Builtin.clear_ #[22] ty #[.slice (some ⟨g, o, none⟩) z c]).run Tryz.prog W = .ok (.tuple #[]) (W.setRow g (putAll cs o (Builtin.zeroCells zv.cells z).toList)) := by
     obtain ⟨y, rfl⟩ : ∃ y, z = y + 1 := ⟨z - 1, by omega⟩
     simp [Builtin.clear_, run_underlying Tryz.underlying22, zeroValue, typeInfo, hi, hzv, hst]
    unfold clearNext
    simp only [Sem.run_bind, hr, Result.andThen_ok, Sem.run_pure]
   ·rw [hget, if_neg (by rw [hl]; omega), show o + z * 32 + (j * 32 + i) = o + ((z + j) * 32 + i) by omega]
    exact hK (z + j) (by omega) i hi
attribute [irreducible] clearNext
def offK (oa : Option Addr) (c k : Nat) : Option Addr := if c = k then oa else oa.map (·.add (k * 32))
theorem addK_none (a : Addr) : a.add 0 = a := by unfold Addr.add; split <;> simp_all
theorem allK_of (oa : Option Addr) (c : Nat) : (if c = 0 then oa else oa.map (·.add 0)) = oa := by
 by_cases e : c = 0
 ·rw [if_pos e]
 ·rw [if_neg e]
  cases oa with
  | none => rfl
  | some a => exact congrArg some (addK_none a)
theorem slice32_h {t : TypeId} (ht : Tryz.prog.underlying t = some (.slice (Tryz.prog.elem t))) (hz : ∀ w, (sizeOf (Tryz.prog.elem t)).run Tryz.prog w = .ok 32 w) (oa : Option Addr) (n c k : Nat) (w : World) (hk : k ≤ c) : (Instr.slice t (.slice oa n c) none (some (.int .i64 (k : Int))) none).run Tryz.prog w = .ok (.slice oa k c) w := by
 rw [run_slice_h _ _ _ _ _ ht _ _ (by omega) (by omega), hz w]
 simp only [Result.andThen_ok, sliced, Int.toNat_natCast, Nat.zero_mul, Nat.sub_zero, allK_of]
theorem slice32_l {t : TypeId} (ht : Tryz.prog.underlying t = some (.slice (Tryz.prog.elem t))) (hz : ∀ w, (sizeOf (Tryz.prog.elem t)).run Tryz.prog w = .ok 32 w) (oa : Option Addr) (n c k : Nat) (w : World) (hk : k ≤ n) : (Instr.slice t (.slice oa n c) (some (.int .i64 (k : Int))) none none).run Tryz.prog w = .ok (.slice (offK oa c k) (n - k) (c - k)) w := by
 rw [run_slice_l _ _ _ _ _ ht _ _ (by omega) (by omega), hz w]
 rfl
theorem sl_key : Tryz.prog.underlying 22 = some (.slice (Tryz.prog.elem 22)) := by kernel_rfl
theorem sl_row : Tryz.prog.underlying 27 = some (.slice (Tryz.prog.elem 27)) := by kernel_rfl
theorem size_key (w : World) : (sizeOf (Tryz.prog.elem 22)).run Tryz.prog w = .ok 32 w := by kernel_rfl
theorem size_row (w : World) : (sizeOf (Tryz.prog.elem 27)).run Tryz.prog w = .ok 32 w := by kernel_rfl
theorem Mine.rest {w w' : World} {g n c z o : Nat} {K : Nat → Nat → Int} {cs : Array Value} (hg : objAt w' g = some (.cells cs 32)) (hs : o + c * 32 ≤ cs.size) (hnc : n ≤ c) (hz : z ≤ n) (hK : KIn cs (o + z * 32) (n - z) K) : Mine 32 w' g (offK (some ⟨g, o, none⟩) c z) (n - z) (c - z) K := by
 by_cases e : c = z
 ·exact .inl ⟨by omega, by omega⟩
 ·unfold offK
  rw [if_neg e]
  refine .inr ⟨o + z * 32, cs, ?_, by omega, hg, ?_, hK⟩
  ·simp [add_lit0]
  ·have h1 : c * 32 = z * 32 + (c - z) * 32 := by omega
   omega
theorem K32At.rest {w : World} {oa : Option Addr} {n c z : Nat} {F : Nat → Nat → Int} (h : K32At w oa n F) (hz : z ≤ n) (hc : n ≤ c) : K32At w (offK oa c z) (n - z) (fun j => F (z + j)) := by
 by_cases e : n = z
 ·exact .inl (by omega)
 ·rcases h with h | ⟨ad, rfl, hl⟩
  ·exact .inl (by omega)
  ·unfold offK
   rw [if_neg (by omega)]
   refine .inr ⟨_, rfl, fun W hb j hj i hi => ?_⟩
   rw [Go.Deep.add_add, show z * 32 + (j * 32 + i) = (z + j) * 32 + i by omega]
   exact hl W hb (z + j) (by omega) i hi
theorem K32At.less {w : World} {oa : Option Addr} {n z : Nat} {F : Nat → Nat → Int} (h : K32At w oa n F) (hz : z ≤ n) : K32At w oa z F := by
 rcases h with h | ⟨ad, rfl, hl⟩
 ·exact .inl (by omega)
 ·exact .inr ⟨ad, rfl, fun W hb j hj => hl W hb j (by omega)⟩
theorem offK_block {oa : Option Addr} {c z : Nat} {ad : Addr} (h : offK oa c z = some ad) : ∃ a0, oa = some a0 ∧ ad.block = a0.block := by
 unfold offK at h
 split at h
 ·exact ⟨ad, h, rfl⟩
 ·cases oa with
  | none => cases h
  | some a0 => cases h; exact ⟨a0, rfl, addD_block _ _⟩
end Go.Proofs.YteaillmjldoajaaGreatDoor
namespace Go.Proofs.YteaillmjldoajaaGreatDoor
open Go.ChangeShapes Go.WideShapes Go.ChangeAt Go.RowKit
set_option linter.unusedVariables false
set_option linter.unusedSimpArgs false
@[go_sem ↓ high] theorem load_dact (ρ : Operand → Value) (d : Option Tmp) (x : Operand) (t : TypeId) (pos : String) (af : Array Edge) (g : Option (Nat × Bool)) :
  execOp ρ ⟨d, .load 30 x, t, pos, af, g⟩ = loadNext 30 (ρ x) := op_load _ ρ d x t pos af g
@[go_sem high] theorem load_dact' (ρ : Operand → Value) (d : Option Tmp) (x : Operand) (t : TypeId) (pos : String) (af : Array Edge) (g : Option (Nat × Bool)) :
  execOp ρ ⟨d, .load 30 x, t, pos, af, g⟩ = loadNext 30 (ρ x) := op_load _ ρ d x t pos af g
theorem slice_in_trod {H : Type} {enc : TypeId × Value → H} {P : Program} {W : World} {base : Nat} {sp : Nat → Bool} {held : Bool} {t e : TypeId} {fuel : Nat} {u : Value} {x : DataW H × List MemPlace}
  (ht : P.underlying t = some (.slice e)) (h : DataW.trod enc P W base sp held fuel t [u] = some x) : (∃ o l c, u = .slice o l c) ∧ DataW.Trod enc P W base sp held t u x.1 x.2 := by
 have h1 : ∃ o l c, u = .slice o l c := by
  rcases Go.Deep.open_slice ht h with ⟨h0, _⟩ | ⟨a, len, cap, m, n', D, Pl, hcs, _⟩
  ·cases h0; exact ⟨_, _, _, rfl⟩
  ·cases hcs; exact ⟨_, _, _, rfl⟩
 obtain ⟨o, l, c, rfl⟩ := h1
 exact ⟨⟨_, _, _, rfl⟩, fuel, h⟩
theorem open_keysIn {H : Type} {enc : TypeId × Value → H} {W : World} {base : Nat} {sp : Nat → Bool} {held : Bool} {v : Value} {d : DataW H} {ps : List MemPlace}
  (hsl : ∃ o l c, v = .slice o l c) (hd : DataW.Trod enc Tryz.prog W base sp held 22 v d ps) :
  ∃ (oa : Option Addr) (n c : Nat) (F : Nat → Nat → Int), v = .slice oa n c ∧ K32At W oa n F := by
 obtain ⟨oa, n, c, F, hv, hm, hw, hF⟩ := open_rows (n := 32) (k := .u8) Tryz.underlying22 Tryz.underlying32 Tryz.underlying5 (by kernel_rfl) (by kernel_rfl) (Nat.zero_lt_succ 31) hsl hd
 refine ⟨oa, n, c, F, hv, ?_⟩
 rcases hF with h | ⟨a, ho, hc⟩
 ·exact .inl h
 ·refine .inr ⟨a, ho, fun w' hb j hj i hi => ?_⟩
  have h1 := hc j hj i hi
  rw [hb.cell (cell_lt h1)]
  exact h1
def DActs (w : World) (oa : Option Addr) (n : Nat) (D Z : Nat → Int) (OA : Nat → Option Addr) (N C : Nat → Nat) (K : Nat → Nat → Nat → Int) : Prop :=
 n = 0 ∨ ∃ ad : Addr, oa = some ad ∧ ∀ j, j < n → ((0 ≤ D j ∧ D j ≤ 255) ∧ (-9223372036854775808 ≤ Z j ∧ Z j ≤ 9223372036854775807)) ∧ K32At w (OA j) (N j) (K j) ∧
  ∀ w', Below w.heap.size w w' → (loadNext 30 (.pointer (some (ad.add (j * 3))))).run Tryz.prog w' = .ok (.value (.agg #[.int .u8 (D j), .int .i64 (Z j), .slice (OA j) (N j) (C j)])) w'
theorem DActs.addr {w : World} {oa : Option Addr} {n : Nat} {D Z : Nat → Int} {OA : Nat → Option Addr} {N C : Nat → Nat} {K : Nat → Nat → Nat → Int} (h : DActs w oa n D Z OA N C K) (hn : 0 < n) : ∃ ad, oa = some ad := by
 rcases h with h | ⟨ad, ho, _⟩
 ·omega
 ·exact ⟨ad, ho⟩
theorem DActs.one {w : World} {ad : Addr} {n : Nat} {D Z : Nat → Int} {OA : Nat → Option Addr} {N C : Nat → Nat} {K : Nat → Nat → Nat → Int} (h : DActs w (some ad) n D Z OA N C K) {j : Nat} (hj : j < n) :
  ((0 ≤ D j ∧ D j ≤ 255) ∧ (-9223372036854775808 ≤ Z j ∧ Z j ≤ 9223372036854775807)) ∧ K32At w (OA j) (N j) (K j) ∧
  ∀ w', Below w.heap.size w w' → (loadNext 30 (.pointer (some (ad.add (j * 3))))).run Tryz.prog w' = .ok (.value (.agg #[.int .u8 (D j), .int .i64 (Z j), .slice (OA j) (N j) (C j)])) w' := by
 rcases h with h | ⟨ad', ho, hl⟩
 ·omega
 ·cases ho
  exact hl j hj
theorem open_dacts {H : Type} {enc : TypeId × Value → H} {W : World} {base : Nat} {sp : Nat → Bool} {held : Bool} {r : Reach} {b0 : Nat} {v : Value} {d : DataW H} {ps : List MemPlace}
  (hval : Value.okWide Tryz.prog W r b0 23 v) (hd : DataW.Trod enc Tryz.prog W base sp held 23 v d ps) :
  ∃ (oa : Option Addr) (n c : Nat) (D Z : Nat → Int) (OA : Nat → Option Addr) (N C : Nat → Nat) (K : Nat → Nat → Nat → Int), v = .slice oa n c ∧ n ≤ 9223372036854775807 ∧ DActs W oa n D Z OA N C K := by
 obtain ⟨oa, n, c, hv, hm, hF⟩ := open_cells Tryz.underlying23 (slice_of_okWide Tryz.underlying23 hval) hd
 have e3 : Tryz.prog.cellsOf 30 = 3 := by kernel_rfl
 have e1 : Tryz.prog.cellsOf 5 = 1 := by kernel_rfl
 have e2 : Tryz.prog.cellsOf 3 = 1 := by kernel_rfl
 have e4 : Tryz.prog.cellsOf 22 = 1 := by kernel_rfl
 rcases hF with h | ⟨a, ho, hc⟩
 ·exact ⟨oa, n, c, fun _ => 0, fun _ => 0, fun _ => none, fun _ => 0, fun _ => 0, fun _ _ _ => 0, hv, by unfold maxLen at hm; omega, .inl h⟩
 ·rw [e3] at hc
  have key : ∀ j, ∃ t : Int × Int × Option Addr × Nat × Nat × (Nat → Nat → Int), j < n → (W.cell? (a.add (j * 3)) = some (.int .u8 t.1) ∧ W.cell? (a.add (j * 3 + 1)) = some (.int .i64 t.2.1) ∧ W.cell? (a.add (j * 3 + 2)) = some (.slice t.2.2.1 t.2.2.2.1 t.2.2.2.2.1) ∧ (Lit.int .u8 t.1).wf = true ∧ (Lit.int .i64 t.2.1).wf = true ∧ K32At W t.2.2.1 t.2.2.2.1 t.2.2.2.2.2) := fun j => by
   by_cases hj : j < n
   ·obtain ⟨cs, m, y, hl, hat, hy⟩ := hc j hj
    obtain ⟨xs, n', _, _, _, hlen, hf⟩ := DataW.trod_struct Tryz.underlying30 hy
    obtain ⟨y0, y1, y2, rfl⟩ : ∃ y0 y1 y2, xs = [y0, y1, y2] := by
     match xs, hlen with
     | [y0, y1, y2], _ => exact ⟨y0, y1, y2, rfl⟩
    have F0 : DataW.trod enc Tryz.prog W base sp held n' 5 ((cs.drop 0).take (Tryz.prog.cellsOf 5)) = some y0 := hf 0 _ rfl
    have F1 : DataW.trod enc Tryz.prog W base sp held n' 3 ((cs.drop 1).take (Tryz.prog.cellsOf 3)) = some y1 := hf 1 _ rfl
    have F2 : DataW.trod enc Tryz.prog W base sp held n' 22 ((cs.drop 2).take (Tryz.prog.cellsOf 22)) = some y2 := hf 2 _ rfl
    obtain ⟨x, hx, -, wx⟩ := DataW.trod_int Tryz.underlying5 F0
    obtain ⟨y', hy', -, wy⟩ := DataW.trod_int Tryz.underlying3 F1
    have a0 := hat 0 (by decide)
    have a1 := hat 1 (by decide)
    have a2 := hat 2 (by decide)
    rw [Nat.add_zero] at a0
    match cs, hl with
    | [u0, u1, u2], _ =>
     simp only [e1, e2] at hx hy'
     simp at hx hy'
     subst hx; subst hy'
     rw [e4] at F2
     have F2' : DataW.trod enc Tryz.prog W base sp held n' 22 [u2] = some y2 := F2
     obtain ⟨hsl, hd2⟩ := slice_in_trod Tryz.underlying22 F2'
     obtain ⟨o2, n2, c2, F, rfl, hK⟩ := open_keysIn hsl hd2
     exact ⟨(x, y', o2, n2, c2, F), fun _ => ⟨a0, a1, a2, wx, wy, hK⟩⟩
   ·exact ⟨(0, 0, none, 0, 0, fun _ _ => 0), fun h => absurd h hj⟩
  obtain ⟨f, hf⟩ := Classical.axiomOfChoice key
  refine ⟨oa, n, c, fun j => (f j).1, fun j => (f j).2.1, fun j => (f j).2.2.1, fun j => (f j).2.2.2.1, fun j => (f j).2.2.2.2.1, fun j => (f j).2.2.2.2.2, hv, by unfold maxLen at hm; omega, .inr ⟨a, ho, fun j hj => ?_⟩⟩
  obtain ⟨h0, h1, h2, wx, wy, hK⟩ := hf j hj
  dsimp only
  refine ⟨?_, hK, fun w' hb => ?_⟩
  ·simp [Lit.wf, IntKind.min, IntKind.max, IntKind.signed, IntKind.bits] at wx wy
   refine ⟨⟨?_, ?_⟩, ?_, ?_⟩ <;> omega
  ·refine run_load_row Tryz.underlying30 rfl (by kernel_rfl) w' (a.add (j * 3)) _ rfl fun i hi => ?_
   rw [Go.Deep.add_add]
   have k0 := hb.cell (cell_lt h0)
   have k1 := hb.cell (cell_lt h1)
   have k2 := hb.cell (cell_lt h2)
   match i, hi with
   | 0, _ => rw [Nat.add_zero, k0, h0]; rfl
   | 1, _ => rw [k1, h1]; rfl
   | 2, _ => rw [k2, h2]; rfl
end Go.Proofs.YteaillmjldoajaaGreatDoor
namespace Go.Proofs.YteaillmjldoajaaGreatDoor
open Go.RowKit
set_option linter.unusedVariables false
set_option linter.unusedSimpArgs false
def SrcAt (w : World) (b g n : Nat) (K : Nat → Nat → Int) : Prop :=
 ∃ oa c, objAt w b = some (.cells #[.slice oa n c] 51) ∧ Mine 32 w g oa n c K
theorem SrcAt.lt {w : World} {b g n : Nat} {K : Nat → Nat → Int} (h : SrcAt w b g n K) : b < w.heap.size := by
 obtain ⟨_, _, h1, _⟩ := h
 exact lt_of_objAt h1
theorem SrcAt.later {w w' : World} {b g n : Nat} {K : Nat → Nat → Int} (h : SrcAt w b g n K) (hb : Below w.heap.size w w') : SrcAt w' b g n K := by
 obtain ⟨oa, c, h1, h2⟩ := h
 exact ⟨oa, c, keep_below hb h1, h2.obj fun cs h => keep_below hb h⟩
theorem SrcAt.kept {w w' : World} {b g n b2 g2 : Nat} {K : Nat → Nat → Int} (h : SrcAt w b g n K) (hk : Kept b2 g2 w w') (h1 : b ≠ b2) (h2 : b ≠ g2) (h3 : g ≠ b2) (h4 : g ≠ g2) : SrcAt w' b g n K := by
 obtain ⟨oa, c, h5, h6⟩ := h
 exact ⟨oa, c, hk.obj h5 h1 h2, h6.obj fun cs h => hk.obj h h3 h4⟩
theorem Mine.congr {e : TypeId} {w : World} {g : Nat} {oa : Option Addr} {n c : Nat} {K L : Nat → Nat → Int} (h : Mine e w g oa n c K) (hK : ∀ j, j < n → K j = L j) : Mine e w g oa n c L := by
 rcases h with h | ⟨o, cs, h1, h2, h3, h4, h5⟩
 ·exact .inl h
 ·exact .inr ⟨o, cs, h1, h2, h3, h4, fun j hj i hi => by rw [← hK j hj]; exact h5 j hj i hi⟩
theorem row_ne {w : World} {b g : Nat} {cs cs' : Array Value} {fr : Nat × Nat} (h1 : objAt w b = some (.cells cs 51 fr)) (h2 : objAt w g = some (.cells cs' 32)) : g ≠ b := fun e => by
 rw [e, h1] at h2
 cases h2
theorem dleft_any {b g n : Nat} {K : Nat → Nat → Int} {w : World} (h : SrcAt w b g n K) : Calls Tryz.prog 15 #[.pointer (some ⟨b, 0, none⟩)] w fun e w' => e = .returned (.int .i64 n) ∧ w' = w := by
 obtain ⟨oa, c, hb, -⟩ := h
 have lb := lt_of_objAt hb
 go_enter Tryz.func15, Tryz.ntmps15
 go_wp2
 go_ret
 exact ⟨rfl, rfl⟩
theorem cloneA_any (oa : Option Addr) (n c : Nat) (F : Nat → Nat → Int) (w : World) (hn : n ≤ 1048576) (hK : K32At w oa n F) :
  Calls Tryz.prog 18 #[.slice oa n c] w fun e w' => ∃ oa' c', e = .returned (.slice oa' n c') ∧ ((n = 0 ∧ c' = 0) ∨ ∃ g, w.heap.size ≤ g ∧ Mine 32 w' g oa' n c' F) ∧ Below w.heap.size w w' := by
 have q := fun (w : World) (a : Option Addr) (n c n' c' : Nat) => Lib.run_eql_slice_nil (P := Tryz.prog) w _ _ a n c n' c' Tryz.underlying22
 cases oa with
 | none =>
  obtain rfl : n = 0 := by
   rcases hK with h | ⟨ad, e, -⟩
   ·exact h
   ·cases e
  go_enter Tryz.func18, Tryz.ntmps18
  go_wp2
  go_ret
  exact ⟨none, 0, by first | rfl | exact ⟨rfl, rfl⟩ | exact ⟨rfl, trivial, rfl⟩ | exact ⟨trivial, rfl⟩ | simp, .inl ⟨trivial, rfl⟩, Grew.refl _⟩
 | some ad =>
  obtain ⟨g3, oa3, c3, w3, hr3, hM3, h3⟩ := app32 (i := (Tryz.prog.info? 32).get (by kernel_rfl)) (z := ((Tryz.prog.info? 32).get (by kernel_rfl)).zero.get (by kernel_rfl)) Tryz.underlying22 (by kernel_rfl) (by kernel_rfl) (by kernel_rfl) (by kernel_rfl) (by kernel_rfl) (w.alloc (.cells #[] 32)) w.heap.size (some ⟨w.heap.size, 0, none⟩) (some ad) 0 0 n c F F (Mine.nil _ _ _ _ _) (hK.later (Grew.alloc (Grew.refl w) _)) (by omega)
  simp only [Nat.zero_add] at hr3 hM3
  have hG1 : Below w.heap.size w (w.alloc (.cells #[] 32)) := Grew.alloc (Grew.refl w) _
  have HF : Hid (w.heap.size ≤ g3 ∧ Mine 32 w3 g3 oa3 n c3 F ∧ Below w.heap.size w w3) := by
   refine ⟨?_, hM3.congr fun j _ => by unfold catK; simp, ?_⟩
   ·rcases h3 with ⟨-, ⟨rfl, -⟩ | rfl⟩ | ⟨rfl, -⟩
    ·simp
    ·exact Nat.le_refl _
    ·exact Nat.le_refl _
   ·rcases h3 with ⟨h3, -⟩ | ⟨rfl, cs, cs', -, rfl⟩
    ·exact Grew.trans hG1 h3
    ·exact Grew.setRow hG1 _ _ (Nat.le_refl _)
  clear hM3 h3 hK hG1
  go_enter Tryz.func18, Tryz.ntmps18
  go_wp2
  go_ret
  exact ⟨_, _, rfl, .inr ⟨g3, HF.out.1, HF.out.2.1⟩, HF.out.2.2⟩
theorem ret_keyD {P : Program} {fn : Func} {R : Ending → World → Prop} {a : Act} {w : World} {p q : Tmp} {ty : TypeId} (h : fn.results = #[.cell p ty, .tmp q]) (g : Nat) (t : TypeId) (cs : Array Value) (fr : Nat × Nat) (d : TypeDesc) (v : Value)
  (hp : a.tmps.getD p undef = .pointer (some ⟨g, 0, none⟩)) (hq : a.tmps.getD q undef = v) (hg : objAt w g = some (.cells cs t fr))
  (hu : P.underlying ty = some d) (hd : (match d with | .struct _ | .array _ _ => true | _ => false) = true) (hi : (P.info? ty).map (·.size) = some cs.size)
  (hD : a.defers = []) (hR : R (.returned (.tuple #[.agg cs, v])) w) : bodyPost P fn R .ret a w := by
 refine bodyPost_ret_by ?_ hD hR
 have hp' : a.tmps[p]?.getD undef = .pointer (some ⟨g, 0, none⟩) := by simpa using hp
 have hq' : a.tmps[q]?.getD undef = v := by simpa using hq
 unfold objAt at hg
 simp [results, h, hp', hq', asAddr, run_loadVar_row w g t ty cs fr d hg hu hd hi]
theorem Kept.setNew {b g k : Nat} {w w1 : World} (h : Kept b g w w1) (hk : w.heap.size ≤ k) (c : Array Value) : Kept b g w (w1.setRow k c) :=
 ⟨h.os, h.tape, h.output, by rw [size_setRow']; exact h.size, fun i hi h1 h2 => (objAt_setRow_ne w1 k i c (by omega)).trans (h.block i hi h1 h2)⟩
theorem ErV.up {w : World} {u : Value} {E : Int} (h : ErV w u E) (h0 : E ≠ 0) : ∃ t x, u = .iface t x ∧ ∀ s, ErV (w.alloc (.cells #[.string s, u] 58)) (.iface 56 (.pointer (some ⟨w.heap.size, 0, none⟩))) E := by
 rcases h with ⟨h1, -⟩ | ⟨-, t, x, l, rfl, hc⟩
 ·exact absurd h1 h0
 ·exact ⟨t, x, rfl, fun s => .inr ⟨h0, _, _, s :: l, rfl, _, _, rfl, objAt_alloc_at _ _ _ rfl, hc.later (Grew.alloc (Grew.refl _) _)⟩⟩
theorem dnew_any (oa : Option Addr) (n c : Nat) (F : Nat → Nat → Int) (w : World) (hn : n ≤ 1048576) (hK : K32At w oa n F) :
  Calls Tryz.prog 6 #[.slice oa n c] w fun e w' => ∃ b g, e = .returned (.pointer (some ⟨b, 0, none⟩)) ∧ w.heap.size ≤ b ∧ w.heap.size ≤ g ∧ g < w'.heap.size ∧ SrcAt w' b g n F ∧ Below w.heap.size w w' := by
 have HK : Hid (K32At w oa n F) := hK
 clear hK
 have cC := fun W (hW : Below w.heap.size w W) => cloneA_any oa n c F W hn (HK.out.later hW)
 go_enter Tryz.func6, Tryz.ntmps6
 go_wp2_with fail
 refine (cC _ (Grew.refl _)).mono ?_
 rintro e w1 ⟨o1, c1, rfl, h1, hb1⟩
 have H1 : Hid ((n = 0 ∧ c1 = 0) ∨ ∃ g, w.heap.size ≤ g ∧ Mine 32 w1 g o1 n c1 F) := h1
 have HB : Hid (Below w.heap.size w w1) := hb1
 clear h1 hb1 cC
 go_wp2
 go_ret
 have hz := HB.out.size
 rcases H1.out with ⟨rfl, rfl⟩ | ⟨g, hg, hM⟩
 ·exact ⟨w1.heap.size, w1.heap.size, rfl, hz, hz, by simp, ⟨_, _, objAt_alloc_at _ _ _ rfl, .inl ⟨rfl, rfl⟩⟩, Grew.alloc HB.out _⟩
 ·rcases hM with ⟨rfl, rfl⟩ | ⟨o, cs, rfl, h2, h3, h4⟩
  ·exact ⟨w1.heap.size, w1.heap.size, rfl, hz, hz, by simp, ⟨_, _, objAt_alloc_at _ _ _ rfl, .inl ⟨rfl, rfl⟩⟩, Grew.alloc HB.out _⟩
  ·have hlt := lt_of_objAt h3
   exact ⟨w1.heap.size, g, rfl, hz, hg, by simp; omega, ⟨_, _, objAt_alloc_at _ _ _ rfl, .inr ⟨o, cs, rfl, h2, keep_alloc _ h3, h4⟩⟩, Grew.alloc HB.out _⟩
theorem dclone_any {b g n : Nat} {K : Nat → Nat → Int} {w : World} (h : SrcAt w b g n K) (hn : n ≤ 1048576) :
  Calls Tryz.prog 14 #[.pointer (some ⟨b, 0, none⟩)] w fun e w' => ∃ b g, e = .returned (.pointer (some ⟨b, 0, none⟩)) ∧ w.heap.size ≤ b ∧ w.heap.size ≤ g ∧ g < w'.heap.size ∧ SrcAt w' b g n K ∧ Below w.heap.size w w' := by
 obtain ⟨oa, c, hb, hM⟩ := h
 have HK : Hid (K32At w oa n K) := hM.kss
 clear hM
 have lb := lt_of_objAt hb
 have cC := fun W (hW : Below w.heap.size w W) => dnew_any oa n c K W hn (HK.out.later hW)
 go_enter Tryz.func14, Tryz.ntmps14
 go_wp2_with fail
 refine (cC _ (Grew.refl _)).mono ?_
 rintro e w1 ⟨b2, g2, rfl, h1, h2, h3, h4, hb1⟩
 have H1 : Hid (w.heap.size ≤ b2 ∧ w.heap.size ≤ g2 ∧ g2 < w1.heap.size ∧ SrcAt w1 b2 g2 n K ∧ Below w.heap.size w w1) := ⟨h1, h2, h3, h4, hb1⟩
 clear h1 h2 h3 h4 hb1 cC
 go_wp2
 go_ret
 exact ⟨b2, g2, rfl, H1.out⟩
theorem dsome_ok {b g n z : Nat} {K : Nat → Nat → Int} {w : World} (h : SrcAt w b g n K) (hz : z ≤ n) (hn : n ≤ 1048576) :
  Calls Tryz.prog 11 #[.pointer (some ⟨b, 0, none⟩), .int .i64 (z : Int)] w fun e w' => ∃ oa c, e = .returned (.tuple #[.slice oa z c, .nilIface]) ∧ K32At w' oa z K ∧ SrcAt w' b g (n - z) (fun j => K (z + j)) ∧ Kept b g w w' := by
 obtain ⟨oa, c, hb, hM⟩ := h
 have lb := lt_of_objAt hb
 have hnc : n ≤ c := by
  rcases hM with ⟨rfl, rfl⟩ | ⟨_, _, _, h, _⟩
  ·exact Nat.le_refl _
  ·exact h
 have hgb : ∀ cs, objAt w g = some (.cells cs 32) → g ≠ b := fun cs h => row_ne hb h
 have HM : Hid (Mine 32 w g oa n c K) := hM
 have HGB : Hid (∀ cs, objAt w g = some (.cells cs 32) → g ≠ b) := hgb
 have hSh := fun W : World => slice32_h sl_key size_key oa n c z W (by omega)
 have hSl := fun W : World => slice32_l sl_key size_key oa n c z W hz
 have cC := fun W (hW : Below w.heap.size w W) => cloneA_any oa z c K W (by omega) ((HM.out.kss.less hz).later hW)
 have h0 : (0 : Int) ≤ (z : Int) := by omega
 have h1 : (z : Int) ≤ (n : Int) := by omega
 clear hM hgb
 go_enter Tryz.func11, Tryz.ntmps11
 go_wp2_with fail
 refine (cC _ (Grew.refl _)).mono ?_
 rintro e w1 ⟨o1, c1, rfl, h2, hb1⟩
 have H2 : Hid ((z = 0 ∧ c1 = 0) ∨ ∃ g, w.heap.size ≤ g ∧ Mine 32 w1 g o1 z c1 K) := h2
 have HB : Hid (Below w.heap.size w w1) := hb1
 have hb2 := keep_below hb1 hb
 have hM2 : Mine 32 w1 g oa n c K := HM.out.obj fun cs h => keep_below hb1 h
 obtain ⟨w2, hr2, h3⟩ := clear32 w1 g oa n c z K hM2 hz
 have hb3 : objAt w2 b = some (.cells #[.slice oa n c] 51) := by
  rcases h3 with ⟨-, -, rfl⟩ | ⟨o, cs, cs', -, -, hg, rfl, -⟩
  ·exact hb2
  ·exact keep_setRow _ _ hb2 (fun e => row_ne hb2 hg e.symm)
 have lb3 := lt_of_objAt hb3
 have H3 : Hid ((n = 0 ∧ c = 0 ∧ w2 = w1) ∨ ∃ o cs cs', oa = some ⟨g, o, none⟩ ∧ n ≤ c ∧ objAt w1 g = some (.cells cs 32) ∧ w2 = w1.setRow g cs' ∧ o + c * 32 ≤ cs'.size ∧ KIn cs' (o + z * 32) (n - z) (fun j => K (z + j))) := h3
 have lb1 := lt_of_objAt hb2
 clear h2 hb1 h3 cC hM2
 go_wp2
 go_ret2
 have hkk : Kept b g w1 (w2.setRow b #[.slice (offK oa c z) (n - z) (c - z)]) := by
  rcases H3.out with ⟨-, -, rfl⟩ | ⟨o, cs, cs', -, -, hg, rfl, -⟩
  ·exact Kept.row _ (.inl rfl)
  ·exact (Kept.row cs' (.inr rfl)).trans (Kept.row _ (.inl rfl)) (.inl rfl)
 refine ⟨o1, c1, rfl, ?_, ⟨_, _, keep_row _ hb3, ?_⟩, (Kept.of HB.out).trans hkk (.inl rfl)⟩
 ·rcases H2.out with ⟨rfl, -⟩ | ⟨g1, hg1, hM1⟩
  ·exact .inl rfl
  ·by_cases hz0 : z = 0
   ·exact .inl hz0
   ·rcases H3.out with ⟨hn0, -⟩ | ⟨o, cs, cs', -, -, hg, -⟩
    ·omega
    ·have hgw : objAt w g = some (.cells cs 32) := by
      rcases HM.out with ⟨hn0, -⟩ | ⟨o', cs9, -, -, hg9, -⟩
      ·omega
      ·have := keep_below HB.out hg9
       rw [hg] at this
       cases this
       exact hg9
     have lg := lt_of_objAt hgw
     exact hkk.kss hM1.kss fun _ ad e => by
      rcases hM1 with ⟨h9, -⟩ | ⟨o', cs9, e9, -⟩
      ·omega
      ·rw [e9] at e
       cases e
       constructor <;> (show g1 ≠ _; omega)
 ·rcases H3.out with ⟨hn0, hc0, rfl⟩ | ⟨o, cs, cs', rfl, h4, hg, rfl, h5, h6⟩
  ·exact .inl ⟨by omega, by omega⟩
  ·exact Mine.rest (w := w) (keep_setRow _ _ (keep_row _ hg) (row_ne hb2 hg)) h5 h4 hz h6
theorem dsome_neg {b g n : Nat} {z : Int} {K : Nat → Nat → Int} {w : World} (h : SrcAt w b g n K) (hz : z < 0) :
  Calls Tryz.prog 11 #[.pointer (some ⟨b, 0, none⟩), .int .i64 z] w fun e w' => ∃ u, e = .returned (.tuple #[.slice none 0 0, u]) ∧ ErV w' u 16 ∧ Below w.heap.size w w' := by
 go_enter Tryz.func11, Tryz.ntmps11
 go_wp2_with fail
 refine (wrap_any _ _ _ _).mono ?_
 rintro e w1 ⟨rfl, rfl⟩
 go_wp2
 go_ret2
 exact ⟨_, rfl, erv_wrap _ 16 (by decide), Grew.alloc (Grew.refl _) _⟩
theorem dsome_big {b g n : Nat} {z : Int} {K : Nat → Nat → Int} {w : World} (h : SrcAt w b g n K) (hz : (n : Int) < z) :
  Calls Tryz.prog 11 #[.pointer (some ⟨b, 0, none⟩), .int .i64 z] w fun e w' => ∃ u, e = .returned (.tuple #[.slice none 0 0, u]) ∧ ErV w' u 21 ∧ Below w.heap.size w w' := by
 obtain ⟨oa, c, hb, -⟩ := h
 have lb := lt_of_objAt hb
 have h0 : (0 : Int) ≤ z := by omega
 go_enter Tryz.func11, Tryz.ntmps11
 go_wp2_with fail
 refine (wrap_any _ _ _ _).mono ?_
 rintro e w1 ⟨rfl, rfl⟩
 go_wp2
 go_ret2
 exact ⟨_, rfl, erv_wrap _ 21 (by decide), Grew.alloc (Grew.refl _) _⟩
theorem dadd_any {b g n m c2 : Nat} {K F : Nat → Nat → Int} {oa2 : Option Addr} {w : World} (h : SrcAt w b g n K) (hF : K32At w oa2 m F) (hn : n + m ≤ 1048576) :
  Calls Tryz.prog 13 #[.pointer (some ⟨b, 0, none⟩), .slice oa2 m c2] w fun e w' => e = .returned (.tuple #[]) ∧ ∃ g', (g' = g ∨ w.heap.size ≤ g') ∧ SrcAt w' b g' (n + m) (catK n K F) ∧ Kept b g w w' ∧ (g < w.heap.size → g' < w'.heap.size) := by
 obtain ⟨oa, c, hb, hM⟩ := h
 have lb := lt_of_objAt hb
 obtain ⟨g3, oa3, c3, w3, hr3, hM3, h3⟩ := app32 (i := (Tryz.prog.info? 32).get (by kernel_rfl)) (z := ((Tryz.prog.info? 32).get (by kernel_rfl)).zero.get (by kernel_rfl)) (c2 := c2) Tryz.underlying22 (by kernel_rfl) (by kernel_rfl) (by kernel_rfl) (by kernel_rfl) (by kernel_rfl) w g oa oa2 n c m K F hM hF hn
 have HX : Hid (Mine 32 w3 g3 oa3 (n + m) c3 (catK n K F) ∧ ((Below w.heap.size w w3 ∧ ((g3 = w.heap.size ∧ g3 < w3.heap.size) ∨ g3 = g)) ∨ (g3 = g ∧ ∃ cs cs', objAt w g = some (.cells cs 32) ∧ w3 = w.setRow g cs'))) := ⟨hM3, h3⟩
 have hb3 : objAt w3 b = some (.cells #[.slice oa n c] 51) := by
  rcases h3 with ⟨h3, -⟩ | ⟨-, cs, cs', hg, rfl⟩
  ·exact keep_below h3 hb
  ·exact keep_setRow _ _ hb (fun e => row_ne hb hg e.symm)
 have lb3 := lt_of_objAt hb3
 clear hM hM3 h3 hF
 go_enter Tryz.func13, Tryz.ntmps13
 go_wp2
 go_end0
 obtain ⟨hM3, h3⟩ := HX.out
 have hsz : (w3.setRow b #[.slice oa3 (n + m) c3]).heap.size = w3.heap.size := size_setRow' _ _ _
 refine ⟨rfl, g3, ?_, ⟨_, _, keep_row _ hb3, hM3.obj fun cs h => keep_setRow _ _ h (row_ne hb3 h)⟩, ?_, fun hlt => ?_⟩
 ·rcases h3 with ⟨-, ⟨rfl, -⟩ | rfl⟩ | ⟨rfl, -⟩
  ·exact .inr (Nat.le_refl _)
  ·exact .inl rfl
  ·exact .inl rfl
 ·refine Kept.trans (g' := g) ?_ (Kept.row _ (.inl rfl)) (.inl rfl)
  rcases h3 with ⟨h3, -⟩ | ⟨-, cs, cs', -, rfl⟩
  ·exact Kept.of h3
  ·exact Kept.row _ (.inr rfl)
 ·rw [hsz]
  rcases h3 with ⟨h4, ⟨rfl, h5⟩ | rfl⟩ | ⟨rfl, cs, cs', -, rfl⟩
  ·exact h5
  ·exact Nat.lt_of_lt_of_le hlt h4.size
  ·rw [size_setRow']; exact hlt
theorem dnext_ok {b g n : Nat} {K : Nat → Nat → Int} {w : World} (h : SrcAt w b g n K) (hn0 : 0 < n) (hn : n ≤ 1048576) :
  Calls Tryz.prog 8 #[.pointer (some ⟨b, 0, none⟩)] w fun e w' => e = .returned (.tuple #[.agg (ints .u8 32 (K 0)), .nilIface]) ∧ SrcAt w' b g (n - 1) (fun j => K (1 + j)) ∧ Kept b g w w' := by
 have hgl : g < w.heap.size := by
  obtain ⟨oa, c, hb, hM⟩ := h
  rcases hM with ⟨hx, -⟩ | ⟨_, _, _, _, h5, _⟩
  ·omega
  ·exact lt_of_objAt h5
 have hbl := h.lt
 have HS : Hid (SrcAt w b g n K) := h
 have hG0 : Below w.heap.size w (w.alloc (.cells (ints .u8 32 nought) 32)) := Grew.alloc (Grew.refl _) _
 have cS := dsome_ok (z := 1) (HS.out.later hG0) hn0 hn
 have fr : objAt (w.alloc (.cells (ints .u8 32 nought) 32)) w.heap.size = some (.cells (ints .u8 32 nought) 32) := objAt_alloc_at _ _ _ rfl
 clear h
 go_enter Tryz.func8, Tryz.ntmps8
 go_wp2_with fail
 refine cS.mono ?_
 rintro e w1 ⟨oa, c, rfl, hK, hS, hk⟩
 replace fr := hk.obj fr (by omega) (by omega)
 have HF : Hid (SrcAt w1 b g (n - 1) (fun j => K (1 + j)) ∧ Kept b g w w1) := ⟨hS, (Kept.of hG0).trans hk (.inl rfl)⟩
 obtain ⟨ad, rfl⟩ := hK.addr (by omega)
 have hl := hK.loadK (j := 0) (by omega) (Grew.refl _)
 rw [Nat.zero_mul, addK_none] at hl
 have lfr := lt_of_objAt fr
 clear hS hk hK cS hG0
 go_wp2
 refine ret_keyD rfl _ 32 (ints .u8 32 (K 0)) (0, 0) _ _ rfl rfl (keep_row _ fr) Tryz.underlying32 rfl (by kernel_rfl) rfl ?_
 exact ⟨rfl, HF.out.1.kept (Kept.row (b := w.heap.size) (g := w.heap.size) _ (.inl rfl)) (by omega) (by omega) (by omega) (by omega), Kept.setNew HF.out.2 (Nat.le_refl _) _⟩
theorem dnext_none {b g : Nat} {K : Nat → Nat → Int} {w : World} (h : SrcAt w b g 0 K) :
  Calls Tryz.prog 8 #[.pointer (some ⟨b, 0, none⟩)] w fun e w' => ∃ u, e = .returned (.tuple #[.agg (ints .u8 32 nought), u]) ∧ ErV w' u 21 ∧ Below w.heap.size w w' := by
 have HS : Hid (SrcAt w b g 0 K) := h
 have hG0 : Below w.heap.size w (w.alloc (.cells (ints .u8 32 nought) 32)) := Grew.alloc (Grew.refl _) _
 have cS := dsome_big (z := 1) (HS.out.later hG0) (by decide)
 have fr : objAt (w.alloc (.cells (ints .u8 32 nought) 32)) w.heap.size = some (.cells (ints .u8 32 nought) 32) := objAt_alloc_at _ _ _ rfl
 clear h
 go_enter Tryz.func8, Tryz.ntmps8
 go_wp2_with fail
 refine cS.mono ?_
 rintro e w1 ⟨u, rfl, hu, hb⟩
 replace fr := keep_below hb fr
 have hG := Grew.trans hG0 hb
 have hu2 := hu.put fr (by decide) (ints .u8 32 nought)
 obtain ⟨t, x, rfl, hup⟩ := hu2.up (by decide)
 have HU : Hid (∀ s, ErV ((w1.setRow w.heap.size (ints .u8 32 nought)).alloc (.cells #[.string s, .iface t x] 58)) (.iface 56 (.pointer (some ⟨w1.heap.size, 0, none⟩))) 21) := fun s => by
  have := hup s
  rwa [size_setRow'] at this
 have lfr := lt_of_objAt fr
 clear hu hu2 hb cS hG0 hup
 go_wp2_with fail
 refine (wrap_any _ _ _ _).mono ?_
 rintro e w2 ⟨rfl, rfl⟩
 go_wp2
 refine ret_keyD rfl _ 32 (ints .u8 32 nought) (0, 0) _ _ rfl rfl (keep_alloc _ (keep_row _ fr)) Tryz.underlying32 rfl (by kernel_rfl) rfl ?_
 exact ⟨_, rfl, HU.out _, Grew.alloc (Grew.setRow hG _ _ (Nat.le_refl _)) _⟩
theorem dnext_all {b g n : Nat} {K : Nat → Nat → Int} {w : World} (h : SrcAt w b g n K) (hn : n ≤ 1048576) :
  Calls Tryz.prog 8 #[.pointer (some ⟨b, 0, none⟩)] w fun e w' => ∃ (x y : Value) (n' : Nat) (K' : Nat → Nat → Int), e = .returned (.tuple #[x, y]) ∧ n' ≤ n ∧ SrcAt w' b g n' K' ∧ Kept b g w w' := by
 rcases Nat.eq_zero_or_pos n with rfl | h0
 ·exact (dnext_none h).mono fun e w' ⟨u, h1, _, hb⟩ => ⟨_, _, _, _, h1, Nat.le_refl _, h.later hb, Kept.of hb⟩
 ·exact (dnext_ok h h0 hn).mono fun e w' ⟨h1, h2, h3⟩ => ⟨_, _, _, _, h1, by omega, h2, h3⟩
theorem rsome_ok {q z c : Nat} {L : Nat → Nat → Int} {od : Option Addr} {w : World} (hD : K32At w od q L) (hz : z ≤ q) (hc : q ≤ c) :
  Calls Tryz.prog 9 #[.slice od q c, .int .i64 (z : Int)] w fun e w' => e = .returned (.tuple #[.slice (offK od c z) (q - z) (c - z), .slice od z c, .int .i64 0]) ∧ Below w.heap.size w w' := by
 have hSh := fun W : World => slice32_h sl_row size_row od q c z W (by omega)
 have hSl := fun W : World => slice32_l sl_row size_row od q c z W hz
 have h0 : (0 : Int) ≤ (z : Int) := by omega
 have h1 : (z : Int) ≤ (q : Int) := by omega
 have h2 : (z : Int) ≤ (c : Int) := by omega
 clear hD
 go_enter Tryz.func9, Tryz.ntmps9
 go_wp2_with fail
 ((first | (with_reducible refine wp_region_on (by kernel_rfl) (by kernel_rfl) ?_) | refine wp_region_more (by kernel_rfl) (by kernel_rfl) ?_); (repeat (first | go_big_quiet_skip | (go_big_quiet_want; go_big_quiet_op; first | go_big_quiet_on | (apply Exists.intro; refine ⟨fun _ => ?_, ?_⟩; (focus (fail)); go_big_quiet_on)))); refine wpQuiet_nil ?_; rintro _ ⟨mq, rfl⟩)
 go_wp2
 go_ret3
 exact ⟨rfl, below_more _ _⟩
theorem rsome_neg (q c : Nat) (z : Int) (od : Option Addr) (w : World) (hz : z < 0) :
  Calls Tryz.prog 9 #[.slice od q c, .int .i64 z] w fun e w' => e = .returned (.tuple #[.slice od q c, .slice none 0 0, .int .i64 16]) ∧ w' = w := by
 go_enter Tryz.func9, Tryz.ntmps9
 go_wp2
 go_ret3
 exact ⟨rfl, rfl⟩
theorem rsome_big (q c : Nat) (z : Int) (od : Option Addr) (w : World) (hz : (q : Int) < z) :
  Calls Tryz.prog 9 #[.slice od q c, .int .i64 z] w fun e w' => e = .returned (.tuple #[.slice od q c, .slice none 0 0, .int .i64 21]) ∧ w' = w := by
 have h0 : (0 : Int) ≤ z := by omega
 go_enter Tryz.func9, Tryz.ntmps9
 go_wp2
 go_ret3
 exact ⟨rfl, rfl⟩
end Go.Proofs.YteaillmjldoajaaGreatDoor
