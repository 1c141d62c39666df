/- Q13 -/
import Derived.Test.YtnjghcnhcbobhaaGreatDoorTrk
import Derived.Test.YtnjghcnhcbobhaaGreatDoorQ11
import Derived.Test.YtnjghcnhcbobhaaGreatDoorQ12
import Derived.Test.YtnjghcnhcbobhaaGreatDoorRel
import Derived.Test.YtnjghcnhcbobhaaGreatDoorM11
set_option maxRecDepth 100000
set_option maxHeartbeats 4000000
namespace Go.Proofs.YtnjghcnhcbobhaaGreatDoor
open Go.RowKit
set_option linter.unusedVariables false
set_option linter.unusedSimpArgs false
theorem of_pub (k : Nat → Int) (W : World) (hk : Bytes 32 k) : Calls Tryz.prog 187 #[.agg (ints .u8 32 k)] W fun e w' => e = .returned (.agg (ints .u8 64 (keysF k (pubF k)))) ∧ Below W.heap.size W w' := pof_any k W hk
theorem base_pubF (k : Nat → Int) (W : World) (hk : Bytes 32 k) : Calls Tryz.prog 197 #[.agg (ints .u8 32 k)] W fun e w' => e = .returned (.agg (ints .u8 32 (pubF k))) ∧ Below W.heap.size W w' := base_pub k W hk
attribute [local irreducible] nodeF labelF oneF macF shaF strOf keyV shV pubV upF upOK pubF
theorem above_any (a b p q : Nat → Int) (w : World) (ha : Bytes 32 a) (hq : Bytes 32 q) (hT : Tabs w) :
  Calls Tryz.prog 188 #[.agg (ints .u8 64 (keysF a p)), .agg (ints .u8 64 (keysF b q))] w fun e w' => e = .returned (.agg (ints .u8 64 (keysF (upF a q) (pubF (upF a q))))) ∧ Below w.heap.size w w' := by
 have hTT : Hid (Tabs w) := hT
 have c1 := fun (W : World) (h : Tabs W) => pup_any a q W ha hq h
 have c2 : ∀ W : World, Calls Tryz.prog 187 #[.agg (ints .u8 32 (upF a q))] W fun e w' => e = .returned (.agg (ints .u8 64 (keysF (upF a q) (pubF (upF a q))))) ∧ Below W.heap.size W w' := fun W => of_pub (upF a q) W (up_bytes _ _)
 generalize upF a q = S at *
 generalize pubF S = PS at *
 generalize upOK a q = OK at *
 clear ha hq hT
 have hG := Grew.refl w
 have fl : True := trivial
 have fm : True := trivial
 have fr : True := trivial
 go_enter Tryz.func188, Tryz.ntmps188
 go_wp2_with fail
 replace fl : objAt (((w.alloc (.cells (ints .u8 64 (keysF (a) (p))) 276)).alloc (.cells (ints .u8 64 (keysF (b) (q))) 276)).alloc (.cells (ints .u8 64 (keysF (nought) (nought))) 276)) (w.heap.size) = some (.cells (ints .u8 64 (keysF (a) (p))) 276) := by exact keep_auto
 replace fm : objAt (((w.alloc (.cells (ints .u8 64 (keysF (a) (p))) 276)).alloc (.cells (ints .u8 64 (keysF (b) (q))) 276)).alloc (.cells (ints .u8 64 (keysF (nought) (nought))) 276)) (w.heap.size + 1) = some (.cells (ints .u8 64 (keysF (b) (q))) 276) := by exact keep_auto
 replace fr : objAt (((w.alloc (.cells (ints .u8 64 (keysF (a) (p))) 276)).alloc (.cells (ints .u8 64 (keysF (b) (q))) 276)).alloc (.cells (ints .u8 64 (keysF (nought) (nought))) 276)) (w.heap.size + 1 + 1) = some (.cells (ints .u8 64 (keysF (nought) (nought))) 276) := by exact keep_auto
 replace hG : Below w.heap.size w (((w.alloc (.cells (ints .u8 64 (keysF (a) (p))) 276)).alloc (.cells (ints .u8 64 (keysF (b) (q))) 276)).alloc (.cells (ints .u8 64 (keysF (nought) (nought))) 276)) := by exact grew_auto
 generalize ((w.alloc (.cells (ints .u8 64 (keysF (a) (p))) 276)).alloc (.cells (ints .u8 64 (keysF (b) (q))) 276)).alloc (.cells (ints .u8 64 (keysF (nought) (nought))) 276) = w1 at *
 have lfl := lt_of_objAt fl
 have lfm := lt_of_objAt fm
 have lfr := lt_of_objAt fr
 go_wp2_with fail
 (refine (c1 _ (hTT.out.later hG)).mono ?_; rintro e w2 ⟨rfl, hb⟩; replace fl : objAt w2 (w.heap.size) = some (.cells (ints .u8 64 (keysF (a) (p))) 276) := keep_below hb (by exact keep_auto); have lfl := lt_of_objAt fl; replace fm : objAt w2 (w.heap.size + 1) = some (.cells (ints .u8 64 (keysF (b) (q))) 276) := keep_below hb (by exact keep_auto); have lfm := lt_of_objAt fm; replace fr : objAt w2 (w.heap.size + 1 + 1) = some (.cells (ints .u8 64 (keysF (nought) (nought))) 276) := keep_below hb (by exact keep_auto); have lfr := lt_of_objAt fr; replace hG : Below w.heap.size w w2 := Grew.trans (by exact grew_auto) hb; clear hb)
 go_wp2_with fail
 have fs : objAt (w2.alloc (.cells (ints .u8 32 (S)) 44)) w2.heap.size = some (.cells (ints .u8 32 (S)) 44) := objAt_alloc_at _ _ _ rfl
 replace fl : objAt (w2.alloc (.cells (ints .u8 32 (S)) 44)) (w.heap.size) = some (.cells (ints .u8 64 (keysF (a) (p))) 276) := keep_alloc _ fl
 replace fm : objAt (w2.alloc (.cells (ints .u8 32 (S)) 44)) (w.heap.size + 1) = some (.cells (ints .u8 64 (keysF (b) (q))) 276) := keep_alloc _ fm
 replace fr : objAt (w2.alloc (.cells (ints .u8 32 (S)) 44)) (w.heap.size + 1 + 1) = some (.cells (ints .u8 64 (keysF (nought) (nought))) 276) := keep_alloc _ fr
 replace hG : Below w.heap.size w (w2.alloc (.cells (ints .u8 32 (S)) 44)) := Grew.alloc hG _
 clear lfl lfm lfr
 generalize w2.alloc (.cells (ints .u8 32 (S)) 44) = w3 at *
 generalize w2.heap.size = gs at *
 have lfl := lt_of_objAt fl
 have lfm := lt_of_objAt fm
 have lfr := lt_of_objAt fr
 have lfs := lt_of_objAt fs
 go_wp2_with fail
 (refine (c2 _).mono ?_; rintro e w4 ⟨rfl, hb⟩; replace fl : objAt w4 (w.heap.size) = some (.cells (ints .u8 64 (keysF (a) (p))) 276) := keep_below hb (by exact keep_auto); have lfl := lt_of_objAt fl; replace fm : objAt w4 (w.heap.size + 1) = some (.cells (ints .u8 64 (keysF (b) (q))) 276) := keep_below hb (by exact keep_auto); have lfm := lt_of_objAt fm; replace fr : objAt w4 (w.heap.size + 1 + 1) = some (.cells (ints .u8 64 (keysF (nought) (nought))) 276) := keep_below hb (by exact keep_auto); have lfr := lt_of_objAt fr; replace fs : objAt w4 (gs) = some (.cells (ints .u8 32 (S)) 44) := keep_below hb (by exact keep_auto); have lfs := lt_of_objAt fs; replace hG : Below w.heap.size w w4 := Grew.trans (by exact grew_auto) hb; clear hb)
 go_wp2
 refine ret_row rfl _ 276 _ (0, 0) _ rfl (keep_row _ fr) Tryz.underlying276 rfl (by rw [ints_size]; kernel_rfl) rfl ⟨rfl, by exact grew_auto⟩
theorem above_rows (f1 f2 : Nat → Int) (w : World) (h1 : Bytes 64 f1) (h2 : Bytes 64 f2) (hT : Tabs w) :
  Calls Tryz.prog 188 #[.agg (ints .u8 64 f1), .agg (ints .u8 64 f2)] w fun e w' => e = .returned (.agg (ints .u8 64 (keysF (upF f1 (fun k => f2 (k + 32))) (pubF (upF f1 (fun k => f2 (k + 32))))))) ∧ Below w.heap.size w w' := by
 have := above_any f1 f2 (fun k => f1 (k + 32)) (fun k => f2 (k + 32)) w (fun i hi => h1 i (by omega)) (fun i hi => h2 (i + 32) (by omega)) hT
 rw [keysF_all, keysF_all] at this
 exact this
theorem bN_any (oa : Option Addr) (m c n : Nat) (w : World) (hm : m + 1 = 2 * n) (hn : n ≤ 1024) :
  Calls Tryz.prog 192 #[.agg #[.slice oa m c]] w fun e w' => e = .returned (.int .i64 n) ∧ Below w.heap.size w w' := by
 have hq : ((m : Int) + 1).tdiv 2 = (n : Int) := by rw [Int.tdiv_eq_ediv_of_nonneg (by omega)]; omega
 have hm2 : (m : Int) ≤ 2048 := by omega
 have hG := Grew.refl w
 have ft : True := trivial
 go_enter Tryz.func192, Tryz.ntmps192
 go_wp2_with fail
 replace ft : objAt (w.alloc (.cells #[.slice oa m c] 261)) (w.heap.size) = some (.cells #[.slice oa m c] 261) := by exact keep_auto
 replace hG : Below w.heap.size w (w.alloc (.cells #[.slice oa m c] 261)) := by exact grew_auto
 generalize w.alloc (.cells #[.slice oa m c] 261) = w1 at *
 have lft := lt_of_objAt ft
 go_wp2
 go_ret
 exact ⟨by first | rfl | rw [hq] | simp [hq], hG⟩
def RetK32C (w : World) (n : Nat) (F : Nat → Nat → Int) (e : Ending) (w' : World) : Prop := ∃ oa c, e = .returned (.slice oa n c) ∧ n ≤ c ∧ K32At w' oa n F ∧ Below w.heap.size w w'
theorem bPublicsC_any (S P : Nat → Nat → Int) (g m c : Nat) (w : World) (hm2 : m ≤ 2048) (hR : Row64 w g m (fun j => keysF (S j) (P j))) :
  Calls Tryz.prog 204 #[.agg #[.slice (some ⟨g, 0, none⟩) m c]] w (RetK32C w (m - 1) (fun i => P (i + 1))) := by
 have HR : Hid (Row64 w g m (fun j => keysF (S j) (P j))) := hR
 clear hR
 have hG := Grew.refl w
 have ft : True := trivial
 go_enter Tryz.func204, Tryz.ntmps204
 go_wp2_with fail
 replace ft : objAt (w.alloc (.cells #[.slice (some ⟨g, 0, none⟩) m c] 261)) (w.heap.size) = some (.cells #[.slice (some ⟨g, 0, none⟩) m c] 261) := by exact keep_auto
 replace hG : Below w.heap.size w (w.alloc (.cells #[.slice (some ⟨g, 0, none⟩) m c] 261)) := by exact grew_auto
 generalize w.alloc (.cells #[.slice (some ⟨g, 0, none⟩) m c] 261) = w1 at *
 have lft := lt_of_objAt ft
 go_wp2_with fail
 go_loopw [9, 3, 4, 5] (fun i v _ _ wr => ∃ (j : Nat) (v0 : Value), v0 = v ∧ j ≤ m ∧ i = .int .i64 j ∧ Below w.heap.size w wr ∧ Hid (wr.ownsRow w.heap.size 44 32 v0 (j - 1) (k32L (fun i => P (i + 1)) (j - 1)))) (fun i _ _ _ _ => m - (intOf i).toNat)
 case atStart => exact ⟨0, _, rfl, by omega, rfl, hG, World.ownsRow_nil _ _ _ _⟩
 case round =>
  clear hG ft lft
  obtain ⟨j, v0, rfl, hj, rfl, hM, OWN⟩ := hrel
  by_cases hlt : j < m
  ·have l1 := (HR.out.later hM).load hlt
   have hi1 : (j : Int) < (m : Int) := by omega
   have hi0 : (0 : Int) ≤ (j : Int) := by omega
   have hsz := hM.size
   cases j with
   | zero =>
    have l2 := loadOf_kp (by rw [Nat.zero_mul] at l1; exact l1)
    clear l1
    go_wp2
    go_roundw
    case rel => exact ⟨1, _, rfl, by omega, by go_num, Grew.alloc hM _, OWN.out.alloc _⟩
    case measure => (simp [intOf] <;> omega)
   | succ q =>
    have hq0 : (0 : Int) < (q : Int) + 1 := by omega
    have OWN' : Hid (wr.ownsRow w.heap.size 44 32 v0 q (k32L (fun i => P (i + 1)) q)) := OWN.out
    clear OWN
    obtain ⟨g3, c3, w3, hr3, own3, hb3, -⟩ := append_key w ((wr.alloc (.cells (ints .u8 64 (keysF (S (q + 1)) (P (q + 1)))) 276)).alloc (.cells (ints .u8 32 (P (q + 1))) 44)) w.heap.size v0 q (fun i => P (i + 1)) (wr.alloc (.cells (ints .u8 64 (keysF (S (q + 1)) (P (q + 1)))) 276)).heap.size _ _ (World.ownsRow.alloc (World.ownsRow.alloc OWN'.out _) _) (by omega) (objAt_alloc_at _ _ _ rfl) (Grew.alloc (Grew.alloc hM _) _) (Nat.le_refl _) (by simp; omega)
    have OWN3 : Hid (w3.ownsRow w.heap.size 44 32 (.slice (some ⟨g3, 0, none⟩) (q + 1) c3) (q + 1) (k32L (fun i => P (i + 1)) (q + 1))) := own3
    have hx : (wr.alloc (.cells (ints .u8 64 (keysF (S (q + 1)) (P (q + 1)))) 276)).heap.size = wr.heap.size + 1 := by simp
    rw [hx] at hr3
    clear own3 OWN'
    go_wp2
    go_roundw
    case rel => exact ⟨q + 1 + 1, _, rfl, by omega, by go_num, hb3, OWN3⟩
    case measure => (simp [intOf] <;> omega)
  ·obtain rfl : j = m := by omega
   obtain ⟨oa2, c2, rfl, hc2, hK2⟩ := k32_of_own OWN.out
   have HK2 : Hid (j - 1 ≤ c2 ∧ K32At wr oa2 (j - 1) (fun i => P (i + 1))) := ⟨hc2, hK2⟩
   clear OWN hK2 hc2
   go_wp2
   go_ret
   exact ⟨oa2, c2, rfl, HK2.out.1, HK2.out.2, hM⟩
end Go.Proofs.YtnjghcnhcbobhaaGreatDoor
namespace Go.Proofs.YtnjghcnhcbobhaaGreatDoor
open Go.RowKit
set_option linter.unusedVariables false
set_option linter.unusedSimpArgs false
theorem copathI_some {n j : Nat} (h1 : 1 ≤ n) (h2 : n ≤ 1024) (hj : j < n) : copathI n j = copathN n j := by unfold copathI; rw [if_pos (by omega)]; rfl
theorem copathI_none {n j : Int} (h : ¬ (1 ≤ n ∧ n ≤ 1024 ∧ 0 ≤ j ∧ j < n)) : copathI n j = [] := by unfold copathI; rw [if_neg h]
theorem copathI_le (n : Nat) (j : Int) : (copathI n j).length ≤ 10 := by
 by_cases h : 1 ≤ (n : Int) ∧ (n : Int) ≤ 1024 ∧ 0 ≤ j ∧ j < n
 ·obtain ⟨J, rfl⟩ := Int.eq_ofNat_of_zero_le h.2.2.1
  rw [copathI_some (by omega) (by omega) (by omega)]
  exact copath_depth n J (by omega)
 ·rw [copathI_none h]; simp
theorem nodes_idx (n : Nat) (h1 : 1 ≤ n) (hn : n ≤ 1024) (u : Nd) (i : Nat) (hi : (belowN 0 n)[i]? = some u) : i < 2 * n - 1 ∧ idxN u.f u.s (allN n) 0 = (i : Int) ∧ u.f ≤ 1024 ∧ u.s ≤ 1024 := by
 have hl := (List.getElem?_eq_some_iff.1 hi).1
 rw [below_length 0 n h1] at hl
 have hb := below_in 0 n u (List.mem_of_getElem? hi)
 exact ⟨hl, by rw [all_some h1 hn, idx_at u _ 0 i (below_nodup 0 n h1) hi, Nat.zero_add], by omega, by omega⟩
theorem copathI_idx (n : Nat) (j : Int) (h1 : 1 ≤ n) (hn : n ≤ 1024) (k : Nat) (u : Nd) (h : (copathI n j)[k]? = some u) : ∃ i, i < 2 * n - 1 ∧ idxN u.f u.s (allN n) 0 = (i : Int) ∧ u.f ≤ 1024 ∧ u.s ≤ 1024 := by
 by_cases hv : 1 ≤ (n : Int) ∧ (n : Int) ≤ 1024 ∧ 0 ≤ j ∧ j < n
 ·obtain ⟨J, rfl⟩ := Int.eq_ofNat_of_zero_le hv.2.2.1
  rw [copathI_some h1 hn (by omega)] at h
  obtain ⟨i, _, hi⟩ := copath_below n J h1 (List.mem_of_getElem? h)
  exact ⟨i, nodes_idx n h1 hn u i hi⟩
 ·rw [copathI_none hv] at h; cases h
def cpF (P : Nat → Nat → Int) (n : Nat) (C : List Nd) : Nat → Nat → Int := fun k => P (idxN (ndAt C k).f (ndAt C k).s (allN n) 0).toNat
theorem cpF_at {P : Nat → Nat → Int} {n k i : Nat} {C : List Nd} {u : Nd} (h : C[k]? = some u) (hi : idxN u.f u.s (allN n) 0 = (i : Int)) : cpF P n C k = P i := by
 unfold cpF
 rw [ndAt_eq h, hi]
 rfl
theorem cpF_tree (L : Nat → Nat → Int) (n J : Nat) (h1 : 1 ≤ n) (hn : n ≤ 1024) (k : Nat) (hk : k < (copathN n J).length) : cpF (fun i => pubF (treeF L n i)) n (copathN n J) k = copF L n J k := by
 obtain ⟨u, hu⟩ : ∃ u, (copathN n J)[k]? = some u := ⟨_, List.getElem?_eq_getElem hk⟩
 obtain ⟨i, _, hi⟩ := copath_below n J h1 (List.mem_of_getElem? hu)
 rw [cpF_at hu (nodes_idx n h1 hn u i hi).2.1, treeF_at hi]
 unfold copF
 rw [ndAt_eq hu]
theorem step_key {ops : Array Oper} {o : Oper} {a : Act} {K : Act → World → Prop} {Q : Exit → Act → World → Prop} {E : Prop} (hgd : o.guard = none) (s x : Operand) (ho : o.op = .call { callee := .builtin .append, args := #[s, x], argTypes := #[45, 45] })
  (w W : World) (base : Nat) (v : Value) (n : Nat) (F : Nat → Nat → Int) (g2 : Nat) (t2 : TypeId) (fr : Nat × Nat) (hs : a.eval s = v) (hx : a.eval x = .slice (some ⟨g2, 0, none⟩) 1 1) (own : W.ownsRow base 44 32 v n (k32L F n)) (hn : n ≤ 1048576)
  (hg2 : objAt W g2 = some (.cells (ints .u8 32 (F n)) t2 fr)) (hG : Below w.heap.size w W) (hwb : w.heap.size ≤ base) (hbW : base ≤ W.heap.size)
  (h : ∀ g cap w', w'.ownsRow base 44 32 (.slice (some ⟨g, 0, none⟩) (n + 1) cap) (n + 1) (k32L F (n + 1)) → Below w.heap.size w w' → (∀ m ob, m < base → objAt W m = some ob → objAt w' m = some ob) → K (a.put o.dst (.slice (some ⟨g, 0, none⟩) (n + 1) cap)) w') :
  if Region.wanted o (yielded ops a.tmps) = true then Oper.wp Tryz.prog o a W K Q else E :=
 step_cells (i := (Tryz.prog.info? 44).get (by kernel_rfl)) (z := ((Tryz.prog.info? 44).get (by kernel_rfl)).zero.get (by kernel_rfl)) 32 32 Tryz.underlying45 (by kernel_rfl) (by kernel_rfl) (by kernel_rfl) (by kernel_rfl) (by kernel_rfl) (by decide) (by decide) hgd s x ho w W base v n (k32L F n) (ints .u8 32 (F n)) g2 t2 fr hs hx own hn hg2 (ints_size _ _ _)
  (fun u hu => by
   have h1 := ints_ones .u8 32 (F n)
   rw [Array.all_eq_true'] at h1
   exact h1 u (by simpa using hu)) hG hwb hbW fun g cap w' ho hb hk _ => h g cap w' (by rw [k32L_succ]; exact ho) hb hk
attribute [local irreducible] nodeF labelF oneF macF shaF strOf keyV shV pubV upF upOK pubF
theorem bCopathK_any (S P : Nat → Nat → Int) (g m c n : Nat) (j : Int) (w : World) (hm : m + 1 = 2 * n) (h1 : 1 ≤ n) (hn : n ≤ 1024) (hj0 : -9223372036854775808 ≤ j) (hj1 : j ≤ 9223372036854775807) (hR : Row64 w g m (fun j => keysF (S j) (P j))) :
  Calls Tryz.prog 178 #[.agg #[.slice (some ⟨g, 0, none⟩) m c], .int .i64 j] w (RetSec w (copathI n j).length (cpF P n (copathI n j))) := by
 have HR : Hid (Row64 w g m (fun j => keysF (S j) (P j))) := hR
 have c1 := fun W : World => bN_any (some ⟨g, 0, none⟩) m c n W hm hn
 have c2 := fun W : World => pcopath_any (n : Int) j W hj0 hj1
 have hcl := copathI_le n j
 have hci : Hid (∀ (k : Nat) (u : Nd), (copathI n j)[k]? = some u → ∃ i, i < m ∧ idxN u.f u.s (allN n) 0 = (i : Int) ∧ u.f ≤ 1024 ∧ u.s ≤ 1024 ∧ cpF P n (copathI n j) k = P i) := fun k u hu => by
  obtain ⟨i, a, b, c, d⟩ := copathI_idx n j h1 hn k u hu
  exact ⟨i, by omega, b, c, d, cpF_at hu b⟩
 have c3 : Hid (∀ (u : Nd) (W : World), u.f ≤ 1024 → u.s ≤ 1024 → Calls Tryz.prog 68 #[.int .i64 (n : Int), .agg #[.int .i64 (u.f : Int), .int .i64 (u.s : Int)]] W fun e w' => e = .returned (.int .i64 (idxN u.f u.s (allN n) 0)) ∧ Below W.heap.size W w') := fun u W a b => pindex_any n u.f u.s W (by omega) (by omega)
 generalize cpF P n (copathI n j) = Z at *
 generalize copathI n j = C at *
 clear hR
 have hG := Grew.refl w
 have ft : True := trivial
 go_enter Tryz.func178, Tryz.ntmps178
 go_wp2_with fail
 replace ft : objAt (w.alloc (.cells #[.slice (some ⟨g, 0, none⟩) m c] 261)) (w.heap.size) = some (.cells #[.slice (some ⟨g, 0, none⟩) m c] 261) := by exact keep_auto
 replace hG : Below w.heap.size w (w.alloc (.cells #[.slice (some ⟨g, 0, none⟩) m c] 261)) := by exact grew_auto
 generalize w.alloc (.cells #[.slice (some ⟨g, 0, none⟩) m c] 261) = w1 at *
 have lft := lt_of_objAt ft
 go_wp2_with fail
 (refine (c1 _).mono ?_; rintro e w2 ⟨rfl, hb⟩; replace ft : objAt w2 (w.heap.size) = some (.cells #[.slice (some ⟨g, 0, none⟩) m c] 261) := keep_below hb (by exact keep_auto); have lft := lt_of_objAt ft; replace hG : Below w.heap.size w w2 := Grew.trans (by exact grew_auto) hb; clear hb)
 go_wp2_with fail
 refine (c2 _).mono ?_
 rintro e w3 ⟨oC, kC, rfl, hC, hb3⟩
 replace ft := keep_below hb3 ft
 replace hG : Below w.heap.size w w3 := Grew.trans hG hb3
 have HC : Hid (NdsAt w3 oC C) := hC
 clear hC hb3 c2 lft
 have lft := lt_of_objAt ft
 go_wp2_with fail
 go_loopw [13, 5, 7] (fun i v _ wr => ∃ (k : Nat) (v0 : Value), v0 = v ∧ k ≤ C.length ∧ i = .int .i64 k ∧ Below w3.heap.size w3 wr ∧ Hid (wr.ownsRow w3.heap.size 44 32 v0 k (k32L Z k))) (fun i _ _ _ => C.length - (intOf i).toNat)
 case atStart => exact ⟨0, _, rfl, by omega, rfl, Grew.refl _, World.ownsRow_nil _ _ _ _⟩
 case round =>
  clear lft
  obtain ⟨k, v0, rfl, hk, rfl, hM3, OWN⟩ := hrel
  replace ft := keep_below hM3 ft
  have hGr : Below w.heap.size w wr := Grew.trans hG hM3
  have lft := lt_of_objAt ft
  by_cases hlt : k < C.length
  ·obtain ⟨u, hu⟩ : ∃ u, C[k]? = some u := ⟨_, List.getElem?_eq_getElem hlt⟩
   obtain ⟨i, hi, hidx, hu1, hu2, hZ⟩ := hci.out k u hu
   have cI := fun W : World => c3.out u W hu1 hu2
   rw [hidx] at cI
   have hcell : ∃ gC o, oC = some ⟨gC, o, none⟩ ∧ gC < wr.heap.size ∧ cellOf (objAt wr gC) (o + k * 2) = some (.int .i64 u.f) ∧ cellOf (objAt wr gC) (o + k * 2 + 1) = some (.int .i64 u.s) := by
    rcases HC.out.later hM3 with h0 | ⟨g', o', e, hg', hl⟩
    ·subst h0; simp at hlt
    ·obtain ⟨l1, l2⟩ := hl k u hu
     rw [Nat.mul_comm] at l1 l2
     exact ⟨g', o', e, hg', l1, l2⟩
   obtain ⟨gC, oo, rfl, hgC, l1, l2⟩ := hcell
   have hi1 : (k : Int) < (C.length : Int) := by omega
   have hi0 : (0 : Int) ≤ (k : Int) := by omega
   have hii1 : (i : Int) < (m : Int) := by omega
   have hii0 : (0 : Int) ≤ (i : Int) := by omega
   have hk20 : k ≤ 20 := by omega
   clear c3 hci hu hidx hm hn h1
   go_wp2_with fail
   have fv : objAt (wr.alloc (.cells #[.int .i64 (u.f : Int), .int .i64 (u.s : Int)] 49)) wr.heap.size = some (.cells #[.int .i64 (u.f : Int), .int .i64 (u.s : Int)] 49) := objAt_alloc_at _ _ _ rfl
   have ft4 : objAt (wr.alloc (.cells #[.int .i64 (u.f : Int), .int .i64 (u.s : Int)] 49)) w.heap.size = some (.cells #[.slice (some ⟨g, 0, none⟩) m c] 261) := keep_alloc _ ft
   have hG4 : Below w.heap.size w (wr.alloc (.cells #[.int .i64 (u.f : Int), .int .i64 (u.s : Int)] 49)) := Grew.alloc hGr _
   have hM4 : Below w3.heap.size w3 (wr.alloc (.cells #[.int .i64 (u.f : Int), .int .i64 (u.s : Int)] 49)) := Grew.alloc hM3 _
   have OWN4 : Hid ((wr.alloc (.cells #[.int .i64 (u.f : Int), .int .i64 (u.s : Int)] 49)).ownsRow w3.heap.size 44 32 v0 k (k32L Z k)) := OWN.out.alloc _
   clear ft lft hGr hM3 OWN l1 l2 hgC
   generalize wr.alloc (.cells #[.int .i64 (u.f : Int), .int .i64 (u.s : Int)] 49) = w4 at *
   generalize wr.heap.size = gv at *
   have lft := lt_of_objAt ft4
   have lfv := lt_of_objAt fv
   have hl : ∀ q : More, (loadNext 44 (.pointer (some ⟨g, i * 64 + 32, none⟩))).run Tryz.prog (more w4 q) = .ok (.value (.agg (ints .u8 32 (P i)))) (more w4 q) := fun q => (HR.out.later (Grew.more hG4 q)).load1 hi
   (refine wp_relT 11 (by kernel_rfl) (by kernel_rfl) (by kernel_rfl) (by kernel_rfl) (by kernel_rfl) ?_; simp only [List.take_succ_cons, List.take_zero]; (repeat (first | refine exv_skip rfl ?_ | (refine exv_call rfl ?_; apply Exists.intro))); refine exv_nil ?_; intro γ hinj hbase; (repeat (first | (refine rel_quiet rfl ?_; ((first | go_big_quiet_skip | (go_big_quiet_want; go_big_quiet_op; go_big_quiet_on)); refine wpQuiet_nil ?_)) | ((first | refine rel_skip_some rfl (fun _ => rfl) ?_ | ((try simp only [Nat.zero_add, Nat.reduceAdd]); apply rel_box alloc_cls; (focus rfl); (focus (first | exact cells_agg _ | exact cells_int _ _ | exact cells_bool _ | rfl)); (focus (exact by_fits))) | ((try simp only [Nat.zero_add, Nat.reduceAdd]); apply rel_alloc _ _ alloc_cls; (focus rfl); (focus (intro W; (first | exact zero_key _ | exact zero_elem _ | exact zero_num _ | exact zero_pair _ | exact zero_rnode _ | exact zero_kpair _))); (focus (first | exact cells_ints _ _ _ | exact cells_two _ _ | rfl)); (focus (exact by_fits))) | ((try simp only [Nat.zero_add, Nat.reduceAdd]); apply rel_slice alloc_cls; (focus rfl); (focus (intro W; simp only [List.map_toArray, List.map_cons, List.map_nil]; first | (with_reducible exact build1k _ W) | exact build1k _ W)); (focus (exact by_fits))) | (apply rel_fact; (focus rfl); (focus rfl); (focus rfl); (focus (intro W hC hF; go_big_quiet_want; go_big_quiet_op; (first | go_big_quiet_on | (apply Exists.intro; refine ⟨fun _ => ?_, ?_⟩; (focus (first | (with_reducible exact Calls.of_more (c1 _)) | (with_reducible exact Calls.of_more (cI _)))); go_big_quiet_on)); exact wpQuiet_nil rfl)); (focus (first | exact fun _ => ⟨rfl, rfl⟩ | exact fun h => absurd h (by decide))))); ((first | go_big_quiet_skip | (go_big_quiet_want; go_big_quiet_op; go_big_quiet_on)); refine wpQuiet_nil ?_)) | refine rel_skip_none rfl (fun _ => rfl) ?_ | ((try simp only [Nat.zero_add, Nat.reduceAdd]); apply rel_store (setRow_cls (hbase _)); (focus rfl); (focus rfl); (focus rfl); (focus (first | exact cells_agg _ | exact cells_int _ _ | exact cells_bool _ | rfl)); rotate_left 3; (focus (exact by_mem)); rotate_right 3; (focus kernel_rfl); (focus (first | exact ints_size _ _ _ | rfl)); (focus (first | exact ints_ones _ _ _ | exact ones_two _ _ _ _ | kernel_rfl)); (focus (decide +kernel)); (focus (exact by_fits))))))
   (refine relT_nil ?_; rintro _ ⟨mq, rfl⟩ hF; simp only [List.forall_mem_cons] at hF; obtain ⟨hv, -⟩ := hF)
   refine tail_one (i := 11) (fuel := 1) (by kernel_rfl) rfl ?_
   intro K hK
   refine step_key rfl (.tmp 17) (.tmp 27) rfl w3 (more w4 mq) w3.heap.size v0 k Z (γ 10) _ _ rfl rfl (own_later OWN4.out (below_more w4 mq)) (by omega) (by rw [hZ]; exact hv) (Grew.more hM4 mq) (Nat.le_refl _) (Grew.more hM4 mq).size ?_
   intro g3 c3 w5 own3 hM5 hk3
   have OWN5 : Hid (w5.ownsRow w3.heap.size 44 32 (.slice (some ⟨g3, 0, none⟩) (k + 1) c3) (k + 1) (k32L Z (k + 1))) := own3
   refine hK _ _ ?_
   clear hK K
   (refine tail_one (i := 12) (fuel := 0) (by kernel_rfl) rfl ?_; intro K hK; go_simp; refine hK _ _ ?_; clear hK K)
   (refine wpAny_done (by kernel_rfl) ?_ _)
   go_wp2
   go_roundw
   case rel => exact ⟨k + 1, _, rfl, by omega, by go_num, hM5, OWN5⟩
   case measure => (simp [intOf] <;> omega)
  ·obtain rfl : k = C.length := by omega
   have HR2 : Hid (∀ oa m c, v0 = .slice oa m c → KeyRow wr oa) := fun oa m c e => keyRow_of_own OWN.out e
   obtain ⟨oa2, c2, rfl, -, hK2⟩ := k32_of_own OWN.out
   have HK2 : Hid (K32At wr oa2 C.length Z) := hK2
   clear OWN hK2
   go_wp2
   go_ret
   exact ⟨oa2, c2, rfl, ⟨HK2.out, HR2.out _ _ _ rfl⟩, hGr⟩
theorem bCopath_any (S P : Nat → Nat → Int) (g m c n : Nat) (j : Int) (w : World) (hm : m + 1 = 2 * n) (h1 : 1 ≤ n) (hn : n ≤ 1024) (hj0 : -9223372036854775808 ≤ j) (hj1 : j ≤ 9223372036854775807) (hR : Row64 w g m (fun j => keysF (S j) (P j))) :
  Calls Tryz.prog 178 #[.agg #[.slice (some ⟨g, 0, none⟩) m c], .int .i64 j] w (RetK32 w (copathI n j).length (cpF P n (copathI n j))) := (bCopathK_any S P g m c n j w hm h1 hn hj0 hj1 hR).mono fun _ _ ⟨oa, c, a, b, d⟩ => ⟨oa, c, a, b.1, d⟩
end Go.Proofs.YtnjghcnhcbobhaaGreatDoor
namespace Go.Proofs.YtnjghcnhcbobhaaGreatDoor
open Go.RowKit
set_option linter.unusedVariables false
set_option linter.unusedSimpArgs false
attribute [local irreducible] nodeF labelF oneF macF shaF strOf keyV shV pubV upF upOK pubF
end Go.Proofs.YtnjghcnhcbobhaaGreatDoor
namespace Go.Proofs.YtnjghcnhcbobhaaGreatDoor
open Go.RowKit
set_option linter.unusedVariables false
set_option linter.unusedSimpArgs false
attribute [local go_sem] Oper.semAt_some
theorem cells_kept {W W' : World} {b B : Nat} {cs : Array Value} {t : TypeId} {fr : Nat × Nat} {row : Option Nat} (h : objAt W b = some (.cells cs t fr)) (hg : W.grownBy W' row) (hr : ∀ r, row = some r → B ≤ r ∧ ∃ o : Obj, W.heap[r]? = some o ∧ o.isCells = false) : objAt W' b = objAt W b := by
 refine hg.block b (lt_of_objAt h) fun e => ?_
 obtain ⟨_, o, ho, hc⟩ := hr b e.symm
 unfold objAt at h
 rw [h] at ho
 cases ho
 cases hc
theorem keeps_set {W W1 : World} {B P : Nat} {cs : Array Value} {t : TypeId} {fr : Nat × Nat} (c : Array Value) (hP : objAt W P = some (.cells cs t fr)) (hb : Below W.heap.size W W1) : KeepsFrom B W (W1.setRow P c) :=
 ⟨by rw [size_setRow']; exact hb.size, fun k o _ hk ho => by
  have hne : k ≠ P := fun e => by
   subst e
   unfold objAt at hP
   rw [hP] at hk
   cases hk
   cases ho
  exact (objAt_setRow_ne W1 P k c hne).trans ((hb.block k (Array.getElem?_eq_some_iff.1 hk).1).trans hk)⟩
theorem row64_cells {w : World} {g m : Nat} {F : Nat → Nat → Int} (h : Row64 w g m F) : ∃ cs, objAt w g = some (.cells cs 276 (0, 0)) := by
 obtain ⟨cs, h, _⟩ := h
 exact ⟨cs, h⟩
theorem Below.setRow9 {n : Nat} {X Y : World} (h : Below n X Y) (g : Nat) (cs : Array Value) (hg : n ≤ g) : Below n X (Y.setRow g cs) :=
 h.trans ⟨rfl, rfl, rfl, by rw [size_setRow']; exact Nat.le_refl _, fun k hk => objAt_setRow_ne Y g k cs (by omega)⟩
theorem results_row_tmp {P : Program} {fn : Func} {tmps : Array Value} {w : World} {p q : Tmp} {ty : TypeId} (h : fn.results = #[.cell p ty, .tmp q]) (g : Nat) (t : TypeId) (cs : Array Value) (fr : Nat × Nat) (d : TypeDesc) (v : Value)
  (hp : tmps.getD p undef = .pointer (some ⟨g, 0, none⟩)) (hq : tmps.getD q undef = v) (hg : objAt w g = some (.cells cs t fr))
  (hu : P.underlying ty = some d) (hd : (match d with | .struct _ | .array _ _ => true | _ => false) = true) (hi : (P.info? ty).map (·.size) = some cs.size) : (results fn tmps).run P w = .ok (.tuple #[.agg cs, v]) w := by
 have hp' : tmps[p]?.getD undef = .pointer (some ⟨g, 0, none⟩) := by simpa using hp
 have hq' : tmps[q]?.getD undef = v := by simpa using hq
 unfold objAt at hg
 simp [results, h, hp', hq', asAddr, run_loadVar_row w g t ty cs fr d hg hu hd hi]
def newR (L : Nat → Nat → Int) (G : Nat → Nat → Int) (v : Nd) (i : Nat) : Nat → Int :=
 if v.s = 1 then keysF (L v.f) (pubF (L v.f)) else keysF (upF (G (i + 1)) (fun k => G (i + 2 * leftN v.s) (k + 32))) (pubF (upF (G (i + 1)) (fun k => G (i + 2 * leftN v.s) (k + 32))))
theorem keys_bytes {a b : Nat → Int} (ha : Bytes 32 a) (hb : Bytes 32 b) : Bytes 64 (keysF a b) := fun i hi => by
 unfold keysF
 split
 ·exact ha i (by omega)
 ·exact hb _ (by omega)
theorem newR_bytes {L : Nat → Nat → Int} {G : Nat → Nat → Int} {v : Nd} {i : Nat} (h : v.s = 1 → Bytes 32 (L v.f)) : Bytes 64 (newR L G v i) := by
 unfold newR
 split
 ·rename_i e
  exact keys_bytes (h e) (pubF_bytes _)
 ·exact keys_bytes (up_bytes _ _) (pubF_bytes _)
theorem newR_tree (L : Nat → Nat → Int) {n i : Nat} {v : Nd} (h0 : 1 ≤ n) (hv : (belowN 0 n)[i]? = some v) (G : Nat → Nat → Int) (hG : 2 ≤ v.s → G (i + 1) = prF L n (i + 1) ∧ G (i + 2 * leftN v.s) = prF L n (i + 2 * leftN v.s)) : newR L G v i = prF L n i := by
 have hb := below_in 0 n v (List.mem_of_getElem? hv)
 have hs := hb.2.2.2 h0
 unfold newR
 by_cases e : v.s = 1
 ·rw [if_pos e]
  have hv' : (belowN 0 n)[i]? = some ⟨v.f, 1⟩ := by rw [hv]; cases v; simp only at e; rw [e]
  unfold prF
  rw [treeF_leaf L hv']
 ·rw [if_neg e]
  obtain ⟨a, b⟩ := hG (by omega)
  rw [a, b]
  have hq : (fun k => prF L n (i + 2 * leftN v.s) (k + 32)) = pubF (treeF L n (i + 2 * leftN v.s)) := by
   funext k
   unfold prF keysF
   rw [if_neg (by omega), show k + 32 - 32 = k by omega]
  rw [hq]
  have hu : ∀ q, upF (prF L n (i + 1)) q = upF (treeF L n (i + 1)) q := fun q => upF_first (fun j hj => by unfold prF keysF; rw [if_pos hj]) q
  rw [hu, ← treeF_inner L hv (by omega)]
  rfl
attribute [local irreducible] nodeF labelF oneF macF shaF strOf keyV shV pubV upF upOK pubF
theorem bMake_any (L : Nat → Nat → Int) (oa : Option Addr) (n m c : Nat) (w : World) (hm : m + 1 = 2 * n) (h2 : 2 ≤ n) (hn : n ≤ 1024) (hL : ∀ i, i < n → Bytes 32 (L i)) (hK : K32At w oa n L) (hT : Tabs w) :
  Calls Tryz.prog 176 #[.slice oa n c] w fun e w' => ∃ g c2, e = .returned (.tuple #[.agg #[.slice (some ⟨g, 0, none⟩) m c2], .bool true]) ∧ Row64 w' g m (prF L n) ∧ Below w.heap.size w w' := by
 have HK : Hid (K32At w oa n L) := hK
 have hTT : Hid (Tabs w) := hT
 obtain ⟨ad, rfl⟩ := hK.addr (by omega)
 clear hK hT
 have h1 : 1 ≤ n := by omega
 have hlen : (belowN 0 n).length = m := by rw [below_length 0 n h1]; omega
 have cA : ∀ W : World, Calls Tryz.prog 185 #[.int .i64 (n : Int)] W (RetNds W (belowN 0 n)) := fun W => by
  have := pall_any (n : Int) W
  rw [all_some h1 hn] at this
  exact this
 have hNv : Hid (∀ i v, (belowN 0 n)[i]? = some v → 1 ≤ v.s ∧ v.f + v.s ≤ n ∧ v.s ≤ 1024 ∧ (2 ≤ v.s → i + 1 < (belowN 0 n).length ∧ i + 2 * leftN v.s < (belowN 0 n).length)) := fun i v hv => by
  have hb := below_in 0 n v (List.mem_of_getElem? hv)
  refine ⟨hb.2.2.2 h1, by omega, by omega, fun h => ?_⟩
  obtain ⟨a, b⟩ := below_kids 0 n i v hv h
  exact ⟨(List.getElem?_eq_some_iff.1 a).1, (List.getElem?_eq_some_iff.1 b).1⟩
 have hNt : Hid (∀ i v G, (belowN 0 n)[i]? = some v → (2 ≤ v.s → G (i + 1) = prF L n (i + 1) ∧ G (i + 2 * leftN v.s) = prF L n (i + 2 * leftN v.s)) → newR L G v i = prF L n i) := fun i v G hv h => newR_tree L h1 hv G h
 have hm2 : m ≤ 2048 := by omega
 generalize prF L n = PF at *
 generalize belowN 0 n = NN at *
 subst hlen
 have hi2 : (2 : Int) ≤ (n : Int) := by omega
 have hi3 : (n : Int) ≤ 1024 := by omega
 refine (callsIn_wide (n := 5)).1 ?_
 refine callsIn_of_wp_marks Tryz.func176 rfl trivial ?_
 simp only [Tryz.ntmps176, List.size_toArray, List.length_cons, List.length_nil, Nat.reduceAdd, Nat.reduceSub, Array.replicate_succ, Array.replicate_zero, List.push_toArray, List.append_toArray, List.nil_append, List.cons_append]
 gi_wp2_with fail
 have fl : objAt ((w.alloc (.cells #[.slice (some ad) n c] 45)).alloc (.cells #[.slice none 0 0] 261)) w.heap.size = some (.cells #[.slice (some ad) n c] 45) := keep_alloc _ (objAt_alloc_at _ _ _ rfl)
 have fr : objAt ((w.alloc (.cells #[.slice (some ad) n c] 45)).alloc (.cells #[.slice none 0 0] 261)) (w.heap.size + 1) = some (.cells #[.slice none 0 0] 261) := objAt_alloc_at _ _ _ (by simp)
 have hG : Below w.heap.size w ((w.alloc (.cells #[.slice (some ad) n c] 45)).alloc (.cells #[.slice none 0 0] 261)) := Grew.alloc (Grew.alloc (Grew.refl w) _) _
 generalize (w.alloc (.cells #[.slice (some ad) n c] 45)).alloc (.cells #[.slice none 0 0] 261) = w0 at *
 refine ⟨trivial, (callsIn_wide.2 (cA _)).mono ?_⟩
 rintro e w2 ⟨oN, kN, rfl, hN, hb⟩
 replace fl := keep_below hb fl
 replace fr := keep_below hb fr
 have lw2 := lt_of_objAt fr
 replace hG : Below w.heap.size w w2 := Grew.trans hG hb
 have HN : Hid (NdsAt w2 oN NN) := hN
 have flw := fl
 have frw := fr
 have hGw := hG
 obtain ⟨gN, oo, rfl, hgN⟩ : ∃ gN o, oN = some ⟨gN, o, none⟩ ∧ gN < w2.heap.size := by
  rcases hN with h0 | ⟨g', o', e, hg', _⟩
  ·subst h0; simp at hm; omega
  ·exact ⟨g', o', e, hg'⟩
 clear hN hb cA
 obtain ⟨w3, hmk, hR0, hw3⟩ := make_pairs w2 NN.length (by omega)
 have HR0 : Hid (Row64 w3 w2.heap.size NN.length (fun _ => nought)) := hR0
 have hz3 : w3.heap.size = w2.heap.size + 1 := by rw [hw3]; simp
 have hb3 : Below w2.heap.size w2 w3 := by rw [hw3]; exact Grew.alloc (Grew.refl w2) _
 clear hR0 hw3
 gi_wp2_with fail
 replace fl := keep_below hb3 fl
 replace fr := keep_below hb3 fr
 replace hG : Below w.heap.size w w3 := Grew.trans hG hb3
 refine ⟨trivial, (callsIn_wide.2 (backward_any _ _ _ _)).mono ?_⟩
 rintro e w4 ⟨rfl, rfl⟩
 gi_wp2_with fail
 have fp : objAt ((w3.alloc (.cells #[.slice (some ⟨w2.heap.size, 0, none⟩) NN.length NN.length] 259)).alloc (.cells #[.slice (some ⟨gN, oo, none⟩) NN.length kN] 132)) (w2.heap.size + 1) = some (.cells #[.slice (some ⟨w2.heap.size, 0, none⟩) NN.length NN.length] 259) := keep_alloc _ (objAt_alloc_at _ _ _ hz3.symm)
 have fn : objAt ((w3.alloc (.cells #[.slice (some ⟨w2.heap.size, 0, none⟩) NN.length NN.length] 259)).alloc (.cells #[.slice (some ⟨gN, oo, none⟩) NN.length kN] 132)) (w2.heap.size + 1 + 1) = some (.cells #[.slice (some ⟨gN, oo, none⟩) NN.length kN] 132) := objAt_alloc_at _ _ _ (by simp [hz3])
 have hb4 : Below w2.heap.size w2 ((w3.alloc (.cells #[.slice (some ⟨w2.heap.size, 0, none⟩) NN.length NN.length] 259)).alloc (.cells #[.slice (some ⟨gN, oo, none⟩) NN.length kN] 132)) := Grew.alloc (Grew.alloc hb3 _) _
 have HR4 : Hid (Row64 ((w3.alloc (.cells #[.slice (some ⟨w2.heap.size, 0, none⟩) NN.length NN.length] 259)).alloc (.cells #[.slice (some ⟨gN, oo, none⟩) NN.length kN] 132)) w2.heap.size NN.length (fun _ => nought)) := HR0.out.later (Grew.alloc (Grew.alloc (Grew.refl w3) _) _)
 have hz4 : ((w3.alloc (.cells #[.slice (some ⟨w2.heap.size, 0, none⟩) NN.length NN.length] 259)).alloc (.cells #[.slice (some ⟨gN, oo, none⟩) NN.length kN] 132)).heap.size = w2.heap.size + 3 := by simp [hz3]
 replace fl := keep_alloc (.cells #[.slice (some ⟨gN, oo, none⟩) NN.length kN] 132) (keep_alloc (.cells #[.slice (some ⟨w2.heap.size, 0, none⟩) NN.length NN.length] 259) fl)
 replace fr := keep_alloc (.cells #[.slice (some ⟨gN, oo, none⟩) NN.length kN] 132) (keep_alloc (.cells #[.slice (some ⟨w2.heap.size, 0, none⟩) NN.length NN.length] 259) fr)
 clear HR0 hmk hb3 hz3
 generalize (w3.alloc (.cells #[.slice (some ⟨w2.heap.size, 0, none⟩) NN.length NN.length] 259)).alloc (.cells #[.slice (some ⟨gN, oo, none⟩) NN.length kN] 132) = w4 at *
 have HN4 : NdsAt w4 (some ⟨gN, oo, none⟩) NN := HN.out.later hb4
 refine wpIn_rangeFunc_ownH rfl (by decide) (gf := 200) (lb := #[.pointer (some ⟨w2.heap.size + 1 + 1, 0, none⟩)]) rfl trivial (enters_of Tryz.func200 (by kernel_rfl) rfl)
  (back_stops () (w2.heap.size + 1 + 1) w2.heap.size gN oo kN NN 4 (by decide) (by omega) hgN w4 (by omega) fn HN4) kpB_t (kpB_b (by omega)) (Below.refl _ _) (fun _ => rfl)
  (fun pre W => Below w2.heap.size w2 W ∧ objAt W (w2.heap.size + 1) = some (.cells #[.slice (some ⟨w2.heap.size, 0, none⟩) NN.length NN.length] 259) ∧ w2.heap.size + 1 + 1 < W.heap.size ∧ ∃ G, Row64 W w2.heap.size NN.length G ∧ (∀ i, i < NN.length → Bytes 64 (G i)) ∧ (pre = itA NN.length pre.length → ∀ i, NN.length - pre.length ≤ i → i < NN.length → G i = PF i))
  (fun _ _ _ => False)
  (fun pre W W' row hs hg hr => ⟨(ownFrom_below (β := Unit) (Nat.le_refl _) (by omega)) () W W' row hs.1 hg hr, (cells_kept hs.2.1 hg hr).trans hs.2.1, Nat.lt_of_lt_of_le hs.2.2.1 hg.size, by
   obtain ⟨_, _, _, G, h3, h4, h5⟩ := hs
   obtain ⟨cs, hc⟩ := row64_cells h3
   exact ⟨G, h3.by (cells_kept hc hg hr), h4, h5⟩⟩)
  (fun _ _ _ _ _ hs _ _ => hs)
  ⟨hb4, fp, by omega, fun _ => nought, HR4.out, fun i hi j hj => ⟨Int.le_refl 0, by show (0 : Int) ≤ 255; decide⟩, fun _ i h1 h2 => by simp at h1; omega⟩
  (fun x a' W => ∃ Bv, w2.heap.size + 1 + 1 < Bv ∧ objAt W Bv = some (.cells #[.int .i64 ((ndAt NN x.1).f : Int), .int .i64 ((ndAt NN x.1).s : Int)] 49) ∧ a' = { tmps := #[Value.slice (some ad) n c, Value.pointer (some ⟨w.heap.size, 0, none⟩), Value.pointer (some ⟨w.heap.size + 1, 0, none⟩), Value.bool false, Value.slice (some ⟨gN, oo, none⟩) NN.length kN, Value.pointer (some ⟨w2.heap.size + 1, 0, none⟩), .int .i64 (x.1 : Int), .pointer (some ⟨Bv, 0, none⟩), undef, Value.slice (some ad) n c, Value.int .i64 (n : Int), Value.bool (decide ((n : Int) < 2)), Value.bool (decide ((n : Int) < 2)), Value.slice (some ad) n c, Value.int .i64 (n : Int), Value.bool (decide (1024 < (n : Int))), Value.bool (decide ((n : Int) < 2) || decide (1024 < (n : Int))), undef, Value.slice (some ad) n c, Value.int .i64 (n : Int), Value.slice (some ⟨gN, oo, none⟩) NN.length kN, Value.slice (some ⟨gN, oo, none⟩) NN.length kN, Value.int .i64 (NN.length : Int), Value.slice (some ⟨w2.heap.size, 0, none⟩) NN.length NN.length, Value.slice (some ⟨gN, oo, none⟩) NN.length kN, Value.func (Fn.func 200) #[] #[Value.pointer (some ⟨w2.heap.size + 1 + 1, 0, none⟩)], .int .i64 (x.1 : Int), .agg #[.int .i64 ((ndAt NN x.1).f : Int), .int .i64 ((ndAt NN x.1).s : Int)], undef, undef, undef, undef, undef, undef, undef, undef, undef, undef, undef, undef, undef, undef, undef, undef, undef, undef, undef, undef, undef, undef, undef, undef, undef, undef, undef, undef, undef, undef, undef, undef, undef], defers := [] })
  (fun x a' _ W W' row hs hg hr => by
   obtain ⟨Bv, h1, h2, h3⟩ := hs
   exact ⟨Bv, h1, (cells_kept h2 hg hr).trans h2, h3⟩)
  ?assign ?body ?done ?stop
 case assign =>
  rintro l pre x W K ⟨hb, hp, hsz, G, hR, hGB, hGp⟩ hK
  gi_wp2
  exact hK _ _ ((KeepsOthers.alloc _ _).from _) ⟨(Below.refl w2.heap.size W).alloc hb.size _, fun _ _ _ e => keep_alloc _ e⟩ ⟨Grew.alloc hb _, keep_alloc _ hp, by simp; omega, G, hR.later (Grew.alloc (Grew.refl W) _), hGB, hGp⟩ ⟨W.heap.size, hsz, objAt_alloc_at _ _ _ rfl, rfl⟩
 case body =>
  rintro l pre ⟨i, hi⟩ a' W hl - ⟨hb, hp, hsz, G, hR, hGB, hGp⟩ ⟨Bv, hBv, fv, rfl⟩ hpl
  obtain ⟨v, hv⟩ : ∃ v, NN[i]? = some v := ⟨_, List.getElem?_eq_getElem hi⟩
  simp only [ndAt_eq hv] at fv ⊢
  obtain ⟨v1, v2, v3, v4⟩ := hNv.out i v hv
  obtain ⟨cs0, hPc⟩ := row64_cells hR
  have HR : Hid (Row64 W w2.heap.size NN.length G) := hR
  have fl2 := keep_below hb flw
  have hGW : Below w.heap.size w W := Grew.trans hGw hb
  have lfl := lt_of_objAt fl2
  have lfv := lt_of_objAt fv
  have lp := lt_of_objAt hp
  have hi1 : (i : Int) < (NN.length : Int) := by omega
  have hi0 : (0 : Int) ≤ (i : Int) := by omega
  have hf1 : (v.f : Int) < (n : Int) := by omega
  have hf0 : (0 : Int) ≤ (v.f : Int) := by omega
  have hEND : Hid (∀ W' : World, Below w2.heap.size w2 W' → objAt W' (w2.heap.size + 1) = some (.cells #[.slice (some ⟨w2.heap.size, 0, none⟩) NN.length NN.length] 259) → w2.heap.size + 1 + 1 < W'.heap.size → Row64 W' w2.heap.size NN.length (updR G i (newR L G v i)) →
    Below w2.heap.size w2 W' ∧ objAt W' (w2.heap.size + 1) = some (.cells #[.slice (some ⟨w2.heap.size, 0, none⟩) NN.length NN.length] 259) ∧ w2.heap.size + 1 + 1 < W'.heap.size ∧ ∃ G, Row64 W' w2.heap.size NN.length G ∧ (∀ i, i < NN.length → Bytes 64 (G i)) ∧ (pre ++ [⟨i, hi⟩] = itA NN.length (pre ++ [(⟨i, hi⟩ : BkT NN.length)]).length → ∀ j, NN.length - (pre ++ [(⟨i, hi⟩ : BkT NN.length)]).length ≤ j → j < NN.length → G j = PF j)) := fun W' q1 q2 q3 q4 => ⟨q1, q2, q3, _, q4, fun i' hi' => by
   unfold updR
   split
   ·exact newR_bytes fun e => hL _ (by omega)
   ·exact hGB i' hi', fun hpre j h1 h2 => by
   obtain ⟨r1, r2⟩ := itA_next hpl hpre
   simp only at r2
   have hp := hGp r1
   rw [List.length_append, show [(⟨i, hi⟩ : BkT NN.length)].length = 1 from rfl] at h1
   unfold updR
   split
   ·rename_i e
    subst e
    exact hNt.out j v G hv fun h => ⟨hp _ (by omega) (by have := v4 h; omega), hp _ (by have := left_bd h; omega) (by have := v4 h; omega)⟩
   ·exact hp j (by omega) h2⟩
  clear hR hl
  by_cases e1 : v.s = 1
  ·have e1i : (v.s : Int) = 1 := by omega
   have hnr : newR L G v i = keysF (L v.f) (pubF (L v.f)) := by unfold newR; rw [if_pos e1]
   have cO := fun W : World => of_pub (L v.f) W (hL v.f (by omega))
   have lK := fun q : More => HK.out.loadK (show v.f < n by omega) (Grew.more hGW q)
   rw [e1i] at fv
   gi_wp2
   (refine wpIn_tail_round 9 (by kernel_rfl) (by kernel_rfl) (by rintro ⟨_, _, h⟩; exact h) (by kernel_rfl) (by kernel_rfl) (by kernel_rfl) (by kernel_rfl) ?_; simp only [List.take_succ_cons, List.take_zero]; (repeat (first | go_big_quiet_skip | (go_big_quiet_want; go_big_quiet_op; first | go_big_quiet_on | (apply Exists.intro; refine ⟨fun _ => ?_, ?_⟩; (focus (first | (with_reducible exact Calls.of_more (cO _)))); go_big_quiet_on)))); refine wpQuiet_nil ?_; rintro _ ⟨mq, rfl⟩)
   obtain ⟨cs, hst, hR7⟩ := (HR.out.later (below_more W mq)).store hi (keysF (L v.f) (pubF (L v.f)))
   have HR7 : Hid (Row64 ((more W mq).setRow w2.heap.size cs) w2.heap.size NN.length (updR G i (newR L G v i))) := by rw [hnr]; exact hR7
   have HB7 : Hid (Below W.heap.size W (more W mq)) := below_more W mq
   have HP7 : Hid (objAt ((more W mq).setRow w2.heap.size cs) (w2.heap.size + 1) = some (.cells #[.slice (some ⟨w2.heap.size, 0, none⟩) NN.length NN.length] 259)) := keep_setRow _ _ (keep_more mq hp) (by omega)
   have HW7 : Hid (Below w2.heap.size w2 ((more W mq).setRow w2.heap.size cs)) := Grew.setRow (Grew.more hb mq) _ _ (Nat.le_refl _)
   clear hR7 lK hnr
   (refine tail_one (i := 9) (fuel := 0) (by kernel_rfl) rfl ?_; intro K hK; go_simp; refine hK _ _ ?_; clear hK K)
   (refine wpAny_done (by kernel_rfl) ?_ _)
   gi_wp2
   exact ⟨keeps_set cs hPc HB7.out, ⟨Below.setRow9 ((HB7.out).mono hb.size) _ _ (Nat.le_refl _), fun cs' t' fr' e => keep_setRow _ _ (keep_below HB7.out e) (by omega)⟩, hEND.out _ HW7.out HP7.out (by rw [size_setRow']; have := HB7.out.size; omega) HR7.out⟩
  ·have h2s : 2 ≤ v.s := by omega
   have e1i : ¬ ((v.s : Int) = 1) := by omega
   obtain ⟨v5, v6⟩ := v4 h2s
   have hnr : newR L G v i = keysF (upF (G (i + 1)) (fun k => G (i + 2 * leftN v.s) (k + 32))) (pubF (upF (G (i + 1)) (fun k => G (i + 2 * leftN v.s) (k + 32)))) := by unfold newR; rw [if_neg e1]
   have cl := fun W : World => pleft_any (v.s : Int) W (by omega)
   rw [show ((v.s : Int)).toNat = v.s by omega] at cl
   have cU := fun (W : World) (h : Tabs W) => above_rows (G (i + 1)) (G (i + 2 * leftN v.s)) W (hGB _ v5) (hGB _ v6) h
   have hlb := left_bd h2s
   gi_wp2_with fail
   refine ⟨trivial, (CallsIn.inRound l (callsIn_wide.2 (cl _))).mono ?_⟩
   rintro e W2 ⟨rfl, hbL⟩
   replace fv := keep_below hbL fv
   replace hp := keep_below hbL hp
   replace fl2 := keep_below hbL fl2
   replace hGW : Below w.heap.size w W2 := Grew.trans hGW hbL
   have hb2 : Below w2.heap.size w2 W2 := Grew.trans hb hbL
   have HRL : Hid (Row64 W2 w2.heap.size NN.length G) := HR.out.later hbL
   have lfl := lt_of_objAt fl2
   have lfv := lt_of_objAt fv
   have lp := lt_of_objAt hp
   have HBL : Hid (Below W.heap.size W W2) := hbL
   generalize newR L G v i = NR at *
   generalize upF (G (i + 1)) (fun k => G (i + 2 * leftN v.s) (k + 32)) = U at *
   generalize leftN v.s = M at *
   have ht1 : ((i : Int) + 1).toNat = i + 1 := by omega
   have ht2 : ((i : Int) + 2 * (M : Int)).toNat = i + 2 * M := by omega
   have hj1 : (i : Int) + 1 < (NN.length : Int) := by omega
   have hj2 : (i : Int) + 2 * (M : Int) < (NN.length : Int) := by omega
   have hj3 : (0 : Int) ≤ (i : Int) + 1 := by omega
   have hj4 : (0 : Int) ≤ (i : Int) + 2 * (M : Int) := by omega
   have lP1 := fun q : More => (HRL.out.later (below_more W2 q)).load v5
   have lP2 := fun q : More => (HRL.out.later (below_more W2 q)).load v6
   clear hbL cl HR
   gi_wp2_with fail
   (refine wpIn_tail_round 13 (by kernel_rfl) (by kernel_rfl) (by rintro ⟨_, _, h⟩; exact h) (by kernel_rfl) (by kernel_rfl) (by kernel_rfl) (by kernel_rfl) ?_; simp only [List.take_succ_cons, List.take_zero]; (repeat (first | go_big_quiet_skip | (go_big_quiet_want; go_big_quiet_op; first | go_big_quiet_on | (apply Exists.intro; refine ⟨fun _ => ?_, ?_⟩; (focus (first | (with_reducible exact Calls.of_more (cU _ (hTT.out.later (Grew.trans hGW (below_more W2 _))))))); go_big_quiet_on)))); refine wpQuiet_nil ?_; rintro _ ⟨mq, rfl⟩)
   obtain ⟨cs, hst, hR7⟩ := (HRL.out.later (below_more W2 mq)).store hi (keysF U (pubF U))
   have HR7 : Hid (Row64 ((more W2 mq).setRow w2.heap.size cs) w2.heap.size NN.length (updR G i NR)) := by rw [hnr]; exact hR7
   have HB7 : Hid (Below W.heap.size W (more W2 mq)) := Grew.more HBL.out mq
   have HP7 : Hid (objAt ((more W2 mq).setRow w2.heap.size cs) (w2.heap.size + 1) = some (.cells #[.slice (some ⟨w2.heap.size, 0, none⟩) NN.length NN.length] 259)) := keep_setRow _ _ (keep_more mq hp) (by omega)
   have HW7 : Hid (Below w2.heap.size w2 ((more W2 mq).setRow w2.heap.size cs)) := Grew.setRow (Grew.more hb2 mq) _ _ (Nat.le_refl _)
   clear hR7 lP1 lP2 hnr
   (refine tail_one (i := 13) (fuel := 0) (by kernel_rfl) rfl ?_; intro K hK; go_simp; refine hK _ _ ?_; clear hK K)
   (refine wpAny_done (by kernel_rfl) ?_ _)
   gi_wp2
   exact ⟨keeps_set cs hPc HB7.out, ⟨Below.setRow9 ((HB7.out).mono hb.size) _ _ (Nat.le_refl _), fun cs' t' fr' e => keep_setRow _ _ (keep_below HB7.out e) (by omega)⟩, hEND.out _ HW7.out HP7.out (by rw [size_setRow']; have := HB7.out.size; omega) HR7.out⟩
 case done =>
  rintro D xs W hD rfl ⟨hb, hp, hsz, G, hR, hGB, hGp⟩ hKD
  have fr2 := keep_below hb frw
  have HE : Hid (Row64 W w2.heap.size NN.length PF) := hR.congr fun i hi => hGp (by rw [itA_len _ (Nat.le_refl _)]) i (by rw [itA_len _ (Nat.le_refl _)]; omega) hi
  have hGW : Below w.heap.size w W := Grew.trans hGw hb
  have lfr := lt_of_objAt fr2
  have lp := lt_of_objAt hp
  clear hR hGB hGp
  gi_wp2
  have hKD' : (W.setRow (w.heap.size + 1) #[.slice (some ⟨w2.heap.size, 0, none⟩) NN.length NN.length]).heap[D]? = some (.deferred (some [])) := (objAt_setRow_ne W (w.heap.size + 1) D _ (by omega)).trans hKD
  have hp2 : objAt ((W.setRow (w.heap.size + 1) #[.slice (some ⟨w2.heap.size, 0, none⟩) NN.length NN.length]).putObj D (.deferred none)) (w.heap.size + 1) = some (.cells #[.slice (some ⟨w2.heap.size, 0, none⟩) NN.length NN.length] 261) := (World.putObj_heap_other (by omega)).trans (keep_row _ fr2)
  have hE2 : objAt ((W.setRow (w.heap.size + 1) #[.slice (some ⟨w2.heap.size, 0, none⟩) NN.length NN.length]).putObj D (.deferred none)) w2.heap.size = objAt W w2.heap.size := (World.putObj_heap_other (by omega)).trans (objAt_setRow_ne _ _ _ _ (by omega))
  refine ⟨by simp, .inl ⟨_, _, rfl, run_takeDeferred hKD', ?_⟩⟩
  exact ⟨_, results_row_tmp rfl _ _ _ (0, 0) _ _ rfl rfl hp2 Tryz.underlying261 rfl (by kernel_rfl), w2.heap.size, _, rfl, HE.out.by hE2, (Grew.setRow hGW _ _ (by omega)).trans (belowK_b (w := w) (Nat.le_refl _) _ D _ _ (by omega) hKD' rfl rfl)⟩
 case stop =>
  rintro D c pre W _ _ h _
  exact h.elim
end Go.Proofs.YtnjghcnhcbobhaaGreatDoor
namespace Go.Proofs.YtnjghcnhcbobhaaGreatDoor
open Go.RowKit
set_option linter.unusedVariables false
set_option linter.unusedSimpArgs false
end Go.Proofs.YtnjghcnhcbobhaaGreatDoor
