/- What ct.Parse answers. -/
import Derived.Test.YtmmhcpfniipgeaaDoorDWorth
namespace Go.Proofs.YtmmhcpfniipgeaaDoor
open Go.RowKit
set_option linter.unusedVariables false
set_option linter.unusedSimpArgs false
theorem byteAt_bd (s : ByteArray) (i : Nat) : 0 ≤ byteAt s i ∧ byteAt s i ≤ 255 := by
  by_cases h : i < s.size
  · exact byteAt_bytes s i h
  · unfold byteAt; rw [dif_neg h]; omega
@[go_sem high] theorem byteAt_rule (s : ByteArray) (i : Nat) (h : i < s.size) : ((s[i]'h).toNat : Int) = byteAt s i := byteAt_lt s i h
def okAt (s : ByteArray) (i : Nat) : Bool := dgt (byteAt s (2 * i)) && dgt (byteAt s (2 * i + 1))
def okD (s : ByteArray) : Bool := s.size == 64 && (List.range 32).all (okAt s)
theorem okD_iff (s : ByteArray) : okD s = true ↔ s.size = 64 ∧ ∀ i, i < 32 → okAt s i = true := by simp [okD]
def keyF (s : ByteArray) : Nat → Int := fun i => 16 * wth (byteAt s (2 * i)) + wth (byteAt s (2 * i + 1))
def keyD (s : ByteArray) : Nat → Int := if okD s = true then keyF s else nought
theorem ok_size {s : ByteArray} (h : ¬ s.size = 64) : okD s = false := Bool.eq_false_iff.2 fun h' => h ((okD_iff s).1 h').1
theorem ok_not {s : ByteArray} (i : Nat) (hi : i < 32) (h : okAt s i = false) : okD s = false := Bool.eq_false_iff.2 fun h' => by rw [((okD_iff s).1 h').2 i hi] at h; cases h
theorem key_not {s : ByteArray} (h : okD s = false) : keyD s = nought := by unfold keyD; rw [h]; rfl
theorem key_yes {s : ByteArray} (h : okD s = true) : keyD s = keyF s := by unfold keyD; rw [h]; rfl
def Dgs (s : ByteArray) (k : Nat) : Prop := ∀ i, i < k → okAt s i = true
theorem dgs_zero (s : ByteArray) : Dgs s 0 := fun i hi => absurd hi (Nat.not_lt_zero i)
theorem dgs_succ {s : ByteArray} {k : Nat} (h : Dgs s k) (e1 : dgt (byteAt s (2 * k)) = true) (e2 : dgt (byteAt s (2 * k + 1)) = true) : Dgs s (k + 1) := fun i hi => by
  rcases (by omega : i < k ∨ i = k) with h' | rfl
  · exact h i h'
  · unfold okAt; rw [e1, e2]; rfl
theorem ok_all {s : ByteArray} (hs : s.size = 64) (h : Dgs s 32) : okD s = true := (okD_iff s).2 ⟨hs, h⟩
theorem okAt_l {s : ByteArray} {k : Nat} (h : dgt (byteAt s (2 * k)) = false) : okAt s k = false := by unfold okAt; rw [h]; rfl
theorem okAt_r {s : ByteArray} {k : Nat} (h : dgt (byteAt s (2 * k + 1)) = false) : okAt s k = false := by unfold okAt; rw [h, Bool.and_false]
theorem keyF_at (s : ByteArray) (k : Nat) : keyF s k = 16 * wth (byteAt s (2 * k)) + wth (byteAt s (2 * k + 1)) := rfl
theorem wth_bd (c : Int) : 0 ≤ wth c ∧ wth c < 16 := by
  unfold wth
  (repeat' split) <;> omega
theorem join16 : ∀ h l : Fin 16, bits .or .u8 ((h.val : Int) * 16 % 256) (l.val : Int) = 16 * h.val + l.val := by decide +kernel
theorem join_dig (h l : Int) (h0 : 0 ≤ h ∧ h < 16) (l0 : 0 ≤ l ∧ l < 16) : bits .or .u8 (h * 16 % 256) l = 16 * h + l := by
  have := join16 ⟨h.toNat, by omega⟩ ⟨l.toNat, by omega⟩
  simpa [Int.toNat_of_nonneg h0.1, Int.toNat_of_nonneg l0.1] using this
theorem ret_row_tmp {P : Program} {fn : Func} {R : Ending → World → Prop} {a : Act} {w : World} {p u : Tmp} {ty : TypeId} (h : fn.results = #[.cell p ty, .tmp u]) (g : Nat) (t : TypeId) (cs : Array Value) (fr : Nat × Nat) (d : TypeDesc) (v : Value)
    (hp : a.tmps.getD p undef = .pointer (some ⟨g, 0, none⟩)) (hv : a.tmps.getD u undef = v) (hg : objAt w g = some (.cells cs t fr))
    (hu : P.underlying ty = some d) (hd : (match d with | .struct _ | .array _ _ => true | _ => false) = true) (hi : (P.info? ty).map (·.size) = some cs.size)
    (hD : a.defers = []) (hR : R (.returned (.tuple #[.agg cs, v])) w) : bodyPost P fn R .ret a w := by
  refine bodyPost_ret_by ?_ hD hR
  unfold objAt at hg
  rw [results_cell_tmp h, hp, hv]
  simp [asAddr, run_loadVar_row w g t ty cs fr d hg hu hd hi]
attribute [local irreducible] byteAt wth dgt okAt okD keyF keyD
structure PInv (s : ByteArray) (w : World) (k : Nat) (wr : World) : Prop where
  d : Dgs s k
  g : Below w.heap.size w wr
  fr : objAt wr w.heap.size = some (.cells (ints .u8 32 nought) 23)
  fk : objAt wr (w.heap.size + 1) = some (.cells (ints .u8 32 (part' (keyF s) k)) 23)
set_option maxHeartbeats 300000 in
theorem parse_any (s : ByteArray) (w : World) :
    Calls Tryd.prog 5 #[.string s] w fun e w' => e = .returned (.tuple #[.agg (ints .u8 32 (keyD s)), .bool (okD s)]) ∧ Below w.heap.size w w' := by
  have hG := Grew.refl w
  by_cases hs : s.size = 64
  · have Hs : Hid (s.size = 64) := hs
    have hz : ((s.size : Int) != 64) = false := by simp; omega
    have hz2 : ((s.size : Int) = 64) := by omega
    clear hs
    go_enter Tryd.func5, Tryd.ntmps5
    go_wp2
    go_loopw [14] (fun i wr => ∃ k : Nat, k ≤ 32 ∧ i = .int .i64 k ∧ PInv s w k wr) (fun i _ => 32 - (intOf i).toNat)
    case atStart => exact ⟨0, by omega, rfl, ⟨dgs_zero s, by (repeat (first | assumption | exact Grew.refl _ | refine Grew.more ?_ _ | refine Grew.alloc ?_ _ | refine Grew.drewN ?_ _ | refine Grew.setRow ?_ _ _ (by omega) | refine Grew.setRow ?_ _ _ (by simp; omega) | refine Grew.setRow ?_ _ _ (by simp))), by (repeat (first | assumption | exact objAt_alloc_at _ _ _ rfl | (refine objAt_alloc_at _ _ _ ?_; (simp; done)) | refine keep_alloc _ ?_ | refine keep_drewN _ ?_ | refine keep_more _ ?_ | exact keep_row _ (by assumption) | refine keep_setRow _ _ ?_ (by first | omega | (simp; omega) | simp))), by rw [part_zero]; (repeat (first | assumption | exact objAt_alloc_at _ _ _ rfl | (refine objAt_alloc_at _ _ _ ?_; (simp; done)) | refine keep_alloc _ ?_ | refine keep_drewN _ ?_ | refine keep_more _ ?_ | exact keep_row _ (by assumption) | refine keep_setRow _ _ ?_ (by first | omega | (simp; omega) | simp)))⟩⟩
    case round =>
      clear hG
      obtain ⟨k, hk, rfl, D, hG, fr, fk⟩ := hrel
      have lfr := lt_of_objAt fr
      have lfk := lt_of_objAt fk
      by_cases hlt : k < 32
      · have n1 : (2 * (k : Int)).toNat = 2 * k := by omega
        have n2 : (2 * (k : Int) + 1).toNat = 2 * k + 1 := by omega
        have n3 : 2 * (k : Int) < s.size := by omega
        have n4 : 2 * (k : Int) + 1 < s.size := by omega
        obtain ⟨p0, p1⟩ := byteAt_bd s (2 * k)
        obtain ⟨q0, q1⟩ := byteAt_bd s (2 * k + 1)
        go_wp2_with fail
        (refine (worth_any _ _ p0 p1).mono ?_; rintro e w1 ⟨rfl, hb⟩; replace fr : objAt w1 (w.heap.size) = some (.cells (ints .u8 32 nought) 23) := keep_below hb (by (repeat (first | assumption | exact objAt_alloc_at _ _ _ rfl | (refine objAt_alloc_at _ _ _ ?_; (simp; done)) | refine keep_alloc _ ?_ | refine keep_drewN _ ?_ | refine keep_more _ ?_ | exact keep_row _ (by assumption) | refine keep_setRow _ _ ?_ (by first | omega | (simp; omega) | simp)))); have lfr := lt_of_objAt fr; replace fk : objAt w1 (w.heap.size + 1) = some (.cells (ints .u8 32 (part' (keyF s) k)) 23) := keep_below hb (by (repeat (first | assumption | exact objAt_alloc_at _ _ _ rfl | (refine objAt_alloc_at _ _ _ ?_; (simp; done)) | refine keep_alloc _ ?_ | refine keep_drewN _ ?_ | refine keep_more _ ?_ | exact keep_row _ (by assumption) | refine keep_setRow _ _ ?_ (by first | omega | (simp; omega) | simp)))); have lfk := lt_of_objAt fk; replace hG : Below w.heap.size w w1 := Grew.trans (by (repeat (first | assumption | exact Grew.refl _ | refine Grew.more ?_ _ | refine Grew.alloc ?_ _ | refine Grew.drewN ?_ _ | refine Grew.setRow ?_ _ _ (by omega) | refine Grew.setRow ?_ _ _ (by simp; omega) | refine Grew.setRow ?_ _ _ (by simp)))) hb; clear hb)
        go_wp2_with fail
        (refine (worth_any _ _ q0 q1).mono ?_; rintro e w2 ⟨rfl, hb⟩; replace fr : objAt w2 (w.heap.size) = some (.cells (ints .u8 32 nought) 23) := keep_below hb (by (repeat (first | assumption | exact objAt_alloc_at _ _ _ rfl | (refine objAt_alloc_at _ _ _ ?_; (simp; done)) | refine keep_alloc _ ?_ | refine keep_drewN _ ?_ | refine keep_more _ ?_ | exact keep_row _ (by assumption) | refine keep_setRow _ _ ?_ (by first | omega | (simp; omega) | simp)))); have lfr := lt_of_objAt fr; replace fk : objAt w2 (w.heap.size + 1) = some (.cells (ints .u8 32 (part' (keyF s) k)) 23) := keep_below hb (by (repeat (first | assumption | exact objAt_alloc_at _ _ _ rfl | (refine objAt_alloc_at _ _ _ ?_; (simp; done)) | refine keep_alloc _ ?_ | refine keep_drewN _ ?_ | refine keep_more _ ?_ | exact keep_row _ (by assumption) | refine keep_setRow _ _ ?_ (by first | omega | (simp; omega) | simp)))); have lfk := lt_of_objAt fk; replace hG : Below w.heap.size w w2 := Grew.trans (by (repeat (first | assumption | exact Grew.refl _ | refine Grew.more ?_ _ | refine Grew.alloc ?_ _ | refine Grew.drewN ?_ _ | refine Grew.setRow ?_ _ _ (by omega) | refine Grew.setRow ?_ _ _ (by simp; omega) | refine Grew.setRow ?_ _ _ (by simp)))) hb; clear hb)
        by_cases e1 : dgt (byteAt s (2 * k)) = true
        · by_cases e2 : dgt (byteAt s (2 * k + 1)) = true
          · go_wp2
            go_roundw
            case rel => exact ⟨k + 1, by omega, by go_num, ⟨dgs_succ D e1 e2, by (repeat (first | assumption | exact Grew.refl _ | refine Grew.more ?_ _ | refine Grew.alloc ?_ _ | refine Grew.drewN ?_ _ | refine Grew.setRow ?_ _ _ (by omega) | refine Grew.setRow ?_ _ _ (by simp; omega) | refine Grew.setRow ?_ _ _ (by simp))), by (repeat (first | assumption | exact objAt_alloc_at _ _ _ rfl | (refine objAt_alloc_at _ _ _ ?_; (simp; done)) | refine keep_alloc _ ?_ | refine keep_drewN _ ?_ | refine keep_more _ ?_ | exact keep_row _ (by assumption) | refine keep_setRow _ _ ?_ (by first | omega | (simp; omega) | simp))), by rw [← part_succ, keyF_at, ← join_dig _ _ (wth_bd _) (wth_bd _)]; (repeat (first | assumption | exact objAt_alloc_at _ _ _ rfl | (refine objAt_alloc_at _ _ _ ?_; (simp; done)) | refine keep_alloc _ ?_ | refine keep_drewN _ ?_ | refine keep_more _ ?_ | exact keep_row _ (by assumption) | refine keep_setRow _ _ ?_ (by first | omega | (simp; omega) | simp)))⟩⟩
            case measure => simp [intOf]; omega
          · have f2 : dgt (byteAt s (2 * k + 1)) = false := by simpa using e2
            go_wp2
            rw [ok_not k hlt (okAt_r f2), key_not (ok_not k hlt (okAt_r f2))]
            refine ret_row_tmp rfl w.heap.size 23 _ (0, 0) _ _ rfl rfl (by (repeat (first | assumption | exact objAt_alloc_at _ _ _ rfl | (refine objAt_alloc_at _ _ _ ?_; (simp; done)) | refine keep_alloc _ ?_ | refine keep_drewN _ ?_ | refine keep_more _ ?_ | exact keep_row _ (by assumption) | refine keep_setRow _ _ ?_ (by first | omega | (simp; omega) | simp)))) Tryd.underlying23 rfl (by rw [ints_size]; kernel_rfl) rfl ⟨rfl, ?_⟩
            (repeat (first | assumption | exact Grew.refl _ | refine Grew.more ?_ _ | refine Grew.alloc ?_ _ | refine Grew.drewN ?_ _ | refine Grew.setRow ?_ _ _ (by omega) | refine Grew.setRow ?_ _ _ (by simp; omega) | refine Grew.setRow ?_ _ _ (by simp)))
        · have f1 : dgt (byteAt s (2 * k)) = false := by simpa using e1
          go_wp2
          rw [ok_not k hlt (okAt_l f1), key_not (ok_not k hlt (okAt_l f1))]
          refine ret_row_tmp rfl w.heap.size 23 _ (0, 0) _ _ rfl rfl (by (repeat (first | assumption | exact objAt_alloc_at _ _ _ rfl | (refine objAt_alloc_at _ _ _ ?_; (simp; done)) | refine keep_alloc _ ?_ | refine keep_drewN _ ?_ | refine keep_more _ ?_ | exact keep_row _ (by assumption) | refine keep_setRow _ _ ?_ (by first | omega | (simp; omega) | simp)))) Tryd.underlying23 rfl (by rw [ints_size]; kernel_rfl) rfl ⟨rfl, ?_⟩
          (repeat (first | assumption | exact Grew.refl _ | refine Grew.more ?_ _ | refine Grew.alloc ?_ _ | refine Grew.drewN ?_ _ | refine Grew.setRow ?_ _ _ (by omega) | refine Grew.setRow ?_ _ _ (by simp; omega) | refine Grew.setRow ?_ _ _ (by simp)))
      · obtain rfl : k = 32 := by omega
        have hok := ok_all Hs.out D
        go_wp2
        rw [hok, key_yes hok]
        rw [ints_part]
        refine ret_row_tmp rfl _ 23 _ (0, 0) _ _ rfl rfl (by (repeat (first | assumption | exact objAt_alloc_at _ _ _ rfl | (refine objAt_alloc_at _ _ _ ?_; (simp; done)) | refine keep_alloc _ ?_ | refine keep_drewN _ ?_ | refine keep_more _ ?_ | exact keep_row _ (by assumption) | refine keep_setRow _ _ ?_ (by first | omega | (simp; omega) | simp)))) Tryd.underlying23 rfl (by rw [ints_size]; kernel_rfl) rfl ⟨rfl, ?_⟩
        (repeat (first | assumption | exact Grew.refl _ | refine Grew.more ?_ _ | refine Grew.alloc ?_ _ | refine Grew.drewN ?_ _ | refine Grew.setRow ?_ _ _ (by omega) | refine Grew.setRow ?_ _ _ (by simp; omega) | refine Grew.setRow ?_ _ _ (by simp)))
  · have hz : ((s.size : Int) != 64) = true := by simp; omega
    go_enter Tryd.func5, Tryd.ntmps5
    go_wp2
    rw [ok_size hs, key_not (ok_size hs)]
    refine ret_row_tmp rfl _ 23 _ (0, 0) _ _ rfl rfl (by (repeat (first | assumption | exact objAt_alloc_at _ _ _ rfl | (refine objAt_alloc_at _ _ _ ?_; (simp; done)) | refine keep_alloc _ ?_ | refine keep_drewN _ ?_ | refine keep_more _ ?_ | exact keep_row _ (by assumption) | refine keep_setRow _ _ ?_ (by first | omega | (simp; omega) | simp)))) Tryd.underlying23 rfl (by rw [ints_size]; kernel_rfl) rfl ⟨rfl, ?_⟩
    (repeat (first | assumption | exact Grew.refl _ | refine Grew.more ?_ _ | refine Grew.alloc ?_ _ | refine Grew.drewN ?_ _ | refine Grew.setRow ?_ _ _ (by omega) | refine Grew.setRow ?_ _ _ (by simp; omega) | refine Grew.setRow ?_ _ _ (by simp)))
end Go.Proofs.YtmmhcpfniipgeaaDoor
