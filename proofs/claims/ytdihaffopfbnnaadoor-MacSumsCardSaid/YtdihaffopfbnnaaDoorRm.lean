/- The reference of layer 8. -/
import Derived.Test.YtdihaffopfbnnaaDoorRs
import Derived.Test.YtdihaffopfbnnaaDoorMb
namespace Go.Proofs.YtdihaffopfbnnaaDoor
open Go.RowKit
set_option linter.unusedVariables false
set_option linter.unusedSimpArgs false

attribute [local irreducible] strOf shaF zerosB padB fullB hashT
theorem conv_own {base n : Nat} {v : Value} {G : Nat → Int} {t : TypeId} {w : World} (h : w.ownsRow base t 1 v n (rowL .u8 G n)) : (convert 43 9 v).run Tryd.prog w = .ok (.string (strOf n G)) w := by
  rcases h.2 with ⟨rfl, rfl⟩ | ⟨g, cap, cur, rfl, hb, hg, hnc, hcm, hcs, htake⟩
  · rw [run_convert_bytes_nil w 43 5 Tryd.underlying43 Tryd.underlying5 0 0 _ Tryd.underlying9]
    unfold strOf
    rfl
  · rw [run_convert_bytes_string w _ _ _ _ n cap Tryd.underlying43 Tryd.underlying5 Tryd.underlying9]
    unfold strOf
    refine run_bytesToString w _ n cap ((List.range n).map G) ?_
    have h2 := run_loadCells_list (P := Tryd.prog) w ⟨g, 0, none⟩ (((List.range n).map G).map (Value.int .u8)) (fun j u hu => by
      have hadd : (⟨g, 0, none⟩ : Addr).add j = ⟨g, j, none⟩ := by unfold Addr.add; split <;> simp_all
      rw [hadd, cell_of_row w g j _ _ _ hg]
      have hj : j < n := by
        rcases Nat.lt_or_ge j n with h | h
        · exact h
        · rw [List.getElem?_eq_none (by simpa using h)] at hu; cases hu
      have h1 := rowL_get .u8 G n j hj
      rw [← htake, List.getElem?_take, if_pos (by omega)] at h1
      rw [List.map_map, List.getElem?_map, List.getElem?_range hj] at hu
      rw [← hu]
      simpa using h1)
    simpa using h2
theorem zeros_succ (k : Nat) : zerosB k ++ ⟨#[0]⟩ = zerosB (k + 1) := by
  have h : (zerosB k ++ ⟨#[0]⟩ : ByteArray).data.toList = (zerosB (k + 1)).data.toList := by
    rw [ByteArray.data_append, Array.toList_append, zeros_list, zeros_list, List.replicate_succ']
  cases h1 : (zerosB k ++ ⟨#[0]⟩ : ByteArray)
  cases h2 : zerosB (k + 1)
  rw [h1, h2] at h
  simp only [ByteArray.mk.injEq]
  exact Array.toList_inj.1 h
theorem fill_succ (K : ByteArray) (k : Nat) : K ++ zerosB k ++ ⟨#[0]⟩ = K ++ zerosB (k + 1) := by rw [ByteArray.append_assoc, zeros_succ]
theorem zeros_none (K : ByteArray) : K ++ zerosB 0 = K := by
  have : zerosB 0 = ByteArray.empty := by unfold zerosB; rfl
  rw [this, ByteArray.append_empty]
theorem index_text (s : ByteArray) (k : Nat) (w : World) (h : k < s.size) : (Instr.index 9 (.string s) (.int .i64 k)).run Tryd.prog w = .ok (.int .u8 (byteAt s k)) w := by
  rw [← byteAt_lt s k h]
  have h0 : (0 : Int) ≤ (k : Int) := by omega
  have h1 : (k : Int) < (s.size : Int) := by omega
  simp [go_sem, h0, h1, h]
@[go_sem high] theorem slice_row32 (w : World) (g : Nat) : (Instr.sliceAt 23 (.pointer (some ⟨g, 0, none⟩)) none none none).run Tryd.prog w = .ok (.slice (some ⟨g, 0, none⟩) 32 32) w := by kernel_rfl
set_option maxRecDepth 100000 in
set_option maxHeartbeats 1000000 in
theorem text_any (k : Nat → Int) (w : World) :
    Calls Tryd.prog 39 #[.agg (ints .u8 32 k)] w fun e w' => e = .returned (.string (strOf 32 k)) ∧ Below w.heap.size w w' := by
  have hG := Grew.refl w
  have fk : True := trivial
  go_enter Tryd.func39, Tryd.ntmps39
  go_wp2_with fail
  replace fk : objAt (w.alloc (.cells (ints .u8 32 (k)) 23)) (w.heap.size) = some (.cells (ints .u8 32 (k)) 23) := by (repeat (first | assumption | exact objAt_alloc_at _ _ _ rfl | (refine objAt_alloc_at _ _ _ ?_; (simp; done)) | refine keep_alloc _ ?_ | refine keep_drewN _ ?_ | refine keep_more _ ?_ | exact keep_row _ (by assumption) | apply keep_row | refine keep_setRow _ _ ?_ (by first | omega | (simp; omega) | simp)))
  replace hG : Below w.heap.size w (w.alloc (.cells (ints .u8 32 (k)) 23)) := by (repeat (first | assumption | exact Grew.refl _ | refine Grew.more ?_ _ | refine Grew.alloc ?_ _ | refine Grew.drewN ?_ _ | refine Grew.setRow ?_ _ _ (by omega) | refine Grew.setRow ?_ _ _ (by simp; omega) | refine Grew.setRow ?_ _ _ (by simp)))
  generalize w.alloc (.cells (ints .u8 32 (k)) 23) = w1 at *
  have lfk := lt_of_objAt fk
  have hc := run_str (P := Tryd.prog) (src := 43) (dst := 9) Tryd.underlying43 Tryd.underlying5 Tryd.underlying9 w.heap.size 32 32 32 k w1 fk (by omega)
  go_wp2_with fail
  rw [hc]
  go_wp2
  go_ret
  exact ⟨rfl, by (repeat (first | assumption | exact Grew.refl _ | refine Grew.more ?_ _ | refine Grew.alloc ?_ _ | refine Grew.drewN ?_ _ | refine Grew.setRow ?_ _ _ (by omega) | refine Grew.setRow ?_ _ _ (by simp; omega) | refine Grew.setRow ?_ _ _ (by simp)))⟩
set_option maxRecDepth 100000 in
set_option maxHeartbeats 4000000 in
theorem rwith_any (s : ByteArray) (c : Int) (w : World) (h0 : 0 ≤ c) (h1 : c < 256) (hs : s.size ≤ 1000000000) :
    Calls Tryd.prog 38 #[.string s, .int .u8 c] w fun e w' => e = .returned (.string (eachB s c)) ∧ Below w.heap.size w w' := by
  have hF : Hid (∀ i, bits .xor .u8 (byteAt s i) c = eachF s c i) := fun i => by unfold eachF; rfl
  have hE : Hid (strOf s.size (eachF s c) = eachB s c) := by show _ = _; unfold eachB; rfl
  generalize eachF s c = E at *
  generalize eachB s c = R at *
  go_enter Tryd.func38, Tryd.ntmps38
  go_wp2_with fail
  go_loopw [5, 6] (fun v i wr => ∃ (k : Nat) (v0 : Value), v0 = v ∧ k ≤ s.size ∧ i = .int .i64 k ∧ Below w.heap.size w wr ∧ Hid (wr.ownsRow w.heap.size 5 1 v0 k (rowL .u8 E k))) (fun _ i _ => s.size - (intOf i).toNat)
  case atStart => exact ⟨0, _, rfl, by omega, rfl, Grew.refl _, World.ownsRow_nil _ _ _ _⟩
  case round =>
    obtain ⟨k, v0, rfl, hk, rfl, hG, OWN⟩ := hrel
    by_cases hlt : k < s.size
    · have e := hF.out k
      have hb := byteAt_bd s k
      have hix := fun w => index_text s k w hlt
      obtain ⟨g3, c3, w3, hr3, own3, hG3, _, _⟩ := append_byte w (wr.alloc (.cells #[.int .u8 (E k)] 5)) w.heap.size v0 k E wr.heap.size 5 43 (0, 0) (OWN.out.alloc _) (by omega) (objAt_alloc_at _ _ _ rfl) (Grew.alloc hG _) (Nat.le_refl _) (by have := (Grew.alloc hG (.cells #[.int .u8 (E k)] 5)).size; omega)
      have OWN3 : Hid (w3.ownsRow w.heap.size 5 1 (.slice (some ⟨g3, 0, none⟩) (k + 1) c3) (k + 1) (rowL .u8 E (k + 1))) := own3
      clear own3
      go_wp2
      go_roundw
      case rel => exact ⟨k + 1, _, rfl, by omega, by go_num, hG3, OWN3⟩
      case measure => simp [intOf]; omega
    · obtain rfl : k = s.size := by omega
      clear hlt
      have hc := conv_own OWN.out
      rw [hE.out] at hc
      go_wp2
      go_ret
      exact ⟨rfl, hG⟩
set_option maxRecDepth 100000 in
set_option maxHeartbeats 4000000 in
theorem rblock_any (key : ByteArray) (w : World) (hk : key.size ≤ 1000000000) :
    Calls Tryd.prog 22 #[.string key] w fun e w' => e = .returned (.string (blockB key)) ∧ Below w.heap.size w w' := by
  have H := blockB_eq key
  have hKb : Hid (shortB key ++ zerosB (64 - (shortB key).size) = blockB key) := H.out.symm
  have hK64 : (shortB key).size ≤ 64 := short_le key
  have hKz : Hid (shortB key ++ zerosB 0 = shortB key) := zeros_none _
  clear H
  generalize blockB key = R at *
  by_cases hl : 64 < key.size
  · have e : shortB key = strOf 32 (shaF key) := by unfold shortB; rw [if_pos hl]
    have h1 := fun w => refsum_any key w hk
    have h2 := fun w => text_any (shaF key) w
    rw [← e] at h2
    clear e
    generalize shortB key = K at *
    generalize shaF key = F at *
    have hG := Grew.refl w
    go_enter Tryd.func22, Tryd.ntmps22
    go_wp2_with fail
    (refine (h1 _).mono ?_; rintro e w1 ⟨rfl, hb⟩; replace hG : Below w.heap.size w w1 := Grew.trans (by (repeat (first | assumption | exact Grew.refl _ | refine Grew.more ?_ _ | refine Grew.alloc ?_ _ | refine Grew.drewN ?_ _ | refine Grew.setRow ?_ _ _ (by omega) | refine Grew.setRow ?_ _ _ (by simp; omega) | refine Grew.setRow ?_ _ _ (by simp)))) hb; clear hb)
    go_wp2_with fail
    (refine (h2 _).mono ?_; rintro e w2 ⟨rfl, hb⟩; replace hG : Below w.heap.size w w2 := Grew.trans (by (repeat (first | assumption | exact Grew.refl _ | refine Grew.more ?_ _ | refine Grew.alloc ?_ _ | refine Grew.drewN ?_ _ | refine Grew.setRow ?_ _ _ (by omega) | refine Grew.setRow ?_ _ _ (by simp; omega) | refine Grew.setRow ?_ _ _ (by simp)))) hb; clear hb)
    clear h1 h2
    go_wp2_with fail
    go_loopw [0] (fun v wr => ∃ k : Nat, K.size + k ≤ 64 ∧ v = .string (K ++ zerosB k) ∧ Below w.heap.size w wr) (fun v _ => match v with | .string s => 64 - s.size | _ => 0)
    case atStart => exact ⟨0, by omega, by rw [hKz.out], by (repeat (first | assumption | exact Grew.refl _ | refine Grew.more ?_ _ | refine Grew.alloc ?_ _ | refine Grew.drewN ?_ _ | refine Grew.setRow ?_ _ _ (by omega) | refine Grew.setRow ?_ _ _ (by simp; omega) | refine Grew.setRow ?_ _ _ (by simp)))⟩
    case round =>
      clear hG
      obtain ⟨k, hk2, rfl, hG⟩ := hrel
      have hsz : (K ++ zerosB k).size = K.size + k := by rw [ByteArray.size_append, zerosB_size]
      have hft : FitsS (K ++ zerosB k) ⟨#[0]⟩ := by show _ + 1 ≤ _; omega
      have hnx : Hid (K ++ zerosB k ++ ⟨#[0]⟩ = K ++ zerosB (k + 1)) := fill_succ K k
      have hsn : Hid ((K ++ zerosB (k + 1)).size = K.size + (k + 1)) := by show _ = _; rw [ByteArray.size_append, zerosB_size]
      obtain ⟨T2, hT2⟩ : ∃ T2, Hid (K ++ zerosB (k + 1) = T2) := ⟨_, rfl⟩
      rw [hT2.out] at hnx hsn
      by_cases hlt : K.size + k < 64
      · generalize hT1 : K ++ zerosB k = T1 at *
        have hl1 : (K.size : Int) + (k : Int) < 64 := by omega
        go_wp2
        rw [hnx.out]
        go_roundw
        case rel => exact ⟨k + 1, by omega, by rw [← hT2.out], hG⟩
        case measure =>
          have := hsn.out
          simp
          omega
      · have e : K.size + k = 64 := by omega
        have hB : Hid (K ++ zerosB k = R) := by
          show _ = _
          rw [← hKb.out]
          congr 2
          omega
        generalize K ++ zerosB k = T1 at *
        have hl1 : ¬ ((K.size : Int) + (k : Int) < 64) := by omega
        go_wp2
        go_ret
        have hB9 := hB.out
        subst hB9
        exact ⟨rfl, hG⟩
  · have e : shortB key = key := by unfold shortB; rw [if_neg hl]
    rw [e] at hKb hK64 hKz
    have hl2 : ¬ ((64 : Int) < key.size) := by omega
    obtain ⟨K, hKe⟩ : ∃ K, Hid (key = K) := ⟨_, rfl⟩
    rw [hKe.out] at hKb hK64 hKz
    have hG := Grew.refl w
    go_enter Tryd.func22, Tryd.ntmps22
    go_wp2_with fail
    go_loopw [0] (fun v wr => ∃ k : Nat, K.size + k ≤ 64 ∧ v = .string (K ++ zerosB k) ∧ Below w.heap.size w wr) (fun v _ => match v with | .string s => 64 - s.size | _ => 0)
    case atStart => exact ⟨0, by omega, by rw [hKz.out, ← hKe.out], by (repeat (first | assumption | exact Grew.refl _ | refine Grew.more ?_ _ | refine Grew.alloc ?_ _ | refine Grew.drewN ?_ _ | refine Grew.setRow ?_ _ _ (by omega) | refine Grew.setRow ?_ _ _ (by simp; omega) | refine Grew.setRow ?_ _ _ (by simp)))⟩
    case round =>
      clear hG
      obtain ⟨k, hk2, rfl, hG⟩ := hrel
      have hsz : (K ++ zerosB k).size = K.size + k := by rw [ByteArray.size_append, zerosB_size]
      have hft : FitsS (K ++ zerosB k) ⟨#[0]⟩ := by show _ + 1 ≤ _; omega
      have hnx : Hid (K ++ zerosB k ++ ⟨#[0]⟩ = K ++ zerosB (k + 1)) := fill_succ K k
      have hsn : Hid ((K ++ zerosB (k + 1)).size = K.size + (k + 1)) := by show _ = _; rw [ByteArray.size_append, zerosB_size]
      obtain ⟨T2, hT2⟩ : ∃ T2, Hid (K ++ zerosB (k + 1) = T2) := ⟨_, rfl⟩
      rw [hT2.out] at hnx hsn
      by_cases hlt : K.size + k < 64
      · generalize hT1 : K ++ zerosB k = T1 at *
        have hl1 : (K.size : Int) + (k : Int) < 64 := by omega
        go_wp2
        rw [hnx.out]
        go_roundw
        case rel => exact ⟨k + 1, by omega, by rw [← hT2.out], hG⟩
        case measure =>
          have := hsn.out
          simp
          omega
      · have e : K.size + k = 64 := by omega
        have hB : Hid (K ++ zerosB k = R) := by
          show _ = _
          rw [← hKb.out]
          congr 2
          omega
        generalize K ++ zerosB k = T1 at *
        have hl1 : ¬ ((K.size : Int) + (k : Int) < 64) := by omega
        go_wp2
        go_ret
        have hB9 := hB.out
        subst hB9
        exact ⟨rfl, hG⟩
set_option maxRecDepth 100000 in
set_option maxHeartbeats 4000000 in
theorem refmac_walk (key s B B1 B2 T1 : ByteArray) (F1 M : Nat → Int) (w : World) (cb : ∀ W : World, Calls Tryd.prog 22 #[.string key] W fun e w' => e = .returned (.string B) ∧ Below W.heap.size W w') (c2 : ∀ W : World, Calls Tryd.prog 38 #[.string B, .int .u8 92] W fun e w' => e = .returned (.string B2) ∧ Below W.heap.size W w') (c1 : ∀ W : World, Calls Tryd.prog 38 #[.string B, .int .u8 54] W fun e w' => e = .returned (.string B1) ∧ Below W.heap.size W w') (hf1 : FitsS B1 s) (h1 : ∀ W : World, Calls Tryd.prog 11 #[.string (B1 ++ s)] W fun e w' => e = .returned (.agg (ints .u8 32 F1)) ∧ Below W.heap.size W w') (t1 : ∀ W : World, Calls Tryd.prog 39 #[.agg (ints .u8 32 F1)] W fun e w' => e = .returned (.string T1) ∧ Below W.heap.size W w') (hf2 : FitsS B2 T1) (h2 : ∀ W : World, Calls Tryd.prog 11 #[.string (B2 ++ T1)] W fun e w' => e = .returned (.agg (ints .u8 32 M)) ∧ Below W.heap.size W w') :
    Calls Tryd.prog 19 #[.string key, .string s] w fun e w' => e = .returned (.agg (ints .u8 32 M)) ∧ Below w.heap.size w w' := by
  have hG := Grew.refl w
  have fr : True := trivial
  go_enter Tryd.func19, Tryd.ntmps19
  go_wp2_with fail
  replace fr : objAt (w.alloc (.cells (ints .u8 32 (nought)) 23)) (w.heap.size) = some (.cells (ints .u8 32 (nought)) 23) := by (repeat (first | assumption | exact objAt_alloc_at _ _ _ rfl | (refine objAt_alloc_at _ _ _ ?_; (simp; done)) | refine keep_alloc _ ?_ | refine keep_drewN _ ?_ | refine keep_more _ ?_ | exact keep_row _ (by assumption) | apply keep_row | refine keep_setRow _ _ ?_ (by first | omega | (simp; omega) | simp)))
  replace hG : Below w.heap.size w (w.alloc (.cells (ints .u8 32 (nought)) 23)) := by (repeat (first | assumption | exact Grew.refl _ | refine Grew.more ?_ _ | refine Grew.alloc ?_ _ | refine Grew.drewN ?_ _ | refine Grew.setRow ?_ _ _ (by omega) | refine Grew.setRow ?_ _ _ (by simp; omega) | refine Grew.setRow ?_ _ _ (by simp)))
  generalize w.alloc (.cells (ints .u8 32 (nought)) 23) = w1 at *
  have lfr := lt_of_objAt fr
  go_wp2_with fail
  (refine (cb _).mono ?_; rintro e w2 ⟨rfl, hb⟩; replace fr : objAt w2 (w.heap.size) = some (.cells (ints .u8 32 (nought)) 23) := keep_below hb (by (repeat (first | assumption | exact objAt_alloc_at _ _ _ rfl | (refine objAt_alloc_at _ _ _ ?_; (simp; done)) | refine keep_alloc _ ?_ | refine keep_drewN _ ?_ | refine keep_more _ ?_ | exact keep_row _ (by assumption) | apply keep_row | refine keep_setRow _ _ ?_ (by first | omega | (simp; omega) | simp)))); have lfr := lt_of_objAt fr; replace hG : Below w.heap.size w w2 := Grew.trans (by (repeat (first | assumption | exact Grew.refl _ | refine Grew.more ?_ _ | refine Grew.alloc ?_ _ | refine Grew.drewN ?_ _ | refine Grew.setRow ?_ _ _ (by omega) | refine Grew.setRow ?_ _ _ (by simp; omega) | refine Grew.setRow ?_ _ _ (by simp)))) hb; clear hb)
  go_wp2_with fail
  (refine (c2 _).mono ?_; rintro e w3 ⟨rfl, hb⟩; replace fr : objAt w3 (w.heap.size) = some (.cells (ints .u8 32 (nought)) 23) := keep_below hb (by (repeat (first | assumption | exact objAt_alloc_at _ _ _ rfl | (refine objAt_alloc_at _ _ _ ?_; (simp; done)) | refine keep_alloc _ ?_ | refine keep_drewN _ ?_ | refine keep_more _ ?_ | exact keep_row _ (by assumption) | apply keep_row | refine keep_setRow _ _ ?_ (by first | omega | (simp; omega) | simp)))); have lfr := lt_of_objAt fr; replace hG : Below w.heap.size w w3 := Grew.trans (by (repeat (first | assumption | exact Grew.refl _ | refine Grew.more ?_ _ | refine Grew.alloc ?_ _ | refine Grew.drewN ?_ _ | refine Grew.setRow ?_ _ _ (by omega) | refine Grew.setRow ?_ _ _ (by simp; omega) | refine Grew.setRow ?_ _ _ (by simp)))) hb; clear hb)
  go_wp2_with fail
  (refine (c1 _).mono ?_; rintro e w4 ⟨rfl, hb⟩; replace fr : objAt w4 (w.heap.size) = some (.cells (ints .u8 32 (nought)) 23) := keep_below hb (by (repeat (first | assumption | exact objAt_alloc_at _ _ _ rfl | (refine objAt_alloc_at _ _ _ ?_; (simp; done)) | refine keep_alloc _ ?_ | refine keep_drewN _ ?_ | refine keep_more _ ?_ | exact keep_row _ (by assumption) | apply keep_row | refine keep_setRow _ _ ?_ (by first | omega | (simp; omega) | simp)))); have lfr := lt_of_objAt fr; replace hG : Below w.heap.size w w4 := Grew.trans (by (repeat (first | assumption | exact Grew.refl _ | refine Grew.more ?_ _ | refine Grew.alloc ?_ _ | refine Grew.drewN ?_ _ | refine Grew.setRow ?_ _ _ (by omega) | refine Grew.setRow ?_ _ _ (by simp; omega) | refine Grew.setRow ?_ _ _ (by simp)))) hb; clear hb)
  go_wp2_with fail
  (refine (h1 _).mono ?_; rintro e w5 ⟨rfl, hb⟩; replace fr : objAt w5 (w.heap.size) = some (.cells (ints .u8 32 (nought)) 23) := keep_below hb (by (repeat (first | assumption | exact objAt_alloc_at _ _ _ rfl | (refine objAt_alloc_at _ _ _ ?_; (simp; done)) | refine keep_alloc _ ?_ | refine keep_drewN _ ?_ | refine keep_more _ ?_ | exact keep_row _ (by assumption) | apply keep_row | refine keep_setRow _ _ ?_ (by first | omega | (simp; omega) | simp)))); have lfr := lt_of_objAt fr; replace hG : Below w.heap.size w w5 := Grew.trans (by (repeat (first | assumption | exact Grew.refl _ | refine Grew.more ?_ _ | refine Grew.alloc ?_ _ | refine Grew.drewN ?_ _ | refine Grew.setRow ?_ _ _ (by omega) | refine Grew.setRow ?_ _ _ (by simp; omega) | refine Grew.setRow ?_ _ _ (by simp)))) hb; clear hb)
  go_wp2_with fail
  (refine (t1 _).mono ?_; rintro e w6 ⟨rfl, hb⟩; replace fr : objAt w6 (w.heap.size) = some (.cells (ints .u8 32 (nought)) 23) := keep_below hb (by (repeat (first | assumption | exact objAt_alloc_at _ _ _ rfl | (refine objAt_alloc_at _ _ _ ?_; (simp; done)) | refine keep_alloc _ ?_ | refine keep_drewN _ ?_ | refine keep_more _ ?_ | exact keep_row _ (by assumption) | apply keep_row | refine keep_setRow _ _ ?_ (by first | omega | (simp; omega) | simp)))); have lfr := lt_of_objAt fr; replace hG : Below w.heap.size w w6 := Grew.trans (by (repeat (first | assumption | exact Grew.refl _ | refine Grew.more ?_ _ | refine Grew.alloc ?_ _ | refine Grew.drewN ?_ _ | refine Grew.setRow ?_ _ _ (by omega) | refine Grew.setRow ?_ _ _ (by simp; omega) | refine Grew.setRow ?_ _ _ (by simp)))) hb; clear hb)
  go_wp2_with fail
  (refine (h2 _).mono ?_; rintro e w7 ⟨rfl, hb⟩; replace fr : objAt w7 (w.heap.size) = some (.cells (ints .u8 32 (nought)) 23) := keep_below hb (by (repeat (first | assumption | exact objAt_alloc_at _ _ _ rfl | (refine objAt_alloc_at _ _ _ ?_; (simp; done)) | refine keep_alloc _ ?_ | refine keep_drewN _ ?_ | refine keep_more _ ?_ | exact keep_row _ (by assumption) | apply keep_row | refine keep_setRow _ _ ?_ (by first | omega | (simp; omega) | simp)))); have lfr := lt_of_objAt fr; replace hG : Below w.heap.size w w7 := Grew.trans (by (repeat (first | assumption | exact Grew.refl _ | refine Grew.more ?_ _ | refine Grew.alloc ?_ _ | refine Grew.drewN ?_ _ | refine Grew.setRow ?_ _ _ (by omega) | refine Grew.setRow ?_ _ _ (by simp; omega) | refine Grew.setRow ?_ _ _ (by simp)))) hb; clear hb)
  go_wp2
  refine ret_row rfl _ 23 _ (0, 0) _ rfl (keep_row _ fr) Tryd.underlying23 rfl (by rw [ints_size]; kernel_rfl) rfl ⟨rfl, by (repeat (first | assumption | exact Grew.refl _ | refine Grew.more ?_ _ | refine Grew.alloc ?_ _ | refine Grew.drewN ?_ _ | refine Grew.setRow ?_ _ _ (by omega) | refine Grew.setRow ?_ _ _ (by simp; omega) | refine Grew.setRow ?_ _ _ (by simp)))⟩
theorem refmac_any (key s : ByteArray) (w : World) (hk : key.size ≤ 100000000) (hs : s.size ≤ 100000000) :
    Calls Tryd.prog 19 #[.string key, .string s] w fun e w' => e = .returned (.agg (ints .u8 32 (macF key s))) ∧ Below w.heap.size w w' := by
  have H := macF_eq key s
  have hb64 := blockB_size key
  have he1 : (eachB (blockB key) 54).size = 64 := by rw [eachB_size, hb64]
  have he2 : (eachB (blockB key) 92).size = 64 := by rw [eachB_size, hb64]
  rw [H.out]
  exact refmac_walk key s _ _ _ _ _ _ w (fun W => rblock_any key W (by omega)) (fun W => rwith_any (blockB key) 92 W (by decide) (by decide) (by omega)) (fun W => rwith_any (blockB key) 54 W (by decide) (by decide) (by omega))
    (by show _ + _ ≤ _; omega) (fun W => refsum_any _ W (by rw [ByteArray.size_append]; omega)) (fun W => text_any _ W) (by show _ + _ ≤ _; rw [strOf_size]; omega) (fun W => refsum_any _ W (by rw [ByteArray.size_append, strOf_size]; omega))
end Go.Proofs.YtdihaffopfbnnaaDoor
