/- The reference of layer 7: the sum of a text. -/
import Derived.Test.YtdihaffopfbnnaaDoorBk
import Derived.Test.YtdihaffopfbnnaaDoorPd
namespace Go.Proofs.YtdihaffopfbnnaaDoor
open Go.RowKit
set_option linter.unusedVariables false
set_option linter.unusedSimpArgs false

attribute [local irreducible] strOf shaF zerosB padB fullB hashT
theorem bytes_of_own {w : World} {base g n c : Nat} {G : Nat → Int} {t : TypeId} (h : w.ownsRow base t 1 (.slice (some ⟨g, 0, none⟩) n c) n (rowL .u8 G n)) : BytesAt w g 0 n G ∧ n ≤ c := by
  rcases h.2 with ⟨h0, _⟩ | ⟨g', cap, cur, h0, hb, hg, hnc, hcm, hcs, htake⟩
  · cases h0
  · cases h0
    have hlt : g < w.heap.size := lt_of_objAt (show objAt w g = _ from hg)
    refine ⟨⟨hlt, fun i hi => ?_⟩, hnc⟩
    rw [show objAt w g = some (.cells cur t (0, 0)) from hg, cellOf_cells, Nat.zero_add]
    have h1 := rowL_get .u8 G n i hi
    rw [← htake, List.getElem?_take, if_pos (by omega)] at h1
    simpa using h1
theorem BytesAt.part {w : World} {g n : Nat} {G : Nat → Int} (h : BytesAt w g 0 n G) (o m : Nat) (hm : o + m ≤ n) : BytesAt w g o m (fun i => G (o + i)) :=
  ⟨h.1, fun i hi => by have := h.2 (o + i) (by omega); rwa [Nat.zero_add] at this⟩
def WordsSame (f g : Nat → Int) : Prop := ∀ i, i < 8 → f i = g i
theorem WordsAt.same {w : World} {g o : Nat} {G G' : Nat → Int} (h : WordsAt w g o 8 G) (e : WordsSame G' G) : WordsAt w g o 8 G' := ⟨h.1, fun i hi => by rw [e i hi]; exact h.2 i hi⟩
theorem sq_cells : (#[.int .u32 1779033703, .int .u32 3144134277, .int .u32 1013904242, .int .u32 2773480762, .int .u32 1359893119, .int .u32 2600822924, .int .u32 528734635, .int .u32 1541459225] : Array Value) = ints .u32 8 sqF := by kernel_rfl
set_option maxRecDepth 100000 in
set_option maxHeartbeats 8000000 in
theorem refsum_any (s : ByteArray) (w : World) (hs : s.size ≤ 1000000000) :
    Calls Tryd.prog 11 #[.string s] w fun e w' => e = .returned (.agg (ints .u8 32 (shaF s))) ∧ Below w.heap.size w w' := by
  have hfs := full_size s
  obtain ⟨m, hm⟩ : ∃ m, (fullB s).size = 64 * m := ⟨(fullB s).size / 64, by omega⟩
  have hdiv : (fullB s).size / 64 = m := by omega
  have hm1 : 0 < m := by omega
  have hm2 : m ≤ 20000000 := by omega
  have hF : Hid (∀ i, absH (AA (byteAt (fullB s)) m) (i / 4) / 2 ^ (24 - i % 4 * 8) % 256 = shaF s i) := fun i => by rw [← hdiv]; unfold shaF; rfl
  have hp := fun W : World => padded_any s W hs
  have hGb : Hid (∀ i, 0 ≤ byteAt (fullB s) i ∧ byteAt (fullB s) i ≤ 255) := fun i => byteAt_bd _ i
  rw [hm] at hp
  clear hfs hdiv
  generalize shaF s = F at *
  generalize byteAt (fullB s) = G at *
  clear hm
  have A0 : Hid (WordsSame (absH (AA G 0)) sqF) := fun i _ => by
    have := sq_w32 i
    unfold W32 at this
    show (sqF i + nought i) % 4294967296 = sqF i
    unfold nought
    omega
  have AS : Hid (∀ j, absH (AA G (j + 1)) = cmp (absH (AA G j)) (fun i => G (64 * j + i))) := fun j => absH_thr _ _
  have AW : Hid (∀ j, Words 8 (absH (AA G j))) := fun j => absH_words _
  obtain ⟨A, hA⟩ : ∃ A : Nat → Nat → Int, A = fun j => absH (AA G j) := ⟨_, rfl⟩
  have eA : ∀ j, absH (AA G j) = A j := fun j => by rw [hA]
  simp only [eA] at A0 AS AW hF
  clear hA eA
  have hG := Grew.refl w
  go_enter Tryd.func11, Tryd.ntmps11
  go_wp2_with fail
  have e8 := sq_cells
  refine (hp _).mono ?_
  rintro e w2 ⟨gp, cap, rfl, hb2, own2⟩
  have fr : objAt w2 w.heap.size = some (.cells (ints .u8 32 (nought)) 23) := keep_below hb2 (by (repeat (first | assumption | exact objAt_alloc_at _ _ _ rfl | (refine objAt_alloc_at _ _ _ ?_; (simp; done)) | refine keep_alloc _ ?_ | refine keep_drewN _ ?_ | refine keep_more _ ?_ | exact keep_row _ (by assumption) | apply keep_row | refine keep_setRow _ _ ?_ (by first | omega | (simp; omega) | simp))))
  have hG2 : Below w.heap.size w w2 := Grew.trans (by (repeat (first | assumption | exact Grew.refl _ | refine Grew.more ?_ _ | refine Grew.alloc ?_ _ | refine Grew.drewN ?_ _ | refine Grew.setRow ?_ _ _ (by omega) | refine Grew.setRow ?_ _ _ (by simp; omega) | refine Grew.setRow ?_ _ _ (by simp)))) hb2
  have fw : objAt w2 (w.heap.size + 1) = some (.cells (ints .u32 8 sqF) 28) := keep_below hb2 (by rw [← sq_cells]; (repeat (first | assumption | exact objAt_alloc_at _ _ _ rfl | (refine objAt_alloc_at _ _ _ ?_; (simp; done)) | refine keep_alloc _ ?_ | refine keep_drewN _ ?_ | refine keep_more _ ?_ | exact keep_row _ (by assumption) | apply keep_row | refine keep_setRow _ _ ?_ (by first | omega | (simp; omega) | simp))))
  have lr := lt_of_objAt fr
  have lw := lt_of_objAt fw
  have hW2 : Hid (WordsAt w2 (w.heap.size + 1) 0 8 (A 0)) := (words_ints fw).same A0.out
  obtain ⟨hP2, hcap⟩ := bytes_of_own own2
  have hPP : Hid (BytesAt w2 gp 0 (64 * m) G) := hP2
  clear own2 hP2 hb2 hp fw e8
  go_wp2_with fail
  go_loopw [3, 5] (fun v i wr => ∃ j g c : Nat, j ≤ m ∧ i = .int .i64 ((64 * j : Nat) : Int) ∧ v = .slice (some ⟨g, 0, none⟩) 8 c ∧ Below w2.heap.size w2 wr ∧ Hid (WordsAt wr g 0 8 (A j))) (fun _ i _ => 64 * m - (intOf i).toNat)
  case atStart => exact ⟨0, _, 8, by omega, rfl, rfl, Grew.refl _, hW2⟩
  case round =>
    clear hW2 lw
    obtain ⟨j, g, c, hj, rfl, rfl, hL, WV⟩ := hrel
    by_cases hlt : j < m
    · have hbB := (hPP.out.later hL).part (64 * j) 64 (by omega)
      have hc := fun cb w' (h1 : WordsAt w' g 0 8 (A j)) h2 => refblock_any (A j) (fun i => G (64 * j + i)) g c gp (64 * j) cb w' (fun i _ => hGb.out _) (AW.out j) h1 h2
      rw [← AS.out j] at hc
      have n0 : (64 * (j : Int)).toNat = 64 * j := by omega
      have n1 : (64 * (j : Int) + 64).toNat = 64 * j + 64 := by omega
      have i0 : (0 : Int) ≤ 64 * (j : Int) := by omega
      have i1 : 64 * (j : Int) < 64 * (m : Int) := by omega
      have i2 : 64 * (j : Int) + 64 ≤ (cap : Int) := by omega
      have i3 : 64 * (j : Int) ≤ 64 * (j : Int) + 64 := by omega
      have n2 : 64 * j + 64 - 64 * j = 64 := by omega
      go_wp2_with fail
      refine (hc _ _ WV.out hbB).mono ?_
      rintro e w3 ⟨g3, c3, rfl, hW3, hb3⟩
      go_wp2
      go_roundw
      case rel => exact ⟨j + 1, g3, c3, by omega, by go_num, rfl, Grew.trans hL hb3, hW3⟩
      case measure => simp [intOf]; omega
    · obtain rfl : j = m := by omega
      have i1 : ¬ (64 * (j : Int) < 64 * (j : Int)) := by omega
      clear hlt hj hPP AS A0
      have hWs := AW.out j
      have hFF : Hid (∀ i, A j (i / 4) / 2 ^ (24 - i % 4 * 8) % 256 = F i) := hF
      clear hF AW
      have fr3 : objAt wr w.heap.size = some (.cells (ints .u8 32 (nought)) 23) := keep_below hL fr
      have hG3 : Below w.heap.size w wr := Grew.trans hG2 hL
      clear fr lr hL hG2 hG
      generalize A j = S at *
      obtain ⟨w5, rfl⟩ : ∃ w5, w5 = wr := ⟨_, rfl⟩
      have lr := lt_of_objAt fr3
      go_wp2_with fail
      go_loopw [7] (fun i wr => ∃ k : Nat, k ≤ 32 ∧ i = .int .i64 k ∧ Below w5.heap.size w5 wr ∧ objAt wr w5.heap.size = some (.cells (ints .u8 32 (part' F k)) 23)) (fun i _ => 32 - (intOf i).toNat)
      case atStart => exact ⟨0, by omega, rfl, Grew.alloc (Grew.refl _) _, by rw [part_zero]; (repeat (first | assumption | exact objAt_alloc_at _ _ _ rfl | (refine objAt_alloc_at _ _ _ ?_; (simp; done)) | refine keep_alloc _ ?_ | refine keep_drewN _ ?_ | refine keep_more _ ?_ | exact keep_row _ (by assumption) | apply keep_row | refine keep_setRow _ _ ?_ (by first | omega | (simp; omega) | simp)))⟩
      case round =>
        obtain ⟨k, hk, rfl, hM, fk⟩ := hrel
        have lfk := lt_of_objAt fk
        by_cases hlt : k < 32
        · have SS : Hid (upd (part' F k) k (F k) = part' F (k + 1)) := part_succ F k
          have hv := hFF.out k
          obtain ⟨q, hq⟩ : ∃ q, k / 4 = q := ⟨_, rfl⟩
          obtain ⟨r, hr⟩ : ∃ r, k % 4 = r := ⟨_, rfl⟩
          have hq8 : q < 8 := by omega
          have hr4 : r < 4 := by omega
          have hqi : (k : Int) / 4 = (q : Int) := by omega
          have hri : (k : Int) % 4 = (r : Int) := by omega
          rw [hq, hr] at hv
          have ba := hWs q hq8
          have hWV := WV.out.later hM
          have lv := hWV.1
          have cv := hWV.at0 q hq8
          have hn : (24 - 8 * (r : Int)).toNat = 24 - r * 8 := by omega
          have hmv := fun w => move_any (S q) (24 - 8 * (r : Int)) w ba (by omega) (by omega)
          rw [hn] at hmv
          have bm : W32 (S q / 2 ^ (24 - r * 8)) := w32_div ba _ (Int.pow_pos (by decide))
          have hlk : k < 32 := hlt
          generalize S q / 2 ^ (24 - r * 8) = Z at *
          have HV : Hid (Z % 256 = F k) := hv
          generalize F k = V at *
          unfold W32 at bm ba
          have iq1 : (q : Int) < 8 := by omega
          clear hv hq hr hWV
          go_wp2_with fail
          refine (hmv _).mono ?_
          rintro e w6 ⟨rfl, hb6⟩
          have fk6 : objAt w6 w5.heap.size = some (.cells (ints .u8 32 (part' F k)) 23) := keep_below hb6 fk
          have hM6 := Grew.trans hM hb6
          clear fk hb6 hM cv lv hmv
          go_wp2
          rw [HV.out, SS.out]
          go_roundw
          case rel => exact ⟨k + 1, by omega, by go_num, by (repeat (first | assumption | exact Grew.refl _ | refine Grew.more ?_ _ | refine Grew.alloc ?_ _ | refine Grew.drewN ?_ _ | refine Grew.setRow ?_ _ _ (by omega) | refine Grew.setRow ?_ _ _ (by simp; omega) | refine Grew.setRow ?_ _ _ (by simp))), by (repeat (first | assumption | exact objAt_alloc_at _ _ _ rfl | (refine objAt_alloc_at _ _ _ ?_; (simp; done)) | refine keep_alloc _ ?_ | refine keep_drewN _ ?_ | refine keep_more _ ?_ | exact keep_row _ (by assumption) | apply keep_row | refine keep_setRow _ _ ?_ (by first | omega | (simp; omega) | simp)))⟩
          case measure => simp [intOf]; omega
        · obtain rfl : k = 32 := by omega
          clear hlt hk
          rw [ints_part] at fk
          have fr6 : objAt wr w.heap.size = some (.cells (ints .u8 32 (nought)) 23) := keep_below hM fr3
          have hG6 := Grew.trans hG3 hM
          go_wp2
          refine ret_row rfl _ 23 _ (0, 0) _ rfl (keep_row _ fr6) Tryd.underlying23 rfl (by rw [ints_size]; kernel_rfl) rfl ⟨rfl, by (repeat (first | assumption | exact Grew.refl _ | refine Grew.more ?_ _ | refine Grew.alloc ?_ _ | refine Grew.drewN ?_ _ | refine Grew.setRow ?_ _ _ (by omega) | refine Grew.setRow ?_ _ _ (by simp; omega) | refine Grew.setRow ?_ _ _ (by simp)))⟩
end Go.Proofs.YtdihaffopfbnnaaDoor
