/- B9: B9 -/
import Derived.Test.YtomoccbljclhlaaDoorL9
import Derived.Test.YtomoccbljclhlaaDoorSx
namespace Go.Proofs.YtomoccbljclhlaaDoor
open Go.RowKit
set_option linter.unusedVariables false
set_option linter.unusedSimpArgs false
attribute [local irreducible] strOf shaF zerosB padB fullB hashT
attribute [local irreducible] macF
set_option maxRecDepth 100000 in
set_option maxHeartbeats 4000000 in
theorem blocks9_walk (info K S : ByteArray) (tb : Nat → ByteArray) (MM : Nat → Nat → Int) (k : Nat → Int) (N m1 : Nat) (w : World) (hT : Tabs w) (hi1 : info.size ≤ 300) (hN : N ≤ 255) (hm1 : (N : Int) % 12 + 1 = (m1 : Int)) (hm2 : m1 ≤ 12) (hK : strOf 32 k = K) (hS : S.size = 32 * m1) (ht0 : Hid (tb 0 = ByteArray.empty)) (htm : Hid (∀ m, strOf 32 (MM m) = tb (m + 1))) (hex : Hid (∀ m, m < m1 → S.extract (32 * m) (32 * m + 32) = tb (m + 1)))
    (cE : ∀ W : World, Tabs W → Calls Tryd.prog 7 #[.agg (ints .u8 32 k), .string info, .int .i64 (32 * (m1 : Int))] W fun e w' => e = .returned (.tuple #[.string S, .bool true]) ∧ Below W.heap.size W w')
    (cM : ∀ (m g : Nat) (W : World), m < m1 → StrsAt W (some ⟨g, 0, none⟩) 3 (threeS (tb m) info (byteB (m + 1))) → Tabs W → Calls Tryd.prog 15 #[.string K, .slice (some ⟨g, 0, none⟩) 3 3] W fun e w' => e = .returned (.agg (ints .u8 32 (MM m))) ∧ Below W.heap.size W w')
    (aw : ∀ W : World, Tabs W → Calls Tryd.prog 6 #[] W fun e w' => e = .returned (.bool true) ∧ Below W.heap.size W w') :
    Calls Tryd.prog 5 #[.agg (ints .u8 32 k), .string info, .int .u8 (N : Int)] w fun e w' => e = .returned (.bool true) ∧ Below w.heap.size w w' := by
  have hTT : Hid (Tabs w) := hT
  clear hT
  have hKK : Hid (strOf 32 k = K) := hK
  clear hK
  have hSS : (S.size : Int) = 32 * (m1 : Int) := by omega
  have hG := Grew.refl w
  have fk : True := trivial
  go_enter Tryd.func5, Tryd.ntmps5
  go_wp2_with fail
  replace fk : objAt (w.alloc (.cells (ints .u8 32 (k)) 23)) (w.heap.size) = some (.cells (ints .u8 32 (k)) 23) := by (repeat (first | assumption | exact objAt_alloc_at _ _ _ rfl | (refine objAt_alloc_at _ _ _ ?_; (simp; done)) | refine keep_alloc _ ?_ | refine keep_drewN _ ?_ | refine keep_more _ ?_ | exact keep_row _ (by assumption) | apply keep_row | refine keep_setRow _ _ ?_ (by first | omega | (simp; omega) | simp)))
  replace hG : Below w.heap.size w (w.alloc (.cells (ints .u8 32 (k)) 23)) := by (repeat (first | assumption | exact Grew.refl _ | refine Grew.more ?_ _ | refine Grew.alloc ?_ _ | refine Grew.drewN ?_ _ | refine Grew.setRow ?_ _ _ (by omega) | refine Grew.setRow ?_ _ _ (by simp; omega) | refine Grew.setRow ?_ _ _ (by simp)))
  generalize w.alloc (.cells (ints .u8 32 (k)) 23) = w1 at *
  have lfk := lt_of_objAt fk
  go_wp2_with fail
  (refine (aw _ (hTT.out.later hG)).mono ?_; rintro e w2 ⟨rfl, hb⟩; replace fk : objAt w2 (w.heap.size) = some (.cells (ints .u8 32 (k)) 23) := keep_below hb (by (repeat (first | assumption | exact objAt_alloc_at _ _ _ rfl | (refine objAt_alloc_at _ _ _ ?_; (simp; done)) | refine keep_alloc _ ?_ | refine keep_drewN _ ?_ | refine keep_more _ ?_ | exact keep_row _ (by assumption) | apply keep_row | refine keep_setRow _ _ ?_ (by first | omega | (simp; omega) | simp)))); have lfk := lt_of_objAt fk; replace hG : Below w.heap.size w w2 := Grew.trans (by (repeat (first | assumption | exact Grew.refl _ | refine Grew.more ?_ _ | refine Grew.alloc ?_ _ | refine Grew.drewN ?_ _ | refine Grew.setRow ?_ _ _ (by omega) | refine Grew.setRow ?_ _ _ (by simp; omega) | refine Grew.setRow ?_ _ _ (by simp)))) hb; clear hb)
  go_wp2_with fail
  (refine (cE _ (hTT.out.later hG)).mono ?_; rintro e w3 ⟨rfl, hb⟩; replace fk : objAt w3 (w.heap.size) = some (.cells (ints .u8 32 (k)) 23) := keep_below hb (by (repeat (first | assumption | exact objAt_alloc_at _ _ _ rfl | (refine objAt_alloc_at _ _ _ ?_; (simp; done)) | refine keep_alloc _ ?_ | refine keep_drewN _ ?_ | refine keep_more _ ?_ | exact keep_row _ (by assumption) | apply keep_row | refine keep_setRow _ _ ?_ (by first | omega | (simp; omega) | simp)))); have lfk := lt_of_objAt fk; replace hG : Below w.heap.size w w3 := Grew.trans (by (repeat (first | assumption | exact Grew.refl _ | refine Grew.more ?_ _ | refine Grew.alloc ?_ _ | refine Grew.drewN ?_ _ | refine Grew.setRow ?_ _ _ (by omega) | refine Grew.setRow ?_ _ _ (by simp; omega) | refine Grew.setRow ?_ _ _ (by simp)))) hb; clear hb)
  clear cE aw
  go_wp2_with fail
  go_loopw [10, 11, 12, 31] (fun l _ _ j wr => ∃ m : Nat, m ≤ m1 ∧ j = .int .i64 m ∧ l = .string (tb m) ∧ Below w.heap.size w wr ∧ objAt wr w.heap.size = some (.cells (ints .u8 32 (k)) 23)) (fun _ _ _ j _ => m1 - (intOf j).toNat)
  case atStart => exact ⟨0, by omega, rfl, by rw [ht0.out]; rfl, hG, fk⟩
  case round =>
    clear fk hG lfk
    obtain ⟨m, hm, rfl, rfl, hG, fk⟩ := hrel
    have lfk := lt_of_objAt fk
    by_cases hlt : m < m1
    · have cM2 := fun g W => cM m g W hlt
      have hck := fun q : More => run_str (P := Tryd.prog) (src := 35) (dst := 9) Tryd.underlying35 Tryd.underlying5 Tryd.underlying9 w.heap.size 32 32 32 k (more wr q) (keep_more q fk) (by omega)
      rw [hKK.out] at hck
      have e1 := htm.out m
      have e2 := hex.out m hlt
      obtain ⟨T2, hT2⟩ : ∃ T2, Hid (tb (m + 1) = T2) := ⟨_, rfl⟩
      rw [hT2.out] at e1 e2
      generalize MM m = M at *
      generalize tb m = T1 at *
      have hm12 : m < 12 := by omega
      have lo0 : (0 : Int) ≤ 32 * (m : Int) := by omega
      have lo1 : 32 * (m : Int) ≤ 32 * (m : Int) + 32 := by omega
      have lo2 : 32 * (m : Int) + 32 ≤ 32 * (m1 : Int) := by omega
      have n1 : (32 * (m : Int)).toNat = 32 * m := by omega
      have n2 : (32 * (m : Int) + 32).toNat = 32 * m + 32 := by omega
      have hE1 : Hid (strOf 32 M = T2) := e1
      have hE2 : Hid (S.extract (32 * m) (32 * m + 32) = T2) := e2
      clear cM e1 e2 htm hex
      go_wp2_with fail
      (refine wp_rel (by kernel_rfl) (by kernel_rfl) ?_; (repeat (first | refine exv_skip rfl ?_ | (refine exv_call rfl ?_; apply Exists.intro))); refine exv_nil ?_; intro γ hinj hbase; (repeat (first | (refine rel_quiet rfl ?_; ((first | go_big_quiet_skip | (go_big_quiet_want; go_big_quiet_op; go_big_quiet_on)); refine wpQuiet_nil ?_)) | (first | (refine rel_skip_some rfl (fun _ => rfl) ?_; ((first | go_big_quiet_skip | (go_big_quiet_want; go_big_quiet_op; go_big_quiet_on)); refine wpQuiet_nil ?_)) | refine rel_skip_none rfl (fun _ => rfl) ?_) | ((try simp only [Nat.zero_add, Nat.reduceAdd]); apply rel_box alloc_cls; (focus rfl); (focus (first | exact cells_agg _ | exact cells_int _ _ | exact cells_bool _ | rfl)); (focus ((repeat (refine fits_cons ⟨by (first | exact stab_full _ _ _ | exact stab_hdr _ _ _ | exact stab_hdr_at _ _ _ _ | exact stab_full_at _ _ _ _ (hinj _ _ (by decide))), by (first | exact stab_full _ _ _ | exact stab_hdr _ _ _ | exact stab_hdr_at _ _ _ _ | exact stab_full_at _ _ _ _ (hinj _ _ (by decide)))⟩ ?_)); exact fits_nil (by (first | exact stab_full _ _ _ | exact stab_hdr _ _ _ | exact stab_hdr_at _ _ _ _ | exact stab_full_at _ _ _ _ (hinj _ _ (by decide)))))); ((first | go_big_quiet_skip | (go_big_quiet_want; go_big_quiet_op; go_big_quiet_on)); refine wpQuiet_nil ?_)) | ((try simp only [Nat.zero_add, Nat.reduceAdd]); apply rel_alloc _ _ alloc_cls; (focus rfl); (focus (intro W; (first | exact zero_key _ | exact zero_elem _ | exact zero_num _ | exact zero_pair _ | exact zero_rnode _))); (focus (first | exact cells_ints _ _ _ | exact cells_two _ _ | rfl)); (focus ((repeat (refine fits_cons ⟨by (first | exact stab_full _ _ _ | exact stab_hdr _ _ _ | exact stab_hdr_at _ _ _ _ | exact stab_full_at _ _ _ _ (hinj _ _ (by decide))), by (first | exact stab_full _ _ _ | exact stab_hdr _ _ _ | exact stab_hdr_at _ _ _ _ | exact stab_full_at _ _ _ _ (hinj _ _ (by decide)))⟩ ?_)); exact fits_nil (by (first | exact stab_full _ _ _ | exact stab_hdr _ _ _ | exact stab_hdr_at _ _ _ _ | exact stab_full_at _ _ _ _ (hinj _ _ (by decide)))))); ((first | go_big_quiet_skip | (go_big_quiet_want; go_big_quiet_op; go_big_quiet_on)); refine wpQuiet_nil ?_)) | ((try simp only [Nat.zero_add, Nat.reduceAdd]); apply rel_slice alloc_cls; (focus rfl); (focus (intro W; simp only [List.map_toArray, List.map_cons, List.map_nil]; first | (with_reducible exact build1b _ W) | (with_reducible exact build3s _ _ _ W) | exact build1b _ W | exact build3s _ _ _ W)); (focus ((repeat (refine fits_cons ⟨by (first | exact stab_full _ _ _ | exact stab_hdr _ _ _ | exact stab_hdr_at _ _ _ _ | exact stab_full_at _ _ _ _ (hinj _ _ (by decide))), by (first | exact stab_full _ _ _ | exact stab_hdr _ _ _ | exact stab_hdr_at _ _ _ _ | exact stab_full_at _ _ _ _ (hinj _ _ (by decide)))⟩ ?_)); exact fits_nil (by (first | exact stab_full _ _ _ | exact stab_hdr _ _ _ | exact stab_hdr_at _ _ _ _ | exact stab_full_at _ _ _ _ (hinj _ _ (by decide)))))); ((first | go_big_quiet_skip | (go_big_quiet_want; go_big_quiet_op; go_big_quiet_on)); refine wpQuiet_nil ?_)) | ((try simp only [Nat.zero_add, Nat.reduceAdd]); apply rel_store (setRow_cls (hbase _)); (focus rfl); (focus rfl); (focus rfl); (focus (first | exact cells_agg _ | exact cells_int _ _ | exact cells_bool _ | rfl)); rotate_left 3; (focus (first | exact List.mem_cons_self .. | exact List.mem_cons_of_mem _ (List.mem_cons_self ..) | exact List.mem_cons_of_mem _ (List.mem_cons_of_mem _ (List.mem_cons_self ..)) | exact List.mem_cons_of_mem _ (List.mem_cons_of_mem _ (List.mem_cons_of_mem _ (List.mem_cons_self ..))) | exact List.mem_cons_of_mem _ (List.mem_cons_of_mem _ (List.mem_cons_of_mem _ (List.mem_cons_of_mem _ (List.mem_cons_self ..)))))); rotate_right 3; (focus kernel_rfl); (focus (first | exact ints_size _ _ _ | rfl)); (focus (first | exact ints_ones _ _ _ | exact ones_two _ _ _ _ | kernel_rfl)); (focus (decide +kernel)); (focus ((repeat (refine fits_cons ⟨by (first | exact stab_full _ _ _ | exact stab_hdr _ _ _ | exact stab_hdr_at _ _ _ _ | exact stab_full_at _ _ _ _ (hinj _ _ (by decide))), by (first | exact stab_full _ _ _ | exact stab_hdr _ _ _ | exact stab_hdr_at _ _ _ _ | exact stab_full_at _ _ _ _ (hinj _ _ (by decide)))⟩ ?_)); exact fits_nil (by (first | exact stab_full _ _ _ | exact stab_hdr _ _ _ | exact stab_hdr_at _ _ _ _ | exact stab_full_at _ _ _ _ (hinj _ _ (by decide))))))) | (apply rel_fact; (focus rfl); (focus rfl); (focus rfl); (focus (intro W hC hF; (have hGW : Below w.heap.size w W := (by obtain ⟨mm, rfl⟩ := hC; exact Grew.more hG mm); (try (have hcv := fun mm => conv_is (i := m + 1) (known hF (List.mem_cons_self ..) (by decide +kernel)) (by omega) mm)); (try (have hE : StrsAt W (some ⟨γ 9, 0, none⟩) 3 (threeS T1 info (byteB (m + 1))) := strs_three (known hF (List.mem_cons_self ..) (by decide +kernel))))); go_big_quiet_want; go_big_quiet_op; (first | go_big_quiet_on | (apply Exists.intro; refine ⟨fun _ => ?_, ?_⟩; (focus (first | (with_reducible exact Calls.of_more (cM2 _ _ (hE.later (below_more W _)) (hTT.out.later (Grew.trans hGW (below_more W _))))))); go_big_quiet_on)); exact wpQuiet_nil rfl)); (focus (first | exact fun _ => rfl | exact fun h => absurd h (by decide))); ((first | go_big_quiet_skip | (go_big_quiet_want; go_big_quiet_op; go_big_quiet_on)); refine wpQuiet_nil ?_)))))
      (refine rel_nil ?_; rintro _ ⟨mq, rfl⟩ hF; simp only [List.forall_mem_cons] at hF; obtain ⟨f12, -⟩ := hF)
      have f12' : objAt (more wr mq) (γ 11) = some (.cells (ints .u8 32 (M)) 23) := f12
      have n12 : ¬ (γ 11 = w.heap.size) := by have := hbase 11; omega
      replace fk : objAt (more wr mq) w.heap.size = some (.cells (ints .u8 32 (k)) 23) := keep_more _ fk
      replace hG : Below w.heap.size w (more wr mq) := Grew.more hG _
      clear hinj hbase hck f12 lfk
      generalize γ 11 = g12 at *
      generalize γ 9 = g9 at *
      generalize γ 7 = g7 at *
      generalize more wr mq = w9 at *
      have lfk := lt_of_objAt fk
      have hc := run_str (P := Tryd.prog) (src := 35) (dst := 9) Tryd.underlying35 Tryd.underlying5 Tryd.underlying9 g12 32 32 32 M w9 f12' (by omega)
      rw [hE1.out] at hc
      have hx := hE2.out
      go_wp2_with fail
      (try rw [hc])
      go_wp2
      go_roundw
      case rel => exact ⟨m + 1, by omega, by go_num, by rw [hT2.out], by (repeat (first | assumption | exact Grew.refl _ | refine Grew.more ?_ _ | refine Grew.alloc ?_ _ | refine Grew.drewN ?_ _ | refine Grew.setRow ?_ _ _ (by omega) | refine Grew.setRow ?_ _ _ (by simp; omega) | refine Grew.setRow ?_ _ _ (by simp))), by (repeat (first | assumption | exact objAt_alloc_at _ _ _ rfl | (refine objAt_alloc_at _ _ _ ?_; (simp; done)) | refine keep_alloc _ ?_ | refine keep_drewN _ ?_ | refine keep_more _ ?_ | exact keep_row _ (by assumption) | apply keep_row | refine keep_setRow _ _ ?_ (by first | omega | (simp; omega) | simp)))⟩
      case measure => simp [intOf]; omega
    · obtain rfl : m = m1 := by omega
      clear hlt
      go_wp2
      go_ret
      exact ⟨rfl, by (repeat (first | assumption | exact Grew.refl _ | refine Grew.more ?_ _ | refine Grew.alloc ?_ _ | refine Grew.drewN ?_ _ | refine Grew.setRow ?_ _ _ (by omega) | refine Grew.setRow ?_ _ _ (by simp; omega) | refine Grew.setRow ?_ _ _ (by simp)))⟩
set_option maxRecDepth 100000 in
set_option maxHeartbeats 4000000 in
theorem blocks9_any (hE : ExpandC) (k : Nat → Int) (info : ByteArray) (n : Int) (w : World) (hk : Bytes 32 k) (h1 : info.size ≤ 9223372036854775807) (hn0 : 0 ≤ n) (hn1 : n ≤ 255) (hT : Tabs w) :
    Calls Tryd.prog 5 #[.agg (ints .u8 32 k), .string info, .int .u8 n] w fun e w' => e = .returned (.bool true) ∧ Below w.heap.size w w' := by
  have hTT : Hid (Tabs w) := hT
  have aw := fun (W : World) (h : Tabs W) => awake9_any hE W h
  obtain ⟨N, rfl⟩ := Int.eq_ofNat_of_zero_le hn0
  by_cases hi1 : info.size ≤ 300
  case neg =>
    have hi2 : 300 < info.size := by omega
    have hG := Grew.refl w
    have fk : True := trivial
    go_enter Tryd.func5, Tryd.ntmps5
    go_wp2_with fail
    replace fk : objAt (w.alloc (.cells (ints .u8 32 (k)) 23)) (w.heap.size) = some (.cells (ints .u8 32 (k)) 23) := by (repeat (first | assumption | exact objAt_alloc_at _ _ _ rfl | (refine objAt_alloc_at _ _ _ ?_; (simp; done)) | refine keep_alloc _ ?_ | refine keep_drewN _ ?_ | refine keep_more _ ?_ | exact keep_row _ (by assumption) | apply keep_row | refine keep_setRow _ _ ?_ (by first | omega | (simp; omega) | simp)))
    replace hG : Below w.heap.size w (w.alloc (.cells (ints .u8 32 (k)) 23)) := by (repeat (first | assumption | exact Grew.refl _ | refine Grew.more ?_ _ | refine Grew.alloc ?_ _ | refine Grew.drewN ?_ _ | refine Grew.setRow ?_ _ _ (by omega) | refine Grew.setRow ?_ _ _ (by simp; omega) | refine Grew.setRow ?_ _ _ (by simp)))
    generalize w.alloc (.cells (ints .u8 32 (k)) 23) = w1 at *
    have lfk := lt_of_objAt fk
    go_wp2_with fail
    (refine (aw _ (hTT.out.later hG)).mono ?_; rintro e w2 ⟨rfl, hb⟩; replace fk : objAt w2 (w.heap.size) = some (.cells (ints .u8 32 (k)) 23) := keep_below hb (by (repeat (first | assumption | exact objAt_alloc_at _ _ _ rfl | (refine objAt_alloc_at _ _ _ ?_; (simp; done)) | refine keep_alloc _ ?_ | refine keep_drewN _ ?_ | refine keep_more _ ?_ | exact keep_row _ (by assumption) | apply keep_row | refine keep_setRow _ _ ?_ (by first | omega | (simp; omega) | simp)))); have lfk := lt_of_objAt fk; replace hG : Below w.heap.size w w2 := Grew.trans (by (repeat (first | assumption | exact Grew.refl _ | refine Grew.more ?_ _ | refine Grew.alloc ?_ _ | refine Grew.drewN ?_ _ | refine Grew.setRow ?_ _ _ (by omega) | refine Grew.setRow ?_ _ _ (by simp; omega) | refine Grew.setRow ?_ _ _ (by simp)))) hb; clear hb)
    go_wp2
    go_ret
    exact ⟨rfl, by (repeat (first | assumption | exact Grew.refl _ | refine Grew.more ?_ _ | refine Grew.alloc ?_ _ | refine Grew.drewN ?_ _ | refine Grew.setRow ?_ _ _ (by omega) | refine Grew.setRow ?_ _ _ (by simp; omega) | refine Grew.setRow ?_ _ _ (by simp)))⟩
  have hN : (((32 * (N % 12 + 1) : Nat)) : Int) = 32 * ((N % 12 + 1 : Nat) : Int) := by omega
  refine blocks9_walk info (strOf 32 k) (strOf (32 * (N % 12 + 1)) (strmF (strOf 32 k) info)) (tB (strOf 32 k) info) (fun m => macF (strOf 32 k) (tB (strOf 32 k) info m ++ info ++ byteB (m + 1))) k N (N % 12 + 1) w hT hi1 (by omega) (by omega) (by omega) rfl (strOf_size _ _) rfl (fun m => rfl)
    (fun m hm => strm_block _ _ _ m (by omega)) (fun W hT => ?_) (fun m g W hm hS hT => mac_three _ _ _ _ g W (by rw [strOf_size]; omega) (by have := tB_le (strOf 32 k) info m; rw [byteB_size]; omega) hS hT) aw
  have := expand_some hE k info (32 * (N % 12 + 1)) W hk (by omega) (by omega) hT
  rw [hN] at this
  exact this
end Go.Proofs.YtomoccbljclhlaaDoor
