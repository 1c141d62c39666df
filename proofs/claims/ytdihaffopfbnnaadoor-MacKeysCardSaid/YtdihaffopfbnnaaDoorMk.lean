/- MacKeys. -/
import Derived.Test.YtdihaffopfbnnaaDoorMc
namespace Go.Proofs.YtdihaffopfbnnaaDoor
open Go.RowKit
set_option linter.unusedVariables false
set_option linter.unusedSimpArgs false

attribute [local irreducible] strOf shaF zerosB padB fullB hashT
attribute [local irreducible] macF
set_option maxRecDepth 100000 in
set_option maxHeartbeats 4000000 in
theorem keys_any (key s : ByteArray) (n : Int) (w : World) (h0 : 0 ≤ n) (h1 : n ≤ 255) (hk : key.size ≤ 9223372036854775807) (hs : s.size ≤ 9223372036854775807) (hT : Tabs w) :
    Calls Tryd.prog 8 #[.string key, .string s, .int .u8 n] w fun e w' => e = .returned (.bool true) ∧ Below w.heap.size w w' := by
  have hTT : Hid (Tabs w) := hT
  clear hT
  by_cases hk5 : key.size ≤ 500
  case neg =>
    have hG := Grew.refl w
    have hk6 : 500 < key.size := by omega
    go_enter Tryd.func8, Tryd.ntmps8
    go_wp2_with fail
    (refine (awake8_any _ hTT.out).mono ?_; rintro e w1 ⟨rfl, hb⟩; replace hG : Below w.heap.size w w1 := Grew.trans (by (repeat (first | assumption | exact Grew.refl _ | refine Grew.more ?_ _ | refine Grew.alloc ?_ _ | refine Grew.drewN ?_ _ | refine Grew.setRow ?_ _ _ (by omega) | refine Grew.setRow ?_ _ _ (by simp; omega) | refine Grew.setRow ?_ _ _ (by simp)))) hb; clear hb)
    go_wp2
    go_ret
    exact ⟨rfl, by (repeat (first | assumption | exact Grew.refl _ | refine Grew.more ?_ _ | refine Grew.alloc ?_ _ | refine Grew.drewN ?_ _ | refine Grew.setRow ?_ _ _ (by omega) | refine Grew.setRow ?_ _ _ (by simp; omega) | refine Grew.setRow ?_ _ _ (by simp)))⟩
  by_cases hs5 : s.size ≤ 500
  case neg =>
    have hG := Grew.refl w
    have hs6 : 500 < s.size := by omega
    go_enter Tryd.func8, Tryd.ntmps8
    go_wp2_with fail
    (refine (awake8_any _ hTT.out).mono ?_; rintro e w1 ⟨rfl, hb⟩; replace hG : Below w.heap.size w w1 := Grew.trans (by (repeat (first | assumption | exact Grew.refl _ | refine Grew.more ?_ _ | refine Grew.alloc ?_ _ | refine Grew.drewN ?_ _ | refine Grew.setRow ?_ _ _ (by omega) | refine Grew.setRow ?_ _ _ (by simp; omega) | refine Grew.setRow ?_ _ _ (by simp)))) hb; clear hb)
    go_wp2
    go_ret
    exact ⟨rfl, by (repeat (first | assumption | exact Grew.refl _ | refine Grew.more ?_ _ | refine Grew.alloc ?_ _ | refine Grew.drewN ?_ _ | refine Grew.setRow ?_ _ _ (by omega) | refine Grew.setRow ?_ _ _ (by simp; omega) | refine Grew.setRow ?_ _ _ (by simp)))⟩
  have hx : ∀ (k : ByteArray) (g : Nat) (W : World), k.size < 1152921504606846976 → StrsAt W (some ⟨g, 0, none⟩) 1 (oneS s) → Tabs W → Calls Tryd.prog 20 #[.string k, .slice (some ⟨g, 0, none⟩) 1 1] W fun e w' => e = .returned (.agg (ints .u8 32 (macF k s))) ∧ Below W.heap.size W w' := fun k g W hk hS hT => mac_one k s g W hk (by omega) hS hT
  by_cases hl : 64 < key.size
  · have hm : macF key s = macF (strOf 32 (shaF key)) s := macF_block s (blockB_long key hl).symm
    have hy := fun g W => hx (strOf 32 (shaF key)) g W (by rw [strOf_size]; decide)
    have hz := fun g W => hx key g W (by omega)
    rw [← hm] at hy
    have hsm := fun g W => sum_one key g 9 (0, 0) W (by omega)
    have hsame := same_refl 32 (macF key s)
    clear hx hm
    generalize macF key s = M at *
    generalize shaF key = X at *
    have hG := Grew.refl w
    go_enter Tryd.func8, Tryd.ntmps8
    go_wp2_with fail
    (refine (awake8_any _ hTT.out).mono ?_; rintro e w1 ⟨rfl, hb⟩; replace hG : Below w.heap.size w w1 := Grew.trans (by (repeat (first | assumption | exact Grew.refl _ | refine Grew.more ?_ _ | refine Grew.alloc ?_ _ | refine Grew.drewN ?_ _ | refine Grew.setRow ?_ _ _ (by omega) | refine Grew.setRow ?_ _ _ (by simp; omega) | refine Grew.setRow ?_ _ _ (by simp)))) hb; clear hb)
    have lw0 := hG.size
    go_wp2_with fail
    have fx : objAt (w1.alloc (.cells #[.string (key)] 9)) w1.heap.size = some (.cells #[.string (key)] 9) := objAt_alloc_at _ _ _ rfl
    replace hG : Below w.heap.size w (w1.alloc (.cells #[.string (key)] 9)) := Grew.alloc hG _
    generalize w1.alloc (.cells #[.string (key)] 9) = w2 at *
    generalize w1.heap.size = gx at *
    have lfx := lt_of_objAt fx
    go_wp2_with fail
    (refine (hsm _ _ fx (hTT.out.later hG)).mono ?_; rintro e w3 ⟨rfl, hb⟩; replace fx : objAt w3 (gx) = some (.cells #[.string (key)] 9) := keep_below hb (by (repeat (first | assumption | exact objAt_alloc_at _ _ _ rfl | (refine objAt_alloc_at _ _ _ ?_; (simp; done)) | refine keep_alloc _ ?_ | refine keep_drewN _ ?_ | refine keep_more _ ?_ | exact keep_row _ (by assumption) | apply keep_row | refine keep_setRow _ _ ?_ (by first | omega | (simp; omega) | simp)))); have lfx := lt_of_objAt fx; replace hG : Below w.heap.size w w3 := Grew.trans (by (repeat (first | assumption | exact Grew.refl _ | refine Grew.more ?_ _ | refine Grew.alloc ?_ _ | refine Grew.drewN ?_ _ | refine Grew.setRow ?_ _ _ (by omega) | refine Grew.setRow ?_ _ _ (by simp; omega) | refine Grew.setRow ?_ _ _ (by simp)))) hb; clear hb)
    go_wp2_with fail
    have fk : objAt (w3.alloc (.cells (ints .u8 32 (X)) 24)) w3.heap.size = some (.cells (ints .u8 32 (X)) 24) := objAt_alloc_at _ _ _ rfl
    replace fx : objAt (w3.alloc (.cells (ints .u8 32 (X)) 24)) (gx) = some (.cells #[.string (key)] 9) := keep_alloc _ fx
    replace hG : Below w.heap.size w (w3.alloc (.cells (ints .u8 32 (X)) 24)) := Grew.alloc hG _
    clear lfx
    generalize w3.alloc (.cells (ints .u8 32 (X)) 24) = w4 at *
    generalize w3.heap.size = gk at *
    have lfx := lt_of_objAt fx
    have lfk := lt_of_objAt fk
    have hc := fun m : More => run_str (P := Tryd.prog) (src := 43) (dst := 9) Tryd.underlying43 Tryd.underlying5 Tryd.underlying9 gk 32 32 32 X (more w4 m) (keep_more m fk) (by omega)
    clear hk hs hk5 hs5
    go_wp2_with fail
    (refine wp_rel (by kernel_rfl) (by kernel_rfl) ?_; (repeat (first | refine exv_skip rfl ?_ | (refine exv_call rfl ?_; apply Exists.intro))); refine exv_nil ?_; intro γ hinj hbase; (repeat (first | (refine rel_quiet rfl ?_; ((first | go_big_quiet_skip | (go_big_quiet_want; go_big_quiet_op; go_big_quiet_on)); refine wpQuiet_nil ?_)) | (first | (refine rel_skip_some rfl (fun _ => rfl) ?_; ((first | go_big_quiet_skip | (go_big_quiet_want; go_big_quiet_op; go_big_quiet_on)); refine wpQuiet_nil ?_)) | refine rel_skip_none rfl (fun _ => rfl) ?_) | ((try simp only [Nat.zero_add, Nat.reduceAdd]); apply rel_box alloc_cls; (focus rfl); (focus (first | exact cells_agg _ | exact cells_int _ _ | exact cells_bool _ | rfl)); (focus ((repeat (refine fits_cons ⟨by (first | exact stab_full _ _ _ | exact stab_hdr _ _ _ | exact stab_hdr_at _ _ _ _ | exact stab_full_at _ _ _ _ (hinj _ _ (by decide))), by (first | exact stab_full _ _ _ | exact stab_hdr _ _ _ | exact stab_hdr_at _ _ _ _ | exact stab_full_at _ _ _ _ (hinj _ _ (by decide)))⟩ ?_)); exact fits_nil (by (first | exact stab_full _ _ _ | exact stab_hdr _ _ _ | exact stab_hdr_at _ _ _ _ | exact stab_full_at _ _ _ _ (hinj _ _ (by decide)))))); ((first | go_big_quiet_skip | (go_big_quiet_want; go_big_quiet_op; go_big_quiet_on)); refine wpQuiet_nil ?_)) | ((try simp only [Nat.zero_add, Nat.reduceAdd]); apply rel_alloc _ _ alloc_cls; (focus rfl); (focus (intro W; (first | exact zero_key _ | exact zero_elem _ | exact zero_num _ | exact zero_pair _))); (focus exact cells_ints _ _ _); (focus ((repeat (refine fits_cons ⟨by (first | exact stab_full _ _ _ | exact stab_hdr _ _ _ | exact stab_hdr_at _ _ _ _ | exact stab_full_at _ _ _ _ (hinj _ _ (by decide))), by (first | exact stab_full _ _ _ | exact stab_hdr _ _ _ | exact stab_hdr_at _ _ _ _ | exact stab_full_at _ _ _ _ (hinj _ _ (by decide)))⟩ ?_)); exact fits_nil (by (first | exact stab_full _ _ _ | exact stab_hdr _ _ _ | exact stab_hdr_at _ _ _ _ | exact stab_full_at _ _ _ _ (hinj _ _ (by decide)))))); ((first | go_big_quiet_skip | (go_big_quiet_want; go_big_quiet_op; go_big_quiet_on)); refine wpQuiet_nil ?_)) | ((try simp only [Nat.zero_add, Nat.reduceAdd]); apply rel_slice alloc_cls; (focus rfl); (focus (intro W; simp only [List.map_toArray, List.map_cons, List.map_nil]; first | exact build1s _ W)); (focus ((repeat (refine fits_cons ⟨by (first | exact stab_full _ _ _ | exact stab_hdr _ _ _ | exact stab_hdr_at _ _ _ _ | exact stab_full_at _ _ _ _ (hinj _ _ (by decide))), by (first | exact stab_full _ _ _ | exact stab_hdr _ _ _ | exact stab_hdr_at _ _ _ _ | exact stab_full_at _ _ _ _ (hinj _ _ (by decide)))⟩ ?_)); exact fits_nil (by (first | exact stab_full _ _ _ | exact stab_hdr _ _ _ | exact stab_hdr_at _ _ _ _ | exact stab_full_at _ _ _ _ (hinj _ _ (by decide)))))); ((first | go_big_quiet_skip | (go_big_quiet_want; go_big_quiet_op; go_big_quiet_on)); refine wpQuiet_nil ?_)) | ((try simp only [Nat.zero_add, Nat.reduceAdd]); apply rel_store (setRow_cls (hbase _)); (focus rfl); (focus rfl); (focus rfl); (focus (first | exact cells_agg _ | exact cells_int _ _ | exact cells_bool _ | rfl)); rotate_left 3; (focus (first | exact List.mem_cons_self .. | exact List.mem_cons_of_mem _ (List.mem_cons_self ..) | exact List.mem_cons_of_mem _ (List.mem_cons_of_mem _ (List.mem_cons_self ..)) | exact List.mem_cons_of_mem _ (List.mem_cons_of_mem _ (List.mem_cons_of_mem _ (List.mem_cons_self ..))) | exact List.mem_cons_of_mem _ (List.mem_cons_of_mem _ (List.mem_cons_of_mem _ (List.mem_cons_of_mem _ (List.mem_cons_self ..)))))); rotate_right 3; (focus kernel_rfl); (focus exact ints_size _ _ _); (focus exact ints_ones _ _ _); (focus (decide +kernel)); (focus ((repeat (refine fits_cons ⟨by (first | exact stab_full _ _ _ | exact stab_hdr _ _ _ | exact stab_hdr_at _ _ _ _ | exact stab_full_at _ _ _ _ (hinj _ _ (by decide))), by (first | exact stab_full _ _ _ | exact stab_hdr _ _ _ | exact stab_hdr_at _ _ _ _ | exact stab_full_at _ _ _ _ (hinj _ _ (by decide)))⟩ ?_)); exact fits_nil (by (first | exact stab_full _ _ _ | exact stab_hdr _ _ _ | exact stab_hdr_at _ _ _ _ | exact stab_full_at _ _ _ _ (hinj _ _ (by decide))))))) | (apply rel_fact; (focus rfl); (focus rfl); (focus rfl); (focus (intro W hC hF; (have hGW : Below w.heap.size w W := (by obtain ⟨m, rfl⟩ := hC; exact Grew.more hG m); try (first | (have hE : StrsAt W (some ⟨γ 7, 0, none⟩) 1 (oneS s) := strs_one (known hF (List.mem_cons_self ..) (by decide +kernel))) | (have hE : StrsAt W (some ⟨γ 2, 0, none⟩) 1 (oneS s) := strs_one (known hF (List.mem_cons_self ..) (by decide +kernel))))); go_big_quiet_want; go_big_quiet_op; (first | go_big_quiet_on | (apply Exists.intro; refine ⟨fun _ => ?_, ?_⟩; (focus (first | (with_reducible exact Calls.of_more (hz _ _ (hE.later (below_more W _)) (hTT.out.later (Grew.trans hGW (below_more W _))))) | (with_reducible exact Calls.of_more (hy _ _ (hE.later (below_more W _)) (hTT.out.later (Grew.trans hGW (below_more W _))))))); go_big_quiet_on)); exact wpQuiet_nil rfl)); (focus (exact fun _ => rfl)); ((first | go_big_quiet_skip | (go_big_quiet_want; go_big_quiet_op; go_big_quiet_on)); refine wpQuiet_nil ?_)))))
    (refine rel_nil ?_; rintro _ ⟨mq, rfl⟩ hF; simp only [List.forall_mem_cons] at hF; obtain - := hF)
    go_wp2
    go_ret
    exact ⟨rfl, by (repeat (first | assumption | exact Grew.refl _ | refine Grew.more ?_ _ | refine Grew.alloc ?_ _ | refine Grew.drewN ?_ _ | refine Grew.setRow ?_ _ _ (by omega) | refine Grew.setRow ?_ _ _ (by simp; omega) | refine Grew.setRow ?_ _ _ (by simp)))⟩
  · obtain ⟨N, rfl⟩ := Int.eq_ofNat_of_zero_le h0
    obtain ⟨m, hm⟩ : ∃ m, min N (64 - key.size) = m := ⟨_, rfl⟩
    have hmi : min (N : Int) (64 - (key.size : Int)) = (m : Int) := by omega
    have hm64 : key.size + m ≤ 64 := by omega
    have hbe := blockB_zeros key m hm64
    have he := macF_block s hbe
    have hr := repeat0 m (by omega)
    have k1 : FitsS key (zerosB m) := by unfold FitsS; rw [zerosB_size]; omega
    have hz := fun g W => hx key g W (by omega)
    have hy := fun g W => hx (key ++ zerosB m) g W (by rw [ByteArray.size_append, zerosB_size]; omega)
    rw [he] at hy
    have hb1 : Hid (∀ W : World, Below w.heap.size w W → Calls Tryd.prog 21 #[.string key] W fun e w' => e = .returned (.string (blockB key)) ∧ Below W.heap.size W w') := fun W hW => block_any key W (by omega) (hTT.out.later hW)
    have hb2 : Hid (∀ W : World, Below w.heap.size w W → Calls Tryd.prog 21 #[.string (key ++ zerosB m)] W fun e w' => e = .returned (.string (blockB key)) ∧ Below W.heap.size W w') := fun W hW => by
      have := block_any (key ++ zerosB m) W (by rw [ByteArray.size_append, zerosB_size]; omega) (hTT.out.later hW)
      rw [hbe] at this
      exact this
    have hsame := same_refl 32 (macF key s)
    clear hx hbe he hm
    generalize macF key s = M at *
    generalize blockB key = B at *
    have hG := Grew.refl w
    go_enter Tryd.func8, Tryd.ntmps8
    go_wp2_with fail
    (refine (awake8_any _ hTT.out).mono ?_; rintro e w1 ⟨rfl, hb⟩; replace hG : Below w.heap.size w w1 := Grew.trans (by (repeat (first | assumption | exact Grew.refl _ | refine Grew.more ?_ _ | refine Grew.alloc ?_ _ | refine Grew.drewN ?_ _ | refine Grew.setRow ?_ _ _ (by omega) | refine Grew.setRow ?_ _ _ (by simp; omega) | refine Grew.setRow ?_ _ _ (by simp)))) hb; clear hb)
    go_wp2_with fail
    (refine (hr _).mono ?_; rintro e w2 ⟨rfl, hb⟩; replace hG : Below w.heap.size w w2 := Grew.trans (by (repeat (first | assumption | exact Grew.refl _ | refine Grew.more ?_ _ | refine Grew.alloc ?_ _ | refine Grew.drewN ?_ _ | refine Grew.setRow ?_ _ _ (by omega) | refine Grew.setRow ?_ _ _ (by simp; omega) | refine Grew.setRow ?_ _ _ (by simp)))) hb; clear hb)
    go_wp2_with fail
    have fx : objAt (w2.alloc (.cells #[.string (s)] 9)) w2.heap.size = some (.cells #[.string (s)] 9) := objAt_alloc_at _ _ _ rfl
    replace hG : Below w.heap.size w (w2.alloc (.cells #[.string (s)] 9)) := Grew.alloc hG _
    generalize w2.alloc (.cells #[.string (s)] 9) = w3 at *
    generalize w2.heap.size = gx at *
    have lfx := lt_of_objAt fx
    go_wp2_with fail
    (refine (hz _ _ (strs_one fx) (hTT.out.later hG)).mono ?_; rintro e w4 ⟨rfl, hb⟩; replace fx : objAt w4 (gx) = some (.cells #[.string (s)] 9) := keep_below hb (by (repeat (first | assumption | exact objAt_alloc_at _ _ _ rfl | (refine objAt_alloc_at _ _ _ ?_; (simp; done)) | refine keep_alloc _ ?_ | refine keep_drewN _ ?_ | refine keep_more _ ?_ | exact keep_row _ (by assumption) | apply keep_row | refine keep_setRow _ _ ?_ (by first | omega | (simp; omega) | simp)))); have lfx := lt_of_objAt fx; replace hG : Below w.heap.size w w4 := Grew.trans (by (repeat (first | assumption | exact Grew.refl _ | refine Grew.more ?_ _ | refine Grew.alloc ?_ _ | refine Grew.drewN ?_ _ | refine Grew.setRow ?_ _ _ (by omega) | refine Grew.setRow ?_ _ _ (by simp; omega) | refine Grew.setRow ?_ _ _ (by simp)))) hb; clear hb)
    go_wp2_with fail
    have fy : objAt (w4.alloc (.cells #[.string (s)] 9)) w4.heap.size = some (.cells #[.string (s)] 9) := objAt_alloc_at _ _ _ rfl
    replace fx : objAt (w4.alloc (.cells #[.string (s)] 9)) (gx) = some (.cells #[.string (s)] 9) := keep_alloc _ fx
    replace hG : Below w.heap.size w (w4.alloc (.cells #[.string (s)] 9)) := Grew.alloc hG _
    clear lfx
    generalize w4.alloc (.cells #[.string (s)] 9) = w5 at *
    generalize w4.heap.size = gy at *
    have lfx := lt_of_objAt fx
    have lfy := lt_of_objAt fy
    go_wp2_with fail
    (refine (hy _ _ (strs_one fy) (hTT.out.later hG)).mono ?_; rintro e w6 ⟨rfl, hb⟩; replace fx : objAt w6 (gx) = some (.cells #[.string (s)] 9) := keep_below hb (by (repeat (first | assumption | exact objAt_alloc_at _ _ _ rfl | (refine objAt_alloc_at _ _ _ ?_; (simp; done)) | refine keep_alloc _ ?_ | refine keep_drewN _ ?_ | refine keep_more _ ?_ | exact keep_row _ (by assumption) | apply keep_row | refine keep_setRow _ _ ?_ (by first | omega | (simp; omega) | simp)))); have lfx := lt_of_objAt fx; replace fy : objAt w6 (gy) = some (.cells #[.string (s)] 9) := keep_below hb (by (repeat (first | assumption | exact objAt_alloc_at _ _ _ rfl | (refine objAt_alloc_at _ _ _ ?_; (simp; done)) | refine keep_alloc _ ?_ | refine keep_drewN _ ?_ | refine keep_more _ ?_ | exact keep_row _ (by assumption) | apply keep_row | refine keep_setRow _ _ ?_ (by first | omega | (simp; omega) | simp)))); have lfy := lt_of_objAt fy; replace hG : Below w.heap.size w w6 := Grew.trans (by (repeat (first | assumption | exact Grew.refl _ | refine Grew.more ?_ _ | refine Grew.alloc ?_ _ | refine Grew.drewN ?_ _ | refine Grew.setRow ?_ _ _ (by omega) | refine Grew.setRow ?_ _ _ (by simp; omega) | refine Grew.setRow ?_ _ _ (by simp)))) hb; clear hb)
    go_wp2_with fail
    (refine (hb1.out _ hG).mono ?_; rintro e w7 ⟨rfl, hb⟩; replace fx : objAt w7 (gx) = some (.cells #[.string (s)] 9) := keep_below hb (by (repeat (first | assumption | exact objAt_alloc_at _ _ _ rfl | (refine objAt_alloc_at _ _ _ ?_; (simp; done)) | refine keep_alloc _ ?_ | refine keep_drewN _ ?_ | refine keep_more _ ?_ | exact keep_row _ (by assumption) | apply keep_row | refine keep_setRow _ _ ?_ (by first | omega | (simp; omega) | simp)))); have lfx := lt_of_objAt fx; replace fy : objAt w7 (gy) = some (.cells #[.string (s)] 9) := keep_below hb (by (repeat (first | assumption | exact objAt_alloc_at _ _ _ rfl | (refine objAt_alloc_at _ _ _ ?_; (simp; done)) | refine keep_alloc _ ?_ | refine keep_drewN _ ?_ | refine keep_more _ ?_ | exact keep_row _ (by assumption) | apply keep_row | refine keep_setRow _ _ ?_ (by first | omega | (simp; omega) | simp)))); have lfy := lt_of_objAt fy; replace hG : Below w.heap.size w w7 := Grew.trans (by (repeat (first | assumption | exact Grew.refl _ | refine Grew.more ?_ _ | refine Grew.alloc ?_ _ | refine Grew.drewN ?_ _ | refine Grew.setRow ?_ _ _ (by omega) | refine Grew.setRow ?_ _ _ (by simp; omega) | refine Grew.setRow ?_ _ _ (by simp)))) hb; clear hb)
    go_wp2_with fail
    (refine (hb2.out _ hG).mono ?_; rintro e w8 ⟨rfl, hb⟩; replace fx : objAt w8 (gx) = some (.cells #[.string (s)] 9) := keep_below hb (by (repeat (first | assumption | exact objAt_alloc_at _ _ _ rfl | (refine objAt_alloc_at _ _ _ ?_; (simp; done)) | refine keep_alloc _ ?_ | refine keep_drewN _ ?_ | refine keep_more _ ?_ | exact keep_row _ (by assumption) | apply keep_row | refine keep_setRow _ _ ?_ (by first | omega | (simp; omega) | simp)))); have lfx := lt_of_objAt fx; replace fy : objAt w8 (gy) = some (.cells #[.string (s)] 9) := keep_below hb (by (repeat (first | assumption | exact objAt_alloc_at _ _ _ rfl | (refine objAt_alloc_at _ _ _ ?_; (simp; done)) | refine keep_alloc _ ?_ | refine keep_drewN _ ?_ | refine keep_more _ ?_ | exact keep_row _ (by assumption) | apply keep_row | refine keep_setRow _ _ ?_ (by first | omega | (simp; omega) | simp)))); have lfy := lt_of_objAt fy; replace hG : Below w.heap.size w w8 := Grew.trans (by (repeat (first | assumption | exact Grew.refl _ | refine Grew.more ?_ _ | refine Grew.alloc ?_ _ | refine Grew.drewN ?_ _ | refine Grew.setRow ?_ _ _ (by omega) | refine Grew.setRow ?_ _ _ (by simp; omega) | refine Grew.setRow ?_ _ _ (by simp)))) hb; clear hb)
    go_wp2
    go_ret
    exact ⟨rfl, by (repeat (first | assumption | exact Grew.refl _ | refine Grew.more ?_ _ | refine Grew.alloc ?_ _ | refine Grew.drewN ?_ _ | refine Grew.setRow ?_ _ _ (by omega) | refine Grew.setRow ?_ _ _ (by simp; omega) | refine Grew.setRow ?_ _ _ (by simp)))⟩
end Go.Proofs.YtdihaffopfbnnaaDoor
