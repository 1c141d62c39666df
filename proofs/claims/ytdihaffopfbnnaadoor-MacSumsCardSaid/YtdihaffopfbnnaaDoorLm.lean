/- MacSums. -/
import Derived.Test.YtdihaffopfbnnaaDoorRm
import Derived.Test.YtdihaffopfbnnaaDoorMc
namespace Go.Proofs.YtdihaffopfbnnaaDoor
open Go.RowKit
set_option linter.unusedVariables false
set_option linter.unusedSimpArgs false

attribute [local irreducible] strOf shaF zerosB padB fullB hashT
attribute [local irreducible] macF
set_option maxRecDepth 100000 in
set_option maxHeartbeats 4000000 in
theorem sums8_any (key s : ByteArray) (tag : Nat → Int) (w : World) (ht : Bytes 32 tag) (hk : key.size ≤ 9223372036854775807) (hs : s.size ≤ 9223372036854775807) (hT : Tabs w) :
    Calls Tryd.prog 6 #[.string key, .string s, .agg (ints .u8 32 tag)] w fun e w' => e = .returned (.bool true) ∧ Below w.heap.size w w' := by
  have hTT : Hid (Tabs w) := hT
  clear hT
  by_cases hk5 : key.size ≤ 1000
  case neg =>
    have hk6 : 1000 < key.size := by omega
    have hG := Grew.refl w
    go_enter Tryd.func6, Tryd.ntmps6
    go_wp2_with fail
    refine (awake8_any _ (hTT.out.later (by (repeat (first | assumption | exact Grew.refl _ | refine Grew.more ?_ _ | refine Grew.alloc ?_ _ | refine Grew.drewN ?_ _ | refine Grew.setRow ?_ _ _ (by omega) | refine Grew.setRow ?_ _ _ (by simp; omega) | refine Grew.setRow ?_ _ _ (by simp)))))).mono ?_
    rintro e w1 ⟨rfl, hb⟩
    replace hG : Below w.heap.size w w1 := Grew.trans (by (repeat (first | assumption | exact Grew.refl _ | refine Grew.more ?_ _ | refine Grew.alloc ?_ _ | refine Grew.drewN ?_ _ | refine Grew.setRow ?_ _ _ (by omega) | refine Grew.setRow ?_ _ _ (by simp; omega) | refine Grew.setRow ?_ _ _ (by simp)))) hb
    clear hb
    go_wp2
    go_ret
    exact ⟨rfl, by (repeat (first | assumption | exact Grew.refl _ | refine Grew.more ?_ _ | refine Grew.alloc ?_ _ | refine Grew.drewN ?_ _ | refine Grew.setRow ?_ _ _ (by omega) | refine Grew.setRow ?_ _ _ (by simp; omega) | refine Grew.setRow ?_ _ _ (by simp)))⟩
  by_cases hs5 : s.size ≤ 1000
  case neg =>
    have hs6 : 1000 < s.size := by omega
    have hG := Grew.refl w
    go_enter Tryd.func6, Tryd.ntmps6
    go_wp2_with fail
    refine (awake8_any _ (hTT.out.later (by (repeat (first | assumption | exact Grew.refl _ | refine Grew.more ?_ _ | refine Grew.alloc ?_ _ | refine Grew.drewN ?_ _ | refine Grew.setRow ?_ _ _ (by omega) | refine Grew.setRow ?_ _ _ (by simp; omega) | refine Grew.setRow ?_ _ _ (by simp)))))).mono ?_
    rintro e w1 ⟨rfl, hb⟩
    replace hG : Below w.heap.size w w1 := Grew.trans (by (repeat (first | assumption | exact Grew.refl _ | refine Grew.more ?_ _ | refine Grew.alloc ?_ _ | refine Grew.drewN ?_ _ | refine Grew.setRow ?_ _ _ (by omega) | refine Grew.setRow ?_ _ _ (by simp; omega) | refine Grew.setRow ?_ _ _ (by simp)))) hb
    clear hb
    go_wp2
    go_ret
    exact ⟨rfl, by (repeat (first | assumption | exact Grew.refl _ | refine Grew.more ?_ _ | refine Grew.alloc ?_ _ | refine Grew.drewN ?_ _ | refine Grew.setRow ?_ _ _ (by omega) | refine Grew.setRow ?_ _ _ (by simp; omega) | refine Grew.setRow ?_ _ _ (by simp)))⟩
  have c0 : ∀ W : World, Calls Tryd.prog 19 #[.string key, .string s] W fun e w' => e = .returned (.agg (ints .u8 32 (macF key s))) ∧ Below W.heap.size W w' := fun W => refmac_any key s W (by omega) (by omega)
  have c1 : ∀ (g : Nat) (W : World), StrsAt W (some ⟨g, 0, none⟩) 1 (oneS s) → Tabs W → Calls Tryd.prog 20 #[.string key, .slice (some ⟨g, 0, none⟩) 1 1] W fun e w' => e = .returned (.agg (ints .u8 32 (macF key s))) ∧ Below W.heap.size W w' := fun g W h hT => mac_one key s g W (by omega) (by omega) h hT
  have hck : Hid (∀ (tg : Nat → Int) (g : Nat) (W : World), Bytes 32 tg → StrsAt W (some ⟨g, 0, none⟩) 1 (oneS s) → Tabs W → Calls Tryd.prog 23 #[.string key, .agg (ints .u8 32 tg), .slice (some ⟨g, 0, none⟩) 1 1] W fun e w' => e = .returned (.bool (same 32 tg (macF key s))) ∧ Below W.heap.size W w') := fun tg g W htg h hT => by
    have := check_any key tg (some ⟨g, 0, none⟩) 1 1 (oneS s) W htg (by omega) (by rw [cat_one]; omega) (by decide) h hT
    rw [cat_one] at this
    exact this
  have c2 := fun g W => hck.out tag g W ht
  have c3 := fun g W => hck.out (macF key s) g W (mac_bytes key s)
  have hmb := same_refl 32 (macF key s)
  rw [hmb] at c3
  have c4 : ∀ W : World, Below w.heap.size w W → Calls Tryd.prog 21 #[.string key] W fun e w' => e = .returned (.string (blockB key)) ∧ Below W.heap.size W w' := fun W hW => block_any key W (by omega) (hTT.out.later hW)
  have c5 : ∀ W : World, Calls Tryd.prog 22 #[.string key] W fun e w' => e = .returned (.string (blockB key)) ∧ Below W.heap.size W w' := fun W => rblock_any key W (by omega)
  clear hck
  generalize macF key s = M at *
  generalize blockB key = B at *
  generalize hbo : same 32 tag M = bo at *
  have hG := Grew.refl w
  have fg : True := trivial
  go_enter Tryd.func6, Tryd.ntmps6
  go_wp2_with fail
  replace fg : objAt (w.alloc (.cells (ints .u8 32 (tag)) 24)) (w.heap.size) = some (.cells (ints .u8 32 (tag)) 24) := by (repeat (first | assumption | exact objAt_alloc_at _ _ _ rfl | (refine objAt_alloc_at _ _ _ ?_; (simp; done)) | refine keep_alloc _ ?_ | refine keep_drewN _ ?_ | refine keep_more _ ?_ | exact keep_row _ (by assumption) | apply keep_row | refine keep_setRow _ _ ?_ (by first | omega | (simp; omega) | simp)))
  replace hG : Below w.heap.size w (w.alloc (.cells (ints .u8 32 (tag)) 24)) := by (repeat (first | assumption | exact Grew.refl _ | refine Grew.more ?_ _ | refine Grew.alloc ?_ _ | refine Grew.drewN ?_ _ | refine Grew.setRow ?_ _ _ (by omega) | refine Grew.setRow ?_ _ _ (by simp; omega) | refine Grew.setRow ?_ _ _ (by simp)))
  generalize w.alloc (.cells (ints .u8 32 (tag)) 24) = w1 at *
  have lfg := lt_of_objAt fg
  go_wp2_with fail
  (refine (awake8_any _ (hTT.out.later hG)).mono ?_; rintro e w2 ⟨rfl, hb⟩; replace fg : objAt w2 (w.heap.size) = some (.cells (ints .u8 32 (tag)) 24) := keep_below hb (by (repeat (first | assumption | exact objAt_alloc_at _ _ _ rfl | (refine objAt_alloc_at _ _ _ ?_; (simp; done)) | refine keep_alloc _ ?_ | refine keep_drewN _ ?_ | refine keep_more _ ?_ | exact keep_row _ (by assumption) | apply keep_row | refine keep_setRow _ _ ?_ (by first | omega | (simp; omega) | simp)))); have lfg := lt_of_objAt fg; replace hG : Below w.heap.size w w2 := Grew.trans (by (repeat (first | assumption | exact Grew.refl _ | refine Grew.more ?_ _ | refine Grew.alloc ?_ _ | refine Grew.drewN ?_ _ | refine Grew.setRow ?_ _ _ (by omega) | refine Grew.setRow ?_ _ _ (by simp; omega) | refine Grew.setRow ?_ _ _ (by simp)))) hb; clear hb)
  go_wp2_with fail
  (refine (c0 _).mono ?_; rintro e w3 ⟨rfl, hb⟩; replace fg : objAt w3 (w.heap.size) = some (.cells (ints .u8 32 (tag)) 24) := keep_below hb (by (repeat (first | assumption | exact objAt_alloc_at _ _ _ rfl | (refine objAt_alloc_at _ _ _ ?_; (simp; done)) | refine keep_alloc _ ?_ | refine keep_drewN _ ?_ | refine keep_more _ ?_ | exact keep_row _ (by assumption) | apply keep_row | refine keep_setRow _ _ ?_ (by first | omega | (simp; omega) | simp)))); have lfg := lt_of_objAt fg; replace hG : Below w.heap.size w w3 := Grew.trans (by (repeat (first | assumption | exact Grew.refl _ | refine Grew.more ?_ _ | refine Grew.alloc ?_ _ | refine Grew.drewN ?_ _ | refine Grew.setRow ?_ _ _ (by omega) | refine Grew.setRow ?_ _ _ (by simp; omega) | refine Grew.setRow ?_ _ _ (by simp)))) hb; clear hb)
  have lg0 : ¬ (w3.heap.size = w.heap.size) := by omega
  go_wp2_with fail
  have ft : objAt (w3.alloc (.cells (ints .u8 32 (M)) 24)) w3.heap.size = some (.cells (ints .u8 32 (M)) 24) := objAt_alloc_at _ _ _ rfl
  replace fg : objAt (w3.alloc (.cells (ints .u8 32 (M)) 24)) (w.heap.size) = some (.cells (ints .u8 32 (tag)) 24) := keep_alloc _ fg
  replace hG : Below w.heap.size w (w3.alloc (.cells (ints .u8 32 (M)) 24)) := Grew.alloc hG _
  clear lfg
  generalize w3.alloc (.cells (ints .u8 32 (M)) 24) = w4 at *
  generalize w3.heap.size = gt at *
  have lfg := lt_of_objAt fg
  have lft := lt_of_objAt ft
  clear c0 hk5 hs5 hk hs ht
  go_wp2_with fail
  (refine wp_rel (by kernel_rfl) (by kernel_rfl) ?_; (repeat (first | refine exv_skip rfl ?_ | (refine exv_call rfl ?_; apply Exists.intro))); refine exv_nil ?_; intro γ hinj hbase; (repeat (first | (refine rel_quiet rfl ?_; ((first | go_big_quiet_skip | (go_big_quiet_want; go_big_quiet_op; go_big_quiet_on)); refine wpQuiet_nil ?_)) | (first | (refine rel_skip_some rfl (fun _ => rfl) ?_; ((first | go_big_quiet_skip | (go_big_quiet_want; go_big_quiet_op; go_big_quiet_on)); refine wpQuiet_nil ?_)) | refine rel_skip_none rfl (fun _ => rfl) ?_) | ((try simp only [Nat.zero_add, Nat.reduceAdd]); apply rel_box alloc_cls; (focus rfl); (focus (first | exact cells_agg _ | exact cells_int _ _ | exact cells_bool _ | rfl)); (focus ((repeat (refine fits_cons ⟨by (first | exact stab_full _ _ _ | exact stab_hdr _ _ _ | exact stab_hdr_at _ _ _ _ | exact stab_full_at _ _ _ _ (hinj _ _ (by decide))), by (first | exact stab_full _ _ _ | exact stab_hdr _ _ _ | exact stab_hdr_at _ _ _ _ | exact stab_full_at _ _ _ _ (hinj _ _ (by decide)))⟩ ?_)); exact fits_nil (by (first | exact stab_full _ _ _ | exact stab_hdr _ _ _ | exact stab_hdr_at _ _ _ _ | exact stab_full_at _ _ _ _ (hinj _ _ (by decide)))))); ((first | go_big_quiet_skip | (go_big_quiet_want; go_big_quiet_op; go_big_quiet_on)); refine wpQuiet_nil ?_)) | ((try simp only [Nat.zero_add, Nat.reduceAdd]); apply rel_alloc _ _ alloc_cls; (focus rfl); (focus (intro W; (first | exact zero_key _ | exact zero_elem _ | exact zero_num _ | exact zero_pair _))); (focus exact cells_ints _ _ _); (focus ((repeat (refine fits_cons ⟨by (first | exact stab_full _ _ _ | exact stab_hdr _ _ _ | exact stab_hdr_at _ _ _ _ | exact stab_full_at _ _ _ _ (hinj _ _ (by decide))), by (first | exact stab_full _ _ _ | exact stab_hdr _ _ _ | exact stab_hdr_at _ _ _ _ | exact stab_full_at _ _ _ _ (hinj _ _ (by decide)))⟩ ?_)); exact fits_nil (by (first | exact stab_full _ _ _ | exact stab_hdr _ _ _ | exact stab_hdr_at _ _ _ _ | exact stab_full_at _ _ _ _ (hinj _ _ (by decide)))))); ((first | go_big_quiet_skip | (go_big_quiet_want; go_big_quiet_op; go_big_quiet_on)); refine wpQuiet_nil ?_)) | ((try simp only [Nat.zero_add, Nat.reduceAdd]); apply rel_slice alloc_cls; (focus rfl); (focus (intro W; simp only [List.map_toArray, List.map_cons, List.map_nil]; first | (with_reducible exact build1s _ W) | exact build1s _ W)); (focus ((repeat (refine fits_cons ⟨by (first | exact stab_full _ _ _ | exact stab_hdr _ _ _ | exact stab_hdr_at _ _ _ _ | exact stab_full_at _ _ _ _ (hinj _ _ (by decide))), by (first | exact stab_full _ _ _ | exact stab_hdr _ _ _ | exact stab_hdr_at _ _ _ _ | exact stab_full_at _ _ _ _ (hinj _ _ (by decide)))⟩ ?_)); exact fits_nil (by (first | exact stab_full _ _ _ | exact stab_hdr _ _ _ | exact stab_hdr_at _ _ _ _ | exact stab_full_at _ _ _ _ (hinj _ _ (by decide)))))); ((first | go_big_quiet_skip | (go_big_quiet_want; go_big_quiet_op; go_big_quiet_on)); refine wpQuiet_nil ?_)) | ((try simp only [Nat.zero_add, Nat.reduceAdd]); apply rel_store (setRow_cls (hbase _)); (focus rfl); (focus rfl); (focus rfl); (focus (first | exact cells_agg _ | exact cells_int _ _ | exact cells_bool _ | rfl)); rotate_left 3; (focus (first | exact List.mem_cons_self .. | exact List.mem_cons_of_mem _ (List.mem_cons_self ..) | exact List.mem_cons_of_mem _ (List.mem_cons_of_mem _ (List.mem_cons_self ..)) | exact List.mem_cons_of_mem _ (List.mem_cons_of_mem _ (List.mem_cons_of_mem _ (List.mem_cons_self ..))) | exact List.mem_cons_of_mem _ (List.mem_cons_of_mem _ (List.mem_cons_of_mem _ (List.mem_cons_of_mem _ (List.mem_cons_self ..)))))); rotate_right 3; (focus kernel_rfl); (focus exact ints_size _ _ _); (focus exact ints_ones _ _ _); (focus (decide +kernel)); (focus ((repeat (refine fits_cons ⟨by (first | exact stab_full _ _ _ | exact stab_hdr _ _ _ | exact stab_hdr_at _ _ _ _ | exact stab_full_at _ _ _ _ (hinj _ _ (by decide))), by (first | exact stab_full _ _ _ | exact stab_hdr _ _ _ | exact stab_hdr_at _ _ _ _ | exact stab_full_at _ _ _ _ (hinj _ _ (by decide)))⟩ ?_)); exact fits_nil (by (first | exact stab_full _ _ _ | exact stab_hdr _ _ _ | exact stab_hdr_at _ _ _ _ | exact stab_full_at _ _ _ _ (hinj _ _ (by decide))))))) | (apply rel_fact; (focus rfl); (focus rfl); (focus rfl); (focus (intro W hC hF; (have hGW : Below w.heap.size w W := (by obtain ⟨m, rfl⟩ := hC; exact Grew.more hG m); try (first | (have hE : StrsAt W (some ⟨γ 28, 0, none⟩) 1 (oneS s) := strs_one (known hF (List.mem_cons_self ..) (by decide +kernel))) | (have hE : StrsAt W (some ⟨γ 17, 0, none⟩) 1 (oneS s) := strs_one (known hF (List.mem_cons_self ..) (by decide +kernel))) | (have hE : StrsAt W (some ⟨γ 2, 0, none⟩) 1 (oneS s) := strs_one (known hF (List.mem_cons_self ..) (by decide +kernel))))); go_big_quiet_want; go_big_quiet_op; (first | go_big_quiet_on | (apply Exists.intro; refine ⟨fun _ => ?_, ?_⟩; (focus (first | (with_reducible exact Calls.of_more (c1 _ _ (hE.later (below_more W _)) (hTT.out.later (Grew.trans hGW (below_more W _))))) | (with_reducible exact Calls.of_more (c2 _ _ (hE.later (below_more W _)) (hTT.out.later (Grew.trans hGW (below_more W _))))) | (with_reducible exact Calls.of_more (c3 _ _ (hE.later (below_more W _)) (hTT.out.later (Grew.trans hGW (below_more W _))))) | (with_reducible exact Calls.of_more (c4 _ (Grew.trans hGW (below_more W _)))) | (with_reducible exact Calls.of_more (c5 _)))); go_big_quiet_on)); exact wpQuiet_nil rfl)); (focus (exact fun _ => rfl)); ((first | go_big_quiet_skip | (go_big_quiet_want; go_big_quiet_op; go_big_quiet_on)); refine wpQuiet_nil ?_)))))
  (refine rel_nil ?_; rintro _ ⟨mq, rfl⟩ hF; simp only [List.forall_mem_cons] at hF; obtain - := hF)
  go_wp2
  go_ret
  exact ⟨rfl, by (repeat (first | assumption | exact Grew.refl _ | refine Grew.more ?_ _ | refine Grew.alloc ?_ _ | refine Grew.drewN ?_ _ | refine Grew.setRow ?_ _ _ (by omega) | refine Grew.setRow ?_ _ _ (by simp; omega) | refine Grew.setRow ?_ _ _ (by simp)))⟩
end Go.Proofs.YtdihaffopfbnnaaDoor
