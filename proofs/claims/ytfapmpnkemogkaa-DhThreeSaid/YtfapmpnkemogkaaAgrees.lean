/- DhAgrees. -/
import Derived.Test.YtfapmpnkemogkaaDhNum
namespace Go.Proofs.Ytfapmpnkemogkaa
open Go.RowKit
set_option linter.unusedVariables false
set_option linter.unusedSimpArgs false
open Edw (red tv)

set_option maxRecDepth 100000 in
set_option maxHeartbeats 2000000 in
theorem agrees_walk (j k p P1 P2 X1 X2 V1 J : Nat → Int) (T1 : Bool) (w : World)
    (hp : Bytes 32 p)
    (b1 : ∀ w : World, Calls Try.prog 79 #[.agg (ints .u8 32 (j))] w fun e w' => e = .returned (.agg (ints .u8 32 (P1))) ∧ Below w.heap.size w w')
    (b2 : ∀ w : World, Calls Try.prog 79 #[.agg (ints .u8 32 (k))] w fun e w' => e = .returned (.agg (ints .u8 32 (P2))) ∧ Below w.heap.size w w')
    (s1 : ∀ w : World, Calls Try.prog 73 #[.agg (ints .u8 32 (j)), .agg (ints .u8 32 (P2))] w fun e w' => e = .returned (.tuple #[.agg (ints .u8 32 (X1)), .bool true]) ∧ Below w.heap.size w w')
    (s2 : ∀ w : World, Calls Try.prog 73 #[.agg (ints .u8 32 (k)), .agg (ints .u8 32 (P1))] w fun e w' => e = .returned (.tuple #[.agg (ints .u8 32 (X2)), .bool true]) ∧ Below w.heap.size w w')
    (m1 : ∀ w : World, Calls Try.prog 75 #[.agg (ints .u8 32 (j))] w fun e w' => e = .returned (.agg (ints .u8 32 (J))) ∧ Below w.heap.size w w')
    (m2 : ∀ w : World, Calls Try.prog 75 #[.agg (ints .u8 32 (J))] w fun e w' => e = .returned (.agg (ints .u8 32 (J))) ∧ Below w.heap.size w w')
    (p1 : ∀ w : World, Calls Try.prog 73 #[.agg (ints .u8 32 (j)), .agg (ints .u8 32 (p))] w fun e w' => e = .returned (.tuple #[.agg (ints .u8 32 (V1)), .bool (!T1)]) ∧ Below w.heap.size w w')
    (p2 : ∀ w : World, Calls Try.prog 73 #[.agg (ints .u8 32 (J)), .agg (ints .u8 32 (upd p 31 (bits .xor .u8 (p 31) 128)))] w fun e w' => e = .returned (.tuple #[.agg (ints .u8 32 (V1)), .bool (!T1)]) ∧ Below w.heap.size w w')
    (e1 : same 32 X1 X2 = true)
    (e2 : same 32 X1 nought = false)
    (e3 : same 32 V1 V1 = true)
    (e4 : same 32 J J = true) :
    Calls Try.prog 23 #[.agg (ints .u8 32 (j)), .agg (ints .u8 32 (k)), .agg (ints .u8 32 (p))] w fun e w' => e = .returned (.bool true) ∧ Below w.heap.size w w' := by
  have hG := Grew.refl w
  have fj : True := trivial
  have fk : True := trivial
  have fp : True := trivial
  go_enter Try.func23, Try.ntmps23
  go_wp2_with fail
  replace fj : objAt (((w.alloc (.cells (ints .u8 32 (j)) 23)).alloc (.cells (ints .u8 32 (k)) 23)).alloc (.cells (ints .u8 32 (p)) 23)) (w.heap.size) = some (.cells (ints .u8 32 (j)) 23) := by (repeat (first | assumption | exact objAt_alloc_at _ _ _ rfl | (refine objAt_alloc_at _ _ _ ?_; (simp; done)) | refine keep_alloc _ ?_ | refine keep_drewN _ ?_ | refine keep_more _ ?_ | exact keep_row _ (by assumption) | refine keep_setRow _ _ ?_ (by first | omega | (simp; omega) | simp)))
  replace fk : objAt (((w.alloc (.cells (ints .u8 32 (j)) 23)).alloc (.cells (ints .u8 32 (k)) 23)).alloc (.cells (ints .u8 32 (p)) 23)) (w.heap.size + 1) = some (.cells (ints .u8 32 (k)) 23) := by (repeat (first | assumption | exact objAt_alloc_at _ _ _ rfl | (refine objAt_alloc_at _ _ _ ?_; (simp; done)) | refine keep_alloc _ ?_ | refine keep_drewN _ ?_ | refine keep_more _ ?_ | exact keep_row _ (by assumption) | refine keep_setRow _ _ ?_ (by first | omega | (simp; omega) | simp)))
  replace fp : objAt (((w.alloc (.cells (ints .u8 32 (j)) 23)).alloc (.cells (ints .u8 32 (k)) 23)).alloc (.cells (ints .u8 32 (p)) 23)) (w.heap.size + 1 + 1) = some (.cells (ints .u8 32 (p)) 23) := by (repeat (first | assumption | exact objAt_alloc_at _ _ _ rfl | (refine objAt_alloc_at _ _ _ ?_; (simp; done)) | refine keep_alloc _ ?_ | refine keep_drewN _ ?_ | refine keep_more _ ?_ | exact keep_row _ (by assumption) | refine keep_setRow _ _ ?_ (by first | omega | (simp; omega) | simp)))
  replace hG : Below w.heap.size w (((w.alloc (.cells (ints .u8 32 (j)) 23)).alloc (.cells (ints .u8 32 (k)) 23)).alloc (.cells (ints .u8 32 (p)) 23)) := by (repeat (first | assumption | exact Grew.refl _ | refine Grew.more ?_ _ | refine Grew.alloc ?_ _ | refine Grew.drewN ?_ _ | refine Grew.setRow ?_ _ _ (by omega) | refine Grew.setRow ?_ _ _ (by simp; omega) | refine Grew.setRow ?_ _ _ (by simp)))
  generalize ((w.alloc (.cells (ints .u8 32 (j)) 23)).alloc (.cells (ints .u8 32 (k)) 23)).alloc (.cells (ints .u8 32 (p)) 23) = w1 at *
  have lfj := lt_of_objAt fj
  have lfk := lt_of_objAt fk
  have lfp := lt_of_objAt fp
  go_wp2_with fail
  (refine (awake6_any _).mono ?_; rintro e w2 ⟨rfl, hb⟩; replace fj : objAt w2 (w.heap.size) = some (.cells (ints .u8 32 (j)) 23) := keep_below hb (by (repeat (first | assumption | exact objAt_alloc_at _ _ _ rfl | (refine objAt_alloc_at _ _ _ ?_; (simp; done)) | refine keep_alloc _ ?_ | refine keep_drewN _ ?_ | refine keep_more _ ?_ | exact keep_row _ (by assumption) | refine keep_setRow _ _ ?_ (by first | omega | (simp; omega) | simp)))); have lfj := lt_of_objAt fj; replace fk : objAt w2 (w.heap.size + 1) = some (.cells (ints .u8 32 (k)) 23) := keep_below hb (by (repeat (first | assumption | exact objAt_alloc_at _ _ _ rfl | (refine objAt_alloc_at _ _ _ ?_; (simp; done)) | refine keep_alloc _ ?_ | refine keep_drewN _ ?_ | refine keep_more _ ?_ | exact keep_row _ (by assumption) | refine keep_setRow _ _ ?_ (by first | omega | (simp; omega) | simp)))); have lfk := lt_of_objAt fk; replace fp : objAt w2 (w.heap.size + 1 + 1) = some (.cells (ints .u8 32 (p)) 23) := keep_below hb (by (repeat (first | assumption | exact objAt_alloc_at _ _ _ rfl | (refine objAt_alloc_at _ _ _ ?_; (simp; done)) | refine keep_alloc _ ?_ | refine keep_drewN _ ?_ | refine keep_more _ ?_ | exact keep_row _ (by assumption) | refine keep_setRow _ _ ?_ (by first | omega | (simp; omega) | simp)))); have lfp := lt_of_objAt fp; replace hG : Below w.heap.size w w2 := Grew.trans (by (repeat (first | assumption | exact Grew.refl _ | refine Grew.more ?_ _ | refine Grew.alloc ?_ _ | refine Grew.drewN ?_ _ | refine Grew.setRow ?_ _ _ (by omega) | refine Grew.setRow ?_ _ _ (by simp; omega) | refine Grew.setRow ?_ _ _ (by simp)))) hb; clear hb)
  have hp31 := hp 31 (by decide)
  go_wp2_with fail
  (refine wp_rel (by kernel_rfl) (by kernel_rfl) ?_; (repeat (first | refine exv_skip rfl ?_ | (refine exv_call rfl ?_; apply Exists.intro))); refine exv_nil ?_; intro γ hinj hbase; (repeat (first | (refine rel_quiet rfl ?_; ((first | go_big_quiet_skip | (go_big_quiet_want; go_big_quiet_op; go_big_quiet_on)); refine wpQuiet_nil ?_)) | (first | (refine rel_skip_some rfl (fun _ => rfl) ?_; ((first | go_big_quiet_skip | (go_big_quiet_want; go_big_quiet_op; go_big_quiet_on)); refine wpQuiet_nil ?_)) | refine rel_skip_none rfl (fun _ => rfl) ?_) | ((try simp only [Nat.zero_add, Nat.reduceAdd]); apply rel_box alloc_cls; (focus rfl); (focus (first | exact cells_agg _ | exact cells_int _ _ | exact cells_bool _ | rfl)); (focus ((repeat (refine fits_cons ⟨by (first | exact stab_full _ _ _ | exact stab_hdr _ _ _ | exact stab_hdr_at _ _ _ _ | exact stab_full_at _ _ _ _ (hinj _ _ (by decide))), by (first | exact stab_full _ _ _ | exact stab_hdr _ _ _ | exact stab_hdr_at _ _ _ _ | exact stab_full_at _ _ _ _ (hinj _ _ (by decide)))⟩ ?_)); exact fits_nil (by (first | exact stab_full _ _ _ | exact stab_hdr _ _ _ | exact stab_hdr_at _ _ _ _ | exact stab_full_at _ _ _ _ (hinj _ _ (by decide)))))); ((first | go_big_quiet_skip | (go_big_quiet_want; go_big_quiet_op; go_big_quiet_on)); refine wpQuiet_nil ?_)) | ((try simp only [Nat.zero_add, Nat.reduceAdd]); apply rel_alloc _ _ alloc_cls; (focus rfl); (focus (intro W; (first | exact zero_key _ | exact zero_elem _ | exact zero_num _ | exact zero_pair _))); (focus exact cells_ints _ _ _); (focus ((repeat (refine fits_cons ⟨by (first | exact stab_full _ _ _ | exact stab_hdr _ _ _ | exact stab_hdr_at _ _ _ _ | exact stab_full_at _ _ _ _ (hinj _ _ (by decide))), by (first | exact stab_full _ _ _ | exact stab_hdr _ _ _ | exact stab_hdr_at _ _ _ _ | exact stab_full_at _ _ _ _ (hinj _ _ (by decide)))⟩ ?_)); exact fits_nil (by (first | exact stab_full _ _ _ | exact stab_hdr _ _ _ | exact stab_hdr_at _ _ _ _ | exact stab_full_at _ _ _ _ (hinj _ _ (by decide)))))); ((first | go_big_quiet_skip | (go_big_quiet_want; go_big_quiet_op; go_big_quiet_on)); refine wpQuiet_nil ?_)) | ((try simp only [Nat.zero_add, Nat.reduceAdd]); apply rel_slice alloc_cls; (focus rfl); (focus (intro W; simp only [List.map_toArray, List.map_cons, List.map_nil]; first | fail)); (focus ((repeat (refine fits_cons ⟨by (first | exact stab_full _ _ _ | exact stab_hdr _ _ _ | exact stab_hdr_at _ _ _ _ | exact stab_full_at _ _ _ _ (hinj _ _ (by decide))), by (first | exact stab_full _ _ _ | exact stab_hdr _ _ _ | exact stab_hdr_at _ _ _ _ | exact stab_full_at _ _ _ _ (hinj _ _ (by decide)))⟩ ?_)); exact fits_nil (by (first | exact stab_full _ _ _ | exact stab_hdr _ _ _ | exact stab_hdr_at _ _ _ _ | exact stab_full_at _ _ _ _ (hinj _ _ (by decide)))))); ((first | go_big_quiet_skip | (go_big_quiet_want; go_big_quiet_op; go_big_quiet_on)); refine wpQuiet_nil ?_)) | ((try simp only [Nat.zero_add, Nat.reduceAdd]); apply rel_store (setRow_cls (hbase _)); (focus rfl); (focus rfl); (focus rfl); (focus (first | exact cells_agg _ | exact cells_int _ _ | exact cells_bool _ | rfl)); rotate_left 3; (focus (first | exact List.mem_cons_self .. | exact List.mem_cons_of_mem _ (List.mem_cons_self ..) | exact List.mem_cons_of_mem _ (List.mem_cons_of_mem _ (List.mem_cons_self ..)) | exact List.mem_cons_of_mem _ (List.mem_cons_of_mem _ (List.mem_cons_of_mem _ (List.mem_cons_self ..))) | exact List.mem_cons_of_mem _ (List.mem_cons_of_mem _ (List.mem_cons_of_mem _ (List.mem_cons_of_mem _ (List.mem_cons_self ..)))))); rotate_right 3; (focus kernel_rfl); (focus exact ints_size _ _ _); (focus exact ints_ones _ _ _); (focus (decide +kernel)); (focus ((repeat (refine fits_cons ⟨by (first | exact stab_full _ _ _ | exact stab_hdr _ _ _ | exact stab_hdr_at _ _ _ _ | exact stab_full_at _ _ _ _ (hinj _ _ (by decide))), by (first | exact stab_full _ _ _ | exact stab_hdr _ _ _ | exact stab_hdr_at _ _ _ _ | exact stab_full_at _ _ _ _ (hinj _ _ (by decide)))⟩ ?_)); exact fits_nil (by (first | exact stab_full _ _ _ | exact stab_hdr _ _ _ | exact stab_hdr_at _ _ _ _ | exact stab_full_at _ _ _ _ (hinj _ _ (by decide))))))) | (apply rel_fact; (focus rfl); (focus rfl); (focus rfl); (focus (intro W hC hF; go_big_quiet_want; go_big_quiet_op; (first | go_big_quiet_on | (apply Exists.intro; refine ⟨fun _ => ?_, ?_⟩; (focus (first | (with_reducible exact Calls.of_more (b2 _)) | (with_reducible exact Calls.of_more (s1 _)))); go_big_quiet_on)); exact wpQuiet_nil rfl)); (focus (exact fun _ => rfl)); ((first | go_big_quiet_skip | (go_big_quiet_want; go_big_quiet_op; go_big_quiet_on)); refine wpQuiet_nil ?_)))))
  (refine rel_nil ?_; rintro _ ⟨mq, rfl⟩ hF; simp only [List.forall_mem_cons] at hF; obtain ⟨fx, -⟩ := hF)
  replace fj : objAt (more w2 mq) (w.heap.size) = some (.cells (ints .u8 32 (j)) 23) := keep_more _ fj
  replace fk : objAt (more w2 mq) (w.heap.size + 1) = some (.cells (ints .u8 32 (k)) 23) := keep_more _ fk
  replace fp : objAt (more w2 mq) (w.heap.size + 1 + 1) = some (.cells (ints .u8 32 (p)) 23) := keep_more _ fp
  replace hG : Below w.heap.size w (more w2 mq) := Grew.more hG _
  replace fx : objAt (more w2 mq) (γ 7) = some (.cells (ints .u8 32 (X1)) 23) := fx
  clear lfj lfk lfp
  clear hinj hbase
  generalize γ 7 = gx at *
  generalize more w2 mq = w3 at *
  clear γ
  have lfj := lt_of_objAt fj
  have lfk := lt_of_objAt fk
  have lfp := lt_of_objAt fp
  have lfx := lt_of_objAt fx
  go_wp2_with fail
  (refine wp_rel (by kernel_rfl) (by kernel_rfl) ?_; (repeat (first | refine exv_skip rfl ?_ | (refine exv_call rfl ?_; apply Exists.intro))); refine exv_nil ?_; intro γ hinj hbase; (repeat (first | (refine rel_quiet rfl ?_; ((first | go_big_quiet_skip | (go_big_quiet_want; go_big_quiet_op; go_big_quiet_on)); refine wpQuiet_nil ?_)) | (first | (refine rel_skip_some rfl (fun _ => rfl) ?_; ((first | go_big_quiet_skip | (go_big_quiet_want; go_big_quiet_op; go_big_quiet_on)); refine wpQuiet_nil ?_)) | refine rel_skip_none rfl (fun _ => rfl) ?_) | ((try simp only [Nat.zero_add, Nat.reduceAdd]); apply rel_box alloc_cls; (focus rfl); (focus (first | exact cells_agg _ | exact cells_int _ _ | exact cells_bool _ | rfl)); (focus ((repeat (refine fits_cons ⟨by (first | exact stab_full _ _ _ | exact stab_hdr _ _ _ | exact stab_hdr_at _ _ _ _ | exact stab_full_at _ _ _ _ (hinj _ _ (by decide))), by (first | exact stab_full _ _ _ | exact stab_hdr _ _ _ | exact stab_hdr_at _ _ _ _ | exact stab_full_at _ _ _ _ (hinj _ _ (by decide)))⟩ ?_)); exact fits_nil (by (first | exact stab_full _ _ _ | exact stab_hdr _ _ _ | exact stab_hdr_at _ _ _ _ | exact stab_full_at _ _ _ _ (hinj _ _ (by decide)))))); ((first | go_big_quiet_skip | (go_big_quiet_want; go_big_quiet_op; go_big_quiet_on)); refine wpQuiet_nil ?_)) | ((try simp only [Nat.zero_add, Nat.reduceAdd]); apply rel_alloc _ _ alloc_cls; (focus rfl); (focus (intro W; (first | exact zero_key _ | exact zero_elem _ | exact zero_num _ | exact zero_pair _))); (focus exact cells_ints _ _ _); (focus ((repeat (refine fits_cons ⟨by (first | exact stab_full _ _ _ | exact stab_hdr _ _ _ | exact stab_hdr_at _ _ _ _ | exact stab_full_at _ _ _ _ (hinj _ _ (by decide))), by (first | exact stab_full _ _ _ | exact stab_hdr _ _ _ | exact stab_hdr_at _ _ _ _ | exact stab_full_at _ _ _ _ (hinj _ _ (by decide)))⟩ ?_)); exact fits_nil (by (first | exact stab_full _ _ _ | exact stab_hdr _ _ _ | exact stab_hdr_at _ _ _ _ | exact stab_full_at _ _ _ _ (hinj _ _ (by decide)))))); ((first | go_big_quiet_skip | (go_big_quiet_want; go_big_quiet_op; go_big_quiet_on)); refine wpQuiet_nil ?_)) | ((try simp only [Nat.zero_add, Nat.reduceAdd]); apply rel_slice alloc_cls; (focus rfl); (focus (intro W; simp only [List.map_toArray, List.map_cons, List.map_nil]; first | fail)); (focus ((repeat (refine fits_cons ⟨by (first | exact stab_full _ _ _ | exact stab_hdr _ _ _ | exact stab_hdr_at _ _ _ _ | exact stab_full_at _ _ _ _ (hinj _ _ (by decide))), by (first | exact stab_full _ _ _ | exact stab_hdr _ _ _ | exact stab_hdr_at _ _ _ _ | exact stab_full_at _ _ _ _ (hinj _ _ (by decide)))⟩ ?_)); exact fits_nil (by (first | exact stab_full _ _ _ | exact stab_hdr _ _ _ | exact stab_hdr_at _ _ _ _ | exact stab_full_at _ _ _ _ (hinj _ _ (by decide)))))); ((first | go_big_quiet_skip | (go_big_quiet_want; go_big_quiet_op; go_big_quiet_on)); refine wpQuiet_nil ?_)) | ((try simp only [Nat.zero_add, Nat.reduceAdd]); apply rel_store (setRow_cls (hbase _)); (focus rfl); (focus rfl); (focus rfl); (focus (first | exact cells_agg _ | exact cells_int _ _ | exact cells_bool _ | rfl)); rotate_left 3; (focus (first | exact List.mem_cons_self .. | exact List.mem_cons_of_mem _ (List.mem_cons_self ..) | exact List.mem_cons_of_mem _ (List.mem_cons_of_mem _ (List.mem_cons_self ..)) | exact List.mem_cons_of_mem _ (List.mem_cons_of_mem _ (List.mem_cons_of_mem _ (List.mem_cons_self ..))) | exact List.mem_cons_of_mem _ (List.mem_cons_of_mem _ (List.mem_cons_of_mem _ (List.mem_cons_of_mem _ (List.mem_cons_self ..)))))); rotate_right 3; (focus kernel_rfl); (focus exact ints_size _ _ _); (focus exact ints_ones _ _ _); (focus (decide +kernel)); (focus ((repeat (refine fits_cons ⟨by (first | exact stab_full _ _ _ | exact stab_hdr _ _ _ | exact stab_hdr_at _ _ _ _ | exact stab_full_at _ _ _ _ (hinj _ _ (by decide))), by (first | exact stab_full _ _ _ | exact stab_hdr _ _ _ | exact stab_hdr_at _ _ _ _ | exact stab_full_at _ _ _ _ (hinj _ _ (by decide)))⟩ ?_)); exact fits_nil (by (first | exact stab_full _ _ _ | exact stab_hdr _ _ _ | exact stab_hdr_at _ _ _ _ | exact stab_full_at _ _ _ _ (hinj _ _ (by decide))))))) | (apply rel_fact; (focus rfl); (focus rfl); (focus rfl); (focus (intro W hC hF; go_big_quiet_want; go_big_quiet_op; (first | go_big_quiet_on | (apply Exists.intro; refine ⟨fun _ => ?_, ?_⟩; (focus (first | (with_reducible exact Calls.of_more (b1 _)) | (with_reducible exact Calls.of_more (s2 _)))); go_big_quiet_on)); exact wpQuiet_nil rfl)); (focus (exact fun _ => rfl)); ((first | go_big_quiet_skip | (go_big_quiet_want; go_big_quiet_op; go_big_quiet_on)); refine wpQuiet_nil ?_)))))
  (refine rel_nil ?_; rintro _ ⟨mq, rfl⟩ hF; simp only [List.forall_mem_cons] at hF; obtain ⟨fy, -⟩ := hF)
  replace fj : objAt (more w3 mq) (w.heap.size) = some (.cells (ints .u8 32 (j)) 23) := keep_more _ fj
  replace fk : objAt (more w3 mq) (w.heap.size + 1) = some (.cells (ints .u8 32 (k)) 23) := keep_more _ fk
  replace fp : objAt (more w3 mq) (w.heap.size + 1 + 1) = some (.cells (ints .u8 32 (p)) 23) := keep_more _ fp
  replace fx : objAt (more w3 mq) (gx) = some (.cells (ints .u8 32 (X1)) 23) := keep_more _ fx
  replace hG : Below w.heap.size w (more w3 mq) := Grew.more hG _
  replace fy : objAt (more w3 mq) (γ 7) = some (.cells (ints .u8 32 (X2)) 23) := fy
  clear lfj lfk lfp lfx
  clear hinj hbase
  generalize γ 7 = gy at *
  generalize more w3 mq = w4 at *
  clear γ
  have lfj := lt_of_objAt fj
  have lfk := lt_of_objAt fk
  have lfp := lt_of_objAt fp
  have lfx := lt_of_objAt fx
  have lfy := lt_of_objAt fy
  go_wp2_with fail
  have fo : objAt (w4.alloc (.cells (ints .u8 32 (upd p 31 (bits .xor .u8 (p 31) 128))) 23)) w4.heap.size = some (.cells (ints .u8 32 (upd p 31 (bits .xor .u8 (p 31) 128))) 23) := objAt_alloc_at _ _ _ rfl
  replace fj : objAt (w4.alloc (.cells (ints .u8 32 (upd p 31 (bits .xor .u8 (p 31) 128))) 23)) (w.heap.size) = some (.cells (ints .u8 32 (j)) 23) := keep_alloc _ fj
  replace fk : objAt (w4.alloc (.cells (ints .u8 32 (upd p 31 (bits .xor .u8 (p 31) 128))) 23)) (w.heap.size + 1) = some (.cells (ints .u8 32 (k)) 23) := keep_alloc _ fk
  replace fp : objAt (w4.alloc (.cells (ints .u8 32 (upd p 31 (bits .xor .u8 (p 31) 128))) 23)) (w.heap.size + 1 + 1) = some (.cells (ints .u8 32 (p)) 23) := keep_alloc _ fp
  replace fx : objAt (w4.alloc (.cells (ints .u8 32 (upd p 31 (bits .xor .u8 (p 31) 128))) 23)) (gx) = some (.cells (ints .u8 32 (X1)) 23) := keep_alloc _ fx
  replace fy : objAt (w4.alloc (.cells (ints .u8 32 (upd p 31 (bits .xor .u8 (p 31) 128))) 23)) (gy) = some (.cells (ints .u8 32 (X2)) 23) := keep_alloc _ fy
  replace hG : Below w.heap.size w (w4.alloc (.cells (ints .u8 32 (upd p 31 (bits .xor .u8 (p 31) 128))) 23)) := Grew.alloc hG _
  clear lfj lfk lfp lfx lfy
  generalize w4.alloc (.cells (ints .u8 32 (upd p 31 (bits .xor .u8 (p 31) 128))) 23) = w5 at *
  generalize w4.heap.size = go at *
  have lfj := lt_of_objAt fj
  have lfk := lt_of_objAt fk
  have lfp := lt_of_objAt fp
  have lfx := lt_of_objAt fx
  have lfy := lt_of_objAt fy
  have lfo := lt_of_objAt fo
  go_wp2_with fail
  (refine (p1 _).mono ?_; rintro e w6 ⟨rfl, hb⟩; replace fj : objAt w6 (w.heap.size) = some (.cells (ints .u8 32 (j)) 23) := keep_below hb (by (repeat (first | assumption | exact objAt_alloc_at _ _ _ rfl | (refine objAt_alloc_at _ _ _ ?_; (simp; done)) | refine keep_alloc _ ?_ | refine keep_drewN _ ?_ | refine keep_more _ ?_ | exact keep_row _ (by assumption) | refine keep_setRow _ _ ?_ (by first | omega | (simp; omega) | simp)))); have lfj := lt_of_objAt fj; replace fk : objAt w6 (w.heap.size + 1) = some (.cells (ints .u8 32 (k)) 23) := keep_below hb (by (repeat (first | assumption | exact objAt_alloc_at _ _ _ rfl | (refine objAt_alloc_at _ _ _ ?_; (simp; done)) | refine keep_alloc _ ?_ | refine keep_drewN _ ?_ | refine keep_more _ ?_ | exact keep_row _ (by assumption) | refine keep_setRow _ _ ?_ (by first | omega | (simp; omega) | simp)))); have lfk := lt_of_objAt fk; replace fp : objAt w6 (w.heap.size + 1 + 1) = some (.cells (ints .u8 32 (p)) 23) := keep_below hb (by (repeat (first | assumption | exact objAt_alloc_at _ _ _ rfl | (refine objAt_alloc_at _ _ _ ?_; (simp; done)) | refine keep_alloc _ ?_ | refine keep_drewN _ ?_ | refine keep_more _ ?_ | exact keep_row _ (by assumption) | refine keep_setRow _ _ ?_ (by first | omega | (simp; omega) | simp)))); have lfp := lt_of_objAt fp; replace fx : objAt w6 (gx) = some (.cells (ints .u8 32 (X1)) 23) := keep_below hb (by (repeat (first | assumption | exact objAt_alloc_at _ _ _ rfl | (refine objAt_alloc_at _ _ _ ?_; (simp; done)) | refine keep_alloc _ ?_ | refine keep_drewN _ ?_ | refine keep_more _ ?_ | exact keep_row _ (by assumption) | refine keep_setRow _ _ ?_ (by first | omega | (simp; omega) | simp)))); have lfx := lt_of_objAt fx; replace fy : objAt w6 (gy) = some (.cells (ints .u8 32 (X2)) 23) := keep_below hb (by (repeat (first | assumption | exact objAt_alloc_at _ _ _ rfl | (refine objAt_alloc_at _ _ _ ?_; (simp; done)) | refine keep_alloc _ ?_ | refine keep_drewN _ ?_ | refine keep_more _ ?_ | exact keep_row _ (by assumption) | refine keep_setRow _ _ ?_ (by first | omega | (simp; omega) | simp)))); have lfy := lt_of_objAt fy; replace fo : objAt w6 (go) = some (.cells (ints .u8 32 (upd p 31 (bits .xor .u8 (p 31) 128))) 23) := keep_below hb (by (repeat (first | assumption | exact objAt_alloc_at _ _ _ rfl | (refine objAt_alloc_at _ _ _ ?_; (simp; done)) | refine keep_alloc _ ?_ | refine keep_drewN _ ?_ | refine keep_more _ ?_ | exact keep_row _ (by assumption) | refine keep_setRow _ _ ?_ (by first | omega | (simp; omega) | simp)))); have lfo := lt_of_objAt fo; replace hG : Below w.heap.size w w6 := Grew.trans (by (repeat (first | assumption | exact Grew.refl _ | refine Grew.more ?_ _ | refine Grew.alloc ?_ _ | refine Grew.drewN ?_ _ | refine Grew.setRow ?_ _ _ (by omega) | refine Grew.setRow ?_ _ _ (by simp; omega) | refine Grew.setRow ?_ _ _ (by simp)))) hb; clear hb)
  go_wp2_with fail
  have fc : objAt (w6.alloc (.cells (ints .u8 32 (V1)) 23)) w6.heap.size = some (.cells (ints .u8 32 (V1)) 23) := objAt_alloc_at _ _ _ rfl
  replace fj : objAt (w6.alloc (.cells (ints .u8 32 (V1)) 23)) (w.heap.size) = some (.cells (ints .u8 32 (j)) 23) := keep_alloc _ fj
  replace fk : objAt (w6.alloc (.cells (ints .u8 32 (V1)) 23)) (w.heap.size + 1) = some (.cells (ints .u8 32 (k)) 23) := keep_alloc _ fk
  replace fp : objAt (w6.alloc (.cells (ints .u8 32 (V1)) 23)) (w.heap.size + 1 + 1) = some (.cells (ints .u8 32 (p)) 23) := keep_alloc _ fp
  replace fx : objAt (w6.alloc (.cells (ints .u8 32 (V1)) 23)) (gx) = some (.cells (ints .u8 32 (X1)) 23) := keep_alloc _ fx
  replace fy : objAt (w6.alloc (.cells (ints .u8 32 (V1)) 23)) (gy) = some (.cells (ints .u8 32 (X2)) 23) := keep_alloc _ fy
  replace fo : objAt (w6.alloc (.cells (ints .u8 32 (V1)) 23)) (go) = some (.cells (ints .u8 32 (upd p 31 (bits .xor .u8 (p 31) 128))) 23) := keep_alloc _ fo
  replace hG : Below w.heap.size w (w6.alloc (.cells (ints .u8 32 (V1)) 23)) := Grew.alloc hG _
  clear lfj lfk lfp lfx lfy lfo
  generalize w6.alloc (.cells (ints .u8 32 (V1)) 23) = w7 at *
  generalize w6.heap.size = gc at *
  have lfj := lt_of_objAt fj
  have lfk := lt_of_objAt fk
  have lfp := lt_of_objAt fp
  have lfx := lt_of_objAt fx
  have lfy := lt_of_objAt fy
  have lfo := lt_of_objAt fo
  have lfc := lt_of_objAt fc
  go_wp2_with fail
  (refine wp_rel (by kernel_rfl) (by kernel_rfl) ?_; (repeat (first | refine exv_skip rfl ?_ | (refine exv_call rfl ?_; apply Exists.intro))); refine exv_nil ?_; intro γ hinj hbase; (repeat (first | (refine rel_quiet rfl ?_; ((first | go_big_quiet_skip | (go_big_quiet_want; go_big_quiet_op; go_big_quiet_on)); refine wpQuiet_nil ?_)) | (first | (refine rel_skip_some rfl (fun _ => rfl) ?_; ((first | go_big_quiet_skip | (go_big_quiet_want; go_big_quiet_op; go_big_quiet_on)); refine wpQuiet_nil ?_)) | refine rel_skip_none rfl (fun _ => rfl) ?_) | ((try simp only [Nat.zero_add, Nat.reduceAdd]); apply rel_box alloc_cls; (focus rfl); (focus (first | exact cells_agg _ | exact cells_int _ _ | exact cells_bool _ | rfl)); (focus ((repeat (refine fits_cons ⟨by (first | exact stab_full _ _ _ | exact stab_hdr _ _ _ | exact stab_hdr_at _ _ _ _ | exact stab_full_at _ _ _ _ (hinj _ _ (by decide))), by (first | exact stab_full _ _ _ | exact stab_hdr _ _ _ | exact stab_hdr_at _ _ _ _ | exact stab_full_at _ _ _ _ (hinj _ _ (by decide)))⟩ ?_)); exact fits_nil (by (first | exact stab_full _ _ _ | exact stab_hdr _ _ _ | exact stab_hdr_at _ _ _ _ | exact stab_full_at _ _ _ _ (hinj _ _ (by decide)))))); ((first | go_big_quiet_skip | (go_big_quiet_want; go_big_quiet_op; go_big_quiet_on)); refine wpQuiet_nil ?_)) | ((try simp only [Nat.zero_add, Nat.reduceAdd]); apply rel_alloc _ _ alloc_cls; (focus rfl); (focus (intro W; (first | exact zero_key _ | exact zero_elem _ | exact zero_num _ | exact zero_pair _))); (focus exact cells_ints _ _ _); (focus ((repeat (refine fits_cons ⟨by (first | exact stab_full _ _ _ | exact stab_hdr _ _ _ | exact stab_hdr_at _ _ _ _ | exact stab_full_at _ _ _ _ (hinj _ _ (by decide))), by (first | exact stab_full _ _ _ | exact stab_hdr _ _ _ | exact stab_hdr_at _ _ _ _ | exact stab_full_at _ _ _ _ (hinj _ _ (by decide)))⟩ ?_)); exact fits_nil (by (first | exact stab_full _ _ _ | exact stab_hdr _ _ _ | exact stab_hdr_at _ _ _ _ | exact stab_full_at _ _ _ _ (hinj _ _ (by decide)))))); ((first | go_big_quiet_skip | (go_big_quiet_want; go_big_quiet_op; go_big_quiet_on)); refine wpQuiet_nil ?_)) | ((try simp only [Nat.zero_add, Nat.reduceAdd]); apply rel_slice alloc_cls; (focus rfl); (focus (intro W; simp only [List.map_toArray, List.map_cons, List.map_nil]; first | fail)); (focus ((repeat (refine fits_cons ⟨by (first | exact stab_full _ _ _ | exact stab_hdr _ _ _ | exact stab_hdr_at _ _ _ _ | exact stab_full_at _ _ _ _ (hinj _ _ (by decide))), by (first | exact stab_full _ _ _ | exact stab_hdr _ _ _ | exact stab_hdr_at _ _ _ _ | exact stab_full_at _ _ _ _ (hinj _ _ (by decide)))⟩ ?_)); exact fits_nil (by (first | exact stab_full _ _ _ | exact stab_hdr _ _ _ | exact stab_hdr_at _ _ _ _ | exact stab_full_at _ _ _ _ (hinj _ _ (by decide)))))); ((first | go_big_quiet_skip | (go_big_quiet_want; go_big_quiet_op; go_big_quiet_on)); refine wpQuiet_nil ?_)) | ((try simp only [Nat.zero_add, Nat.reduceAdd]); apply rel_store (setRow_cls (hbase _)); (focus rfl); (focus rfl); (focus rfl); (focus (first | exact cells_agg _ | exact cells_int _ _ | exact cells_bool _ | rfl)); rotate_left 3; (focus (first | exact List.mem_cons_self .. | exact List.mem_cons_of_mem _ (List.mem_cons_self ..) | exact List.mem_cons_of_mem _ (List.mem_cons_of_mem _ (List.mem_cons_self ..)) | exact List.mem_cons_of_mem _ (List.mem_cons_of_mem _ (List.mem_cons_of_mem _ (List.mem_cons_self ..))) | exact List.mem_cons_of_mem _ (List.mem_cons_of_mem _ (List.mem_cons_of_mem _ (List.mem_cons_of_mem _ (List.mem_cons_self ..)))))); rotate_right 3; (focus kernel_rfl); (focus exact ints_size _ _ _); (focus exact ints_ones _ _ _); (focus (decide +kernel)); (focus ((repeat (refine fits_cons ⟨by (first | exact stab_full _ _ _ | exact stab_hdr _ _ _ | exact stab_hdr_at _ _ _ _ | exact stab_full_at _ _ _ _ (hinj _ _ (by decide))), by (first | exact stab_full _ _ _ | exact stab_hdr _ _ _ | exact stab_hdr_at _ _ _ _ | exact stab_full_at _ _ _ _ (hinj _ _ (by decide)))⟩ ?_)); exact fits_nil (by (first | exact stab_full _ _ _ | exact stab_hdr _ _ _ | exact stab_hdr_at _ _ _ _ | exact stab_full_at _ _ _ _ (hinj _ _ (by decide))))))) | (apply rel_fact; (focus rfl); (focus rfl); (focus rfl); (focus (intro W hC hF; go_big_quiet_want; go_big_quiet_op; (first | go_big_quiet_on | (apply Exists.intro; refine ⟨fun _ => ?_, ?_⟩; (focus (first | (with_reducible exact Calls.of_more (m1 _)) | (with_reducible exact Calls.of_more (p2 _)))); go_big_quiet_on)); exact wpQuiet_nil rfl)); (focus (exact fun _ => rfl)); ((first | go_big_quiet_skip | (go_big_quiet_want; go_big_quiet_op; go_big_quiet_on)); refine wpQuiet_nil ?_)))))
  (refine rel_nil ?_; rintro _ ⟨mq, rfl⟩ hF; simp only [List.forall_mem_cons] at hF; obtain ⟨fd, -⟩ := hF)
  replace fj : objAt (more w7 mq) (w.heap.size) = some (.cells (ints .u8 32 (j)) 23) := keep_more _ fj
  replace fk : objAt (more w7 mq) (w.heap.size + 1) = some (.cells (ints .u8 32 (k)) 23) := keep_more _ fk
  replace fp : objAt (more w7 mq) (w.heap.size + 1 + 1) = some (.cells (ints .u8 32 (p)) 23) := keep_more _ fp
  replace fx : objAt (more w7 mq) (gx) = some (.cells (ints .u8 32 (X1)) 23) := keep_more _ fx
  replace fy : objAt (more w7 mq) (gy) = some (.cells (ints .u8 32 (X2)) 23) := keep_more _ fy
  replace fo : objAt (more w7 mq) (go) = some (.cells (ints .u8 32 (upd p 31 (bits .xor .u8 (p 31) 128))) 23) := keep_more _ fo
  replace fc : objAt (more w7 mq) (gc) = some (.cells (ints .u8 32 (V1)) 23) := keep_more _ fc
  replace hG : Below w.heap.size w (more w7 mq) := Grew.more hG _
  replace fd : objAt (more w7 mq) (γ 7) = some (.cells (ints .u8 32 (V1)) 23) := fd
  clear lfj lfk lfp lfx lfy lfo lfc
  clear hinj hbase
  generalize γ 7 = gd at *
  generalize more w7 mq = w8 at *
  clear γ
  have lfj := lt_of_objAt fj
  have lfk := lt_of_objAt fk
  have lfp := lt_of_objAt fp
  have lfx := lt_of_objAt fx
  have lfy := lt_of_objAt fy
  have lfo := lt_of_objAt fo
  have lfc := lt_of_objAt fc
  have lfd := lt_of_objAt fd
  go_wp2_with fail
  ((first | (with_reducible refine wp_region_on (by kernel_rfl) (by kernel_rfl) ?_) | refine wp_region_more (by kernel_rfl) (by kernel_rfl) ?_); (repeat (first | go_big_quiet_skip | (go_big_quiet_want; go_big_quiet_op; first | go_big_quiet_on | (apply Exists.intro; refine ⟨fun _ => ?_, ?_⟩; (focus (first | (with_reducible exact Calls.of_more (m1 _)) | (with_reducible exact Calls.of_more (m2 _)))); go_big_quiet_on)))); refine wpQuiet_nil ?_; rintro _ ⟨mq, rfl⟩)
  go_wp2
  go_ret
  exact ⟨rfl, by (repeat (first | assumption | exact Grew.refl _ | refine Grew.more ?_ _ | refine Grew.alloc ?_ _ | refine Grew.drewN ?_ _ | refine Grew.setRow ?_ _ _ (by omega) | refine Grew.setRow ?_ _ _ (by simp; omega) | refine Grew.setRow ?_ _ _ (by simp)))⟩
theorem clamp_again (j : Nat → Int) (w : World) (hj : Bytes 32 j) : Calls Try.prog 75 #[.agg (ints .u8 32 (clampF j))] w fun e w' => e = .returned (.agg (ints .u8 32 (clampF j))) ∧ Below w.heap.size w w' := by
  have h := clamp_any (clampF j) w (clamp_bytes j hj)
  rwa [clamp_twice] at h
theorem shared_other (j p : Nat → Int) (w : World) (hj : Bytes 32 j) (hp : Bytes 32 p) : Calls Try.prog 73 #[.agg (ints .u8 32 (clampF j)), .agg (ints .u8 32 (upd p 31 (bits .xor .u8 (p 31) 128)))] w fun e w' => e = .returned (.tuple #[.agg (ints .u8 32 (keyV (shV j p))), .bool (!decide (shV j p = 0))]) ∧ Below w.heap.size w w' := by
  have x := xor_top (p 31) (hp 31 (by decide)).1 (hp 31 (by decide)).2
  have h := shared_any (clampF j) (upd p 31 (bits .xor .u8 (p 31) 128)) w (clamp_bytes j hj) (bytes_upd 32 p 31 _ hp x.2.1 x.2.2) rfl
  rwa [shV_other j p hp] at h
theorem agrees_any (j k p : Nat → Int) (w : World) (hj : Bytes 32 j) (hk : Bytes 32 k) (hp : Bytes 32 p) :
    Calls Try.prog 23 #[.agg (ints .u8 32 (j)), .agg (ints .u8 32 (k)), .agg (ints .u8 32 (p))] w fun e w' => e = .returned (.bool true) ∧ Below w.heap.size w w' :=
  agrees_walk j k p _ _ _ _ _ _ _ w hp (fun w => base_pub j w hj) (fun w => base_pub k w hk) (fun w => shared_two j k w hj hk) (fun w => shared_two k j w hk hj) (fun w => clamp_any j w hj) (fun w => clamp_again j w hj)
    (fun w => shared_any j p w hj hp rfl) (fun w => shared_other j p w hj hp) (keyV_same (two_swap j k hj hk)) ((same_key0 _ (two_bd j k)).trans (two_ne j k hj hk)) (same_refl _ _) (same_refl _ _)
end Go.Proofs.Ytfapmpnkemogkaa
