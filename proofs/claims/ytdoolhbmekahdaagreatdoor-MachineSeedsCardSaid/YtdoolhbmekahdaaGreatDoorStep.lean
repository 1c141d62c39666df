/- Step -/
import Derived.Test.YtdoolhbmekahdaaGreatDoorMul
import Derived.Test.YtdoolhbmekahdaaGreatDoorMem
import Derived.Test.YtdoolhbmekahdaaGreatDoorInv
set_option maxRecDepth 100000
set_option maxHeartbeats 4000000
namespace Go.Proofs.YtdoolhbmekahdaaGreatDoor
open Go.RowKit
set_option linter.unusedVariables false
set_option linter.unusedSimpArgs false
def sumE (x z : Nat → Int) : Nat → Int := carryF (plus x z)
def difE (x z : Nat → Int) : Nat → Int := carryF (minus x z)
def twE (x z : Nat → Int) : Nat → Int := difE (mulF (sumE x z) (sumE x z)) (mulF (difE x z) (difE x z))
def twX (x z : Nat → Int) : Nat → Int := mulF (mulF (sumE x z) (sumE x z)) (mulF (difE x z) (difE x z))
def twZ (x z : Nat → Int) : Nat → Int := mulF (twE x z) (sumE (mulF (sumE x z) (sumE x z)) (timesF (twE x z) 121665))
def daE (x z x' z' : Nat → Int) : Nat → Int := mulF (difE x' z') (sumE x z)
def cbE (x z x' z' : Nat → Int) : Nat → Int := mulF (sumE x' z') (difE x z)
def boX (x z x' z' : Nat → Int) : Nat → Int := mulF (sumE (daE x z x' z') (cbE x z x' z')) (sumE (daE x z x' z') (cbE x z x' z'))
def boZ (u x z x' z' : Nat → Int) : Nat → Int := mulF u (mulF (difE (daE x z x' z') (cbE x z x' z')) (difE (daE x z x' z') (cbE x z x' z')))
set_option maxHeartbeats 1000000 in
theorem step_any (u x z x' z' : Nat → Int) (w : World) (hu : Under 18014398509481984 (u)) (hx : Under 18014398509481984 (x)) (hz : Under 18014398509481984 (z)) (hx' : Under 18014398509481984 (x')) (hz' : Under 18014398509481984 (z')) :
  Calls Tryz.prog 344 #[.agg (ints .u64 5 (u)), .agg (ints .u64 10 (pairF (x) (z))), .agg (ints .u64 10 (pairF (x') (z')))] w fun e w' => e = .returned (.tuple #[.agg (ints .u64 10 (pairF (twX x z) (twZ x z))), .agg (ints .u64 10 (pairF (boX x z x' z') (boZ u x z x' z')))]) ∧ Below w.heap.size w w' := by
 have hG := Grew.refl w
 have fx : True := trivial
 have fa : True := trivial
 have fb : True := trivial
 have fr : True := trivial
 have fq : True := trivial
 go_enter Tryz.func344, Tryz.ntmps344
 go_wp2_with fail
 replace fx : objAt (((((w.alloc (.cells (ints .u64 5 (u)) 386)).alloc (.cells (ints .u64 10 (pairF (x) (z))) 412)).alloc (.cells (ints .u64 10 (pairF (x') (z'))) 412)).alloc (.cells (ints .u64 10 (pairF (nought) (nought))) 412)).alloc (.cells (ints .u64 10 (pairF (nought) (nought))) 412)) (w.heap.size) = some (.cells (ints .u64 5 (u)) 386) := by exact keep_auto
 replace fa : objAt (((((w.alloc (.cells (ints .u64 5 (u)) 386)).alloc (.cells (ints .u64 10 (pairF (x) (z))) 412)).alloc (.cells (ints .u64 10 (pairF (x') (z'))) 412)).alloc (.cells (ints .u64 10 (pairF (nought) (nought))) 412)).alloc (.cells (ints .u64 10 (pairF (nought) (nought))) 412)) (w.heap.size + 1) = some (.cells (ints .u64 10 (pairF (x) (z))) 412) := by exact keep_auto
 replace fb : objAt (((((w.alloc (.cells (ints .u64 5 (u)) 386)).alloc (.cells (ints .u64 10 (pairF (x) (z))) 412)).alloc (.cells (ints .u64 10 (pairF (x') (z'))) 412)).alloc (.cells (ints .u64 10 (pairF (nought) (nought))) 412)).alloc (.cells (ints .u64 10 (pairF (nought) (nought))) 412)) (w.heap.size + 1 + 1) = some (.cells (ints .u64 10 (pairF (x') (z'))) 412) := by exact keep_auto
 replace fr : objAt (((((w.alloc (.cells (ints .u64 5 (u)) 386)).alloc (.cells (ints .u64 10 (pairF (x) (z))) 412)).alloc (.cells (ints .u64 10 (pairF (x') (z'))) 412)).alloc (.cells (ints .u64 10 (pairF (nought) (nought))) 412)).alloc (.cells (ints .u64 10 (pairF (nought) (nought))) 412)) (w.heap.size + 1 + 1 + 1) = some (.cells (ints .u64 10 (pairF (nought) (nought))) 412) := by exact keep_auto
 replace fq : objAt (((((w.alloc (.cells (ints .u64 5 (u)) 386)).alloc (.cells (ints .u64 10 (pairF (x) (z))) 412)).alloc (.cells (ints .u64 10 (pairF (x') (z'))) 412)).alloc (.cells (ints .u64 10 (pairF (nought) (nought))) 412)).alloc (.cells (ints .u64 10 (pairF (nought) (nought))) 412)) (w.heap.size + 1 + 1 + 1 + 1) = some (.cells (ints .u64 10 (pairF (nought) (nought))) 412) := by exact keep_auto
 replace hG : Below w.heap.size w (((((w.alloc (.cells (ints .u64 5 (u)) 386)).alloc (.cells (ints .u64 10 (pairF (x) (z))) 412)).alloc (.cells (ints .u64 10 (pairF (x') (z'))) 412)).alloc (.cells (ints .u64 10 (pairF (nought) (nought))) 412)).alloc (.cells (ints .u64 10 (pairF (nought) (nought))) 412)) := by exact grew_auto
 generalize ((((w.alloc (.cells (ints .u64 5 (u)) 386)).alloc (.cells (ints .u64 10 (pairF (x) (z))) 412)).alloc (.cells (ints .u64 10 (pairF (x') (z'))) 412)).alloc (.cells (ints .u64 10 (pairF (nought) (nought))) 412)).alloc (.cells (ints .u64 10 (pairF (nought) (nought))) 412) = w1 at *
 have lfx := lt_of_objAt fx
 have lfa := lt_of_objAt fa
 have lfb := lt_of_objAt fb
 have lfr := lt_of_objAt fr
 have lfq := lt_of_objAt fq
 go_wp2_with fail
 (refine wp_rel (by kernel_rfl) (by kernel_rfl) ?_; (repeat (first | refine exv_skip rfl ?_ | (refine exv_call rfl ?_; apply Exists.intro))); refine exv_nil ?_; intro γ hinj hbase; (repeat (first | (refine rel_quiet rfl ?_; ((first | go_big_quiet_skip | (go_big_quiet_want; go_big_quiet_op; go_big_quiet_on)); refine wpQuiet_nil ?_)) | ((first | refine rel_skip_some rfl (fun _ => rfl) ?_ | ((try simp only [Nat.zero_add, Nat.reduceAdd]); apply rel_box alloc_cls; (focus rfl); (focus (first | exact cells_agg _ | exact cells_int _ _ | exact cells_bool _ | rfl)); (focus (exact by_fits))) | ((try simp only [Nat.zero_add, Nat.reduceAdd]); apply rel_alloc _ _ alloc_cls; (focus rfl); (focus (intro W; (first | exact zero_key _ | exact zero_elem _ | exact zero_num _ | exact zero_pair _ | exact zero_rnode _ | exact zero_kpair _))); (focus (first | exact cells_ints _ _ _ | exact cells_two _ _ | rfl)); (focus (exact by_fits))) | ((try simp only [Nat.zero_add, Nat.reduceAdd]); apply rel_slice alloc_cls; (focus rfl); (focus (intro W; simp only [List.map_toArray, List.map_cons, List.map_nil]; first | fail)); (focus (exact by_fits))) | (apply rel_fact; (focus rfl); (focus rfl); (focus rfl); (focus (intro W hC hF; go_big_quiet_want; go_big_quiet_op; (first | go_big_quiet_on | (apply Exists.intro; refine ⟨fun _ => ?_, ?_⟩; (focus (first | (with_reducible exact Calls.of_more (keyV_any _ _ (by exact loose_auto))) | (with_reducible exact Calls.of_more (add_any _ _ _ (by exact loose_auto) (by exact loose_auto))) | (with_reducible exact Calls.of_more (sub_any _ _ _ (by exact loose_auto) (by exact loose_auto))) | (with_reducible exact Calls.of_more (mul_any _ _ _ (by exact loose_auto) (by exact loose_auto))) | (with_reducible exact Calls.of_more (square_any _ _ (by exact loose_auto))) | (with_reducible exact Calls.of_more (times_any _ _ _ (by exact loose_auto) ⟨by decide, by decide⟩)) | (with_reducible exact Calls.of_more (small_any _ _ (by decide) (by decide))) | (with_reducible exact Calls.of_more (ofV_any _ _)))); go_big_quiet_on)); exact wpQuiet_nil rfl)); (focus (first | exact fun _ => ⟨rfl, rfl⟩ | exact fun h => absurd h (by decide))))); ((first | go_big_quiet_skip | (go_big_quiet_want; go_big_quiet_op; go_big_quiet_on)); refine wpQuiet_nil ?_)) | refine rel_skip_none rfl (fun _ => rfl) ?_ | ((try simp only [Nat.zero_add, Nat.reduceAdd]); apply rel_store (setRow_cls (hbase _)); (focus rfl); (focus rfl); (focus rfl); (focus (first | exact cells_agg _ | exact cells_int _ _ | exact cells_bool _ | rfl)); rotate_left 3; (focus (exact by_mem)); rotate_right 3; (focus kernel_rfl); (focus (first | exact ints_size _ _ _ | rfl)); (focus (first | exact ints_ones _ _ _ | exact ones_two _ _ _ _ | kernel_rfl)); (focus (decide +kernel)); (focus (exact by_fits))))))
 (refine rel_nil ?_; rintro _ ⟨mq, rfl⟩ hF; simp only [List.forall_mem_cons] at hF; obtain ⟨fd, fs, -⟩ := hF)
 replace fx : objAt (more w1 mq) (w.heap.size) = some (.cells (ints .u64 5 (u)) 386) := by exact keep_auto
 replace fa : objAt (more w1 mq) (w.heap.size + 1) = some (.cells (ints .u64 10 (pairF (x) (z))) 412) := by exact keep_auto
 replace fb : objAt (more w1 mq) (w.heap.size + 1 + 1) = some (.cells (ints .u64 10 (pairF (x') (z'))) 412) := by exact keep_auto
 replace fr : objAt (more w1 mq) (w.heap.size + 1 + 1 + 1) = some (.cells (ints .u64 10 (pairF (nought) (nought))) 412) := by exact keep_auto
 replace fq : objAt (more w1 mq) (w.heap.size + 1 + 1 + 1 + 1) = some (.cells (ints .u64 10 (pairF (nought) (nought))) 412) := by exact keep_auto
 replace hG : Below w.heap.size w (more w1 mq) := by exact grew_auto
 replace fs : objAt (more w1 mq) (γ 10) = some (.cells (ints .u64 5 (sumE x z)) 386) := fs
 replace fd : objAt (more w1 mq) (γ 11) = some (.cells (ints .u64 5 (difE x z)) 386) := fd
 clear lfx lfa lfb lfr lfq
 clear hinj hbase
 generalize γ 10 = gs at *
 generalize γ 11 = gd at *
 generalize more w1 mq = w2 at *
 clear γ
 have lfx := lt_of_objAt fx
 have lfa := lt_of_objAt fa
 have lfb := lt_of_objAt fb
 have lfr := lt_of_objAt fr
 have lfq := lt_of_objAt fq
 have lfs := lt_of_objAt fs
 have lfd := lt_of_objAt fd
 have lus : Under 18014398509481984 (sumE x z) := loose_plus x z hx hz
 have lud : Under 18014398509481984 (difE x z) := loose_minus x z hx hz
 have lus' : Under 18014398509481984 (sumE x' z') := loose_plus x' z' hx' hz'
 have lud' : Under 18014398509481984 (difE x' z') := loose_minus x' z' hx' hz'
 go_wp2_with fail
 (refine wp_rel (by kernel_rfl) (by kernel_rfl) ?_; (repeat (first | refine exv_skip rfl ?_ | (refine exv_call rfl ?_; apply Exists.intro))); refine exv_nil ?_; intro γ hinj hbase; (repeat (first | (refine rel_quiet rfl ?_; ((first | go_big_quiet_skip | (go_big_quiet_want; go_big_quiet_op; go_big_quiet_on)); refine wpQuiet_nil ?_)) | ((first | refine rel_skip_some rfl (fun _ => rfl) ?_ | ((try simp only [Nat.zero_add, Nat.reduceAdd]); apply rel_box alloc_cls; (focus rfl); (focus (first | exact cells_agg _ | exact cells_int _ _ | exact cells_bool _ | rfl)); (focus (exact by_fits))) | ((try simp only [Nat.zero_add, Nat.reduceAdd]); apply rel_alloc _ _ alloc_cls; (focus rfl); (focus (intro W; (first | exact zero_key _ | exact zero_elem _ | exact zero_num _ | exact zero_pair _ | exact zero_rnode _ | exact zero_kpair _))); (focus (first | exact cells_ints _ _ _ | exact cells_two _ _ | rfl)); (focus (exact by_fits))) | ((try simp only [Nat.zero_add, Nat.reduceAdd]); apply rel_slice alloc_cls; (focus rfl); (focus (intro W; simp only [List.map_toArray, List.map_cons, List.map_nil]; first | fail)); (focus (exact by_fits))) | (apply rel_fact; (focus rfl); (focus rfl); (focus rfl); (focus (intro W hC hF; go_big_quiet_want; go_big_quiet_op; (first | go_big_quiet_on | (apply Exists.intro; refine ⟨fun _ => ?_, ?_⟩; (focus (first | (with_reducible exact Calls.of_more (square_any (sumE x z) _ lus)) | (with_reducible exact Calls.of_more (square_any (difE x z) _ lud)))); go_big_quiet_on)); exact wpQuiet_nil rfl)); (focus (first | exact fun _ => ⟨rfl, rfl⟩ | exact fun h => absurd h (by decide))))); ((first | go_big_quiet_skip | (go_big_quiet_want; go_big_quiet_op; go_big_quiet_on)); refine wpQuiet_nil ?_)) | refine rel_skip_none rfl (fun _ => rfl) ?_ | ((try simp only [Nat.zero_add, Nat.reduceAdd]); apply rel_store (setRow_cls (hbase _)); (focus rfl); (focus rfl); (focus rfl); (focus (first | exact cells_agg _ | exact cells_int _ _ | exact cells_bool _ | rfl)); rotate_left 3; (focus (exact by_mem)); rotate_right 3; (focus kernel_rfl); (focus (first | exact ints_size _ _ _ | rfl)); (focus (first | exact ints_ones _ _ _ | exact ones_two _ _ _ _ | kernel_rfl)); (focus (decide +kernel)); (focus (exact by_fits))))))
 (refine rel_nil ?_; rintro _ ⟨mq, rfl⟩ hF; simp only [List.forall_mem_cons] at hF; obtain ⟨fdd, fss, -⟩ := hF)
 replace fx : objAt (more w2 mq) (w.heap.size) = some (.cells (ints .u64 5 (u)) 386) := by exact keep_auto
 replace fa : objAt (more w2 mq) (w.heap.size + 1) = some (.cells (ints .u64 10 (pairF (x) (z))) 412) := by exact keep_auto
 replace fb : objAt (more w2 mq) (w.heap.size + 1 + 1) = some (.cells (ints .u64 10 (pairF (x') (z'))) 412) := by exact keep_auto
 replace fr : objAt (more w2 mq) (w.heap.size + 1 + 1 + 1) = some (.cells (ints .u64 10 (pairF (nought) (nought))) 412) := by exact keep_auto
 replace fq : objAt (more w2 mq) (w.heap.size + 1 + 1 + 1 + 1) = some (.cells (ints .u64 10 (pairF (nought) (nought))) 412) := by exact keep_auto
 replace fs : objAt (more w2 mq) (gs) = some (.cells (ints .u64 5 (sumE x z)) 386) := by exact keep_auto
 replace fd : objAt (more w2 mq) (gd) = some (.cells (ints .u64 5 (difE x z)) 386) := by exact keep_auto
 replace hG : Below w.heap.size w (more w2 mq) := by exact grew_auto
 replace fss : objAt (more w2 mq) (γ 4) = some (.cells (ints .u64 5 (mulF (sumE x z) (sumE x z))) 386) := fss
 replace fdd : objAt (more w2 mq) (γ 5) = some (.cells (ints .u64 5 (mulF (difE x z) (difE x z))) 386) := fdd
 clear lfx lfa lfb lfr lfq lfs lfd
 clear hinj hbase
 generalize γ 4 = gss at *
 generalize γ 5 = gdd at *
 generalize more w2 mq = w3 at *
 clear γ
 have lfx := lt_of_objAt fx
 have lfa := lt_of_objAt fa
 have lfb := lt_of_objAt fb
 have lfr := lt_of_objAt fr
 have lfq := lt_of_objAt fq
 have lfs := lt_of_objAt fs
 have lfd := lt_of_objAt fd
 have lfss := lt_of_objAt fss
 have lfdd := lt_of_objAt fdd
 have luss : Under 18014398509481984 (mulF (sumE x z) (sumE x z)) := loose_mul _ _ lus lus
 have ludd : Under 18014398509481984 (mulF (difE x z) (difE x z)) := loose_mul _ _ lud lud
 have c0 : ∀ w, Calls Tryz.prog 364 #[.agg (ints .u64 5 (mulF (sumE x z) (sumE x z))), .agg (ints .u64 5 (mulF (difE x z) (difE x z)))] w fun e w' => e = .returned (.agg (ints .u64 5 (twE x z))) ∧ Below w.heap.size w w' := fun w => sub_any _ _ w luss ludd
 go_wp2_with fail
 (refine (c0 _).mono ?_; rintro e w4 ⟨rfl, hb⟩; replace fx : objAt w4 (w.heap.size) = some (.cells (ints .u64 5 (u)) 386) := keep_below hb (by exact keep_auto); have lfx := lt_of_objAt fx; replace fa : objAt w4 (w.heap.size + 1) = some (.cells (ints .u64 10 (pairF (x) (z))) 412) := keep_below hb (by exact keep_auto); have lfa := lt_of_objAt fa; replace fb : objAt w4 (w.heap.size + 1 + 1) = some (.cells (ints .u64 10 (pairF (x') (z'))) 412) := keep_below hb (by exact keep_auto); have lfb := lt_of_objAt fb; replace fr : objAt w4 (w.heap.size + 1 + 1 + 1) = some (.cells (ints .u64 10 (pairF (nought) (nought))) 412) := keep_below hb (by exact keep_auto); have lfr := lt_of_objAt fr; replace fq : objAt w4 (w.heap.size + 1 + 1 + 1 + 1) = some (.cells (ints .u64 10 (pairF (nought) (nought))) 412) := keep_below hb (by exact keep_auto); have lfq := lt_of_objAt fq; replace fs : objAt w4 (gs) = some (.cells (ints .u64 5 (sumE x z)) 386) := keep_below hb (by exact keep_auto); have lfs := lt_of_objAt fs; replace fd : objAt w4 (gd) = some (.cells (ints .u64 5 (difE x z)) 386) := keep_below hb (by exact keep_auto); have lfd := lt_of_objAt fd; replace fss : objAt w4 (gss) = some (.cells (ints .u64 5 (mulF (sumE x z) (sumE x z))) 386) := keep_below hb (by exact keep_auto); have lfss := lt_of_objAt fss; replace fdd : objAt w4 (gdd) = some (.cells (ints .u64 5 (mulF (difE x z) (difE x z))) 386) := keep_below hb (by exact keep_auto); have lfdd := lt_of_objAt fdd; replace hG : Below w.heap.size w w4 := Grew.trans (by exact grew_auto) hb; clear hb)
 go_wp2_with fail
 have fe : objAt (w4.alloc (.cells (ints .u64 5 (twE x z)) 386)) w4.heap.size = some (.cells (ints .u64 5 (twE x z)) 386) := by exact keep_auto
 replace fx : objAt (w4.alloc (.cells (ints .u64 5 (twE x z)) 386)) (w.heap.size) = some (.cells (ints .u64 5 (u)) 386) := by exact keep_auto
 replace fa : objAt (w4.alloc (.cells (ints .u64 5 (twE x z)) 386)) (w.heap.size + 1) = some (.cells (ints .u64 10 (pairF (x) (z))) 412) := by exact keep_auto
 replace fb : objAt (w4.alloc (.cells (ints .u64 5 (twE x z)) 386)) (w.heap.size + 1 + 1) = some (.cells (ints .u64 10 (pairF (x') (z'))) 412) := by exact keep_auto
 replace fr : objAt (w4.alloc (.cells (ints .u64 5 (twE x z)) 386)) (w.heap.size + 1 + 1 + 1) = some (.cells (ints .u64 10 (pairF (nought) (nought))) 412) := by exact keep_auto
 replace fq : objAt (w4.alloc (.cells (ints .u64 5 (twE x z)) 386)) (w.heap.size + 1 + 1 + 1 + 1) = some (.cells (ints .u64 10 (pairF (nought) (nought))) 412) := by exact keep_auto
 replace fs : objAt (w4.alloc (.cells (ints .u64 5 (twE x z)) 386)) (gs) = some (.cells (ints .u64 5 (sumE x z)) 386) := by exact keep_auto
 replace fd : objAt (w4.alloc (.cells (ints .u64 5 (twE x z)) 386)) (gd) = some (.cells (ints .u64 5 (difE x z)) 386) := by exact keep_auto
 replace fss : objAt (w4.alloc (.cells (ints .u64 5 (twE x z)) 386)) (gss) = some (.cells (ints .u64 5 (mulF (sumE x z) (sumE x z))) 386) := by exact keep_auto
 replace fdd : objAt (w4.alloc (.cells (ints .u64 5 (twE x z)) 386)) (gdd) = some (.cells (ints .u64 5 (mulF (difE x z) (difE x z))) 386) := by exact keep_auto
 replace hG : Below w.heap.size w (w4.alloc (.cells (ints .u64 5 (twE x z)) 386)) := by exact grew_auto
 clear lfx lfa lfb lfr lfq lfs lfd lfss lfdd
 generalize w4.alloc (.cells (ints .u64 5 (twE x z)) 386) = w5 at *
 generalize w4.heap.size = ge at *
 have lfx := lt_of_objAt fx
 have lfa := lt_of_objAt fa
 have lfb := lt_of_objAt fb
 have lfr := lt_of_objAt fr
 have lfq := lt_of_objAt fq
 have lfs := lt_of_objAt fs
 have lfd := lt_of_objAt fd
 have lfss := lt_of_objAt fss
 have lfdd := lt_of_objAt fdd
 have lfe := lt_of_objAt fe
 have lue : Under 18014398509481984 (twE x z) := loose_minus _ _ luss ludd
 have lut : Under 18014398509481984 (timesF (twE x z) 121665) := loose_times _ 121665 lue ⟨by decide, by decide⟩
 have lust : Under 18014398509481984 (sumE (mulF (sumE x z) (sumE x z)) (timesF (twE x z) 121665)) := loose_plus _ _ luss lut
 have lda : Under 18014398509481984 (daE x z x' z') := loose_mul _ _ lud' lus
 have lcb : Under 18014398509481984 (cbE x z x' z') := loose_mul _ _ lus' lud
 have ls2 : Under 18014398509481984 (sumE (daE x z x' z') (cbE x z x' z')) := loose_plus _ _ lda lcb
 have ld2 : Under 18014398509481984 (difE (daE x z x' z') (cbE x z x' z')) := loose_minus _ _ lda lcb
 have lq2 : Under 18014398509481984 (mulF (difE (daE x z x' z') (cbE x z x' z')) (difE (daE x z x' z') (cbE x z x' z'))) := loose_mul _ _ ld2 ld2
 have c1 : ∀ w, Calls Tryz.prog 366 #[.agg (ints .u64 5 (mulF (sumE x z) (sumE x z))), .agg (ints .u64 5 (mulF (difE x z) (difE x z)))] w fun e w' => e = .returned (.agg (ints .u64 5 (twX x z))) ∧ Below w.heap.size w w' := fun w => mul_any _ _ w luss ludd
 have c2 := fun w => times_any _ 121665 w lue ⟨by decide, by decide⟩
 have c3 : ∀ w, Calls Tryz.prog 363 #[.agg (ints .u64 5 (mulF (sumE x z) (sumE x z))), .agg (ints .u64 5 (timesF (twE x z) 121665))] w fun e w' => e = .returned (.agg (ints .u64 5 (sumE (mulF (sumE x z) (sumE x z)) (timesF (twE x z) 121665)))) ∧ Below w.heap.size w w' := fun w => add_any _ _ w luss lut
 have c4 : ∀ w, Calls Tryz.prog 366 #[.agg (ints .u64 5 (twE x z)), .agg (ints .u64 5 (sumE (mulF (sumE x z) (sumE x z)) (timesF (twE x z) 121665)))] w fun e w' => e = .returned (.agg (ints .u64 5 (twZ x z))) ∧ Below w.heap.size w w' := fun w => mul_any _ _ w lue lust
 have c5 : ∀ w, Calls Tryz.prog 364 #[.agg (ints .u64 5 (x')), .agg (ints .u64 5 (z'))] w fun e w' => e = .returned (.agg (ints .u64 5 (difE x' z'))) ∧ Below w.heap.size w w' := fun w => sub_any _ _ w hx' hz'
 have c6 : ∀ w, Calls Tryz.prog 366 #[.agg (ints .u64 5 (difE x' z')), .agg (ints .u64 5 (sumE x z))] w fun e w' => e = .returned (.agg (ints .u64 5 (daE x z x' z'))) ∧ Below w.heap.size w w' := fun w => mul_any _ _ w lud' lus
 have c7 : ∀ w, Calls Tryz.prog 363 #[.agg (ints .u64 5 (x')), .agg (ints .u64 5 (z'))] w fun e w' => e = .returned (.agg (ints .u64 5 (sumE x' z'))) ∧ Below w.heap.size w w' := fun w => add_any _ _ w hx' hz'
 have c8 : ∀ w, Calls Tryz.prog 366 #[.agg (ints .u64 5 (sumE x' z')), .agg (ints .u64 5 (difE x z))] w fun e w' => e = .returned (.agg (ints .u64 5 (cbE x z x' z'))) ∧ Below w.heap.size w w' := fun w => mul_any _ _ w lus' lud
 have c9 : ∀ w, Calls Tryz.prog 363 #[.agg (ints .u64 5 (daE x z x' z')), .agg (ints .u64 5 (cbE x z x' z'))] w fun e w' => e = .returned (.agg (ints .u64 5 (sumE (daE x z x' z') (cbE x z x' z')))) ∧ Below w.heap.size w w' := fun w => add_any _ _ w lda lcb
 have c10 : ∀ w, Calls Tryz.prog 364 #[.agg (ints .u64 5 (daE x z x' z')), .agg (ints .u64 5 (cbE x z x' z'))] w fun e w' => e = .returned (.agg (ints .u64 5 (difE (daE x z x' z') (cbE x z x' z')))) ∧ Below w.heap.size w w' := fun w => sub_any _ _ w lda lcb
 have c11 : ∀ w, Calls Tryz.prog 365 #[.agg (ints .u64 5 (sumE (daE x z x' z') (cbE x z x' z')))] w fun e w' => e = .returned (.agg (ints .u64 5 (boX x z x' z'))) ∧ Below w.heap.size w w' := fun w => square_any _ w ls2
 have c12 := fun w => square_any _ w ld2
 have c13 : ∀ w, Calls Tryz.prog 366 #[.agg (ints .u64 5 (u)), .agg (ints .u64 5 (mulF (difE (daE x z x' z') (cbE x z x' z')) (difE (daE x z x' z') (cbE x z x' z'))))] w fun e w' => e = .returned (.agg (ints .u64 5 (boZ u x z x' z'))) ∧ Below w.heap.size w w' := fun w => mul_any _ _ w hu lq2
 go_wp2_with fail
 (refine wp_rel (by kernel_rfl) (by kernel_rfl) ?_; (repeat (first | refine exv_skip rfl ?_ | (refine exv_call rfl ?_; apply Exists.intro))); refine exv_nil ?_; intro γ hinj hbase; (repeat (first | (refine rel_quiet rfl ?_; ((first | go_big_quiet_skip | (go_big_quiet_want; go_big_quiet_op; go_big_quiet_on)); refine wpQuiet_nil ?_)) | ((first | refine rel_skip_some rfl (fun _ => rfl) ?_ | ((try simp only [Nat.zero_add, Nat.reduceAdd]); apply rel_box alloc_cls; (focus rfl); (focus (first | exact cells_agg _ | exact cells_int _ _ | exact cells_bool _ | rfl)); (focus (exact by_fits))) | ((try simp only [Nat.zero_add, Nat.reduceAdd]); apply rel_alloc _ _ alloc_cls; (focus rfl); (focus (intro W; (first | exact zero_key _ | exact zero_elem _ | exact zero_num _ | exact zero_pair _ | exact zero_rnode _ | exact zero_kpair _))); (focus (first | exact cells_ints _ _ _ | exact cells_two _ _ | rfl)); (focus (exact by_fits))) | ((try simp only [Nat.zero_add, Nat.reduceAdd]); apply rel_slice alloc_cls; (focus rfl); (focus (intro W; simp only [List.map_toArray, List.map_cons, List.map_nil]; first | fail)); (focus (exact by_fits))) | (apply rel_fact; (focus rfl); (focus rfl); (focus rfl); (focus (intro W hC hF; go_big_quiet_want; go_big_quiet_op; (first | go_big_quiet_on | (apply Exists.intro; refine ⟨fun _ => ?_, ?_⟩; (focus (first | (with_reducible exact Calls.of_more (c1 _)) | (with_reducible exact Calls.of_more (c2 _)) | (with_reducible exact Calls.of_more (c3 _)) | (with_reducible exact Calls.of_more (c4 _)))); go_big_quiet_on)); exact wpQuiet_nil rfl)); (focus (first | exact fun _ => ⟨rfl, rfl⟩ | exact fun h => absurd h (by decide))))); ((first | go_big_quiet_skip | (go_big_quiet_want; go_big_quiet_op; go_big_quiet_on)); refine wpQuiet_nil ?_)) | refine rel_skip_none rfl (fun _ => rfl) ?_ | ((try simp only [Nat.zero_add, Nat.reduceAdd]); apply rel_store (setRow_cls (hbase _)); (focus rfl); (focus rfl); (focus rfl); (focus (first | exact cells_agg _ | exact cells_int _ _ | exact cells_bool _ | rfl)); rotate_left 3; (focus (exact by_mem)); rotate_right 3; (focus kernel_rfl); (focus (first | exact ints_size _ _ _ | rfl)); (focus (first | exact ints_ones _ _ _ | exact ones_two _ _ _ _ | kernel_rfl)); (focus (decide +kernel)); (focus (exact by_fits))))))
 (refine rel_nil ?_; rintro _ ⟨mq, rfl⟩ hF; simp only [List.forall_mem_cons] at hF; obtain ⟨ft, -⟩ := hF)
 have ntr : ¬ (γ 10 = w.heap.size + 1 + 1 + 1) := by have := hbase 10; omega
 have ntq : ¬ (γ 10 = w.heap.size + 1 + 1 + 1 + 1) := by have := hbase 10; omega
 replace fx : objAt (more w5 mq) (w.heap.size) = some (.cells (ints .u64 5 (u)) 386) := by exact keep_auto
 replace fa : objAt (more w5 mq) (w.heap.size + 1) = some (.cells (ints .u64 10 (pairF (x) (z))) 412) := by exact keep_auto
 replace fb : objAt (more w5 mq) (w.heap.size + 1 + 1) = some (.cells (ints .u64 10 (pairF (x') (z'))) 412) := by exact keep_auto
 replace fr : objAt (more w5 mq) (w.heap.size + 1 + 1 + 1) = some (.cells (ints .u64 10 (pairF (nought) (nought))) 412) := by exact keep_auto
 replace fq : objAt (more w5 mq) (w.heap.size + 1 + 1 + 1 + 1) = some (.cells (ints .u64 10 (pairF (nought) (nought))) 412) := by exact keep_auto
 replace fs : objAt (more w5 mq) (gs) = some (.cells (ints .u64 5 (sumE x z)) 386) := by exact keep_auto
 replace fd : objAt (more w5 mq) (gd) = some (.cells (ints .u64 5 (difE x z)) 386) := by exact keep_auto
 replace fss : objAt (more w5 mq) (gss) = some (.cells (ints .u64 5 (mulF (sumE x z) (sumE x z))) 386) := by exact keep_auto
 replace fdd : objAt (more w5 mq) (gdd) = some (.cells (ints .u64 5 (mulF (difE x z) (difE x z))) 386) := by exact keep_auto
 replace fe : objAt (more w5 mq) (ge) = some (.cells (ints .u64 5 (twE x z)) 386) := by exact keep_auto
 replace hG : Below w.heap.size w (more w5 mq) := by exact grew_auto
 replace ft : objAt (more w5 mq) (γ 10) = some (.cells (ints .u64 10 (pairF (twX x z) (twZ x z))) 412) := ft
 clear lfx lfa lfb lfr lfq lfs lfd lfss lfdd lfe
 clear hinj hbase
 generalize γ 10 = gt at *
 generalize more w5 mq = w6 at *
 clear γ
 have lfx := lt_of_objAt fx
 have lfa := lt_of_objAt fa
 have lfb := lt_of_objAt fb
 have lfr := lt_of_objAt fr
 have lfq := lt_of_objAt fq
 have lfs := lt_of_objAt fs
 have lfd := lt_of_objAt fd
 have lfss := lt_of_objAt fss
 have lfdd := lt_of_objAt fdd
 have lfe := lt_of_objAt fe
 have lft := lt_of_objAt ft
 clear fss lfss
 clear fdd lfdd
 clear fe lfe
 go_wp2_with fail
 (refine wp_rel (by kernel_rfl) (by kernel_rfl) ?_; (repeat (first | refine exv_skip rfl ?_ | (refine exv_call rfl ?_; apply Exists.intro))); refine exv_nil ?_; intro γ hinj hbase; (repeat (first | (refine rel_quiet rfl ?_; ((first | go_big_quiet_skip | (go_big_quiet_want; go_big_quiet_op; go_big_quiet_on)); refine wpQuiet_nil ?_)) | ((first | refine rel_skip_some rfl (fun _ => rfl) ?_ | ((try simp only [Nat.zero_add, Nat.reduceAdd]); apply rel_box alloc_cls; (focus rfl); (focus (first | exact cells_agg _ | exact cells_int _ _ | exact cells_bool _ | rfl)); (focus (exact by_fits))) | ((try simp only [Nat.zero_add, Nat.reduceAdd]); apply rel_alloc _ _ alloc_cls; (focus rfl); (focus (intro W; (first | exact zero_key _ | exact zero_elem _ | exact zero_num _ | exact zero_pair _ | exact zero_rnode _ | exact zero_kpair _))); (focus (first | exact cells_ints _ _ _ | exact cells_two _ _ | rfl)); (focus (exact by_fits))) | ((try simp only [Nat.zero_add, Nat.reduceAdd]); apply rel_slice alloc_cls; (focus rfl); (focus (intro W; simp only [List.map_toArray, List.map_cons, List.map_nil]; first | fail)); (focus (exact by_fits))) | (apply rel_fact; (focus rfl); (focus rfl); (focus rfl); (focus (intro W hC hF; go_big_quiet_want; go_big_quiet_op; (first | go_big_quiet_on | (apply Exists.intro; refine ⟨fun _ => ?_, ?_⟩; (focus (first | (with_reducible exact Calls.of_more (c5 _)) | (with_reducible exact Calls.of_more (c6 _)))); go_big_quiet_on)); exact wpQuiet_nil rfl)); (focus (first | exact fun _ => ⟨rfl, rfl⟩ | exact fun h => absurd h (by decide))))); ((first | go_big_quiet_skip | (go_big_quiet_want; go_big_quiet_op; go_big_quiet_on)); refine wpQuiet_nil ?_)) | refine rel_skip_none rfl (fun _ => rfl) ?_ | ((try simp only [Nat.zero_add, Nat.reduceAdd]); apply rel_store (setRow_cls (hbase _)); (focus rfl); (focus rfl); (focus rfl); (focus (first | exact cells_agg _ | exact cells_int _ _ | exact cells_bool _ | rfl)); rotate_left 3; (focus (exact by_mem)); rotate_right 3; (focus kernel_rfl); (focus (first | exact ints_size _ _ _ | rfl)); (focus (first | exact ints_ones _ _ _ | exact ones_two _ _ _ _ | kernel_rfl)); (focus (decide +kernel)); (focus (exact by_fits))))))
 (refine rel_nil ?_; rintro _ ⟨mq, rfl⟩ hF; simp only [List.forall_mem_cons] at hF; obtain ⟨fda, -⟩ := hF)
 replace fx : objAt (more w6 mq) (w.heap.size) = some (.cells (ints .u64 5 (u)) 386) := by exact keep_auto
 replace fa : objAt (more w6 mq) (w.heap.size + 1) = some (.cells (ints .u64 10 (pairF (x) (z))) 412) := by exact keep_auto
 replace fb : objAt (more w6 mq) (w.heap.size + 1 + 1) = some (.cells (ints .u64 10 (pairF (x') (z'))) 412) := by exact keep_auto
 replace fr : objAt (more w6 mq) (w.heap.size + 1 + 1 + 1) = some (.cells (ints .u64 10 (pairF (nought) (nought))) 412) := by exact keep_auto
 replace fq : objAt (more w6 mq) (w.heap.size + 1 + 1 + 1 + 1) = some (.cells (ints .u64 10 (pairF (nought) (nought))) 412) := by exact keep_auto
 replace fs : objAt (more w6 mq) (gs) = some (.cells (ints .u64 5 (sumE x z)) 386) := by exact keep_auto
 replace fd : objAt (more w6 mq) (gd) = some (.cells (ints .u64 5 (difE x z)) 386) := by exact keep_auto
 replace ft : objAt (more w6 mq) (gt) = some (.cells (ints .u64 10 (pairF (twX x z) (twZ x z))) 412) := by exact keep_auto
 replace hG : Below w.heap.size w (more w6 mq) := by exact grew_auto
 replace fda : objAt (more w6 mq) (γ 7) = some (.cells (ints .u64 5 (daE x z x' z')) 386) := fda
 clear lfx lfa lfb lfr lfq lfs lfd lft
 clear hinj hbase
 generalize γ 7 = gda at *
 generalize more w6 mq = w7 at *
 clear γ
 have lfx := lt_of_objAt fx
 have lfa := lt_of_objAt fa
 have lfb := lt_of_objAt fb
 have lfr := lt_of_objAt fr
 have lfq := lt_of_objAt fq
 have lfs := lt_of_objAt fs
 have lfd := lt_of_objAt fd
 have lft := lt_of_objAt ft
 have lfda := lt_of_objAt fda
 go_wp2_with fail
 (refine wp_rel (by kernel_rfl) (by kernel_rfl) ?_; (repeat (first | refine exv_skip rfl ?_ | (refine exv_call rfl ?_; apply Exists.intro))); refine exv_nil ?_; intro γ hinj hbase; (repeat (first | (refine rel_quiet rfl ?_; ((first | go_big_quiet_skip | (go_big_quiet_want; go_big_quiet_op; go_big_quiet_on)); refine wpQuiet_nil ?_)) | ((first | refine rel_skip_some rfl (fun _ => rfl) ?_ | ((try simp only [Nat.zero_add, Nat.reduceAdd]); apply rel_box alloc_cls; (focus rfl); (focus (first | exact cells_agg _ | exact cells_int _ _ | exact cells_bool _ | rfl)); (focus (exact by_fits))) | ((try simp only [Nat.zero_add, Nat.reduceAdd]); apply rel_alloc _ _ alloc_cls; (focus rfl); (focus (intro W; (first | exact zero_key _ | exact zero_elem _ | exact zero_num _ | exact zero_pair _ | exact zero_rnode _ | exact zero_kpair _))); (focus (first | exact cells_ints _ _ _ | exact cells_two _ _ | rfl)); (focus (exact by_fits))) | ((try simp only [Nat.zero_add, Nat.reduceAdd]); apply rel_slice alloc_cls; (focus rfl); (focus (intro W; simp only [List.map_toArray, List.map_cons, List.map_nil]; first | fail)); (focus (exact by_fits))) | (apply rel_fact; (focus rfl); (focus rfl); (focus rfl); (focus (intro W hC hF; go_big_quiet_want; go_big_quiet_op; (first | go_big_quiet_on | (apply Exists.intro; refine ⟨fun _ => ?_, ?_⟩; (focus (first | (with_reducible exact Calls.of_more (c7 _)) | (with_reducible exact Calls.of_more (c8 _)))); go_big_quiet_on)); exact wpQuiet_nil rfl)); (focus (first | exact fun _ => ⟨rfl, rfl⟩ | exact fun h => absurd h (by decide))))); ((first | go_big_quiet_skip | (go_big_quiet_want; go_big_quiet_op; go_big_quiet_on)); refine wpQuiet_nil ?_)) | refine rel_skip_none rfl (fun _ => rfl) ?_ | ((try simp only [Nat.zero_add, Nat.reduceAdd]); apply rel_store (setRow_cls (hbase _)); (focus rfl); (focus rfl); (focus rfl); (focus (first | exact cells_agg _ | exact cells_int _ _ | exact cells_bool _ | rfl)); rotate_left 3; (focus (exact by_mem)); rotate_right 3; (focus kernel_rfl); (focus (first | exact ints_size _ _ _ | rfl)); (focus (first | exact ints_ones _ _ _ | exact ones_two _ _ _ _ | kernel_rfl)); (focus (decide +kernel)); (focus (exact by_fits))))))
 (refine rel_nil ?_; rintro _ ⟨mq, rfl⟩ hF; simp only [List.forall_mem_cons] at hF; obtain ⟨fcb, -⟩ := hF)
 replace fx : objAt (more w7 mq) (w.heap.size) = some (.cells (ints .u64 5 (u)) 386) := by exact keep_auto
 replace fa : objAt (more w7 mq) (w.heap.size + 1) = some (.cells (ints .u64 10 (pairF (x) (z))) 412) := by exact keep_auto
 replace fb : objAt (more w7 mq) (w.heap.size + 1 + 1) = some (.cells (ints .u64 10 (pairF (x') (z'))) 412) := by exact keep_auto
 replace fr : objAt (more w7 mq) (w.heap.size + 1 + 1 + 1) = some (.cells (ints .u64 10 (pairF (nought) (nought))) 412) := by exact keep_auto
 replace fq : objAt (more w7 mq) (w.heap.size + 1 + 1 + 1 + 1) = some (.cells (ints .u64 10 (pairF (nought) (nought))) 412) := by exact keep_auto
 replace fs : objAt (more w7 mq) (gs) = some (.cells (ints .u64 5 (sumE x z)) 386) := by exact keep_auto
 replace fd : objAt (more w7 mq) (gd) = some (.cells (ints .u64 5 (difE x z)) 386) := by exact keep_auto
 replace ft : objAt (more w7 mq) (gt) = some (.cells (ints .u64 10 (pairF (twX x z) (twZ x z))) 412) := by exact keep_auto
 replace fda : objAt (more w7 mq) (gda) = some (.cells (ints .u64 5 (daE x z x' z')) 386) := by exact keep_auto
 replace hG : Below w.heap.size w (more w7 mq) := by exact grew_auto
 replace fcb : objAt (more w7 mq) (γ 7) = some (.cells (ints .u64 5 (cbE x z x' z')) 386) := fcb
 clear lfx lfa lfb lfr lfq lfs lfd lft lfda
 clear hinj hbase
 generalize γ 7 = gcb at *
 generalize more w7 mq = w8 at *
 clear γ
 have lfx := lt_of_objAt fx
 have lfa := lt_of_objAt fa
 have lfb := lt_of_objAt fb
 have lfr := lt_of_objAt fr
 have lfq := lt_of_objAt fq
 have lfs := lt_of_objAt fs
 have lfd := lt_of_objAt fd
 have lft := lt_of_objAt ft
 have lfda := lt_of_objAt fda
 have lfcb := lt_of_objAt fcb
 go_wp2_with fail
 (refine wp_rel (by kernel_rfl) (by kernel_rfl) ?_; (repeat (first | refine exv_skip rfl ?_ | (refine exv_call rfl ?_; apply Exists.intro))); refine exv_nil ?_; intro γ hinj hbase; (repeat (first | (refine rel_quiet rfl ?_; ((first | go_big_quiet_skip | (go_big_quiet_want; go_big_quiet_op; go_big_quiet_on)); refine wpQuiet_nil ?_)) | ((first | refine rel_skip_some rfl (fun _ => rfl) ?_ | ((try simp only [Nat.zero_add, Nat.reduceAdd]); apply rel_box alloc_cls; (focus rfl); (focus (first | exact cells_agg _ | exact cells_int _ _ | exact cells_bool _ | rfl)); (focus (exact by_fits))) | ((try simp only [Nat.zero_add, Nat.reduceAdd]); apply rel_alloc _ _ alloc_cls; (focus rfl); (focus (intro W; (first | exact zero_key _ | exact zero_elem _ | exact zero_num _ | exact zero_pair _ | exact zero_rnode _ | exact zero_kpair _))); (focus (first | exact cells_ints _ _ _ | exact cells_two _ _ | rfl)); (focus (exact by_fits))) | ((try simp only [Nat.zero_add, Nat.reduceAdd]); apply rel_slice alloc_cls; (focus rfl); (focus (intro W; simp only [List.map_toArray, List.map_cons, List.map_nil]; first | fail)); (focus (exact by_fits))) | (apply rel_fact; (focus rfl); (focus rfl); (focus rfl); (focus (intro W hC hF; go_big_quiet_want; go_big_quiet_op; (first | go_big_quiet_on | (apply Exists.intro; refine ⟨fun _ => ?_, ?_⟩; (focus (first | (with_reducible exact Calls.of_more (c9 _)) | (with_reducible exact Calls.of_more (c10 _)) | (with_reducible exact Calls.of_more (c11 _)) | (with_reducible exact Calls.of_more (c12 _)) | (with_reducible exact Calls.of_more (c13 _)))); go_big_quiet_on)); exact wpQuiet_nil rfl)); (focus (first | exact fun _ => ⟨rfl, rfl⟩ | exact fun h => absurd h (by decide))))); ((first | go_big_quiet_skip | (go_big_quiet_want; go_big_quiet_op; go_big_quiet_on)); refine wpQuiet_nil ?_)) | refine rel_skip_none rfl (fun _ => rfl) ?_ | ((try simp only [Nat.zero_add, Nat.reduceAdd]); apply rel_store (setRow_cls (hbase _)); (focus rfl); (focus rfl); (focus rfl); (focus (first | exact cells_agg _ | exact cells_int _ _ | exact cells_bool _ | rfl)); rotate_left 3; (focus (exact by_mem)); rotate_right 3; (focus kernel_rfl); (focus (first | exact ints_size _ _ _ | rfl)); (focus (first | exact ints_ones _ _ _ | exact ones_two _ _ _ _ | kernel_rfl)); (focus (decide +kernel)); (focus (exact by_fits))))))
 (refine rel_nil ?_; rintro _ ⟨mq, rfl⟩ hF; simp only [List.forall_mem_cons] at hF; obtain ⟨fbo, -⟩ := hF)
 have nbor : ¬ (γ 11 = w.heap.size + 1 + 1 + 1) := by have := hbase 11; omega
 have nboq : ¬ (γ 11 = w.heap.size + 1 + 1 + 1 + 1) := by have := hbase 11; omega
 replace fx : objAt (more w8 mq) (w.heap.size) = some (.cells (ints .u64 5 (u)) 386) := by exact keep_auto
 replace fa : objAt (more w8 mq) (w.heap.size + 1) = some (.cells (ints .u64 10 (pairF (x) (z))) 412) := by exact keep_auto
 replace fb : objAt (more w8 mq) (w.heap.size + 1 + 1) = some (.cells (ints .u64 10 (pairF (x') (z'))) 412) := by exact keep_auto
 replace fr : objAt (more w8 mq) (w.heap.size + 1 + 1 + 1) = some (.cells (ints .u64 10 (pairF (nought) (nought))) 412) := by exact keep_auto
 replace fq : objAt (more w8 mq) (w.heap.size + 1 + 1 + 1 + 1) = some (.cells (ints .u64 10 (pairF (nought) (nought))) 412) := by exact keep_auto
 replace fs : objAt (more w8 mq) (gs) = some (.cells (ints .u64 5 (sumE x z)) 386) := by exact keep_auto
 replace fd : objAt (more w8 mq) (gd) = some (.cells (ints .u64 5 (difE x z)) 386) := by exact keep_auto
 replace ft : objAt (more w8 mq) (gt) = some (.cells (ints .u64 10 (pairF (twX x z) (twZ x z))) 412) := by exact keep_auto
 replace fda : objAt (more w8 mq) (gda) = some (.cells (ints .u64 5 (daE x z x' z')) 386) := by exact keep_auto
 replace fcb : objAt (more w8 mq) (gcb) = some (.cells (ints .u64 5 (cbE x z x' z')) 386) := by exact keep_auto
 replace hG : Below w.heap.size w (more w8 mq) := by exact grew_auto
 replace fbo : objAt (more w8 mq) (γ 11) = some (.cells (ints .u64 10 (pairF (boX x z x' z') (boZ u x z x' z'))) 412) := fbo
 clear lfx lfa lfb lfr lfq lfs lfd lft lfda lfcb
 clear hinj hbase
 generalize γ 11 = gbo at *
 generalize more w8 mq = w9 at *
 clear γ
 have lfx := lt_of_objAt fx
 have lfa := lt_of_objAt fa
 have lfb := lt_of_objAt fb
 have lfr := lt_of_objAt fr
 have lfq := lt_of_objAt fq
 have lfs := lt_of_objAt fs
 have lfd := lt_of_objAt fd
 have lft := lt_of_objAt ft
 have lfda := lt_of_objAt fda
 have lfcb := lt_of_objAt fcb
 have lfbo := lt_of_objAt fbo
 go_wp2_with fail
 go_region
 all_goals
  go_wp2
  refine ret_row2 rfl _ _ 412 412 _ _ (0, 0) (0, 0) _ _ rfl rfl (by simp [go_sem, fr, fq]) (by simp [go_sem, fr, fq]) Tryz.underlying412 rfl (by rw [ints_size]; kernel_rfl) Tryz.underlying412 rfl (by rw [ints_size]; kernel_rfl) rfl ⟨rfl, by exact grew_auto⟩
end Go.Proofs.YtdoolhbmekahdaaGreatDoor
namespace Go.Proofs.YtdoolhbmekahdaaGreatDoor
open Go.RowKit
set_option linter.unusedVariables false
set_option linter.unusedSimpArgs false
set_option maxHeartbeats 1000000 in
theorem affine_any (x z : Nat → Int) (w : World) (hx : Under 18014398509481984 (x)) (hz : Under 18014398509481984 (z)) :
  Calls Tryz.prog 345 #[.agg (ints .u64 10 (pairF (x) (z)))] w fun e w' => e = .returned (.agg (ints .u64 5 (mulF x (invF z)))) ∧ Below w.heap.size w w' := by
 have hG := Grew.refl w
 have fp : True := trivial
 have fr : True := trivial
 go_enter Tryz.func345, Tryz.ntmps345
 have c1 := fun w => invert_any z w hz
 have c2 := fun w => mul_any x (invF z) w hx (loose_inv z hz)
 go_wp2_with fail
 replace fp : objAt ((w.alloc (.cells (ints .u64 10 (pairF (x) (z))) 412)).alloc (.cells (ints .u64 5 (nought)) 386)) (w.heap.size) = some (.cells (ints .u64 10 (pairF (x) (z))) 412) := by exact keep_auto
 replace fr : objAt ((w.alloc (.cells (ints .u64 10 (pairF (x) (z))) 412)).alloc (.cells (ints .u64 5 (nought)) 386)) (w.heap.size + 1) = some (.cells (ints .u64 5 (nought)) 386) := by exact keep_auto
 replace hG : Below w.heap.size w ((w.alloc (.cells (ints .u64 10 (pairF (x) (z))) 412)).alloc (.cells (ints .u64 5 (nought)) 386)) := by exact grew_auto
 generalize (w.alloc (.cells (ints .u64 10 (pairF (x) (z))) 412)).alloc (.cells (ints .u64 5 (nought)) 386) = w1 at *
 have lfp := lt_of_objAt fp
 have lfr := lt_of_objAt fr
 ((first | (with_reducible refine wp_region_tail_on 6 (by kernel_rfl) (by kernel_rfl) (by kernel_rfl) (by kernel_rfl) (by kernel_rfl) ?_) | refine wp_region_tail_more 6 (by kernel_rfl) (by kernel_rfl) (by kernel_rfl) (by kernel_rfl) (by kernel_rfl) ?_); simp only [List.take_succ_cons, List.take_zero]; (repeat (first | go_big_quiet_skip | (go_big_quiet_want; go_big_quiet_op; first | go_big_quiet_on | (apply Exists.intro; refine ⟨fun _ => ?_, ?_⟩; (focus (first | (with_reducible exact Calls.of_more (c1 _)) | (with_reducible exact Calls.of_more (c2 _)))); go_big_quiet_on)))); refine wpQuiet_nil ?_; rintro _ ⟨mq, rfl⟩)
 (refine tail_one (i := 6) (fuel := 0) (by kernel_rfl) rfl ?_; intro K hK; go_simp; refine hK _ _ ?_; clear hK K)
 (refine wpAny_done (by kernel_rfl) ?_ _)
 go_wp2
 refine ret_row rfl _ 386 _ (0, 0) _ rfl (keep_more _ (keep_row _ fr)) Tryz.underlying386 rfl (by rw [ints_size]; kernel_rfl) rfl ⟨rfl, by exact grew_auto⟩
set_option maxHeartbeats 1000000 in
theorem swapP_any (bit : Int) (x z x' z' : Nat → Int) (w : World) (hx : W64 5 (x)) (hz : W64 5 (z)) (hx' : W64 5 (x')) (hz' : W64 5 (z')) :
  Calls Tryz.prog 343 #[.int .i64 bit, .agg (ints .u64 10 (pairF (x) (z))), .agg (ints .u64 10 (pairF (x') (z')))] w fun e w' => e = .returned (.tuple #[.agg (ints .u64 10 (pairF (oneOf bit x x') (oneOf bit z z'))), .agg (ints .u64 10 (pairF (oneOf bit x' x) (oneOf bit z' z)))]) ∧ Below w.heap.size w w' := by
 have hG := Grew.refl w
 have fa : True := trivial
 have fb : True := trivial
 have fr : True := trivial
 have fq : True := trivial
 go_enter Tryz.func343, Tryz.ntmps343
 have c1 := fun w => swapE_any bit x x' w hx hx'
 have c2 := fun w => swapE_any bit z z' w hz hz'
 go_wp2_with fail
 replace fa : objAt ((((w.alloc (.cells (ints .u64 10 (pairF (x) (z))) 412)).alloc (.cells (ints .u64 10 (pairF (x') (z'))) 412)).alloc (.cells (ints .u64 10 (pairF (nought) (nought))) 412)).alloc (.cells (ints .u64 10 (pairF (nought) (nought))) 412)) (w.heap.size) = some (.cells (ints .u64 10 (pairF (x) (z))) 412) := by exact keep_auto
 replace fb : objAt ((((w.alloc (.cells (ints .u64 10 (pairF (x) (z))) 412)).alloc (.cells (ints .u64 10 (pairF (x') (z'))) 412)).alloc (.cells (ints .u64 10 (pairF (nought) (nought))) 412)).alloc (.cells (ints .u64 10 (pairF (nought) (nought))) 412)) (w.heap.size + 1) = some (.cells (ints .u64 10 (pairF (x') (z'))) 412) := by exact keep_auto
 replace fr : objAt ((((w.alloc (.cells (ints .u64 10 (pairF (x) (z))) 412)).alloc (.cells (ints .u64 10 (pairF (x') (z'))) 412)).alloc (.cells (ints .u64 10 (pairF (nought) (nought))) 412)).alloc (.cells (ints .u64 10 (pairF (nought) (nought))) 412)) (w.heap.size + 1 + 1) = some (.cells (ints .u64 10 (pairF (nought) (nought))) 412) := by exact keep_auto
 replace fq : objAt ((((w.alloc (.cells (ints .u64 10 (pairF (x) (z))) 412)).alloc (.cells (ints .u64 10 (pairF (x') (z'))) 412)).alloc (.cells (ints .u64 10 (pairF (nought) (nought))) 412)).alloc (.cells (ints .u64 10 (pairF (nought) (nought))) 412)) (w.heap.size + 1 + 1 + 1) = some (.cells (ints .u64 10 (pairF (nought) (nought))) 412) := by exact keep_auto
 replace hG : Below w.heap.size w ((((w.alloc (.cells (ints .u64 10 (pairF (x) (z))) 412)).alloc (.cells (ints .u64 10 (pairF (x') (z'))) 412)).alloc (.cells (ints .u64 10 (pairF (nought) (nought))) 412)).alloc (.cells (ints .u64 10 (pairF (nought) (nought))) 412)) := by exact grew_auto
 generalize (((w.alloc (.cells (ints .u64 10 (pairF (x) (z))) 412)).alloc (.cells (ints .u64 10 (pairF (x') (z'))) 412)).alloc (.cells (ints .u64 10 (pairF (nought) (nought))) 412)).alloc (.cells (ints .u64 10 (pairF (nought) (nought))) 412) = w1 at *
 have lfa := lt_of_objAt fa
 have lfb := lt_of_objAt fb
 have lfr := lt_of_objAt fr
 have lfq := lt_of_objAt fq
 go_wp2_with fail
 (refine (c1 _).mono ?_; rintro e w2 ⟨rfl, hb⟩; replace fa : objAt w2 (w.heap.size) = some (.cells (ints .u64 10 (pairF (x) (z))) 412) := keep_below hb (by exact keep_auto); have lfa := lt_of_objAt fa; replace fb : objAt w2 (w.heap.size + 1) = some (.cells (ints .u64 10 (pairF (x') (z'))) 412) := keep_below hb (by exact keep_auto); have lfb := lt_of_objAt fb; replace fr : objAt w2 (w.heap.size + 1 + 1) = some (.cells (ints .u64 10 (pairF (nought) (nought))) 412) := keep_below hb (by exact keep_auto); have lfr := lt_of_objAt fr; replace fq : objAt w2 (w.heap.size + 1 + 1 + 1) = some (.cells (ints .u64 10 (pairF (nought) (nought))) 412) := keep_below hb (by exact keep_auto); have lfq := lt_of_objAt fq; replace hG : Below w.heap.size w w2 := Grew.trans (by exact grew_auto) hb; clear hb)
 go_wp2_with fail
 have ea : objAt ((w2.setRow (w.heap.size) ((ints .u64 10 (pairF (oneOf bit x x') (z))))).setRow (w.heap.size + 1) ((ints .u64 10 (pairF (oneOf bit x' x) (z'))))) (w.heap.size) = some (.cells (ints .u64 10 (pairF (oneOf bit x x') (z))) 412) := keep_setRow _ _ (keep_row _ (fa)) (by first | assumption | omega | simp)
 have eb : objAt ((w2.setRow (w.heap.size) ((ints .u64 10 (pairF (oneOf bit x x') (z))))).setRow (w.heap.size + 1) ((ints .u64 10 (pairF (oneOf bit x' x) (z'))))) (w.heap.size + 1) = some (.cells (ints .u64 10 (pairF (oneOf bit x' x) (z'))) 412) := keep_row _ (keep_setRow _ _ (fb) (by first | assumption | omega | simp))
 have er : objAt ((w2.setRow (w.heap.size) ((ints .u64 10 (pairF (oneOf bit x x') (z))))).setRow (w.heap.size + 1) ((ints .u64 10 (pairF (oneOf bit x' x) (z'))))) (w.heap.size + 1 + 1) = some (.cells (ints .u64 10 (pairF (nought) (nought))) 412) := keep_setRow _ _ (keep_setRow _ _ (fr) (by first | assumption | omega | simp)) (by first | assumption | omega | simp)
 have eq : objAt ((w2.setRow (w.heap.size) ((ints .u64 10 (pairF (oneOf bit x x') (z))))).setRow (w.heap.size + 1) ((ints .u64 10 (pairF (oneOf bit x' x) (z'))))) (w.heap.size + 1 + 1 + 1) = some (.cells (ints .u64 10 (pairF (nought) (nought))) 412) := keep_setRow _ _ (keep_setRow _ _ (fq) (by first | assumption | omega | simp)) (by first | assumption | omega | simp)
 clear fa lfa fb lfb fr lfr fq lfq
 replace hG : Below w.heap.size w ((w2.setRow (w.heap.size) ((ints .u64 10 (pairF (oneOf bit x x') (z))))).setRow (w.heap.size + 1) ((ints .u64 10 (pairF (oneOf bit x' x) (z'))))) := by exact grew_auto
 generalize (w2.setRow (w.heap.size) ((ints .u64 10 (pairF (oneOf bit x x') (z))))).setRow (w.heap.size + 1) ((ints .u64 10 (pairF (oneOf bit x' x) (z')))) = w3 at *
 have fa := ea
 have fb := eb
 have fr := er
 have fq := eq
 clear ea eb er eq
 have lfa := lt_of_objAt fa
 have lfb := lt_of_objAt fb
 have lfr := lt_of_objAt fr
 have lfq := lt_of_objAt fq
 go_wp2_with fail
 (refine (c2 _).mono ?_; rintro e w4 ⟨rfl, hb⟩; replace fa : objAt w4 (w.heap.size) = some (.cells (ints .u64 10 (pairF (oneOf bit x x') (z))) 412) := keep_below hb (by exact keep_auto); have lfa := lt_of_objAt fa; replace fb : objAt w4 (w.heap.size + 1) = some (.cells (ints .u64 10 (pairF (oneOf bit x' x) (z'))) 412) := keep_below hb (by exact keep_auto); have lfb := lt_of_objAt fb; replace fr : objAt w4 (w.heap.size + 1 + 1) = some (.cells (ints .u64 10 (pairF (nought) (nought))) 412) := keep_below hb (by exact keep_auto); have lfr := lt_of_objAt fr; replace fq : objAt w4 (w.heap.size + 1 + 1 + 1) = some (.cells (ints .u64 10 (pairF (nought) (nought))) 412) := keep_below hb (by exact keep_auto); have lfq := lt_of_objAt fq; replace hG : Below w.heap.size w w4 := Grew.trans (by exact grew_auto) hb; clear hb)
 go_wp2_with fail
 have ea : objAt ((w4.setRow (w.heap.size) ((ints .u64 10 (pairF (oneOf bit x x') (oneOf bit z z'))))).setRow (w.heap.size + 1) ((ints .u64 10 (pairF (oneOf bit x' x) (oneOf bit z' z))))) (w.heap.size) = some (.cells (ints .u64 10 (pairF (oneOf bit x x') (oneOf bit z z'))) 412) := keep_setRow _ _ (keep_row _ (fa)) (by first | assumption | omega | simp)
 have eb : objAt ((w4.setRow (w.heap.size) ((ints .u64 10 (pairF (oneOf bit x x') (oneOf bit z z'))))).setRow (w.heap.size + 1) ((ints .u64 10 (pairF (oneOf bit x' x) (oneOf bit z' z))))) (w.heap.size + 1) = some (.cells (ints .u64 10 (pairF (oneOf bit x' x) (oneOf bit z' z))) 412) := keep_row _ (keep_setRow _ _ (fb) (by first | assumption | omega | simp))
 have er : objAt ((w4.setRow (w.heap.size) ((ints .u64 10 (pairF (oneOf bit x x') (oneOf bit z z'))))).setRow (w.heap.size + 1) ((ints .u64 10 (pairF (oneOf bit x' x) (oneOf bit z' z))))) (w.heap.size + 1 + 1) = some (.cells (ints .u64 10 (pairF (nought) (nought))) 412) := keep_setRow _ _ (keep_setRow _ _ (fr) (by first | assumption | omega | simp)) (by first | assumption | omega | simp)
 have eq : objAt ((w4.setRow (w.heap.size) ((ints .u64 10 (pairF (oneOf bit x x') (oneOf bit z z'))))).setRow (w.heap.size + 1) ((ints .u64 10 (pairF (oneOf bit x' x) (oneOf bit z' z))))) (w.heap.size + 1 + 1 + 1) = some (.cells (ints .u64 10 (pairF (nought) (nought))) 412) := keep_setRow _ _ (keep_setRow _ _ (fq) (by first | assumption | omega | simp)) (by first | assumption | omega | simp)
 clear fa lfa fb lfb fr lfr fq lfq
 replace hG : Below w.heap.size w ((w4.setRow (w.heap.size) ((ints .u64 10 (pairF (oneOf bit x x') (oneOf bit z z'))))).setRow (w.heap.size + 1) ((ints .u64 10 (pairF (oneOf bit x' x) (oneOf bit z' z))))) := by exact grew_auto
 generalize (w4.setRow (w.heap.size) ((ints .u64 10 (pairF (oneOf bit x x') (oneOf bit z z'))))).setRow (w.heap.size + 1) ((ints .u64 10 (pairF (oneOf bit x' x) (oneOf bit z' z)))) = w5 at *
 have fa := ea
 have fb := eb
 have fr := er
 have fq := eq
 clear ea eb er eq
 have lfa := lt_of_objAt fa
 have lfb := lt_of_objAt fb
 have lfr := lt_of_objAt fr
 have lfq := lt_of_objAt fq
 go_region
 all_goals
  go_wp2
  refine ret_row2 rfl _ _ 412 412 _ _ (0, 0) (0, 0) _ _ rfl rfl (by simp [go_sem, fr, fq]) (by simp [go_sem, fr, fq]) Tryz.underlying412 rfl (by rw [ints_size]; kernel_rfl) Tryz.underlying412 rfl (by rw [ints_size]; kernel_rfl) rfl ⟨rfl, by exact grew_auto⟩
end Go.Proofs.YtdoolhbmekahdaaGreatDoor
