/- Step -/
import Derived.Test.YtconieddcjpbjaaGreatDoorField
import Derived.Test.YtconieddcjpbjaaGreatDoorMem
import Derived.Test.YtconieddcjpbjaaGreatDoorInv
set_option maxRecDepth 100000
set_option maxHeartbeats 4000000
namespace Go.Proofs.YtconieddcjpbjaaGreatDoor
open Go.RowKit
set_option linter.unusedVariables false
set_option linter.unusedSimpArgs false
def sumE (x z : Nat → Int) : Nat → Int := zqa1 (plus x z)
def difE (x z : Nat → Int) : Nat → Int := zqa1 (minus x z)
def twE (x z : Nat → Int) : Nat → Int := difE (mulF (sumE x z) (sumE x z)) (mulF (difE x z) (difE x z))
def twX (x z : Nat → Int) : Nat → Int := mulF (mulF (sumE x z) (sumE x z)) (mulF (difE x z) (difE x z))
def twZ (x z : Nat → Int) : Nat → Int := mulF (twE x z) (sumE (mulF (sumE x z) (sumE x z)) (zqfa (twE x z) 121665))
def daE (x z x' z' : Nat → Int) : Nat → Int := mulF (difE x' z') (sumE x z)
def cbE (x z x' z' : Nat → Int) : Nat → Int := mulF (sumE x' z') (difE x z)
def boX (x z x' z' : Nat → Int) : Nat → Int := mulF (sumE (daE x z x' z') (cbE x z x' z')) (sumE (daE x z x' z') (cbE x z x' z'))
def boZ (u x z x' z' : Nat → Int) : Nat → Int := mulF u (mulF (difE (daE x z x' z') (cbE x z x' z')) (difE (daE x z x' z') (cbE x z x' z')))
set_option maxHeartbeats 1000000 in
theorem step_any (u x z x' z' : Nat → Int) (w : World) (hu : Under 18014398509481984 (u)) (hx : Under 18014398509481984 (x)) (hz : Under 18014398509481984 (z)) (hx' : Under 18014398509481984 (x')) (hz' : Under 18014398509481984 (z')) :
  Calls Tryz.prog 107 #[.agg (ints .u64 5 (u)), .agg (ints .u64 10 (pairF (x) (z))), .agg (ints .u64 10 (pairF (x') (z')))] w fun e w' => e = .returned (.tuple #[.agg (ints .u64 10 (pairF (twX x z) (twZ x z))), .agg (ints .u64 10 (pairF (boX x z x' z') (boZ u x z x' z')))]) ∧ Below w.heap.size w w' := by
 have hG := Grew.refl w
 have fx : True := trivial
 have fa : True := trivial
 have fb : True := trivial
 have fr : True := trivial
 have fq : True := trivial
 go_enter Tryz.func107, Tryz.ntmps107
 go_wp2_with fail
 replace fx : objAt (((((w.alloc (.cells (ints .u64 5 (u)) 124)).alloc (.cells (ints .u64 10 (pairF (x) (z))) 140)).alloc (.cells (ints .u64 10 (pairF (x') (z'))) 140)).alloc (.cells (ints .u64 10 (pairF (zqd) (zqd))) 140)).alloc (.cells (ints .u64 10 (pairF (zqd) (zqd))) 140)) (w.heap.size) = some (.cells (ints .u64 5 (u)) 124) := by exact zqc
 replace fa : objAt (((((w.alloc (.cells (ints .u64 5 (u)) 124)).alloc (.cells (ints .u64 10 (pairF (x) (z))) 140)).alloc (.cells (ints .u64 10 (pairF (x') (z'))) 140)).alloc (.cells (ints .u64 10 (pairF (zqd) (zqd))) 140)).alloc (.cells (ints .u64 10 (pairF (zqd) (zqd))) 140)) (w.heap.size + 1) = some (.cells (ints .u64 10 (pairF (x) (z))) 140) := by exact zqc
 replace fb : objAt (((((w.alloc (.cells (ints .u64 5 (u)) 124)).alloc (.cells (ints .u64 10 (pairF (x) (z))) 140)).alloc (.cells (ints .u64 10 (pairF (x') (z'))) 140)).alloc (.cells (ints .u64 10 (pairF (zqd) (zqd))) 140)).alloc (.cells (ints .u64 10 (pairF (zqd) (zqd))) 140)) (w.heap.size + 1 + 1) = some (.cells (ints .u64 10 (pairF (x') (z'))) 140) := by exact zqc
 replace fr : objAt (((((w.alloc (.cells (ints .u64 5 (u)) 124)).alloc (.cells (ints .u64 10 (pairF (x) (z))) 140)).alloc (.cells (ints .u64 10 (pairF (x') (z'))) 140)).alloc (.cells (ints .u64 10 (pairF (zqd) (zqd))) 140)).alloc (.cells (ints .u64 10 (pairF (zqd) (zqd))) 140)) (w.heap.size + 1 + 1 + 1) = some (.cells (ints .u64 10 (pairF (zqd) (zqd))) 140) := by exact zqc
 replace fq : objAt (((((w.alloc (.cells (ints .u64 5 (u)) 124)).alloc (.cells (ints .u64 10 (pairF (x) (z))) 140)).alloc (.cells (ints .u64 10 (pairF (x') (z'))) 140)).alloc (.cells (ints .u64 10 (pairF (zqd) (zqd))) 140)).alloc (.cells (ints .u64 10 (pairF (zqd) (zqd))) 140)) (w.heap.size + 1 + 1 + 1 + 1) = some (.cells (ints .u64 10 (pairF (zqd) (zqd))) 140) := by exact zqc
 replace hG : Below w.heap.size w (((((w.alloc (.cells (ints .u64 5 (u)) 124)).alloc (.cells (ints .u64 10 (pairF (x) (z))) 140)).alloc (.cells (ints .u64 10 (pairF (x') (z'))) 140)).alloc (.cells (ints .u64 10 (pairF (zqd) (zqd))) 140)).alloc (.cells (ints .u64 10 (pairF (zqd) (zqd))) 140)) := by exact zqe
 generalize ((((w.alloc (.cells (ints .u64 5 (u)) 124)).alloc (.cells (ints .u64 10 (pairF (x) (z))) 140)).alloc (.cells (ints .u64 10 (pairF (x') (z'))) 140)).alloc (.cells (ints .u64 10 (pairF (zqd) (zqd))) 140)).alloc (.cells (ints .u64 10 (pairF (zqd) (zqd))) 140) = w1 at *
 have lfx := zqa fx
 have lfa := zqa fa
 have lfb := zqa fb
 have lfr := zqa fr
 have lfq := zqa fq
 go_wp2_with fail
 (refine zqdq (by kernel_rfl) (by kernel_rfl) ?_; (repeat (first | refine zqn rfl ?_ | (refine zql rfl ?_; apply Exists.intro))); refine zqbp ?_; intro γ hinj hbase; (repeat (first | (refine zqab rfl ?_; ((first | go_big_quiet_skip | (go_big_quiet_want; go_big_quiet_op; go_big_quiet_on)); refine wpQuiet_nil ?_)) | ((first | refine zqv rfl (fun _ => rfl) ?_ | ((try simp only [Nat.zero_add, Nat.reduceAdd]); apply zqaw zqi; (focus rfl); (focus (first | exact zqq _ | exact zqr _ _ | exact zqo _ | rfl)); (focus (exact zqm))) | ((try simp only [Nat.zero_add, Nat.reduceAdd]); apply zqac _ _ zqi; (focus rfl); (focus (intro W; (first | exact zqam _ | exact zqag _ | exact zqan _ | exact zqaf _ | exact zq3 _ | exact zq2 _))); (focus (first | exact zq1 _ _ _ | exact zqad _ _ | rfl)); (focus (exact zqm))) | ((try simp only [Nat.zero_add, Nat.reduceAdd]); apply zqah zqi; (focus rfl); (focus (intro W; simp only [List.map_toArray, List.map_cons, List.map_nil]; first | fail)); (focus (exact zqm))) | (apply zqao; (focus rfl); (focus rfl); (focus rfl); (focus (intro W hC hF; go_big_quiet_want; go_big_quiet_op; (first | go_big_quiet_on | (apply Exists.intro; refine ⟨fun _ => ?_, ?_⟩; (focus (first | (with_reducible exact Calls.of_more (zqfx _ _ (by exact zqbl))) | (with_reducible exact Calls.of_more (add_any _ _ _ (by exact zqbl) (by exact zqbl))) | (with_reducible exact Calls.of_more (zqi5 _ _ _ (by exact zqbl) (by exact zqbl))) | (with_reducible exact Calls.of_more (mul_any _ _ _ (by exact zqbl) (by exact zqbl))) | (with_reducible exact Calls.of_more (zqdw _ _ (by exact zqbl))) | (with_reducible exact Calls.of_more (times_any _ _ _ (by exact zqbl) ⟨by decide, by decide⟩)) | (with_reducible exact Calls.of_more (zqcz _ _ (by decide) (by decide))) | (with_reducible exact Calls.of_more (ofV_any _ _)))); go_big_quiet_on)); exact wpQuiet_nil rfl)); (focus (first | exact fun _ => ⟨rfl, rfl⟩ | exact fun h => absurd h (by decide))))); ((first | go_big_quiet_skip | (go_big_quiet_want; go_big_quiet_op; go_big_quiet_on)); refine wpQuiet_nil ?_)) | refine zqu rfl (fun _ => rfl) ?_ | ((try simp only [Nat.zero_add, Nat.reduceAdd]); apply zqae (zq4 (hbase _)); (focus rfl); (focus rfl); (focus rfl); (focus (first | exact zqq _ | exact zqr _ _ | exact zqo _ | rfl)); rotate_left 3; (focus (exact zqbi)); rotate_right 3; (focus kernel_rfl); (focus (first | exact zqf _ _ _ | rfl)); (focus (first | exact zq6 _ _ _ | exact zqaj _ _ _ _ | kernel_rfl)); (focus (decide +kernel)); (focus (exact zqm))))))
 (refine zqbs ?_; rintro _ ⟨mq, rfl⟩ hF; simp only [List.forall_mem_cons] at hF; obtain ⟨fd, fs, -⟩ := hF)
 replace fx : objAt (more w1 mq) (w.heap.size) = some (.cells (ints .u64 5 (u)) 124) := by exact zqc
 replace fa : objAt (more w1 mq) (w.heap.size + 1) = some (.cells (ints .u64 10 (pairF (x) (z))) 140) := by exact zqc
 replace fb : objAt (more w1 mq) (w.heap.size + 1 + 1) = some (.cells (ints .u64 10 (pairF (x') (z'))) 140) := by exact zqc
 replace fr : objAt (more w1 mq) (w.heap.size + 1 + 1 + 1) = some (.cells (ints .u64 10 (pairF (zqd) (zqd))) 140) := by exact zqc
 replace fq : objAt (more w1 mq) (w.heap.size + 1 + 1 + 1 + 1) = some (.cells (ints .u64 10 (pairF (zqd) (zqd))) 140) := by exact zqc
 replace hG : Below w.heap.size w (more w1 mq) := by exact zqe
 replace fs : objAt (more w1 mq) (γ 10) = some (.cells (ints .u64 5 (sumE x z)) 124) := fs
 replace fd : objAt (more w1 mq) (γ 11) = some (.cells (ints .u64 5 (difE x z)) 124) := fd
 clear lfx lfa lfb lfr lfq
 clear hinj hbase
 generalize γ 10 = gs at *
 generalize γ 11 = gd at *
 generalize more w1 mq = w2 at *
 clear γ
 have lfx := zqa fx
 have lfa := zqa fa
 have lfb := zqa fb
 have lfr := zqa fr
 have lfq := zqa fq
 have lfs := zqa fs
 have lfd := zqa fd
 have lus : Under 18014398509481984 (sumE x z) := zqcr x z hx hz
 have lud : Under 18014398509481984 (difE x z) := zqcb x z hx hz
 have lus' : Under 18014398509481984 (sumE x' z') := zqcr x' z' hx' hz'
 have lud' : Under 18014398509481984 (difE x' z') := zqcb x' z' hx' hz'
 go_wp2_with fail
 (refine zqdq (by kernel_rfl) (by kernel_rfl) ?_; (repeat (first | refine zqn rfl ?_ | (refine zql rfl ?_; apply Exists.intro))); refine zqbp ?_; intro γ hinj hbase; (repeat (first | (refine zqab rfl ?_; ((first | go_big_quiet_skip | (go_big_quiet_want; go_big_quiet_op; go_big_quiet_on)); refine wpQuiet_nil ?_)) | ((first | refine zqv rfl (fun _ => rfl) ?_ | ((try simp only [Nat.zero_add, Nat.reduceAdd]); apply zqaw zqi; (focus rfl); (focus (first | exact zqq _ | exact zqr _ _ | exact zqo _ | rfl)); (focus (exact zqm))) | ((try simp only [Nat.zero_add, Nat.reduceAdd]); apply zqac _ _ zqi; (focus rfl); (focus (intro W; (first | exact zqam _ | exact zqag _ | exact zqan _ | exact zqaf _ | exact zq3 _ | exact zq2 _))); (focus (first | exact zq1 _ _ _ | exact zqad _ _ | rfl)); (focus (exact zqm))) | ((try simp only [Nat.zero_add, Nat.reduceAdd]); apply zqah zqi; (focus rfl); (focus (intro W; simp only [List.map_toArray, List.map_cons, List.map_nil]; first | fail)); (focus (exact zqm))) | (apply zqao; (focus rfl); (focus rfl); (focus rfl); (focus (intro W hC hF; go_big_quiet_want; go_big_quiet_op; (first | go_big_quiet_on | (apply Exists.intro; refine ⟨fun _ => ?_, ?_⟩; (focus (first | (with_reducible exact Calls.of_more (zqdw (sumE x z) _ lus)) | (with_reducible exact Calls.of_more (zqdw (difE x z) _ lud)))); go_big_quiet_on)); exact wpQuiet_nil rfl)); (focus (first | exact fun _ => ⟨rfl, rfl⟩ | exact fun h => absurd h (by decide))))); ((first | go_big_quiet_skip | (go_big_quiet_want; go_big_quiet_op; go_big_quiet_on)); refine wpQuiet_nil ?_)) | refine zqu rfl (fun _ => rfl) ?_ | ((try simp only [Nat.zero_add, Nat.reduceAdd]); apply zqae (zq4 (hbase _)); (focus rfl); (focus rfl); (focus rfl); (focus (first | exact zqq _ | exact zqr _ _ | exact zqo _ | rfl)); rotate_left 3; (focus (exact zqbi)); rotate_right 3; (focus kernel_rfl); (focus (first | exact zqf _ _ _ | rfl)); (focus (first | exact zq6 _ _ _ | exact zqaj _ _ _ _ | kernel_rfl)); (focus (decide +kernel)); (focus (exact zqm))))))
 (refine zqbs ?_; rintro _ ⟨mq, rfl⟩ hF; simp only [List.forall_mem_cons] at hF; obtain ⟨fdd, fss, -⟩ := hF)
 replace fx : objAt (more w2 mq) (w.heap.size) = some (.cells (ints .u64 5 (u)) 124) := by exact zqc
 replace fa : objAt (more w2 mq) (w.heap.size + 1) = some (.cells (ints .u64 10 (pairF (x) (z))) 140) := by exact zqc
 replace fb : objAt (more w2 mq) (w.heap.size + 1 + 1) = some (.cells (ints .u64 10 (pairF (x') (z'))) 140) := by exact zqc
 replace fr : objAt (more w2 mq) (w.heap.size + 1 + 1 + 1) = some (.cells (ints .u64 10 (pairF (zqd) (zqd))) 140) := by exact zqc
 replace fq : objAt (more w2 mq) (w.heap.size + 1 + 1 + 1 + 1) = some (.cells (ints .u64 10 (pairF (zqd) (zqd))) 140) := by exact zqc
 replace fs : objAt (more w2 mq) (gs) = some (.cells (ints .u64 5 (sumE x z)) 124) := by exact zqc
 replace fd : objAt (more w2 mq) (gd) = some (.cells (ints .u64 5 (difE x z)) 124) := by exact zqc
 replace hG : Below w.heap.size w (more w2 mq) := by exact zqe
 replace fss : objAt (more w2 mq) (γ 4) = some (.cells (ints .u64 5 (mulF (sumE x z) (sumE x z))) 124) := fss
 replace fdd : objAt (more w2 mq) (γ 5) = some (.cells (ints .u64 5 (mulF (difE x z) (difE x z))) 124) := fdd
 clear lfx lfa lfb lfr lfq lfs lfd
 clear hinj hbase
 generalize γ 4 = gss at *
 generalize γ 5 = gdd at *
 generalize more w2 mq = w3 at *
 clear γ
 have lfx := zqa fx
 have lfa := zqa fa
 have lfb := zqa fb
 have lfr := zqa fr
 have lfq := zqa fq
 have lfs := zqa fs
 have lfd := zqa fd
 have lfss := zqa fss
 have lfdd := zqa fdd
 have luss : Under 18014398509481984 (mulF (sumE x z) (sumE x z)) := zqb3 _ _ lus lus
 have ludd : Under 18014398509481984 (mulF (difE x z) (difE x z)) := zqb3 _ _ lud lud
 have c0 : ∀ w, Calls Tryz.prog 126 #[.agg (ints .u64 5 (mulF (sumE x z) (sumE x z))), .agg (ints .u64 5 (mulF (difE x z) (difE x z)))] w fun e w' => e = .returned (.agg (ints .u64 5 (twE x z))) ∧ Below w.heap.size w w' := fun w => zqi5 _ _ w luss ludd
 go_wp2_with fail
 (refine (c0 _).mono ?_; rintro e w4 ⟨rfl, hb⟩; replace fx : objAt w4 (w.heap.size) = some (.cells (ints .u64 5 (u)) 124) := zqb hb (by exact zqc); have lfx := zqa fx; replace fa : objAt w4 (w.heap.size + 1) = some (.cells (ints .u64 10 (pairF (x) (z))) 140) := zqb hb (by exact zqc); have lfa := zqa fa; replace fb : objAt w4 (w.heap.size + 1 + 1) = some (.cells (ints .u64 10 (pairF (x') (z'))) 140) := zqb hb (by exact zqc); have lfb := zqa fb; replace fr : objAt w4 (w.heap.size + 1 + 1 + 1) = some (.cells (ints .u64 10 (pairF (zqd) (zqd))) 140) := zqb hb (by exact zqc); have lfr := zqa fr; replace fq : objAt w4 (w.heap.size + 1 + 1 + 1 + 1) = some (.cells (ints .u64 10 (pairF (zqd) (zqd))) 140) := zqb hb (by exact zqc); have lfq := zqa fq; replace fs : objAt w4 (gs) = some (.cells (ints .u64 5 (sumE x z)) 124) := zqb hb (by exact zqc); have lfs := zqa fs; replace fd : objAt w4 (gd) = some (.cells (ints .u64 5 (difE x z)) 124) := zqb hb (by exact zqc); have lfd := zqa fd; replace fss : objAt w4 (gss) = some (.cells (ints .u64 5 (mulF (sumE x z) (sumE x z))) 124) := zqb hb (by exact zqc); have lfss := zqa fss; replace fdd : objAt w4 (gdd) = some (.cells (ints .u64 5 (mulF (difE x z) (difE x z))) 124) := zqb hb (by exact zqc); have lfdd := zqa fdd; replace hG : Below w.heap.size w w4 := Grew.trans (by exact zqe) hb; clear hb)
 go_wp2_with fail
 have fe : objAt (w4.alloc (.cells (ints .u64 5 (twE x z)) 124)) w4.heap.size = some (.cells (ints .u64 5 (twE x z)) 124) := by exact zqc
 replace fx : objAt (w4.alloc (.cells (ints .u64 5 (twE x z)) 124)) (w.heap.size) = some (.cells (ints .u64 5 (u)) 124) := by exact zqc
 replace fa : objAt (w4.alloc (.cells (ints .u64 5 (twE x z)) 124)) (w.heap.size + 1) = some (.cells (ints .u64 10 (pairF (x) (z))) 140) := by exact zqc
 replace fb : objAt (w4.alloc (.cells (ints .u64 5 (twE x z)) 124)) (w.heap.size + 1 + 1) = some (.cells (ints .u64 10 (pairF (x') (z'))) 140) := by exact zqc
 replace fr : objAt (w4.alloc (.cells (ints .u64 5 (twE x z)) 124)) (w.heap.size + 1 + 1 + 1) = some (.cells (ints .u64 10 (pairF (zqd) (zqd))) 140) := by exact zqc
 replace fq : objAt (w4.alloc (.cells (ints .u64 5 (twE x z)) 124)) (w.heap.size + 1 + 1 + 1 + 1) = some (.cells (ints .u64 10 (pairF (zqd) (zqd))) 140) := by exact zqc
 replace fs : objAt (w4.alloc (.cells (ints .u64 5 (twE x z)) 124)) (gs) = some (.cells (ints .u64 5 (sumE x z)) 124) := by exact zqc
 replace fd : objAt (w4.alloc (.cells (ints .u64 5 (twE x z)) 124)) (gd) = some (.cells (ints .u64 5 (difE x z)) 124) := by exact zqc
 replace fss : objAt (w4.alloc (.cells (ints .u64 5 (twE x z)) 124)) (gss) = some (.cells (ints .u64 5 (mulF (sumE x z) (sumE x z))) 124) := by exact zqc
 replace fdd : objAt (w4.alloc (.cells (ints .u64 5 (twE x z)) 124)) (gdd) = some (.cells (ints .u64 5 (mulF (difE x z) (difE x z))) 124) := by exact zqc
 replace hG : Below w.heap.size w (w4.alloc (.cells (ints .u64 5 (twE x z)) 124)) := by exact zqe
 clear lfx lfa lfb lfr lfq lfs lfd lfss lfdd
 generalize w4.alloc (.cells (ints .u64 5 (twE x z)) 124) = w5 at *
 generalize w4.heap.size = ge at *
 have lfx := zqa fx
 have lfa := zqa fa
 have lfb := zqa fb
 have lfr := zqa fr
 have lfq := zqa fq
 have lfs := zqa fs
 have lfd := zqa fd
 have lfss := zqa fss
 have lfdd := zqa fdd
 have lfe := zqa fe
 have lue : Under 18014398509481984 (twE x z) := zqcb _ _ luss ludd
 have lut : Under 18014398509481984 (zqfa (twE x z) 121665) := zqhu _ 121665 lue ⟨by decide, by decide⟩
 have lust : Under 18014398509481984 (sumE (mulF (sumE x z) (sumE x z)) (zqfa (twE x z) 121665)) := zqcr _ _ luss lut
 have lda : Under 18014398509481984 (daE x z x' z') := zqb3 _ _ lud' lus
 have lcb : Under 18014398509481984 (cbE x z x' z') := zqb3 _ _ lus' lud
 have ls2 : Under 18014398509481984 (sumE (daE x z x' z') (cbE x z x' z')) := zqcr _ _ lda lcb
 have ld2 : Under 18014398509481984 (difE (daE x z x' z') (cbE x z x' z')) := zqcb _ _ lda lcb
 have lq2 : Under 18014398509481984 (mulF (difE (daE x z x' z') (cbE x z x' z')) (difE (daE x z x' z') (cbE x z x' z'))) := zqb3 _ _ ld2 ld2
 have c1 : ∀ w, Calls Tryz.prog 128 #[.agg (ints .u64 5 (mulF (sumE x z) (sumE x z))), .agg (ints .u64 5 (mulF (difE x z) (difE x z)))] w fun e w' => e = .returned (.agg (ints .u64 5 (twX x z))) ∧ Below w.heap.size w w' := fun w => mul_any _ _ w luss ludd
 have c2 := fun w => times_any _ 121665 w lue ⟨by decide, by decide⟩
 have c3 : ∀ w, Calls Tryz.prog 125 #[.agg (ints .u64 5 (mulF (sumE x z) (sumE x z))), .agg (ints .u64 5 (zqfa (twE x z) 121665))] w fun e w' => e = .returned (.agg (ints .u64 5 (sumE (mulF (sumE x z) (sumE x z)) (zqfa (twE x z) 121665)))) ∧ Below w.heap.size w w' := fun w => add_any _ _ w luss lut
 have c4 : ∀ w, Calls Tryz.prog 128 #[.agg (ints .u64 5 (twE x z)), .agg (ints .u64 5 (sumE (mulF (sumE x z) (sumE x z)) (zqfa (twE x z) 121665)))] w fun e w' => e = .returned (.agg (ints .u64 5 (twZ x z))) ∧ Below w.heap.size w w' := fun w => mul_any _ _ w lue lust
 have c5 : ∀ w, Calls Tryz.prog 126 #[.agg (ints .u64 5 (x')), .agg (ints .u64 5 (z'))] w fun e w' => e = .returned (.agg (ints .u64 5 (difE x' z'))) ∧ Below w.heap.size w w' := fun w => zqi5 _ _ w hx' hz'
 have c6 : ∀ w, Calls Tryz.prog 128 #[.agg (ints .u64 5 (difE x' z')), .agg (ints .u64 5 (sumE x z))] w fun e w' => e = .returned (.agg (ints .u64 5 (daE x z x' z'))) ∧ Below w.heap.size w w' := fun w => mul_any _ _ w lud' lus
 have c7 : ∀ w, Calls Tryz.prog 125 #[.agg (ints .u64 5 (x')), .agg (ints .u64 5 (z'))] w fun e w' => e = .returned (.agg (ints .u64 5 (sumE x' z'))) ∧ Below w.heap.size w w' := fun w => add_any _ _ w hx' hz'
 have c8 : ∀ w, Calls Tryz.prog 128 #[.agg (ints .u64 5 (sumE x' z')), .agg (ints .u64 5 (difE x z))] w fun e w' => e = .returned (.agg (ints .u64 5 (cbE x z x' z'))) ∧ Below w.heap.size w w' := fun w => mul_any _ _ w lus' lud
 have c9 : ∀ w, Calls Tryz.prog 125 #[.agg (ints .u64 5 (daE x z x' z')), .agg (ints .u64 5 (cbE x z x' z'))] w fun e w' => e = .returned (.agg (ints .u64 5 (sumE (daE x z x' z') (cbE x z x' z')))) ∧ Below w.heap.size w w' := fun w => add_any _ _ w lda lcb
 have c10 : ∀ w, Calls Tryz.prog 126 #[.agg (ints .u64 5 (daE x z x' z')), .agg (ints .u64 5 (cbE x z x' z'))] w fun e w' => e = .returned (.agg (ints .u64 5 (difE (daE x z x' z') (cbE x z x' z')))) ∧ Below w.heap.size w w' := fun w => zqi5 _ _ w lda lcb
 have c11 : ∀ w, Calls Tryz.prog 127 #[.agg (ints .u64 5 (sumE (daE x z x' z') (cbE x z x' z')))] w fun e w' => e = .returned (.agg (ints .u64 5 (boX x z x' z'))) ∧ Below w.heap.size w w' := fun w => zqdw _ w ls2
 have c12 := fun w => zqdw _ w ld2
 have c13 : ∀ w, Calls Tryz.prog 128 #[.agg (ints .u64 5 (u)), .agg (ints .u64 5 (mulF (difE (daE x z x' z') (cbE x z x' z')) (difE (daE x z x' z') (cbE x z x' z'))))] w fun e w' => e = .returned (.agg (ints .u64 5 (boZ u x z x' z'))) ∧ Below w.heap.size w w' := fun w => mul_any _ _ w hu lq2
 go_wp2_with fail
 (refine zqdq (by kernel_rfl) (by kernel_rfl) ?_; (repeat (first | refine zqn rfl ?_ | (refine zql rfl ?_; apply Exists.intro))); refine zqbp ?_; intro γ hinj hbase; (repeat (first | (refine zqab rfl ?_; ((first | go_big_quiet_skip | (go_big_quiet_want; go_big_quiet_op; go_big_quiet_on)); refine wpQuiet_nil ?_)) | ((first | refine zqv rfl (fun _ => rfl) ?_ | ((try simp only [Nat.zero_add, Nat.reduceAdd]); apply zqaw zqi; (focus rfl); (focus (first | exact zqq _ | exact zqr _ _ | exact zqo _ | rfl)); (focus (exact zqm))) | ((try simp only [Nat.zero_add, Nat.reduceAdd]); apply zqac _ _ zqi; (focus rfl); (focus (intro W; (first | exact zqam _ | exact zqag _ | exact zqan _ | exact zqaf _ | exact zq3 _ | exact zq2 _))); (focus (first | exact zq1 _ _ _ | exact zqad _ _ | rfl)); (focus (exact zqm))) | ((try simp only [Nat.zero_add, Nat.reduceAdd]); apply zqah zqi; (focus rfl); (focus (intro W; simp only [List.map_toArray, List.map_cons, List.map_nil]; first | fail)); (focus (exact zqm))) | (apply zqao; (focus rfl); (focus rfl); (focus rfl); (focus (intro W hC hF; go_big_quiet_want; go_big_quiet_op; (first | go_big_quiet_on | (apply Exists.intro; refine ⟨fun _ => ?_, ?_⟩; (focus (first | (with_reducible exact Calls.of_more (c1 _)) | (with_reducible exact Calls.of_more (c2 _)) | (with_reducible exact Calls.of_more (c3 _)) | (with_reducible exact Calls.of_more (c4 _)))); go_big_quiet_on)); exact wpQuiet_nil rfl)); (focus (first | exact fun _ => ⟨rfl, rfl⟩ | exact fun h => absurd h (by decide))))); ((first | go_big_quiet_skip | (go_big_quiet_want; go_big_quiet_op; go_big_quiet_on)); refine wpQuiet_nil ?_)) | refine zqu rfl (fun _ => rfl) ?_ | ((try simp only [Nat.zero_add, Nat.reduceAdd]); apply zqae (zq4 (hbase _)); (focus rfl); (focus rfl); (focus rfl); (focus (first | exact zqq _ | exact zqr _ _ | exact zqo _ | rfl)); rotate_left 3; (focus (exact zqbi)); rotate_right 3; (focus kernel_rfl); (focus (first | exact zqf _ _ _ | rfl)); (focus (first | exact zq6 _ _ _ | exact zqaj _ _ _ _ | kernel_rfl)); (focus (decide +kernel)); (focus (exact zqm))))))
 (refine zqbs ?_; rintro _ ⟨mq, rfl⟩ hF; simp only [List.forall_mem_cons] at hF; obtain ⟨ft, -⟩ := hF)
 have ntr : ¬ (γ 10 = w.heap.size + 1 + 1 + 1) := by have := hbase 10; omega
 have ntq : ¬ (γ 10 = w.heap.size + 1 + 1 + 1 + 1) := by have := hbase 10; omega
 replace fx : objAt (more w5 mq) (w.heap.size) = some (.cells (ints .u64 5 (u)) 124) := by exact zqc
 replace fa : objAt (more w5 mq) (w.heap.size + 1) = some (.cells (ints .u64 10 (pairF (x) (z))) 140) := by exact zqc
 replace fb : objAt (more w5 mq) (w.heap.size + 1 + 1) = some (.cells (ints .u64 10 (pairF (x') (z'))) 140) := by exact zqc
 replace fr : objAt (more w5 mq) (w.heap.size + 1 + 1 + 1) = some (.cells (ints .u64 10 (pairF (zqd) (zqd))) 140) := by exact zqc
 replace fq : objAt (more w5 mq) (w.heap.size + 1 + 1 + 1 + 1) = some (.cells (ints .u64 10 (pairF (zqd) (zqd))) 140) := by exact zqc
 replace fs : objAt (more w5 mq) (gs) = some (.cells (ints .u64 5 (sumE x z)) 124) := by exact zqc
 replace fd : objAt (more w5 mq) (gd) = some (.cells (ints .u64 5 (difE x z)) 124) := by exact zqc
 replace fss : objAt (more w5 mq) (gss) = some (.cells (ints .u64 5 (mulF (sumE x z) (sumE x z))) 124) := by exact zqc
 replace fdd : objAt (more w5 mq) (gdd) = some (.cells (ints .u64 5 (mulF (difE x z) (difE x z))) 124) := by exact zqc
 replace fe : objAt (more w5 mq) (ge) = some (.cells (ints .u64 5 (twE x z)) 124) := by exact zqc
 replace hG : Below w.heap.size w (more w5 mq) := by exact zqe
 replace ft : objAt (more w5 mq) (γ 10) = some (.cells (ints .u64 10 (pairF (twX x z) (twZ x z))) 140) := ft
 clear lfx lfa lfb lfr lfq lfs lfd lfss lfdd lfe
 clear hinj hbase
 generalize γ 10 = gt at *
 generalize more w5 mq = w6 at *
 clear γ
 have lfx := zqa fx
 have lfa := zqa fa
 have lfb := zqa fb
 have lfr := zqa fr
 have lfq := zqa fq
 have lfs := zqa fs
 have lfd := zqa fd
 have lfss := zqa fss
 have lfdd := zqa fdd
 have lfe := zqa fe
 have lft := zqa ft
 clear fss lfss
 clear fdd lfdd
 clear fe lfe
 go_wp2_with fail
 (refine zqdq (by kernel_rfl) (by kernel_rfl) ?_; (repeat (first | refine zqn rfl ?_ | (refine zql rfl ?_; apply Exists.intro))); refine zqbp ?_; intro γ hinj hbase; (repeat (first | (refine zqab rfl ?_; ((first | go_big_quiet_skip | (go_big_quiet_want; go_big_quiet_op; go_big_quiet_on)); refine wpQuiet_nil ?_)) | ((first | refine zqv rfl (fun _ => rfl) ?_ | ((try simp only [Nat.zero_add, Nat.reduceAdd]); apply zqaw zqi; (focus rfl); (focus (first | exact zqq _ | exact zqr _ _ | exact zqo _ | rfl)); (focus (exact zqm))) | ((try simp only [Nat.zero_add, Nat.reduceAdd]); apply zqac _ _ zqi; (focus rfl); (focus (intro W; (first | exact zqam _ | exact zqag _ | exact zqan _ | exact zqaf _ | exact zq3 _ | exact zq2 _))); (focus (first | exact zq1 _ _ _ | exact zqad _ _ | rfl)); (focus (exact zqm))) | ((try simp only [Nat.zero_add, Nat.reduceAdd]); apply zqah zqi; (focus rfl); (focus (intro W; simp only [List.map_toArray, List.map_cons, List.map_nil]; first | fail)); (focus (exact zqm))) | (apply zqao; (focus rfl); (focus rfl); (focus rfl); (focus (intro W hC hF; go_big_quiet_want; go_big_quiet_op; (first | go_big_quiet_on | (apply Exists.intro; refine ⟨fun _ => ?_, ?_⟩; (focus (first | (with_reducible exact Calls.of_more (c5 _)) | (with_reducible exact Calls.of_more (c6 _)))); go_big_quiet_on)); exact wpQuiet_nil rfl)); (focus (first | exact fun _ => ⟨rfl, rfl⟩ | exact fun h => absurd h (by decide))))); ((first | go_big_quiet_skip | (go_big_quiet_want; go_big_quiet_op; go_big_quiet_on)); refine wpQuiet_nil ?_)) | refine zqu rfl (fun _ => rfl) ?_ | ((try simp only [Nat.zero_add, Nat.reduceAdd]); apply zqae (zq4 (hbase _)); (focus rfl); (focus rfl); (focus rfl); (focus (first | exact zqq _ | exact zqr _ _ | exact zqo _ | rfl)); rotate_left 3; (focus (exact zqbi)); rotate_right 3; (focus kernel_rfl); (focus (first | exact zqf _ _ _ | rfl)); (focus (first | exact zq6 _ _ _ | exact zqaj _ _ _ _ | kernel_rfl)); (focus (decide +kernel)); (focus (exact zqm))))))
 (refine zqbs ?_; rintro _ ⟨mq, rfl⟩ hF; simp only [List.forall_mem_cons] at hF; obtain ⟨fda, -⟩ := hF)
 replace fx : objAt (more w6 mq) (w.heap.size) = some (.cells (ints .u64 5 (u)) 124) := by exact zqc
 replace fa : objAt (more w6 mq) (w.heap.size + 1) = some (.cells (ints .u64 10 (pairF (x) (z))) 140) := by exact zqc
 replace fb : objAt (more w6 mq) (w.heap.size + 1 + 1) = some (.cells (ints .u64 10 (pairF (x') (z'))) 140) := by exact zqc
 replace fr : objAt (more w6 mq) (w.heap.size + 1 + 1 + 1) = some (.cells (ints .u64 10 (pairF (zqd) (zqd))) 140) := by exact zqc
 replace fq : objAt (more w6 mq) (w.heap.size + 1 + 1 + 1 + 1) = some (.cells (ints .u64 10 (pairF (zqd) (zqd))) 140) := by exact zqc
 replace fs : objAt (more w6 mq) (gs) = some (.cells (ints .u64 5 (sumE x z)) 124) := by exact zqc
 replace fd : objAt (more w6 mq) (gd) = some (.cells (ints .u64 5 (difE x z)) 124) := by exact zqc
 replace ft : objAt (more w6 mq) (gt) = some (.cells (ints .u64 10 (pairF (twX x z) (twZ x z))) 140) := by exact zqc
 replace hG : Below w.heap.size w (more w6 mq) := by exact zqe
 replace fda : objAt (more w6 mq) (γ 7) = some (.cells (ints .u64 5 (daE x z x' z')) 124) := fda
 clear lfx lfa lfb lfr lfq lfs lfd lft
 clear hinj hbase
 generalize γ 7 = gda at *
 generalize more w6 mq = w7 at *
 clear γ
 have lfx := zqa fx
 have lfa := zqa fa
 have lfb := zqa fb
 have lfr := zqa fr
 have lfq := zqa fq
 have lfs := zqa fs
 have lfd := zqa fd
 have lft := zqa ft
 have lfda := zqa fda
 go_wp2_with fail
 (refine zqdq (by kernel_rfl) (by kernel_rfl) ?_; (repeat (first | refine zqn rfl ?_ | (refine zql rfl ?_; apply Exists.intro))); refine zqbp ?_; intro γ hinj hbase; (repeat (first | (refine zqab rfl ?_; ((first | go_big_quiet_skip | (go_big_quiet_want; go_big_quiet_op; go_big_quiet_on)); refine wpQuiet_nil ?_)) | ((first | refine zqv rfl (fun _ => rfl) ?_ | ((try simp only [Nat.zero_add, Nat.reduceAdd]); apply zqaw zqi; (focus rfl); (focus (first | exact zqq _ | exact zqr _ _ | exact zqo _ | rfl)); (focus (exact zqm))) | ((try simp only [Nat.zero_add, Nat.reduceAdd]); apply zqac _ _ zqi; (focus rfl); (focus (intro W; (first | exact zqam _ | exact zqag _ | exact zqan _ | exact zqaf _ | exact zq3 _ | exact zq2 _))); (focus (first | exact zq1 _ _ _ | exact zqad _ _ | rfl)); (focus (exact zqm))) | ((try simp only [Nat.zero_add, Nat.reduceAdd]); apply zqah zqi; (focus rfl); (focus (intro W; simp only [List.map_toArray, List.map_cons, List.map_nil]; first | fail)); (focus (exact zqm))) | (apply zqao; (focus rfl); (focus rfl); (focus rfl); (focus (intro W hC hF; go_big_quiet_want; go_big_quiet_op; (first | go_big_quiet_on | (apply Exists.intro; refine ⟨fun _ => ?_, ?_⟩; (focus (first | (with_reducible exact Calls.of_more (c7 _)) | (with_reducible exact Calls.of_more (c8 _)))); go_big_quiet_on)); exact wpQuiet_nil rfl)); (focus (first | exact fun _ => ⟨rfl, rfl⟩ | exact fun h => absurd h (by decide))))); ((first | go_big_quiet_skip | (go_big_quiet_want; go_big_quiet_op; go_big_quiet_on)); refine wpQuiet_nil ?_)) | refine zqu rfl (fun _ => rfl) ?_ | ((try simp only [Nat.zero_add, Nat.reduceAdd]); apply zqae (zq4 (hbase _)); (focus rfl); (focus rfl); (focus rfl); (focus (first | exact zqq _ | exact zqr _ _ | exact zqo _ | rfl)); rotate_left 3; (focus (exact zqbi)); rotate_right 3; (focus kernel_rfl); (focus (first | exact zqf _ _ _ | rfl)); (focus (first | exact zq6 _ _ _ | exact zqaj _ _ _ _ | kernel_rfl)); (focus (decide +kernel)); (focus (exact zqm))))))
 (refine zqbs ?_; rintro _ ⟨mq, rfl⟩ hF; simp only [List.forall_mem_cons] at hF; obtain ⟨fcb, -⟩ := hF)
 replace fx : objAt (more w7 mq) (w.heap.size) = some (.cells (ints .u64 5 (u)) 124) := by exact zqc
 replace fa : objAt (more w7 mq) (w.heap.size + 1) = some (.cells (ints .u64 10 (pairF (x) (z))) 140) := by exact zqc
 replace fb : objAt (more w7 mq) (w.heap.size + 1 + 1) = some (.cells (ints .u64 10 (pairF (x') (z'))) 140) := by exact zqc
 replace fr : objAt (more w7 mq) (w.heap.size + 1 + 1 + 1) = some (.cells (ints .u64 10 (pairF (zqd) (zqd))) 140) := by exact zqc
 replace fq : objAt (more w7 mq) (w.heap.size + 1 + 1 + 1 + 1) = some (.cells (ints .u64 10 (pairF (zqd) (zqd))) 140) := by exact zqc
 replace fs : objAt (more w7 mq) (gs) = some (.cells (ints .u64 5 (sumE x z)) 124) := by exact zqc
 replace fd : objAt (more w7 mq) (gd) = some (.cells (ints .u64 5 (difE x z)) 124) := by exact zqc
 replace ft : objAt (more w7 mq) (gt) = some (.cells (ints .u64 10 (pairF (twX x z) (twZ x z))) 140) := by exact zqc
 replace fda : objAt (more w7 mq) (gda) = some (.cells (ints .u64 5 (daE x z x' z')) 124) := by exact zqc
 replace hG : Below w.heap.size w (more w7 mq) := by exact zqe
 replace fcb : objAt (more w7 mq) (γ 7) = some (.cells (ints .u64 5 (cbE x z x' z')) 124) := fcb
 clear lfx lfa lfb lfr lfq lfs lfd lft lfda
 clear hinj hbase
 generalize γ 7 = gcb at *
 generalize more w7 mq = w8 at *
 clear γ
 have lfx := zqa fx
 have lfa := zqa fa
 have lfb := zqa fb
 have lfr := zqa fr
 have lfq := zqa fq
 have lfs := zqa fs
 have lfd := zqa fd
 have lft := zqa ft
 have lfda := zqa fda
 have lfcb := zqa fcb
 go_wp2_with fail
 (refine zqdq (by kernel_rfl) (by kernel_rfl) ?_; (repeat (first | refine zqn rfl ?_ | (refine zql rfl ?_; apply Exists.intro))); refine zqbp ?_; intro γ hinj hbase; (repeat (first | (refine zqab rfl ?_; ((first | go_big_quiet_skip | (go_big_quiet_want; go_big_quiet_op; go_big_quiet_on)); refine wpQuiet_nil ?_)) | ((first | refine zqv rfl (fun _ => rfl) ?_ | ((try simp only [Nat.zero_add, Nat.reduceAdd]); apply zqaw zqi; (focus rfl); (focus (first | exact zqq _ | exact zqr _ _ | exact zqo _ | rfl)); (focus (exact zqm))) | ((try simp only [Nat.zero_add, Nat.reduceAdd]); apply zqac _ _ zqi; (focus rfl); (focus (intro W; (first | exact zqam _ | exact zqag _ | exact zqan _ | exact zqaf _ | exact zq3 _ | exact zq2 _))); (focus (first | exact zq1 _ _ _ | exact zqad _ _ | rfl)); (focus (exact zqm))) | ((try simp only [Nat.zero_add, Nat.reduceAdd]); apply zqah zqi; (focus rfl); (focus (intro W; simp only [List.map_toArray, List.map_cons, List.map_nil]; first | fail)); (focus (exact zqm))) | (apply zqao; (focus rfl); (focus rfl); (focus rfl); (focus (intro W hC hF; go_big_quiet_want; go_big_quiet_op; (first | go_big_quiet_on | (apply Exists.intro; refine ⟨fun _ => ?_, ?_⟩; (focus (first | (with_reducible exact Calls.of_more (c9 _)) | (with_reducible exact Calls.of_more (c10 _)) | (with_reducible exact Calls.of_more (c11 _)) | (with_reducible exact Calls.of_more (c12 _)) | (with_reducible exact Calls.of_more (c13 _)))); go_big_quiet_on)); exact wpQuiet_nil rfl)); (focus (first | exact fun _ => ⟨rfl, rfl⟩ | exact fun h => absurd h (by decide))))); ((first | go_big_quiet_skip | (go_big_quiet_want; go_big_quiet_op; go_big_quiet_on)); refine wpQuiet_nil ?_)) | refine zqu rfl (fun _ => rfl) ?_ | ((try simp only [Nat.zero_add, Nat.reduceAdd]); apply zqae (zq4 (hbase _)); (focus rfl); (focus rfl); (focus rfl); (focus (first | exact zqq _ | exact zqr _ _ | exact zqo _ | rfl)); rotate_left 3; (focus (exact zqbi)); rotate_right 3; (focus kernel_rfl); (focus (first | exact zqf _ _ _ | rfl)); (focus (first | exact zq6 _ _ _ | exact zqaj _ _ _ _ | kernel_rfl)); (focus (decide +kernel)); (focus (exact zqm))))))
 (refine zqbs ?_; rintro _ ⟨mq, rfl⟩ hF; simp only [List.forall_mem_cons] at hF; obtain ⟨fbo, -⟩ := hF)
 have nbor : ¬ (γ 11 = w.heap.size + 1 + 1 + 1) := by have := hbase 11; omega
 have nboq : ¬ (γ 11 = w.heap.size + 1 + 1 + 1 + 1) := by have := hbase 11; omega
 replace fx : objAt (more w8 mq) (w.heap.size) = some (.cells (ints .u64 5 (u)) 124) := by exact zqc
 replace fa : objAt (more w8 mq) (w.heap.size + 1) = some (.cells (ints .u64 10 (pairF (x) (z))) 140) := by exact zqc
 replace fb : objAt (more w8 mq) (w.heap.size + 1 + 1) = some (.cells (ints .u64 10 (pairF (x') (z'))) 140) := by exact zqc
 replace fr : objAt (more w8 mq) (w.heap.size + 1 + 1 + 1) = some (.cells (ints .u64 10 (pairF (zqd) (zqd))) 140) := by exact zqc
 replace fq : objAt (more w8 mq) (w.heap.size + 1 + 1 + 1 + 1) = some (.cells (ints .u64 10 (pairF (zqd) (zqd))) 140) := by exact zqc
 replace fs : objAt (more w8 mq) (gs) = some (.cells (ints .u64 5 (sumE x z)) 124) := by exact zqc
 replace fd : objAt (more w8 mq) (gd) = some (.cells (ints .u64 5 (difE x z)) 124) := by exact zqc
 replace ft : objAt (more w8 mq) (gt) = some (.cells (ints .u64 10 (pairF (twX x z) (twZ x z))) 140) := by exact zqc
 replace fda : objAt (more w8 mq) (gda) = some (.cells (ints .u64 5 (daE x z x' z')) 124) := by exact zqc
 replace fcb : objAt (more w8 mq) (gcb) = some (.cells (ints .u64 5 (cbE x z x' z')) 124) := by exact zqc
 replace hG : Below w.heap.size w (more w8 mq) := by exact zqe
 replace fbo : objAt (more w8 mq) (γ 11) = some (.cells (ints .u64 10 (pairF (boX x z x' z') (boZ u x z x' z'))) 140) := fbo
 clear lfx lfa lfb lfr lfq lfs lfd lft lfda lfcb
 clear hinj hbase
 generalize γ 11 = gbo at *
 generalize more w8 mq = w9 at *
 clear γ
 have lfx := zqa fx
 have lfa := zqa fa
 have lfb := zqa fb
 have lfr := zqa fr
 have lfq := zqa fq
 have lfs := zqa fs
 have lfd := zqa fd
 have lft := zqa ft
 have lfda := zqa fda
 have lfcb := zqa fcb
 have lfbo := zqa fbo
 go_wp2_with fail
 go_region
 all_goals
  go_wp2
  refine zqk0 rfl _ _ 140 140 _ _ (0, 0) (0, 0) _ _ rfl rfl (by simp [go_sem, fr, fq]) (by simp [go_sem, fr, fq]) Tryz.underlying140 rfl (by rw [zqf]; kernel_rfl) Tryz.underlying140 rfl (by rw [zqf]; kernel_rfl) rfl ⟨rfl, by exact zqe⟩
end Go.Proofs.YtconieddcjpbjaaGreatDoor
namespace Go.Proofs.YtconieddcjpbjaaGreatDoor
open Go.RowKit
set_option linter.unusedVariables false
set_option linter.unusedSimpArgs false
set_option maxHeartbeats 1000000 in
theorem zqu8 (x z : Nat → Int) (w : World) (hx : Under 18014398509481984 (x)) (hz : Under 18014398509481984 (z)) :
  Calls Tryz.prog 108 #[.agg (ints .u64 10 (pairF (x) (z)))] w fun e w' => e = .returned (.agg (ints .u64 5 (mulF x (invF z)))) ∧ Below w.heap.size w w' := by
 have hG := Grew.refl w
 have fp : True := trivial
 have fr : True := trivial
 go_enter Tryz.func108, Tryz.ntmps108
 have c1 := fun w => zqnx z w hz
 have c2 := fun w => mul_any x (invF z) w hx (zqgl z hz)
 go_wp2_with fail
 replace fp : objAt ((w.alloc (.cells (ints .u64 10 (pairF (x) (z))) 140)).alloc (.cells (ints .u64 5 (zqd)) 124)) (w.heap.size) = some (.cells (ints .u64 10 (pairF (x) (z))) 140) := by exact zqc
 replace fr : objAt ((w.alloc (.cells (ints .u64 10 (pairF (x) (z))) 140)).alloc (.cells (ints .u64 5 (zqd)) 124)) (w.heap.size + 1) = some (.cells (ints .u64 5 (zqd)) 124) := by exact zqc
 replace hG : Below w.heap.size w ((w.alloc (.cells (ints .u64 10 (pairF (x) (z))) 140)).alloc (.cells (ints .u64 5 (zqd)) 124)) := by exact zqe
 generalize (w.alloc (.cells (ints .u64 10 (pairF (x) (z))) 140)).alloc (.cells (ints .u64 5 (zqd)) 124) = w1 at *
 have lfp := zqa fp
 have lfr := zqa fr
 ((first | (with_reducible refine zqz 6 (by kernel_rfl) (by kernel_rfl) (by kernel_rfl) (by kernel_rfl) (by kernel_rfl) ?_) | refine zqy 6 (by kernel_rfl) (by kernel_rfl) (by kernel_rfl) (by kernel_rfl) (by kernel_rfl) ?_); simp only [List.take_succ_cons, List.take_zero]; (repeat (first | go_big_quiet_skip | (go_big_quiet_want; go_big_quiet_op; first | go_big_quiet_on | (apply Exists.intro; refine ⟨fun _ => ?_, ?_⟩; (focus (first | (with_reducible exact Calls.of_more (c1 _)) | (with_reducible exact Calls.of_more (c2 _)))); go_big_quiet_on)))); refine wpQuiet_nil ?_; rintro _ ⟨mq, rfl⟩)
 (refine zqaa (i := 6) (fuel := 0) (by kernel_rfl) rfl ?_; intro K hK; go_simp; refine hK _ _ ?_; clear hK K)
 (refine wpAny_done (by kernel_rfl) ?_ _)
 go_wp2
 refine zqai rfl _ 124 _ (0, 0) _ rfl (zqk _ (zqt _ fr)) Tryz.underlying124 rfl (by rw [zqf]; kernel_rfl) rfl ⟨rfl, by exact zqe⟩
set_option maxHeartbeats 1000000 in
theorem swapP_any (bit : Int) (x z x' z' : Nat → Int) (w : World) (hx : W64 5 (x)) (hz : W64 5 (z)) (hx' : W64 5 (x')) (hz' : W64 5 (z')) :
  Calls Tryz.prog 106 #[.int .i64 bit, .agg (ints .u64 10 (pairF (x) (z))), .agg (ints .u64 10 (pairF (x') (z')))] w fun e w' => e = .returned (.tuple #[.agg (ints .u64 10 (pairF (oneOf bit x x') (oneOf bit z z'))), .agg (ints .u64 10 (pairF (oneOf bit x' x) (oneOf bit z' z)))]) ∧ Below w.heap.size w w' := by
 have hG := Grew.refl w
 have fa : True := trivial
 have fb : True := trivial
 have fr : True := trivial
 have fq : True := trivial
 go_enter Tryz.func106, Tryz.ntmps106
 have c1 := fun w => zqpr bit x x' w hx hx'
 have c2 := fun w => zqpr bit z z' w hz hz'
 go_wp2_with fail
 replace fa : objAt ((((w.alloc (.cells (ints .u64 10 (pairF (x) (z))) 140)).alloc (.cells (ints .u64 10 (pairF (x') (z'))) 140)).alloc (.cells (ints .u64 10 (pairF (zqd) (zqd))) 140)).alloc (.cells (ints .u64 10 (pairF (zqd) (zqd))) 140)) (w.heap.size) = some (.cells (ints .u64 10 (pairF (x) (z))) 140) := by exact zqc
 replace fb : objAt ((((w.alloc (.cells (ints .u64 10 (pairF (x) (z))) 140)).alloc (.cells (ints .u64 10 (pairF (x') (z'))) 140)).alloc (.cells (ints .u64 10 (pairF (zqd) (zqd))) 140)).alloc (.cells (ints .u64 10 (pairF (zqd) (zqd))) 140)) (w.heap.size + 1) = some (.cells (ints .u64 10 (pairF (x') (z'))) 140) := by exact zqc
 replace fr : objAt ((((w.alloc (.cells (ints .u64 10 (pairF (x) (z))) 140)).alloc (.cells (ints .u64 10 (pairF (x') (z'))) 140)).alloc (.cells (ints .u64 10 (pairF (zqd) (zqd))) 140)).alloc (.cells (ints .u64 10 (pairF (zqd) (zqd))) 140)) (w.heap.size + 1 + 1) = some (.cells (ints .u64 10 (pairF (zqd) (zqd))) 140) := by exact zqc
 replace fq : objAt ((((w.alloc (.cells (ints .u64 10 (pairF (x) (z))) 140)).alloc (.cells (ints .u64 10 (pairF (x') (z'))) 140)).alloc (.cells (ints .u64 10 (pairF (zqd) (zqd))) 140)).alloc (.cells (ints .u64 10 (pairF (zqd) (zqd))) 140)) (w.heap.size + 1 + 1 + 1) = some (.cells (ints .u64 10 (pairF (zqd) (zqd))) 140) := by exact zqc
 replace hG : Below w.heap.size w ((((w.alloc (.cells (ints .u64 10 (pairF (x) (z))) 140)).alloc (.cells (ints .u64 10 (pairF (x') (z'))) 140)).alloc (.cells (ints .u64 10 (pairF (zqd) (zqd))) 140)).alloc (.cells (ints .u64 10 (pairF (zqd) (zqd))) 140)) := by exact zqe
 generalize (((w.alloc (.cells (ints .u64 10 (pairF (x) (z))) 140)).alloc (.cells (ints .u64 10 (pairF (x') (z'))) 140)).alloc (.cells (ints .u64 10 (pairF (zqd) (zqd))) 140)).alloc (.cells (ints .u64 10 (pairF (zqd) (zqd))) 140) = w1 at *
 have lfa := zqa fa
 have lfb := zqa fb
 have lfr := zqa fr
 have lfq := zqa fq
 go_wp2_with fail
 (refine (c1 _).mono ?_; rintro e w2 ⟨rfl, hb⟩; replace fa : objAt w2 (w.heap.size) = some (.cells (ints .u64 10 (pairF (x) (z))) 140) := zqb hb (by exact zqc); have lfa := zqa fa; replace fb : objAt w2 (w.heap.size + 1) = some (.cells (ints .u64 10 (pairF (x') (z'))) 140) := zqb hb (by exact zqc); have lfb := zqa fb; replace fr : objAt w2 (w.heap.size + 1 + 1) = some (.cells (ints .u64 10 (pairF (zqd) (zqd))) 140) := zqb hb (by exact zqc); have lfr := zqa fr; replace fq : objAt w2 (w.heap.size + 1 + 1 + 1) = some (.cells (ints .u64 10 (pairF (zqd) (zqd))) 140) := zqb hb (by exact zqc); have lfq := zqa fq; replace hG : Below w.heap.size w w2 := Grew.trans (by exact zqe) hb; clear hb)
 go_wp2_with fail
 have ea : objAt ((w2.setRow (w.heap.size) ((ints .u64 10 (pairF (oneOf bit x x') (z))))).setRow (w.heap.size + 1) ((ints .u64 10 (pairF (oneOf bit x' x) (z'))))) (w.heap.size) = some (.cells (ints .u64 10 (pairF (oneOf bit x x') (z))) 140) := zqg _ _ (zqt _ (fa)) (by first | assumption | omega | simp)
 have eb : objAt ((w2.setRow (w.heap.size) ((ints .u64 10 (pairF (oneOf bit x x') (z))))).setRow (w.heap.size + 1) ((ints .u64 10 (pairF (oneOf bit x' x) (z'))))) (w.heap.size + 1) = some (.cells (ints .u64 10 (pairF (oneOf bit x' x) (z'))) 140) := zqt _ (zqg _ _ (fb) (by first | assumption | omega | simp))
 have er : objAt ((w2.setRow (w.heap.size) ((ints .u64 10 (pairF (oneOf bit x x') (z))))).setRow (w.heap.size + 1) ((ints .u64 10 (pairF (oneOf bit x' x) (z'))))) (w.heap.size + 1 + 1) = some (.cells (ints .u64 10 (pairF (zqd) (zqd))) 140) := zqg _ _ (zqg _ _ (fr) (by first | assumption | omega | simp)) (by first | assumption | omega | simp)
 have eq : objAt ((w2.setRow (w.heap.size) ((ints .u64 10 (pairF (oneOf bit x x') (z))))).setRow (w.heap.size + 1) ((ints .u64 10 (pairF (oneOf bit x' x) (z'))))) (w.heap.size + 1 + 1 + 1) = some (.cells (ints .u64 10 (pairF (zqd) (zqd))) 140) := zqg _ _ (zqg _ _ (fq) (by first | assumption | omega | simp)) (by first | assumption | omega | simp)
 clear fa lfa fb lfb fr lfr fq lfq
 replace hG : Below w.heap.size w ((w2.setRow (w.heap.size) ((ints .u64 10 (pairF (oneOf bit x x') (z))))).setRow (w.heap.size + 1) ((ints .u64 10 (pairF (oneOf bit x' x) (z'))))) := by exact zqe
 generalize (w2.setRow (w.heap.size) ((ints .u64 10 (pairF (oneOf bit x x') (z))))).setRow (w.heap.size + 1) ((ints .u64 10 (pairF (oneOf bit x' x) (z')))) = w3 at *
 have fa := ea
 have fb := eb
 have fr := er
 have fq := eq
 clear ea eb er eq
 have lfa := zqa fa
 have lfb := zqa fb
 have lfr := zqa fr
 have lfq := zqa fq
 go_wp2_with fail
 (refine (c2 _).mono ?_; rintro e w4 ⟨rfl, hb⟩; replace fa : objAt w4 (w.heap.size) = some (.cells (ints .u64 10 (pairF (oneOf bit x x') (z))) 140) := zqb hb (by exact zqc); have lfa := zqa fa; replace fb : objAt w4 (w.heap.size + 1) = some (.cells (ints .u64 10 (pairF (oneOf bit x' x) (z'))) 140) := zqb hb (by exact zqc); have lfb := zqa fb; replace fr : objAt w4 (w.heap.size + 1 + 1) = some (.cells (ints .u64 10 (pairF (zqd) (zqd))) 140) := zqb hb (by exact zqc); have lfr := zqa fr; replace fq : objAt w4 (w.heap.size + 1 + 1 + 1) = some (.cells (ints .u64 10 (pairF (zqd) (zqd))) 140) := zqb hb (by exact zqc); have lfq := zqa fq; replace hG : Below w.heap.size w w4 := Grew.trans (by exact zqe) hb; clear hb)
 go_wp2_with fail
 have ea : objAt ((w4.setRow (w.heap.size) ((ints .u64 10 (pairF (oneOf bit x x') (oneOf bit z z'))))).setRow (w.heap.size + 1) ((ints .u64 10 (pairF (oneOf bit x' x) (oneOf bit z' z))))) (w.heap.size) = some (.cells (ints .u64 10 (pairF (oneOf bit x x') (oneOf bit z z'))) 140) := zqg _ _ (zqt _ (fa)) (by first | assumption | omega | simp)
 have eb : objAt ((w4.setRow (w.heap.size) ((ints .u64 10 (pairF (oneOf bit x x') (oneOf bit z z'))))).setRow (w.heap.size + 1) ((ints .u64 10 (pairF (oneOf bit x' x) (oneOf bit z' z))))) (w.heap.size + 1) = some (.cells (ints .u64 10 (pairF (oneOf bit x' x) (oneOf bit z' z))) 140) := zqt _ (zqg _ _ (fb) (by first | assumption | omega | simp))
 have er : objAt ((w4.setRow (w.heap.size) ((ints .u64 10 (pairF (oneOf bit x x') (oneOf bit z z'))))).setRow (w.heap.size + 1) ((ints .u64 10 (pairF (oneOf bit x' x) (oneOf bit z' z))))) (w.heap.size + 1 + 1) = some (.cells (ints .u64 10 (pairF (zqd) (zqd))) 140) := zqg _ _ (zqg _ _ (fr) (by first | assumption | omega | simp)) (by first | assumption | omega | simp)
 have eq : objAt ((w4.setRow (w.heap.size) ((ints .u64 10 (pairF (oneOf bit x x') (oneOf bit z z'))))).setRow (w.heap.size + 1) ((ints .u64 10 (pairF (oneOf bit x' x) (oneOf bit z' z))))) (w.heap.size + 1 + 1 + 1) = some (.cells (ints .u64 10 (pairF (zqd) (zqd))) 140) := zqg _ _ (zqg _ _ (fq) (by first | assumption | omega | simp)) (by first | assumption | omega | simp)
 clear fa lfa fb lfb fr lfr fq lfq
 replace hG : Below w.heap.size w ((w4.setRow (w.heap.size) ((ints .u64 10 (pairF (oneOf bit x x') (oneOf bit z z'))))).setRow (w.heap.size + 1) ((ints .u64 10 (pairF (oneOf bit x' x) (oneOf bit z' z))))) := by exact zqe
 generalize (w4.setRow (w.heap.size) ((ints .u64 10 (pairF (oneOf bit x x') (oneOf bit z z'))))).setRow (w.heap.size + 1) ((ints .u64 10 (pairF (oneOf bit x' x) (oneOf bit z' z)))) = w5 at *
 have fa := ea
 have fb := eb
 have fr := er
 have fq := eq
 clear ea eb er eq
 have lfa := zqa fa
 have lfb := zqa fb
 have lfr := zqa fr
 have lfq := zqa fq
 go_region
 all_goals
  go_wp2
  refine zqk0 rfl _ _ 140 140 _ _ (0, 0) (0, 0) _ _ rfl rfl (by simp [go_sem, fr, fq]) (by simp [go_sem, fr, fq]) Tryz.underlying140 rfl (by rw [zqf]; kernel_rfl) Tryz.underlying140 rfl (by rw [zqf]; kernel_rfl) rfl ⟨rfl, by exact zqe⟩
end Go.Proofs.YtconieddcjpbjaaGreatDoor
