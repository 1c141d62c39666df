/- LimbAdds: the law's walk. NOT FINISHED: see NOTES.md. -/
import Derived.Test.YtmmhcpfniipgeaaAdds
import Derived.Test.YtmmhcpfniipgeaaRel
namespace Go.Proofs.Ytmmhcpfniipgeaa
open Go.RowKit
set_option linter.unusedVariables false
set_option linter.unusedSimpArgs false

/-- what holds at the head of the loop -/
structure AddsInv (F : Nat → Nat → Int) (a b : Nat → Int) (x y : Int) (gx gy gs : Nat) (w : World) (j : Nat) (wr : World) : Prop where
  u : ∀ k, k < j → Under 18014398509481984 (F k)
  g : Below w.heap.size w wr
  fa : objAt wr w.heap.size = some (.cells (ints .u64 5 a) 37)
  fb : objAt wr (w.heap.size + 1) = some (.cells (ints .u64 5 b) 37)
  fx : objAt wr gx = some (.cells (ints .i64 16 (numN x)) 41)
  fy : objAt wr gy = some (.cells (ints .i64 16 (numN y)) 41)
  fs : objAt wr gs = some (.cells (ints .i64 16 (numN (sumN F j))) 41)
theorem vmod_bd (v : Int) : 0 ≤ v % 57896044618658097711785492504343953926634992332820282019728792003956564819949 ∧ v % 57896044618658097711785492504343953926634992332820282019728792003956564819949 < 57896044618658097711785492504343953926634992332820282019728792003956564819949 := by omega
theorem nought_num : ints .i64 16 nought = ints .i64 16 (numN 0) := ints_congr fun i _ => by simp [nought, numN]
def bigM : Int := 57896044618658097711785492504343953926634992332820282019728792003956564819949
set_option maxRecDepth 100000 in
set_option maxHeartbeats 400000 in
theorem adds_any (a b : Nat → Int) (F : Nat → Nat → Int) (n c : Nat) (oa : Option Addr) (w : World) (ha : ∀ i, i < 5 → 0 ≤ a i ∧ a i ≤ 18446744073709551615) (hb : ∀ i, i < 5 → 0 ≤ b i ∧ b i ≤ 18446744073709551615)
    (hF : ∀ j, j < n → ∀ i, i < 5 → 0 ≤ F j i ∧ F j i ≤ 18446744073709551615) (hn : n ≤ 9223372036854775807)
    (hl : ElemsAt w oa n F) :
    Calls Try.prog 7 #[.agg (ints .u64 5 a), .agg (ints .u64 5 b), .slice oa n c] w fun e w' => e = .returned (.bool true) ∧ Below w.heap.size w w' := by
  have hLd : Hid (ElemsAt w oa n F) := hl
  clear hl
  have hG := Grew.refl w
  have fa : True := trivial
  have fb : True := trivial
  have hla : underB 18014398509481984 a = true → Under 18014398509481984 a := fun h i hi => ⟨(ha i hi).1, (underB_iff _ _).1 h i hi⟩
  have hlb : underB 18014398509481984 b = true → Under 18014398509481984 b := fun h i hi => ⟨(hb i hi).1, (underB_iff _ _).1 h i hi⟩
  generalize hA : underB 18014398509481984 a = A
  generalize hB : underB 18014398509481984 b = B
  go_enter Try.func7, Try.ntmps7
  go_wp2_with fail
  (refine (awake2_any _).mono ?_; rintro e w1 ⟨rfl, hb⟩; replace fa : objAt w1 (w.heap.size) = some (.cells (ints .u64 5 a) 37) := keep_below hb (by (repeat (first | assumption | exact objAt_alloc_at _ _ _ rfl | (refine objAt_alloc_at _ _ _ ?_; (simp; done)) | refine keep_alloc _ ?_ | refine keep_drewN _ ?_ | refine keep_more _ ?_ | exact keep_row _ (by assumption) | refine keep_setRow _ _ ?_ (by simp; omega)))); have lfa := lt_of_objAt fa; replace fb : objAt w1 (w.heap.size + 1) = some (.cells (ints .u64 5 b) 37) := keep_below hb (by (repeat (first | assumption | exact objAt_alloc_at _ _ _ rfl | (refine objAt_alloc_at _ _ _ ?_; (simp; done)) | refine keep_alloc _ ?_ | refine keep_drewN _ ?_ | refine keep_more _ ?_ | exact keep_row _ (by assumption) | refine keep_setRow _ _ ?_ (by simp; omega)))); have lfb := lt_of_objAt fb; replace hG : Below w.heap.size w w1 := Grew.trans (by (repeat (first | assumption | exact Grew.refl _ | refine Grew.more ?_ _ | refine Grew.alloc ?_ _ | refine Grew.drewN ?_ _ | refine Grew.setRow ?_ _ _ (by omega) | refine Grew.setRow ?_ _ _ (by simp; omega) | refine Grew.setRow ?_ _ _ (by simp)))) hb; clear hb)
  go_wp2_with fail
  (refine (loose_is a _ hA).mono ?_; rintro e w2 ⟨rfl, hb⟩; replace fa : objAt w2 (w.heap.size) = some (.cells (ints .u64 5 a) 37) := keep_below hb (by (repeat (first | assumption | exact objAt_alloc_at _ _ _ rfl | (refine objAt_alloc_at _ _ _ ?_; (simp; done)) | refine keep_alloc _ ?_ | refine keep_drewN _ ?_ | refine keep_more _ ?_ | exact keep_row _ (by assumption) | refine keep_setRow _ _ ?_ (by simp; omega)))); have lfa := lt_of_objAt fa; replace fb : objAt w2 (w.heap.size + 1) = some (.cells (ints .u64 5 b) 37) := keep_below hb (by (repeat (first | assumption | exact objAt_alloc_at _ _ _ rfl | (refine objAt_alloc_at _ _ _ ?_; (simp; done)) | refine keep_alloc _ ?_ | refine keep_drewN _ ?_ | refine keep_more _ ?_ | exact keep_row _ (by assumption) | refine keep_setRow _ _ ?_ (by simp; omega)))); have lfb := lt_of_objAt fb; replace hG : Below w.heap.size w w2 := Grew.trans (by (repeat (first | assumption | exact Grew.refl _ | refine Grew.more ?_ _ | refine Grew.alloc ?_ _ | refine Grew.drewN ?_ _ | refine Grew.setRow ?_ _ _ (by omega) | refine Grew.setRow ?_ _ _ (by simp; omega) | refine Grew.setRow ?_ _ _ (by simp)))) hb; clear hb)
  cases A
  · go_wp2
    go_ret
    exact ⟨rfl, by (repeat (first | assumption | exact Grew.refl _ | refine Grew.more ?_ _ | refine Grew.alloc ?_ _ | refine Grew.drewN ?_ _ | refine Grew.setRow ?_ _ _ (by omega) | refine Grew.setRow ?_ _ _ (by simp; omega) | refine Grew.setRow ?_ _ _ (by simp)))⟩
  · go_wp2_with fail
    (refine (loose_is b _ hB).mono ?_; rintro e w3 ⟨rfl, hb⟩; replace fa : objAt w3 (w.heap.size) = some (.cells (ints .u64 5 a) 37) := keep_below hb (by (repeat (first | assumption | exact objAt_alloc_at _ _ _ rfl | (refine objAt_alloc_at _ _ _ ?_; (simp; done)) | refine keep_alloc _ ?_ | refine keep_drewN _ ?_ | refine keep_more _ ?_ | exact keep_row _ (by assumption) | refine keep_setRow _ _ ?_ (by simp; omega)))); have lfa := lt_of_objAt fa; replace fb : objAt w3 (w.heap.size + 1) = some (.cells (ints .u64 5 b) 37) := keep_below hb (by (repeat (first | assumption | exact objAt_alloc_at _ _ _ rfl | (refine objAt_alloc_at _ _ _ ?_; (simp; done)) | refine keep_alloc _ ?_ | refine keep_drewN _ ?_ | refine keep_more _ ?_ | exact keep_row _ (by assumption) | refine keep_setRow _ _ ?_ (by simp; omega)))); have lfb := lt_of_objAt fb; replace hG : Below w.heap.size w w3 := Grew.trans (by (repeat (first | assumption | exact Grew.refl _ | refine Grew.more ?_ _ | refine Grew.alloc ?_ _ | refine Grew.drewN ?_ _ | refine Grew.setRow ?_ _ _ (by omega) | refine Grew.setRow ?_ _ _ (by simp; omega) | refine Grew.setRow ?_ _ _ (by simp)))) hb; clear hb)
    cases B
    · go_wp2
      go_ret
      exact ⟨rfl, by (repeat (first | assumption | exact Grew.refl _ | refine Grew.more ?_ _ | refine Grew.alloc ?_ _ | refine Grew.drewN ?_ _ | refine Grew.setRow ?_ _ _ (by omega) | refine Grew.setRow ?_ _ _ (by simp; omega) | refine Grew.setRow ?_ _ _ (by simp)))⟩
    · by_cases h40 : n ≤ 40
      · have hua := hla hA
        have hub := hlb hB
        clear hla hlb hA hB
        have hG0 := hG
        go_wp2_with fail
        (refine wp_rel (by kernel_rfl) (by kernel_rfl) ?_; (repeat (first | refine exv_skip rfl ?_ | (refine exv_call rfl ?_; apply Exists.intro))); refine exv_nil ?_; intro γ hinj hbase; (repeat (first | (refine rel_quiet rfl ?_; ((first | go_big_quiet_skip | (go_big_quiet_want; go_big_quiet_op; go_big_quiet_on)); refine wpQuiet_nil ?_)) | (first | (refine rel_skip_some rfl (fun _ => rfl) ?_; ((first | go_big_quiet_skip | (go_big_quiet_want; go_big_quiet_op; go_big_quiet_on)); refine wpQuiet_nil ?_)) | refine rel_skip_none rfl (fun _ => rfl) ?_) | ((try simp only [Nat.zero_add, Nat.reduceAdd]); apply rel_box alloc_cls; (focus rfl); (focus (first | exact cells_agg _ | exact cells_int _ _ | exact cells_bool _ | rfl)); (focus ((repeat (refine fits_cons ⟨by (first | exact stab_full _ _ _ | exact stab_hdr _ _ _ | exact stab_hdr_at _ _ _ _ | exact stab_full_at _ _ _ _ (hinj _ _ (by decide))), by (first | exact stab_full _ _ _ | exact stab_hdr _ _ _ | exact stab_hdr_at _ _ _ _ | exact stab_full_at _ _ _ _ (hinj _ _ (by decide)))⟩ ?_)); exact fits_nil (by (first | exact stab_full _ _ _ | exact stab_hdr _ _ _ | exact stab_hdr_at _ _ _ _ | exact stab_full_at _ _ _ _ (hinj _ _ (by decide)))))); ((first | go_big_quiet_skip | (go_big_quiet_want; go_big_quiet_op; go_big_quiet_on)); refine wpQuiet_nil ?_)) | ((try simp only [Nat.zero_add, Nat.reduceAdd]); apply rel_alloc _ _ alloc_cls; (focus rfl); (focus (intro W; (first | exact zero_key _ | exact zero_elem _ | exact zero_num _))); (focus exact cells_ints _ _ _); (focus ((repeat (refine fits_cons ⟨by (first | exact stab_full _ _ _ | exact stab_hdr _ _ _ | exact stab_hdr_at _ _ _ _ | exact stab_full_at _ _ _ _ (hinj _ _ (by decide))), by (first | exact stab_full _ _ _ | exact stab_hdr _ _ _ | exact stab_hdr_at _ _ _ _ | exact stab_full_at _ _ _ _ (hinj _ _ (by decide)))⟩ ?_)); exact fits_nil (by (first | exact stab_full _ _ _ | exact stab_hdr _ _ _ | exact stab_hdr_at _ _ _ _ | exact stab_full_at _ _ _ _ (hinj _ _ (by decide)))))); ((first | go_big_quiet_skip | (go_big_quiet_want; go_big_quiet_op; go_big_quiet_on)); refine wpQuiet_nil ?_)) | ((try simp only [Nat.zero_add, Nat.reduceAdd]); apply rel_store (setRow_cls (hbase _)); (focus rfl); (focus rfl); (focus rfl); (focus (first | exact cells_agg _ | exact cells_int _ _ | exact cells_bool _ | rfl)); rotate_left 3; (focus (first | exact List.mem_cons_self .. | exact List.mem_cons_of_mem _ (List.mem_cons_self ..) | exact List.mem_cons_of_mem _ (List.mem_cons_of_mem _ (List.mem_cons_self ..)) | exact List.mem_cons_of_mem _ (List.mem_cons_of_mem _ (List.mem_cons_of_mem _ (List.mem_cons_self ..))) | exact List.mem_cons_of_mem _ (List.mem_cons_of_mem _ (List.mem_cons_of_mem _ (List.mem_cons_of_mem _ (List.mem_cons_self ..)))))); rotate_right 3; (focus kernel_rfl); (focus exact ints_size _ _ _); (focus exact ints_ones _ _ _); (focus (decide +kernel)); (focus ((repeat (refine fits_cons ⟨by (first | exact stab_full _ _ _ | exact stab_hdr _ _ _ | exact stab_hdr_at _ _ _ _ | exact stab_full_at _ _ _ _ (hinj _ _ (by decide))), by (first | exact stab_full _ _ _ | exact stab_hdr _ _ _ | exact stab_hdr_at _ _ _ _ | exact stab_full_at _ _ _ _ (hinj _ _ (by decide)))⟩ ?_)); exact fits_nil (by (first | exact stab_full _ _ _ | exact stab_hdr _ _ _ | exact stab_hdr_at _ _ _ _ | exact stab_full_at _ _ _ _ (hinj _ _ (by decide))))))) | (apply rel_fact; (focus rfl); (focus rfl); (focus rfl); (focus (intro W hC hF; go_big_quiet_want; go_big_quiet_op; (first | go_big_quiet_on | (apply Exists.intro; refine ⟨fun _ => ?_, ?_⟩; (focus (first | (with_reducible exact Calls.of_more (limbsV_any a _ ha)) | (with_reducible exact Calls.of_more (limbsV_any b _ hb)))); go_big_quiet_on)); exact wpQuiet_nil rfl)); (focus (exact fun _ => rfl)); ((first | go_big_quiet_skip | (go_big_quiet_want; go_big_quiet_op; go_big_quiet_on)); refine wpQuiet_nil ?_)))))
        (refine rel_nil ?_; rintro _ ⟨mq, rfl⟩ hF; simp only [List.forall_mem_cons] at hF; obtain ⟨fy, fx, -⟩ := hF)
        replace fa : objAt (more w3 mq) w.heap.size = some (.cells (ints .u64 5 a) 37) := by (repeat (first | assumption | exact objAt_alloc_at _ _ _ rfl | (refine objAt_alloc_at _ _ _ ?_; (simp; done)) | refine keep_alloc _ ?_ | refine keep_drewN _ ?_ | refine keep_more _ ?_ | exact keep_row _ (by assumption) | refine keep_setRow _ _ ?_ (by simp; omega)))
        replace fb : objAt (more w3 mq) (w.heap.size + 1) = some (.cells (ints .u64 5 b) 37) := by (repeat (first | assumption | exact objAt_alloc_at _ _ _ rfl | (refine objAt_alloc_at _ _ _ ?_; (simp; done)) | refine keep_alloc _ ?_ | refine keep_drewN _ ?_ | refine keep_more _ ?_ | exact keep_row _ (by assumption) | refine keep_setRow _ _ ?_ (by simp; omega)))
        replace hG : Below w.heap.size w (more w3 mq) := by (repeat (first | assumption | exact Grew.refl _ | refine Grew.more ?_ _ | refine Grew.alloc ?_ _ | refine Grew.drewN ?_ _ | refine Grew.setRow ?_ _ _ (by omega) | refine Grew.setRow ?_ _ _ (by simp; omega) | refine Grew.setRow ?_ _ _ (by simp)))
        have hx0 := Nat.le_trans hG0.size (hbase 4)
        have hy0 := Nat.le_trans hG0.size (hbase 5)
        clear hinj hbase lfa lfb hG0
        replace fx : objAt (more w3 mq) (γ 4) = some (.cells (ints .i64 16 (numN (valE a % 57896044618658097711785492504343953926634992332820282019728792003956564819949))) 41) := fx
        replace fy : objAt (more w3 mq) (γ 5) = some (.cells (ints .i64 16 (numN (valE b % 57896044618658097711785492504343953926634992332820282019728792003956564819949))) 41) := fy
        have hxb := vmod_bd (valE a)
        have hyb := vmod_bd (valE b)
        have ia := is_any (carryF (plus a b)) ((valE a % 57896044618658097711785492504343953926634992332820282019728792003956564819949 + valE b % 57896044618658097711785492504343953926634992332820282019728792003956564819949) % 57896044618658097711785492504343953926634992332820282019728792003956564819949)
        generalize hX : valE a % 57896044618658097711785492504343953926634992332820282019728792003956564819949 = x at *
        generalize hY : valE b % 57896044618658097711785492504343953926634992332820282019728792003956564819949 = y at *
        generalize γ 4 = gx at *
        generalize γ 5 = gy at *
        generalize more w3 mq = w4 at *
        have lfa := lt_of_objAt fa
        have lfb := lt_of_objAt fb
        have lfx := lt_of_objAt fx
        have lfy := lt_of_objAt fy
        go_wp2_with fail
        go_loopw [33] (fun i wr => ∃ j : Nat, j ≤ n ∧ i = .int .i64 j ∧ AddsInv F a b x y gx gy w4.heap.size w j wr) (fun i _ => n - (intOf i).toNat)
        case atStart => exact ⟨0, by omega, rfl, ⟨fun k hk => by omega, by (repeat (first | assumption | exact Grew.refl _ | refine Grew.more ?_ _ | refine Grew.alloc ?_ _ | refine Grew.drewN ?_ _ | refine Grew.setRow ?_ _ _ (by omega) | refine Grew.setRow ?_ _ _ (by simp; omega) | refine Grew.setRow ?_ _ _ (by simp))), by (repeat (first | assumption | exact objAt_alloc_at _ _ _ rfl | (refine objAt_alloc_at _ _ _ ?_; (simp; done)) | refine keep_alloc _ ?_ | refine keep_drewN _ ?_ | refine keep_more _ ?_ | exact keep_row _ (by assumption) | refine keep_setRow _ _ ?_ (by simp; omega))), by (repeat (first | assumption | exact objAt_alloc_at _ _ _ rfl | (refine objAt_alloc_at _ _ _ ?_; (simp; done)) | refine keep_alloc _ ?_ | refine keep_drewN _ ?_ | refine keep_more _ ?_ | exact keep_row _ (by assumption) | refine keep_setRow _ _ ?_ (by simp; omega))), by (repeat (first | assumption | exact objAt_alloc_at _ _ _ rfl | (refine objAt_alloc_at _ _ _ ?_; (simp; done)) | refine keep_alloc _ ?_ | refine keep_drewN _ ?_ | refine keep_more _ ?_ | exact keep_row _ (by assumption) | refine keep_setRow _ _ ?_ (by simp; omega))), by (repeat (first | assumption | exact objAt_alloc_at _ _ _ rfl | (refine objAt_alloc_at _ _ _ ?_; (simp; done)) | refine keep_alloc _ ?_ | refine keep_drewN _ ?_ | refine keep_more _ ?_ | exact keep_row _ (by assumption) | refine keep_setRow _ _ ?_ (by simp; omega))), by rw [show sumN F 0 = 0 from rfl, ← nought_num]; (repeat (first | assumption | exact objAt_alloc_at _ _ _ rfl | (refine objAt_alloc_at _ _ _ ?_; (simp; done)) | refine keep_alloc _ ?_ | refine keep_drewN _ ?_ | refine keep_more _ ?_ | exact keep_row _ (by assumption) | refine keep_setRow _ _ ?_ (by simp; omega)))⟩⟩
        case round =>
          have hs4 := hG.size
          have hx4 := lfx
          have hy4 := lfy
          have hb4 := lfb
          clear fa fb fx fy hG lfa lfb lfx lfy
          obtain ⟨j, hj, rfl, I⟩ := hrel
          obtain ⟨hu, hG, fa, fb, fx, fy, fs⟩ := I
          have lfa := lt_of_objAt fa
          have lfb := lt_of_objAt fb
          have lfx := lt_of_objAt fx
          have lfy := lt_of_objAt fy
          have lfs := lt_of_objAt fs
          have Hu : Hid (∀ k, k < j → Under 18014398509481984 (F k)) := hu
          clear hu
          by_cases hlt : j < n
          · rcases hLd.out with h0 | ⟨ad, rfl, hl⟩
            · omega
            have l1 := hl wr hG j hlt
            clear hl
            have hFj := hF j hlt
            have hs0 := sumN_bd F j
            have HU : Hid (underB 18014398509481984 (F j) = true → Under 18014398509481984 (F j)) := fun h i hi => ⟨(hFj i hi).1, (underB_iff _ _).1 h i hi⟩
            have HS : Hid (sumN F (j + 1) = (sumN F j + valE (F j) % 57896044618658097711785492504343953926634992332820282019728792003956564819949) % 57896044618658097711785492504343953926634992332820282019728792003956564819949) := rfl
            generalize hL : underB 18014398509481984 (F j) = L at *
            have fe : True := trivial
            go_wp2_with fail
            (refine (loose_is (F j) _ hL).mono ?_; rintro e wr1 ⟨rfl, hb⟩; replace fa : objAt wr1 (w.heap.size) = some (.cells (ints .u64 5 a) 37) := keep_below hb (by (repeat (first | assumption | exact objAt_alloc_at _ _ _ rfl | (refine objAt_alloc_at _ _ _ ?_; (simp; done)) | refine keep_alloc _ ?_ | refine keep_drewN _ ?_ | refine keep_more _ ?_ | exact keep_row _ (by assumption) | refine keep_setRow _ _ ?_ (by simp; omega)))); have lfa := lt_of_objAt fa; replace fb : objAt wr1 (w.heap.size + 1) = some (.cells (ints .u64 5 b) 37) := keep_below hb (by (repeat (first | assumption | exact objAt_alloc_at _ _ _ rfl | (refine objAt_alloc_at _ _ _ ?_; (simp; done)) | refine keep_alloc _ ?_ | refine keep_drewN _ ?_ | refine keep_more _ ?_ | exact keep_row _ (by assumption) | refine keep_setRow _ _ ?_ (by simp; omega)))); have lfb := lt_of_objAt fb; replace fx : objAt wr1 (gx) = some (.cells (ints .i64 16 (numN x)) 41) := keep_below hb (by (repeat (first | assumption | exact objAt_alloc_at _ _ _ rfl | (refine objAt_alloc_at _ _ _ ?_; (simp; done)) | refine keep_alloc _ ?_ | refine keep_drewN _ ?_ | refine keep_more _ ?_ | exact keep_row _ (by assumption) | refine keep_setRow _ _ ?_ (by simp; omega)))); have lfx := lt_of_objAt fx; replace fy : objAt wr1 (gy) = some (.cells (ints .i64 16 (numN y)) 41) := keep_below hb (by (repeat (first | assumption | exact objAt_alloc_at _ _ _ rfl | (refine objAt_alloc_at _ _ _ ?_; (simp; done)) | refine keep_alloc _ ?_ | refine keep_drewN _ ?_ | refine keep_more _ ?_ | exact keep_row _ (by assumption) | refine keep_setRow _ _ ?_ (by simp; omega)))); have lfy := lt_of_objAt fy; replace fs : objAt wr1 (w4.heap.size) = some (.cells (ints .i64 16 (numN (sumN F j))) 41) := keep_below hb (by (repeat (first | assumption | exact objAt_alloc_at _ _ _ rfl | (refine objAt_alloc_at _ _ _ ?_; (simp; done)) | refine keep_alloc _ ?_ | refine keep_drewN _ ?_ | refine keep_more _ ?_ | exact keep_row _ (by assumption) | refine keep_setRow _ _ ?_ (by simp; omega)))); have lfs := lt_of_objAt fs; replace fe : objAt wr1 (wr.heap.size) = some (.cells (ints .u64 5 (F j)) 37) := keep_below hb (by (repeat (first | assumption | exact objAt_alloc_at _ _ _ rfl | (refine objAt_alloc_at _ _ _ ?_; (simp; done)) | refine keep_alloc _ ?_ | refine keep_drewN _ ?_ | refine keep_more _ ?_ | exact keep_row _ (by assumption) | refine keep_setRow _ _ ?_ (by simp; omega)))); have lfe := lt_of_objAt fe; replace hG : Below w.heap.size w wr1 := Grew.trans (by (repeat (first | assumption | exact Grew.refl _ | refine Grew.more ?_ _ | refine Grew.alloc ?_ _ | refine Grew.drewN ?_ _ | refine Grew.setRow ?_ _ _ (by omega) | refine Grew.setRow ?_ _ _ (by simp; omega) | refine Grew.setRow ?_ _ _ (by simp)))) hb; clear hb)
            cases L
            · go_wp2
              go_ret
              exact ⟨rfl, by (repeat (first | assumption | exact Grew.refl _ | refine Grew.more ?_ _ | refine Grew.alloc ?_ _ | refine Grew.drewN ?_ _ | refine Grew.setRow ?_ _ _ (by omega) | refine Grew.setRow ?_ _ _ (by simp; omega) | refine Grew.setRow ?_ _ _ (by simp)))⟩
            · clear l1 hL
              have hvb := vmod_bd (valE (F j))
              have hlim := fun w => limbsV_any (F j) w hFj
              have hadd := fun w => addN_any (sumN F j) (valE (F j) % 57896044618658097711785492504343953926634992332820282019728792003956564819949) w hs0 hvb
              clear hvb hs0
              go_wp2_with fail
              ((first | (with_reducible refine wp_region_tail_on 4 (by kernel_rfl) (by kernel_rfl) (by kernel_rfl) (by kernel_rfl) (by kernel_rfl) ?_) | refine wp_region_tail_more 4 (by kernel_rfl) (by kernel_rfl) (by kernel_rfl) (by kernel_rfl) (by kernel_rfl) ?_); simp only [List.take_succ_cons, List.take_zero]; (repeat (first | go_big_quiet_skip | (go_big_quiet_want; go_big_quiet_op; first | go_big_quiet_on | (apply Exists.intro; refine ⟨fun _ => ?_, ?_⟩; (focus (first | (with_reducible exact Calls.of_more (hlim _)) | (with_reducible exact Calls.of_more (hadd _)))); go_big_quiet_on)))); refine wpQuiet_nil ?_; rintro _ ⟨mq, rfl⟩)
              (refine tail_one (i := 4) (fuel := 0) (by kernel_rfl) rfl ?_; intro K hK; go_simp; refine hK _ _ ?_; clear hK K)
              (refine wpAny_done (by kernel_rfl) ?_ _)
              go_wp2
              go_roundw
              case rel => exact ⟨j + 1, by omega, by go_num, ⟨fun k hk => by
                rcases (by omega : k < j ∨ k = j) with h | rfl
                · exact Hu.out k h
                · exact HU.out (by trivial), by (repeat (first | assumption | exact Grew.refl _ | refine Grew.more ?_ _ | refine Grew.alloc ?_ _ | refine Grew.drewN ?_ _ | refine Grew.setRow ?_ _ _ (by omega) | refine Grew.setRow ?_ _ _ (by simp; omega) | refine Grew.setRow ?_ _ _ (by simp))), by (repeat (first | assumption | exact objAt_alloc_at _ _ _ rfl | (refine objAt_alloc_at _ _ _ ?_; (simp; done)) | refine keep_alloc _ ?_ | refine keep_drewN _ ?_ | refine keep_more _ ?_ | exact keep_row _ (by assumption) | refine keep_setRow _ _ ?_ (by simp; omega))), by (repeat (first | assumption | exact objAt_alloc_at _ _ _ rfl | (refine objAt_alloc_at _ _ _ ?_; (simp; done)) | refine keep_alloc _ ?_ | refine keep_drewN _ ?_ | refine keep_more _ ?_ | exact keep_row _ (by assumption) | refine keep_setRow _ _ ?_ (by simp; omega))), by (repeat (first | assumption | exact objAt_alloc_at _ _ _ rfl | (refine objAt_alloc_at _ _ _ ?_; (simp; done)) | refine keep_alloc _ ?_ | refine keep_drewN _ ?_ | refine keep_more _ ?_ | exact keep_row _ (by assumption) | refine keep_setRow _ _ ?_ (by simp; omega))), by (repeat (first | assumption | exact objAt_alloc_at _ _ _ rfl | (refine objAt_alloc_at _ _ _ ?_; (simp; done)) | refine keep_alloc _ ?_ | refine keep_drewN _ ?_ | refine keep_more _ ?_ | exact keep_row _ (by assumption) | refine keep_setRow _ _ ?_ (by simp; omega))), by rw [HS.out, Int.add_emod_emod]; (repeat (first | assumption | exact objAt_alloc_at _ _ _ rfl | (refine objAt_alloc_at _ _ _ ?_; (simp; done)) | refine keep_alloc _ ?_ | refine keep_drewN _ ?_ | refine keep_more _ ?_ | exact keep_row _ (by assumption) | refine keep_setRow _ _ ?_ (by simp; omega)))⟩⟩
              case measure => simp [intOf] <;> omega
          · obtain rfl : j = n := by omega
            clear hlt
            have hs0 := sumN_bd F j
            have ht := tight_sum F j Hu.out
            have hv := sumF_val F j
            have t1 := tight_carry _ (under_plus a b hua hub)
            have t2 := tight_carry _ (under_minus a b hua hub)
            have e1 : valE (carryF (plus a b)) % 57896044618658097711785492504343953926634992332820282019728792003956564819949 = (x + y) % 57896044618658097711785492504343953926634992332820282019728792003956564819949 := by rw [val_carry, val_plus]; omega
            have e2 : valE (carryF (minus a b)) % 57896044618658097711785492504343953926634992332820282019728792003956564819949 = (x - y) % 57896044618658097711785492504343953926634992332820282019728792003956564819949 := by rw [val_carry, val_minus, val_modl]; omega
            have c1 := fun w => is_any (carryF (plus a b)) _ w t1 e1
            have c2 := fun w => is_any (carryF (minus a b)) _ w t2 e2
            have c3 := fun w => is_any (sumF F j) _ w ht hv
            have c4 := fun m => sum_any F j c oa (more wr m) Hu.out hn (hLd.out.later (Grew.more hG m))
            clear hX hY e1 e2 hv ia
            go_wp2_with fail
            ((first | (with_reducible refine wp_region_on (by kernel_rfl) (by kernel_rfl) ?_) | refine wp_region_more (by kernel_rfl) (by kernel_rfl) ?_); (repeat (first | go_big_quiet_skip | (go_big_quiet_want; go_big_quiet_op; first | go_big_quiet_on | (apply Exists.intro; refine ⟨fun _ => ?_, ?_⟩; (focus (first | (with_reducible exact Calls.of_more (add_any a b _ hua hub)) | (with_reducible exact Calls.of_more (addN_any x y _ hxb hyb)) | (with_reducible exact Calls.of_more (c1 _)) | (with_reducible exact Calls.of_more (sub_any a b _ hua hub)) | (with_reducible exact Calls.of_more (refSub_any x y _ hxb hyb)) | (with_reducible exact Calls.of_more (c2 _)) | (with_reducible exact Calls.of_more (c4 _)) | (with_reducible exact Calls.of_more (c3 _)))); go_big_quiet_on)))); refine wpQuiet_nil ?_; rintro _ ⟨mq, rfl⟩)
            go_wp2
            go_ret
            exact ⟨rfl, by (repeat (first | assumption | exact Grew.refl _ | refine Grew.more ?_ _ | refine Grew.alloc ?_ _ | refine Grew.drewN ?_ _ | refine Grew.setRow ?_ _ _ (by omega) | refine Grew.setRow ?_ _ _ (by simp; omega) | refine Grew.setRow ?_ _ _ (by simp)))⟩
      · go_wp2
        go_ret
        exact ⟨rfl, by (repeat (first | assumption | exact Grew.refl _ | refine Grew.more ?_ _ | refine Grew.alloc ?_ _ | refine Grew.drewN ?_ _ | refine Grew.setRow ?_ _ _ (by omega) | refine Grew.setRow ?_ _ _ (by simp; omega) | refine Grew.setRow ?_ _ _ (by simp)))⟩
end Go.Proofs.Ytmmhcpfniipgeaa
