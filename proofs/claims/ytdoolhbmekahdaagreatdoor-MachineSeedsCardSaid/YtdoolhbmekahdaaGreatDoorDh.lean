/- Dh -/
import Derived.Test.YtdoolhbmekahdaaGreatDoorOrder
set_option maxRecDepth 100000
set_option maxHeartbeats 4000000
namespace Go.Proofs.YtdoolhbmekahdaaGreatDoor
open Go.RowKit
set_option linter.unusedVariables false
set_option linter.unusedSimpArgs false
open Edw (red tv)
theorem ret_key_tmp {P : Program} {fn : Func} {R : Ending → World → Prop} {a : Act} {w : World} {p q : Tmp} {ty : TypeId} (h : fn.results = #[.cell p ty, .tmp q]) (g : Nat) (t : TypeId) (cs : Array Value) (fr : Nat × Nat) (d : TypeDesc) (v : Value)
  (hp : a.tmps.getD p undef = .pointer (some ⟨g, 0, none⟩)) (hq : a.tmps.getD q undef = v) (hg : objAt w g = some (.cells cs t fr))
  (hu : P.underlying ty = some d) (hd : (match d with | .struct _ | .array _ _ => true | _ => false) = true) (hi : (P.info? ty).map (·.size) = some cs.size)
  (hD : a.defers = []) (hR : R (.returned (.tuple #[.agg cs, v])) w) : bodyPost P fn R .ret a w := by
 refine bodyPost_ret_by ?_ hD hR
 have hp' : a.tmps[p]?.getD undef = .pointer (some ⟨g, 0, none⟩) := by simpa using hp
 have hq' : a.tmps[q]?.getD undef = v := by simpa using hq
 unfold objAt at hg
 simp [results, h, hp', hq', asAddr, run_loadVar_row w g t ty cs fr d hg hu hd hi]
def clampF (k : Nat → Int) : Nat → Int := fun i => if i = 0 then k 0 / 8 * 8 else if i = 31 then k 31 % 64 + 64 else k i
theorem andnot7 : ∀ n : Fin 256, bits .andNot .u8 ((n.val : Nat) : Int) 7 = ((n.val : Nat) : Int) / 8 * 8 := by decide +kernel
theorem clamp31 : ∀ n : Fin 256, bits .or .u8 (bits .andNot .u8 ((n.val : Nat) : Int) 128) 64 = ((n.val : Nat) : Int) % 64 + 64 := by decide +kernel
theorem clamp_cells (k : Nat → Int) (hk : Bytes 32 k) : ints .u8 32 (upd (upd (upd k 0 (bits BinOp.andNot IntKind.u8 (k 0) 7)) 31 (bits BinOp.andNot IntKind.u8 ((upd k 0 (bits BinOp.andNot IntKind.u8 (k 0) 7)) 31) 128)) 31 (bits BinOp.or IntKind.u8 ((upd (upd k 0 (bits BinOp.andNot IntKind.u8 (k 0) 7)) 31 (bits BinOp.andNot IntKind.u8 ((upd k 0 (bits BinOp.andNot IntKind.u8 (k 0) 7)) 31) 128)) 31) 64)) = ints .u8 32 (clampF k) := ints_congr fun i hi => by
 obtain ⟨a, ha, ha1⟩ := u8_nat (k 0) (hk 0 (by decide)).1 (hk 0 (by decide)).2
 obtain ⟨b, hb, hb1⟩ := u8_nat (k 31) (hk 31 (by decide)).1 (hk 31 (by decide)).2
 have e0 := andnot7 ⟨a, ha1⟩
 have e1 := clamp31 ⟨b, hb1⟩
 simp only at e0 e1
 rw [← ha] at e0
 rw [← hb] at e1
 unfold clampF
 by_cases h0 : i = 0
 ·subst h0; simp [upd, e0]
 ·by_cases h1 : i = 31
  ·subst h1; simp [upd, e1]
  ·simp [upd, h0, h1]
theorem clamp_bytes (k : Nat → Int) (hk : Bytes 32 k) : Bytes 32 (clampF k) := fun i hi => by
 have h0 := hk 0 (by decide)
 have h1 := hk 31 (by decide)
 have h2 := hk i hi
 unfold clampF
 split
 ·omega
 ·split <;> omega
set_option maxHeartbeats 1000000 in
theorem clamp_any (k : Nat → Int) (w : World) (hk : Bytes 32 k) :
  Calls Tryz.prog 263 #[.agg (ints .u8 32 (k))] w fun e w' => e = .returned (.agg (ints .u8 32 (clampF k))) ∧ Below w.heap.size w w' := by
 have hG := Grew.refl w
 go_enter Tryz.func263, Tryz.ntmps263
 have hk0 := hk 0 (by decide)
 have hk31 := hk 31 (by decide)
 go_wp2_with fail
 rw [clamp_cells k hk]
 refine ret_row rfl _ 27 _ (0, 0) _ rfl (by simp [go_sem]) Tryz.underlying27 rfl (by rw [ints_size]; kernel_rfl) rfl ⟨rfl, by exact grew_auto⟩
set_option maxHeartbeats 1000000 in
theorem raw_any (k p : Nat → Int) (w : World) (hk : Bytes 32 k) (hp : Bytes 32 p) :
  Calls Tryz.prog 262 #[.agg (ints .u8 32 (k)), .agg (ints .u8 32 (p))] w fun e w' => e = .returned (.agg (ints .u8 32 (keyV (tv (knum k 32) (nv (ofF p)))))) ∧ Below w.heap.size w w' := by
 have hG := Grew.refl w
 have fk : True := trivial
 have fp : True := trivial
 have fr : True := trivial
 go_enter Tryz.func262, Tryz.ntmps262
 go_wp2_with fail
 replace fk : objAt (((w.alloc (.cells (ints .u8 32 (k)) 27)).alloc (.cells (ints .u8 32 (p)) 27)).alloc (.cells (ints .u8 32 (nought)) 27)) (w.heap.size) = some (.cells (ints .u8 32 (k)) 27) := by exact keep_auto
 replace fp : objAt (((w.alloc (.cells (ints .u8 32 (k)) 27)).alloc (.cells (ints .u8 32 (p)) 27)).alloc (.cells (ints .u8 32 (nought)) 27)) (w.heap.size + 1) = some (.cells (ints .u8 32 (p)) 27) := by exact keep_auto
 replace fr : objAt (((w.alloc (.cells (ints .u8 32 (k)) 27)).alloc (.cells (ints .u8 32 (p)) 27)).alloc (.cells (ints .u8 32 (nought)) 27)) (w.heap.size + 1 + 1) = some (.cells (ints .u8 32 (nought)) 27) := by exact keep_auto
 replace hG : Below w.heap.size w (((w.alloc (.cells (ints .u8 32 (k)) 27)).alloc (.cells (ints .u8 32 (p)) 27)).alloc (.cells (ints .u8 32 (nought)) 27)) := by exact grew_auto
 generalize ((w.alloc (.cells (ints .u8 32 (k)) 27)).alloc (.cells (ints .u8 32 (p)) 27)).alloc (.cells (ints .u8 32 (nought)) 27) = w1 at *
 have lfk := lt_of_objAt fk
 have lfp := lt_of_objAt fp
 have lfr := lt_of_objAt fr
 have c1 := fun w => of_any p w hp
 have c2 := fun w => times_calls k (ofF p) w hk (loose_of p)
 have c3 := fun w => keyV_any (timesL (ofF p) k) w (loose_timesL _ _ (loose_of p))
 have e : nv (timesL (ofF p) k) = tv (knum k 32) (nv (ofF p)) := nv_timesL _ _ hk
 rw [e] at c3
 ((first | (with_reducible refine wp_region_tail_on 5 (by kernel_rfl) (by kernel_rfl) (by kernel_rfl) (by kernel_rfl) (by kernel_rfl) ?_) | refine wp_region_tail_more 5 (by kernel_rfl) (by kernel_rfl) (by kernel_rfl) (by kernel_rfl) (by kernel_rfl) ?_); simp only [List.take_succ_cons, List.take_zero]; (repeat (first | go_big_quiet_skip | (go_big_quiet_want; go_big_quiet_op; first | go_big_quiet_on | (apply Exists.intro; refine ⟨fun _ => ?_, ?_⟩; (focus (first | (with_reducible exact Calls.of_more (c1 _)) | (with_reducible exact Calls.of_more (c2 _)) | (with_reducible exact Calls.of_more (c3 _)))); go_big_quiet_on)))); refine wpQuiet_nil ?_; rintro _ ⟨mq, rfl⟩)
 (refine tail_one (i := 5) (fuel := 0) (by kernel_rfl) rfl ?_; intro K hK; go_simp; refine hK _ _ ?_; clear hK K)
 (refine wpAny_done (by kernel_rfl) ?_ _)
 go_wp2
 refine ret_row rfl _ 27 _ (0, 0) _ rfl (keep_more _ (keep_row _ fr)) Tryz.underlying27 rfl (by rw [ints_size]; kernel_rfl) rfl ⟨rfl, by exact grew_auto⟩
theorem nine_bytes : Bytes 32 (upd nought 0 9) := fun i _ => by unfold upd nought; split <;> omega
theorem nine_nv : nv (ofF (upd nought 0 9)) = 9 := by kernel_rfl
set_option maxHeartbeats 1000000 in
theorem base_any (k : Nat → Int) (w : World) (hk : Bytes 32 k) :
  Calls Tryz.prog 213 #[.agg (ints .u8 32 (k))] w fun e w' => e = .returned (.agg (ints .u8 32 (keyV (tv (knum (clampF k) 32) 9)))) ∧ Below w.heap.size w w' := by
 have hG := Grew.refl w
 have fk : True := trivial
 have fr : True := trivial
 go_enter Tryz.func213, Tryz.ntmps213
 go_wp2_with fail
 replace fk : objAt ((w.alloc (.cells (ints .u8 32 (k)) 27)).alloc (.cells (ints .u8 32 (nought)) 27)) (w.heap.size) = some (.cells (ints .u8 32 (k)) 27) := by exact keep_auto
 replace fr : objAt ((w.alloc (.cells (ints .u8 32 (k)) 27)).alloc (.cells (ints .u8 32 (nought)) 27)) (w.heap.size + 1) = some (.cells (ints .u8 32 (nought)) 27) := by exact keep_auto
 replace hG : Below w.heap.size w ((w.alloc (.cells (ints .u8 32 (k)) 27)).alloc (.cells (ints .u8 32 (nought)) 27)) := by exact grew_auto
 generalize (w.alloc (.cells (ints .u8 32 (k)) 27)).alloc (.cells (ints .u8 32 (nought)) 27) = w1 at *
 have lfk := lt_of_objAt fk
 have lfr := lt_of_objAt fr
 have c1 := fun w => clamp_any k w hk
 have c2 := fun w => raw_any (clampF k) (upd nought 0 9) w (clamp_bytes k hk) nine_bytes
 rw [nine_nv] at c2
 go_wp2_with fail
 (refine (c1 _).mono ?_; rintro e w2 ⟨rfl, hb⟩; replace fk : objAt w2 (w.heap.size) = some (.cells (ints .u8 32 (k)) 27) := keep_below hb (by exact keep_auto); have lfk := lt_of_objAt fk; replace fr : objAt w2 (w.heap.size + 1) = some (.cells (ints .u8 32 (nought)) 27) := keep_below hb (by exact keep_auto); have lfr := lt_of_objAt fr; replace hG : Below w.heap.size w w2 := Grew.trans (by exact grew_auto) hb; clear hb)
 go_wp2_with fail
 (refine (c2 _).mono ?_; rintro e w3 ⟨rfl, hb⟩; replace fk : objAt w3 (w.heap.size) = some (.cells (ints .u8 32 (k)) 27) := keep_below hb (by exact keep_auto); have lfk := lt_of_objAt fk; replace fr : objAt w3 (w.heap.size + 1) = some (.cells (ints .u8 32 (nought)) 27) := keep_below hb (by exact keep_auto); have lfr := lt_of_objAt fr; replace hG : Below w.heap.size w w3 := Grew.trans (by exact grew_auto) hb; clear hb)
 go_wp2
 refine ret_row rfl _ 27 _ (0, 0) _ rfl (keep_row _ fr) Tryz.underlying27 rfl (by rw [ints_size]; kernel_rfl) rfl ⟨rfl, by exact grew_auto⟩
theorem same_key0 (x : Int) (hx : 0 ≤ x ∧ x < 57896044618658097711785492504343953926634992332820282019728792003956564819949) : same 32 (keyV x) nought = decide (x = 0) := by
 have h := same_nv0 (ofF (keyV x))
 rwa [nv_ofV x hx.1 hx.2] at h
def shV (k p : Nat → Int) : Int := tv (knum (clampF k) 32) (nv (ofF p))
set_option maxHeartbeats 1000000 in
theorem shared_any (k p : Nat → Int) (w : World) {T : Bool} (hk : Bytes 32 k) (hp : Bytes 32 p) (hT : decide (shV k p = 0) = T) :
  Calls Tryz.prog 251 #[.agg (ints .u8 32 (k)), .agg (ints .u8 32 (p))] w fun e w' => e = .returned (.tuple #[.agg (ints .u8 32 (keyV (shV k p))), .bool (!T)]) ∧ Below w.heap.size w w' := by
 have hG := Grew.refl w
 have fk : True := trivial
 have fp : True := trivial
 have fr : True := trivial
 go_enter Tryz.func251, Tryz.ntmps251
 go_wp2_with fail
 replace fk : objAt (((w.alloc (.cells (ints .u8 32 (k)) 27)).alloc (.cells (ints .u8 32 (p)) 27)).alloc (.cells (ints .u8 32 (nought)) 27)) (w.heap.size) = some (.cells (ints .u8 32 (k)) 27) := by exact keep_auto
 replace fp : objAt (((w.alloc (.cells (ints .u8 32 (k)) 27)).alloc (.cells (ints .u8 32 (p)) 27)).alloc (.cells (ints .u8 32 (nought)) 27)) (w.heap.size + 1) = some (.cells (ints .u8 32 (p)) 27) := by exact keep_auto
 replace fr : objAt (((w.alloc (.cells (ints .u8 32 (k)) 27)).alloc (.cells (ints .u8 32 (p)) 27)).alloc (.cells (ints .u8 32 (nought)) 27)) (w.heap.size + 1 + 1) = some (.cells (ints .u8 32 (nought)) 27) := by exact keep_auto
 replace hG : Below w.heap.size w (((w.alloc (.cells (ints .u8 32 (k)) 27)).alloc (.cells (ints .u8 32 (p)) 27)).alloc (.cells (ints .u8 32 (nought)) 27)) := by exact grew_auto
 generalize ((w.alloc (.cells (ints .u8 32 (k)) 27)).alloc (.cells (ints .u8 32 (p)) 27)).alloc (.cells (ints .u8 32 (nought)) 27) = w1 at *
 have lfk := lt_of_objAt fk
 have lfp := lt_of_objAt fp
 have lfr := lt_of_objAt fr
 have c1 := fun w => clamp_any k w hk
 have c2 : ∀ w, Calls Tryz.prog 262 #[.agg (ints .u8 32 (clampF k)), .agg (ints .u8 32 (p))] w fun e w' => e = .returned (.agg (ints .u8 32 (keyV (shV k p)))) ∧ Below w.heap.size w w' := fun w => raw_any (clampF k) p w (clamp_bytes k hk) hp
 have c3 := fun w => zero_any (keyV (shV k p)) w (keyV_bytes _)
 have e : same 32 (keyV (shV k p)) nought = decide (shV k p = 0) := same_key0 _ (Edw.tv_bd _ _)
 rw [e, hT] at c3
 go_wp2_with fail
 (refine wp_rel (by kernel_rfl) (by kernel_rfl) ?_; (repeat (first | refine exv_skip rfl ?_ | (refine exv_call rfl ?_; apply Exists.intro))); refine exv_nil ?_; intro γ hinj hbase; (repeat (first | (refine rel_quiet rfl ?_; ((first | go_big_quiet_skip | (go_big_quiet_want; go_big_quiet_op; go_big_quiet_on)); refine wpQuiet_nil ?_)) | ((first | refine rel_skip_some rfl (fun _ => rfl) ?_ | ((try simp only [Nat.zero_add, Nat.reduceAdd]); apply rel_box alloc_cls; (focus rfl); (focus (first | exact cells_agg _ | exact cells_int _ _ | exact cells_bool _ | rfl)); (focus (exact by_fits))) | ((try simp only [Nat.zero_add, Nat.reduceAdd]); apply rel_alloc _ _ alloc_cls; (focus rfl); (focus (intro W; (first | exact zero_key _ | exact zero_elem _ | exact zero_num _ | exact zero_pair _ | exact zero_rnode _ | exact zero_kpair _))); (focus (first | exact cells_ints _ _ _ | exact cells_two _ _ | rfl)); (focus (exact by_fits))) | ((try simp only [Nat.zero_add, Nat.reduceAdd]); apply rel_slice alloc_cls; (focus rfl); (focus (intro W; simp only [List.map_toArray, List.map_cons, List.map_nil]; first | fail)); (focus (exact by_fits))) | (apply rel_fact; (focus rfl); (focus rfl); (focus rfl); (focus (intro W hC hF; go_big_quiet_want; go_big_quiet_op; (first | go_big_quiet_on | (apply Exists.intro; refine ⟨fun _ => ?_, ?_⟩; (focus (first | (with_reducible exact Calls.of_more (c1 _)) | (with_reducible exact Calls.of_more (c2 _)))); go_big_quiet_on)); exact wpQuiet_nil rfl)); (focus (first | exact fun _ => ⟨rfl, rfl⟩ | exact fun h => absurd h (by decide))))); ((first | go_big_quiet_skip | (go_big_quiet_want; go_big_quiet_op; go_big_quiet_on)); refine wpQuiet_nil ?_)) | refine rel_skip_none rfl (fun _ => rfl) ?_ | ((try simp only [Nat.zero_add, Nat.reduceAdd]); apply rel_store (setRow_cls (hbase _)); (focus rfl); (focus rfl); (focus rfl); (focus (first | exact cells_agg _ | exact cells_int _ _ | exact cells_bool _ | rfl)); rotate_left 3; (focus (exact by_mem)); rotate_right 3; (focus kernel_rfl); (focus (first | exact ints_size _ _ _ | rfl)); (focus (first | exact ints_ones _ _ _ | exact ones_two _ _ _ _ | kernel_rfl)); (focus (decide +kernel)); (focus (exact by_fits))))))
 (refine rel_nil ?_; rintro _ ⟨mq, rfl⟩ hF; simp only [List.forall_mem_cons] at hF; obtain ⟨fs, -⟩ := hF)
 have nsr : ¬ (γ 4 = w.heap.size + 1 + 1) := by have := hbase 4; omega
 have nrs : ¬ (w.heap.size + 1 + 1 = γ 4) := fun e => nsr e.symm
 have hw0 := hG.size
 have l0s : w.heap.size ≤ γ 4 := by have := hbase 4; omega
 clear hw0
 replace fk : objAt (more w1 mq) (w.heap.size) = some (.cells (ints .u8 32 (k)) 27) := by exact keep_auto
 replace fp : objAt (more w1 mq) (w.heap.size + 1) = some (.cells (ints .u8 32 (p)) 27) := by exact keep_auto
 replace fr : objAt (more w1 mq) (w.heap.size + 1 + 1) = some (.cells (ints .u8 32 (nought)) 27) := by exact keep_auto
 replace hG : Below w.heap.size w (more w1 mq) := by exact grew_auto
 replace fs : objAt (more w1 mq) (γ 4) = some (.cells (ints .u8 32 (keyV (shV k p))) 27) := fs
 clear lfk lfp lfr
 clear hinj hbase
 generalize γ 4 = gs at *
 generalize more w1 mq = w2 at *
 clear γ
 have lfk := lt_of_objAt fk
 have lfp := lt_of_objAt fp
 have lfr := lt_of_objAt fr
 have lfs := lt_of_objAt fs
 go_wp2_with fail
 refine wp_region_any (by kernel_rfl) ?_
 rw [show ({ w2 with drawn := w2.drawn + 1 } : World) = more w2 ⟨w2.drawn + 1, #[]⟩ from by simp [more]]
 generalize (⟨w2.drawn + 1, #[]⟩ : More) = m8
 refine tail_two (i := 0) (j := 1) (fuel := 5) (by kernel_rfl) rfl rfl ?_ ?_
 ·intro K hK
  go_simp
  refine hK _ _ ?_
  clear hK K
  refine tail_one (i := 1) (fuel := 4) (by kernel_rfl) rfl ?_
  intro K hK
  go_simp
  refine hK _ _ ?_
  clear hK K
  refine tail_one (i := 2) (fuel := 3) (by kernel_rfl) rfl ?_
  intro K hK
  go_simp
  refine (c3 _).mono ?_
  rintro e9 w9 ⟨rfl, hb9⟩
  obtain ⟨m9, rfl⟩ := more_of_below hb9
  clear hb9
  refine hK _ _ ?_
  clear hK K
  refine tail_two (i := 3) (j := 4) (fuel := 2) (by kernel_rfl) rfl rfl ?_ ?_
  ·intro K hK
   go_simp
   refine hK _ _ ?_
   clear hK K
   refine tail_one (i := 4) (fuel := 1) (by kernel_rfl) rfl ?_
   intro K hK
   go_simp
   refine hK _ _ ?_
   clear hK K
   refine tail_one (i := 5) (fuel := 0) (by kernel_rfl) rfl ?_
   intro K hK
   go_simp
   refine hK _ _ ?_
   clear hK K
   refine wpAny_done (by kernel_rfl) ?_ _
   go_wp2
   refine ret_key_tmp rfl _ 27 _ (0, 0) _ _ rfl rfl (keep_more _ (keep_more _ (keep_row _ fr))) Tryz.underlying27 rfl (by rw [ints_size]; kernel_rfl) rfl ⟨rfl, Grew.more (Grew.more (Grew.setRow hG _ _ (by omega)) _) _⟩
  ·intro K hK
   go_simp
   refine hK _ _ ?_
   clear hK K
   refine tail_one (i := 3) (fuel := 1) (by kernel_rfl) rfl ?_
   intro K hK
   go_simp
   refine hK _ _ ?_
   clear hK K
   refine tail_one (i := 5) (fuel := 0) (by kernel_rfl) rfl ?_
   intro K hK
   go_simp
   refine hK _ _ ?_
   clear hK K
   refine wpAny_done (by kernel_rfl) ?_ _
   go_wp2
   refine ret_key_tmp rfl _ 27 _ (0, 0) _ _ rfl rfl (keep_more _ (keep_more _ (keep_row _ fr))) Tryz.underlying27 rfl (by rw [ints_size]; kernel_rfl) rfl ⟨rfl, Grew.more (Grew.more (Grew.setRow hG _ _ (by omega)) _) _⟩
 ·intro K hK
  go_simp
  refine hK _ _ ?_
  clear hK K
  refine tail_two (i := 0) (j := 2) (fuel := 4) (by kernel_rfl) rfl rfl ?_ ?_
  ·intro K hK
   go_simp
   refine hK _ _ ?_
   clear hK K
   refine tail_one (i := 2) (fuel := 3) (by kernel_rfl) rfl ?_
   intro K hK
   go_simp
   refine (c3 _).mono ?_
   rintro e9 w9 ⟨rfl, hb9⟩
   obtain ⟨m9, rfl⟩ := more_of_below hb9
   clear hb9
   refine hK _ _ ?_
   clear hK K
   refine tail_two (i := 3) (j := 4) (fuel := 2) (by kernel_rfl) rfl rfl ?_ ?_
   ·intro K hK
    go_simp
    refine hK _ _ ?_
    clear hK K
    refine tail_one (i := 4) (fuel := 1) (by kernel_rfl) rfl ?_
    intro K hK
    go_simp
    refine hK _ _ ?_
    clear hK K
    refine tail_one (i := 5) (fuel := 0) (by kernel_rfl) rfl ?_
    intro K hK
    go_simp
    refine hK _ _ ?_
    clear hK K
    refine wpAny_done (by kernel_rfl) ?_ _
    go_wp2
    refine ret_key_tmp rfl _ 27 _ (0, 0) _ _ rfl rfl (keep_more _ (keep_more _ (keep_row _ fr))) Tryz.underlying27 rfl (by rw [ints_size]; kernel_rfl) rfl ⟨rfl, Grew.more (Grew.more (Grew.setRow hG _ _ (by omega)) _) _⟩
   ·intro K hK
    go_simp
    refine hK _ _ ?_
    clear hK K
    refine tail_one (i := 3) (fuel := 1) (by kernel_rfl) rfl ?_
    intro K hK
    go_simp
    refine hK _ _ ?_
    clear hK K
    refine tail_one (i := 5) (fuel := 0) (by kernel_rfl) rfl ?_
    intro K hK
    go_simp
    refine hK _ _ ?_
    clear hK K
    refine wpAny_done (by kernel_rfl) ?_ _
    go_wp2
    refine ret_key_tmp rfl _ 27 _ (0, 0) _ _ rfl rfl (keep_more _ (keep_more _ (keep_row _ fr))) Tryz.underlying27 rfl (by rw [ints_size]; kernel_rfl) rfl ⟨rfl, Grew.more (Grew.more (Grew.setRow hG _ _ (by omega)) _) _⟩
  ·intro K hK
   go_simp
   refine (c3 _).mono ?_
   rintro e9 w9 ⟨rfl, hb9⟩
   obtain ⟨m9, rfl⟩ := more_of_below hb9
   clear hb9
   refine hK _ _ ?_
   clear hK K
   refine tail_two (i := 0) (j := 3) (fuel := 3) (by kernel_rfl) rfl rfl ?_ ?_
   ·intro K hK
    go_simp
    refine hK _ _ ?_
    clear hK K
    refine tail_two (i := 3) (j := 4) (fuel := 2) (by kernel_rfl) rfl rfl ?_ ?_
    ·intro K hK
     go_simp
     refine hK _ _ ?_
     clear hK K
     refine tail_one (i := 4) (fuel := 1) (by kernel_rfl) rfl ?_
     intro K hK
     go_simp
     refine hK _ _ ?_
     clear hK K
     refine tail_one (i := 5) (fuel := 0) (by kernel_rfl) rfl ?_
     intro K hK
     go_simp
     refine hK _ _ ?_
     clear hK K
     refine wpAny_done (by kernel_rfl) ?_ _
     go_wp2
     refine ret_key_tmp rfl _ 27 _ (0, 0) _ _ rfl rfl (keep_more _ (keep_more _ (keep_row _ fr))) Tryz.underlying27 rfl (by rw [ints_size]; kernel_rfl) rfl ⟨rfl, Grew.more (Grew.more (Grew.setRow hG _ _ (by omega)) _) _⟩
    ·intro K hK
     go_simp
     refine hK _ _ ?_
     clear hK K
     refine tail_one (i := 3) (fuel := 1) (by kernel_rfl) rfl ?_
     intro K hK
     go_simp
     refine hK _ _ ?_
     clear hK K
     refine tail_one (i := 5) (fuel := 0) (by kernel_rfl) rfl ?_
     intro K hK
     go_simp
     refine hK _ _ ?_
     clear hK K
     refine wpAny_done (by kernel_rfl) ?_ _
     go_wp2
     refine ret_key_tmp rfl _ 27 _ (0, 0) _ _ rfl rfl (keep_more _ (keep_more _ (keep_row _ fr))) Tryz.underlying27 rfl (by rw [ints_size]; kernel_rfl) rfl ⟨rfl, Grew.more (Grew.more (Grew.setRow hG _ _ (by omega)) _) _⟩
   ·intro K hK
    go_simp
    refine hK _ _ ?_
    clear hK K
    refine tail_one (i := 0) (fuel := 2) (by kernel_rfl) rfl ?_
    intro K hK
    go_simp
    refine hK _ _ ?_
    clear hK K
    refine tail_one (i := 4) (fuel := 1) (by kernel_rfl) rfl ?_
    intro K hK
    go_simp
    refine hK _ _ ?_
    clear hK K
    refine tail_one (i := 5) (fuel := 0) (by kernel_rfl) rfl ?_
    intro K hK
    go_simp
    refine hK _ _ ?_
    clear hK K
    refine wpAny_done (by kernel_rfl) ?_ _
    go_wp2
    refine ret_key_tmp rfl _ 27 _ (0, 0) _ _ rfl rfl (keep_more _ (keep_more _ (keep_row _ fr))) Tryz.underlying27 rfl (by rw [ints_size]; kernel_rfl) rfl ⟨rfl, Grew.more (Grew.more (Grew.setRow hG _ _ (by omega)) _) _⟩
end Go.Proofs.YtdoolhbmekahdaaGreatDoor
namespace Go.Proofs.YtdoolhbmekahdaaGreatDoor
open Go.RowKit
set_option linter.unusedVariables false
set_option linter.unusedSimpArgs false
open Edw (red tv)
def cK (k : Nat → Int) : Nat := knum (clampF k) 32
set_option maxHeartbeats 1000000 in
theorem awake6_any (w : World) :
  Calls Tryz.prog 426 #[] w fun e w' => e = .returned (.bool true) ∧ Below w.heap.size w w' := by
 have hG := Grew.refl w
 go_enter Tryz.func426, Tryz.ntmps426
 have c1 := fun w => raw_any (upd nought 0 1) (upd nought 0 9) w ok5_bytes nine_bytes
 rw [ok5_num, nine_nv, Edw.tv_one 9 (by decide)] at c1
 have c2 := fun w => clamp_any nought w zk5_bytes
 have s1 : same 32 (keyV 9) (upd nought 0 9) = true := by kernel_rfl
 have s2 : same 32 (clampF nought) (upd nought 31 64) = true := by kernel_rfl
 go_wp2_with fail
 (refine (Awake5_any _).mono ?_; rintro e w1 ⟨rfl, hb⟩; replace hG : Below w.heap.size w w1 := Grew.trans (by exact grew_auto) hb; clear hb)
 go_wp2_with fail
 (refine (c1 _).mono ?_; rintro e w2 ⟨rfl, hb⟩; replace hG : Below w.heap.size w w2 := Grew.trans (by exact grew_auto) hb; clear hb)
 go_wp2_with fail
 (refine (c2 _).mono ?_; rintro e w3 ⟨rfl, hb⟩; replace hG : Below w.heap.size w w3 := Grew.trans (by exact grew_auto) hb; clear hb)
 go_wp2
 go_ret
 exact ⟨rfl, by exact grew_auto⟩
end Go.Proofs.YtdoolhbmekahdaaGreatDoor
