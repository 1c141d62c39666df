/- Dh -/
import Derived.Test.YtconieddcjpbjaaGreatDoorOrder
set_option maxRecDepth 100000
set_option maxHeartbeats 4000000
namespace Go.Proofs.YtconieddcjpbjaaGreatDoor
open Go.RowKit
set_option linter.unusedVariables false
set_option linter.unusedSimpArgs false
open Edw (red tv)
theorem zqa6 {P : Program} {fn : Func} {R : Ending → World → Prop} {a : Act} {w : World} {p q : Tmp} {ty : TypeId} (h : fn.results = #[.cell p ty, .tmp q]) (g : Nat) (t : TypeId) (cs : Array Value) (fr : Nat × Nat) (d : TypeDesc) (v : Value)
  (hp : a.tmps.getD p undef = .pointer (some ⟨g, 0, none⟩)) (hq : a.tmps.getD q undef = v) (hg : objAt w g = some (.cells cs t fr))
  (hu : P.underlying ty = some d) (hd : (match d with | .struct _ | .array _ _ => true | _ => false) = true) (hi : (P.info? ty).map (·.size) = some cs.size)
  (hD : a.defers = []) (hR : R (.returned (.tuple #[.agg cs, v])) w) : bodyPost P fn R .ret a w := by
 refine bodyPost_ret_by ?_ hD hR
 have hp' : a.tmps[p]?.getD undef = .pointer (some ⟨g, 0, none⟩) := by simpa using hp
 have hq' : a.tmps[q]?.getD undef = v := by simpa using hq
 unfold objAt at hg
 simp [results, h, hp', hq', asAddr, run_loadVar_row w g t ty cs fr d hg hu hd hi]
def zqcl (k : Nat → Int) : Nat → Int := fun i => if i = 0 then k 0 / 8 * 8 else if i = 31 then k 31 % 64 + 64 else k i
theorem andnot7 : ∀ n : Fin 256, bits .andNot .u8 ((n.val : Nat) : Int) 7 = ((n.val : Nat) : Int) / 8 * 8 := by decide +kernel
theorem clamp31 : ∀ n : Fin 256, bits .or .u8 (bits .andNot .u8 ((n.val : Nat) : Int) 128) 64 = ((n.val : Nat) : Int) % 64 + 64 := by decide +kernel
theorem zqs3 (k : Nat → Int) (hk : Bytes 32 k) : ints .u8 32 (upd (upd (upd k 0 (bits BinOp.andNot IntKind.u8 (k 0) 7)) 31 (bits BinOp.andNot IntKind.u8 ((upd k 0 (bits BinOp.andNot IntKind.u8 (k 0) 7)) 31) 128)) 31 (bits BinOp.or IntKind.u8 ((upd (upd k 0 (bits BinOp.andNot IntKind.u8 (k 0) 7)) 31 (bits BinOp.andNot IntKind.u8 ((upd k 0 (bits BinOp.andNot IntKind.u8 (k 0) 7)) 31) 128)) 31) 64)) = ints .u8 32 (zqcl k) := zqay fun i hi => by
 obtain ⟨a, ha, ha1⟩ := zqnn (k 0) (hk 0 (by decide)).1 (hk 0 (by decide)).2
 obtain ⟨b, hb, hb1⟩ := zqnn (k 31) (hk 31 (by decide)).1 (hk 31 (by decide)).2
 have e0 := andnot7 ⟨a, ha1⟩
 have e1 := clamp31 ⟨b, hb1⟩
 simp only at e0 e1
 rw [← ha] at e0
 rw [← hb] at e1
 unfold zqcl
 by_cases h0 : i = 0
 ·subst h0; simp [upd, e0]
 ·by_cases h1 : i = 31
  ·subst h1; simp [upd, e1]
  ·simp [upd, h0, h1]
theorem zqdv (k : Nat → Int) (hk : Bytes 32 k) : Bytes 32 (zqcl k) := fun i hi => by
 have h0 := hk 0 (by decide)
 have h1 := hk 31 (by decide)
 have h2 := hk i hi
 unfold zqcl
 split
 ·omega
 ·split <;> omega
set_option maxHeartbeats 1000000 in
theorem zqlc (k : Nat → Int) (w : World) (hk : Bytes 32 k) :
  Calls Tryz.prog 80 #[.agg (ints .u8 32 (k))] w fun e w' => e = .returned (.agg (ints .u8 32 (zqcl k))) ∧ Below w.heap.size w w' := by
 have hG := Grew.refl w
 go_enter Tryz.func80, Tryz.ntmps80
 have hk0 := hk 0 (by decide)
 have hk31 := hk 31 (by decide)
 go_wp2_with fail
 rw [zqs3 k hk]
 refine zqai rfl _ 24 _ (0, 0) _ rfl (by simp [go_sem]) Tryz.underlying24 rfl (by rw [zqf]; kernel_rfl) rfl ⟨rfl, by exact zqe⟩
set_option maxHeartbeats 1000000 in
theorem zqsq (k p : Nat → Int) (w : World) (hk : Bytes 32 k) (hp : Bytes 32 p) :
  Calls Tryz.prog 79 #[.agg (ints .u8 32 (k)), .agg (ints .u8 32 (p))] w fun e w' => e = .returned (.agg (ints .u8 32 (keyV (tv (knum k 32) (nv (ofF p)))))) ∧ Below w.heap.size w w' := by
 have hG := Grew.refl w
 have fk : True := trivial
 have fp : True := trivial
 have fr : True := trivial
 go_enter Tryz.func79, Tryz.ntmps79
 go_wp2_with fail
 replace fk : objAt (((w.alloc (.cells (ints .u8 32 (k)) 24)).alloc (.cells (ints .u8 32 (p)) 24)).alloc (.cells (ints .u8 32 (zqd)) 24)) (w.heap.size) = some (.cells (ints .u8 32 (k)) 24) := by exact zqc
 replace fp : objAt (((w.alloc (.cells (ints .u8 32 (k)) 24)).alloc (.cells (ints .u8 32 (p)) 24)).alloc (.cells (ints .u8 32 (zqd)) 24)) (w.heap.size + 1) = some (.cells (ints .u8 32 (p)) 24) := by exact zqc
 replace fr : objAt (((w.alloc (.cells (ints .u8 32 (k)) 24)).alloc (.cells (ints .u8 32 (p)) 24)).alloc (.cells (ints .u8 32 (zqd)) 24)) (w.heap.size + 1 + 1) = some (.cells (ints .u8 32 (zqd)) 24) := by exact zqc
 replace hG : Below w.heap.size w (((w.alloc (.cells (ints .u8 32 (k)) 24)).alloc (.cells (ints .u8 32 (p)) 24)).alloc (.cells (ints .u8 32 (zqd)) 24)) := by exact zqe
 generalize ((w.alloc (.cells (ints .u8 32 (k)) 24)).alloc (.cells (ints .u8 32 (p)) 24)).alloc (.cells (ints .u8 32 (zqd)) 24) = w1 at *
 have lfk := zqa fk
 have lfp := zqa fp
 have lfr := zqa fr
 have c1 := fun w => zqtu p w hp
 have c2 := fun w => zqmf k (ofF p) w hk (zqg3 p)
 have c3 := fun w => zqfx (zqlp (ofF p) k) w (zqkb _ _ (zqg3 p))
 have e : nv (zqlp (ofF p) k) = tv (knum k 32) (nv (ofF p)) := zqp7 _ _ hk
 rw [e] at c3
 ((first | (with_reducible refine zqz 5 (by kernel_rfl) (by kernel_rfl) (by kernel_rfl) (by kernel_rfl) (by kernel_rfl) ?_) | refine zqy 5 (by kernel_rfl) (by kernel_rfl) (by kernel_rfl) (by kernel_rfl) (by kernel_rfl) ?_); simp only [List.take_succ_cons, List.take_zero]; (repeat (first | go_big_quiet_skip | (go_big_quiet_want; go_big_quiet_op; first | go_big_quiet_on | (apply Exists.intro; refine ⟨fun _ => ?_, ?_⟩; (focus (first | (with_reducible exact Calls.of_more (c1 _)) | (with_reducible exact Calls.of_more (c2 _)) | (with_reducible exact Calls.of_more (c3 _)))); go_big_quiet_on)))); refine wpQuiet_nil ?_; rintro _ ⟨mq, rfl⟩)
 (refine zqaa (i := 5) (fuel := 0) (by kernel_rfl) rfl ?_; intro K hK; go_simp; refine hK _ _ ?_; clear hK K)
 (refine wpAny_done (by kernel_rfl) ?_ _)
 go_wp2
 refine zqai rfl _ 24 _ (0, 0) _ rfl (zqk _ (zqt _ fr)) Tryz.underlying24 rfl (by rw [zqf]; kernel_rfl) rfl ⟨rfl, by exact zqe⟩
theorem zqj4 : Bytes 32 (upd zqd 0 9) := fun i _ => by unfold upd zqd; split <;> omega
theorem zqsc : nv (ofF (upd zqd 0 9)) = 9 := by kernel_rfl
set_option maxHeartbeats 1000000 in
theorem base_any (k : Nat → Int) (w : World) (hk : Bytes 32 k) :
  Calls Tryz.prog 48 #[.agg (ints .u8 32 (k))] w fun e w' => e = .returned (.agg (ints .u8 32 (keyV (tv (knum (zqcl k) 32) 9)))) ∧ Below w.heap.size w w' := by
 have hG := Grew.refl w
 have fk : True := trivial
 have fr : True := trivial
 go_enter Tryz.func48, Tryz.ntmps48
 go_wp2_with fail
 replace fk : objAt ((w.alloc (.cells (ints .u8 32 (k)) 24)).alloc (.cells (ints .u8 32 (zqd)) 24)) (w.heap.size) = some (.cells (ints .u8 32 (k)) 24) := by exact zqc
 replace fr : objAt ((w.alloc (.cells (ints .u8 32 (k)) 24)).alloc (.cells (ints .u8 32 (zqd)) 24)) (w.heap.size + 1) = some (.cells (ints .u8 32 (zqd)) 24) := by exact zqc
 replace hG : Below w.heap.size w ((w.alloc (.cells (ints .u8 32 (k)) 24)).alloc (.cells (ints .u8 32 (zqd)) 24)) := by exact zqe
 generalize (w.alloc (.cells (ints .u8 32 (k)) 24)).alloc (.cells (ints .u8 32 (zqd)) 24) = w1 at *
 have lfk := zqa fk
 have lfr := zqa fr
 have c1 := fun w => zqlc k w hk
 have c2 := fun w => zqsq (zqcl k) (upd zqd 0 9) w (zqdv k hk) zqj4
 rw [zqsc] at c2
 go_wp2_with fail
 (refine (c1 _).mono ?_; rintro e w2 ⟨rfl, hb⟩; replace fk : objAt w2 (w.heap.size) = some (.cells (ints .u8 32 (k)) 24) := zqb hb (by exact zqc); have lfk := zqa fk; replace fr : objAt w2 (w.heap.size + 1) = some (.cells (ints .u8 32 (zqd)) 24) := zqb hb (by exact zqc); have lfr := zqa fr; replace hG : Below w.heap.size w w2 := Grew.trans (by exact zqe) hb; clear hb)
 go_wp2_with fail
 (refine (c2 _).mono ?_; rintro e w3 ⟨rfl, hb⟩; replace fk : objAt w3 (w.heap.size) = some (.cells (ints .u8 32 (k)) 24) := zqb hb (by exact zqc); have lfk := zqa fk; replace fr : objAt w3 (w.heap.size + 1) = some (.cells (ints .u8 32 (zqd)) 24) := zqb hb (by exact zqc); have lfr := zqa fr; replace hG : Below w.heap.size w w3 := Grew.trans (by exact zqe) hb; clear hb)
 go_wp2
 refine zqai rfl _ 24 _ (0, 0) _ rfl (zqt _ fr) Tryz.underlying24 rfl (by rw [zqf]; kernel_rfl) rfl ⟨rfl, by exact zqe⟩
theorem zqps (x : Int) (hx : 0 ≤ x ∧ x < 57896044618658097711785492504343953926634992332820282019728792003956564819949) : same 32 (keyV x) zqd = decide (x = 0) := by
 have h := same_nv0 (ofF (keyV x))
 rwa [nv_ofV x hx.1 hx.2] at h
def shV (k p : Nat → Int) : Int := tv (knum (zqcl k) 32) (nv (ofF p))
set_option maxHeartbeats 1000000 in
theorem zqvu (k p : Nat → Int) (w : World) {T : Bool} (hk : Bytes 32 k) (hp : Bytes 32 p) (hT : decide (shV k p = 0) = T) :
  Calls Tryz.prog 84 #[.agg (ints .u8 32 (k)), .agg (ints .u8 32 (p))] w fun e w' => e = .returned (.tuple #[.agg (ints .u8 32 (keyV (shV k p))), .bool (!T)]) ∧ Below w.heap.size w w' := by
 have hG := Grew.refl w
 have fk : True := trivial
 have fp : True := trivial
 have fr : True := trivial
 go_enter Tryz.func84, Tryz.ntmps84
 go_wp2_with fail
 replace fk : objAt (((w.alloc (.cells (ints .u8 32 (k)) 24)).alloc (.cells (ints .u8 32 (p)) 24)).alloc (.cells (ints .u8 32 (zqd)) 24)) (w.heap.size) = some (.cells (ints .u8 32 (k)) 24) := by exact zqc
 replace fp : objAt (((w.alloc (.cells (ints .u8 32 (k)) 24)).alloc (.cells (ints .u8 32 (p)) 24)).alloc (.cells (ints .u8 32 (zqd)) 24)) (w.heap.size + 1) = some (.cells (ints .u8 32 (p)) 24) := by exact zqc
 replace fr : objAt (((w.alloc (.cells (ints .u8 32 (k)) 24)).alloc (.cells (ints .u8 32 (p)) 24)).alloc (.cells (ints .u8 32 (zqd)) 24)) (w.heap.size + 1 + 1) = some (.cells (ints .u8 32 (zqd)) 24) := by exact zqc
 replace hG : Below w.heap.size w (((w.alloc (.cells (ints .u8 32 (k)) 24)).alloc (.cells (ints .u8 32 (p)) 24)).alloc (.cells (ints .u8 32 (zqd)) 24)) := by exact zqe
 generalize ((w.alloc (.cells (ints .u8 32 (k)) 24)).alloc (.cells (ints .u8 32 (p)) 24)).alloc (.cells (ints .u8 32 (zqd)) 24) = w1 at *
 have lfk := zqa fk
 have lfp := zqa fp
 have lfr := zqa fr
 have c1 := fun w => zqlc k w hk
 have c2 : ∀ w, Calls Tryz.prog 79 #[.agg (ints .u8 32 (zqcl k)), .agg (ints .u8 32 (p))] w fun e w' => e = .returned (.agg (ints .u8 32 (keyV (shV k p)))) ∧ Below w.heap.size w w' := fun w => zqsq (zqcl k) p w (zqdv k hk) hp
 have c3 := fun w => zero_any (keyV (shV k p)) w (zqdc _)
 have e : same 32 (keyV (shV k p)) zqd = decide (shV k p = 0) := zqps _ (Edw.tv_bd _ _)
 rw [e, hT] at c3
 go_wp2_with fail
 (refine zqdq (by kernel_rfl) (by kernel_rfl) ?_; (repeat (first | refine zqn rfl ?_ | (refine zql rfl ?_; apply Exists.intro))); refine zqbp ?_; intro γ hinj hbase; (repeat (first | (refine zqab rfl ?_; ((first | go_big_quiet_skip | (go_big_quiet_want; go_big_quiet_op; go_big_quiet_on)); refine wpQuiet_nil ?_)) | ((first | refine zqv rfl (fun _ => rfl) ?_ | ((try simp only [Nat.zero_add, Nat.reduceAdd]); apply zqaw zqi; (focus rfl); (focus (first | exact zqq _ | exact zqr _ _ | exact zqo _ | rfl)); (focus (exact zqm))) | ((try simp only [Nat.zero_add, Nat.reduceAdd]); apply zqac _ _ zqi; (focus rfl); (focus (intro W; (first | exact zqam _ | exact zqag _ | exact zqan _ | exact zqaf _ | exact zq3 _ | exact zq2 _))); (focus (first | exact zq1 _ _ _ | exact zqad _ _ | rfl)); (focus (exact zqm))) | ((try simp only [Nat.zero_add, Nat.reduceAdd]); apply zqah zqi; (focus rfl); (focus (intro W; simp only [List.map_toArray, List.map_cons, List.map_nil]; first | fail)); (focus (exact zqm))) | (apply zqao; (focus rfl); (focus rfl); (focus rfl); (focus (intro W hC hF; go_big_quiet_want; go_big_quiet_op; (first | go_big_quiet_on | (apply Exists.intro; refine ⟨fun _ => ?_, ?_⟩; (focus (first | (with_reducible exact Calls.of_more (c1 _)) | (with_reducible exact Calls.of_more (c2 _)))); go_big_quiet_on)); exact wpQuiet_nil rfl)); (focus (first | exact fun _ => ⟨rfl, rfl⟩ | exact fun h => absurd h (by decide))))); ((first | go_big_quiet_skip | (go_big_quiet_want; go_big_quiet_op; go_big_quiet_on)); refine wpQuiet_nil ?_)) | refine zqu rfl (fun _ => rfl) ?_ | ((try simp only [Nat.zero_add, Nat.reduceAdd]); apply zqae (zq4 (hbase _)); (focus rfl); (focus rfl); (focus rfl); (focus (first | exact zqq _ | exact zqr _ _ | exact zqo _ | rfl)); rotate_left 3; (focus (exact zqbi)); rotate_right 3; (focus kernel_rfl); (focus (first | exact zqf _ _ _ | rfl)); (focus (first | exact zq6 _ _ _ | exact zqaj _ _ _ _ | kernel_rfl)); (focus (decide +kernel)); (focus (exact zqm))))))
 (refine zqbs ?_; rintro _ ⟨mq, rfl⟩ hF; simp only [List.forall_mem_cons] at hF; obtain ⟨fs, -⟩ := hF)
 have nsr : ¬ (γ 4 = w.heap.size + 1 + 1) := by have := hbase 4; omega
 have nrs : ¬ (w.heap.size + 1 + 1 = γ 4) := fun e => nsr e.symm
 have hw0 := hG.size
 have l0s : w.heap.size ≤ γ 4 := by have := hbase 4; omega
 clear hw0
 replace fk : objAt (more w1 mq) (w.heap.size) = some (.cells (ints .u8 32 (k)) 24) := by exact zqc
 replace fp : objAt (more w1 mq) (w.heap.size + 1) = some (.cells (ints .u8 32 (p)) 24) := by exact zqc
 replace fr : objAt (more w1 mq) (w.heap.size + 1 + 1) = some (.cells (ints .u8 32 (zqd)) 24) := by exact zqc
 replace hG : Below w.heap.size w (more w1 mq) := by exact zqe
 replace fs : objAt (more w1 mq) (γ 4) = some (.cells (ints .u8 32 (keyV (shV k p))) 24) := fs
 clear lfk lfp lfr
 clear hinj hbase
 generalize γ 4 = gs at *
 generalize more w1 mq = w2 at *
 clear γ
 have lfk := zqa fk
 have lfp := zqa fp
 have lfr := zqa fr
 have lfs := zqa fs
 go_wp2_with fail
 refine wp_region_any (by kernel_rfl) ?_
 rw [show ({ w2 with drawn := w2.drawn + 1 } : World) = more w2 ⟨w2.drawn + 1, #[]⟩ from by simp [more]]
 generalize (⟨w2.drawn + 1, #[]⟩ : More) = m8
 refine zqha (i := 0) (j := 1) (fuel := 5) (by kernel_rfl) rfl rfl ?_ ?_
 ·intro K hK
  go_simp
  refine hK _ _ ?_
  clear hK K
  refine zqaa (i := 1) (fuel := 4) (by kernel_rfl) rfl ?_
  intro K hK
  go_simp
  refine hK _ _ ?_
  clear hK K
  refine zqaa (i := 2) (fuel := 3) (by kernel_rfl) rfl ?_
  intro K hK
  go_simp
  refine (c3 _).mono ?_
  rintro e9 w9 ⟨rfl, hb9⟩
  obtain ⟨m9, rfl⟩ := zqcn hb9
  clear hb9
  refine hK _ _ ?_
  clear hK K
  refine zqha (i := 3) (j := 4) (fuel := 2) (by kernel_rfl) rfl rfl ?_ ?_
  ·intro K hK
   go_simp
   refine hK _ _ ?_
   clear hK K
   refine zqaa (i := 4) (fuel := 1) (by kernel_rfl) rfl ?_
   intro K hK
   go_simp
   refine hK _ _ ?_
   clear hK K
   refine zqaa (i := 5) (fuel := 0) (by kernel_rfl) rfl ?_
   intro K hK
   go_simp
   refine hK _ _ ?_
   clear hK K
   refine wpAny_done (by kernel_rfl) ?_ _
   go_wp2
   refine zqa6 rfl _ 24 _ (0, 0) _ _ rfl rfl (zqk _ (zqk _ (zqt _ fr))) Tryz.underlying24 rfl (by rw [zqf]; kernel_rfl) rfl ⟨rfl, Grew.more (Grew.more (Grew.setRow hG _ _ (by omega)) _) _⟩
  ·intro K hK
   go_simp
   refine hK _ _ ?_
   clear hK K
   refine zqaa (i := 3) (fuel := 1) (by kernel_rfl) rfl ?_
   intro K hK
   go_simp
   refine hK _ _ ?_
   clear hK K
   refine zqaa (i := 5) (fuel := 0) (by kernel_rfl) rfl ?_
   intro K hK
   go_simp
   refine hK _ _ ?_
   clear hK K
   refine wpAny_done (by kernel_rfl) ?_ _
   go_wp2
   refine zqa6 rfl _ 24 _ (0, 0) _ _ rfl rfl (zqk _ (zqk _ (zqt _ fr))) Tryz.underlying24 rfl (by rw [zqf]; kernel_rfl) rfl ⟨rfl, Grew.more (Grew.more (Grew.setRow hG _ _ (by omega)) _) _⟩
 ·intro K hK
  go_simp
  refine hK _ _ ?_
  clear hK K
  refine zqha (i := 0) (j := 2) (fuel := 4) (by kernel_rfl) rfl rfl ?_ ?_
  ·intro K hK
   go_simp
   refine hK _ _ ?_
   clear hK K
   refine zqaa (i := 2) (fuel := 3) (by kernel_rfl) rfl ?_
   intro K hK
   go_simp
   refine (c3 _).mono ?_
   rintro e9 w9 ⟨rfl, hb9⟩
   obtain ⟨m9, rfl⟩ := zqcn hb9
   clear hb9
   refine hK _ _ ?_
   clear hK K
   refine zqha (i := 3) (j := 4) (fuel := 2) (by kernel_rfl) rfl rfl ?_ ?_
   ·intro K hK
    go_simp
    refine hK _ _ ?_
    clear hK K
    refine zqaa (i := 4) (fuel := 1) (by kernel_rfl) rfl ?_
    intro K hK
    go_simp
    refine hK _ _ ?_
    clear hK K
    refine zqaa (i := 5) (fuel := 0) (by kernel_rfl) rfl ?_
    intro K hK
    go_simp
    refine hK _ _ ?_
    clear hK K
    refine wpAny_done (by kernel_rfl) ?_ _
    go_wp2
    refine zqa6 rfl _ 24 _ (0, 0) _ _ rfl rfl (zqk _ (zqk _ (zqt _ fr))) Tryz.underlying24 rfl (by rw [zqf]; kernel_rfl) rfl ⟨rfl, Grew.more (Grew.more (Grew.setRow hG _ _ (by omega)) _) _⟩
   ·intro K hK
    go_simp
    refine hK _ _ ?_
    clear hK K
    refine zqaa (i := 3) (fuel := 1) (by kernel_rfl) rfl ?_
    intro K hK
    go_simp
    refine hK _ _ ?_
    clear hK K
    refine zqaa (i := 5) (fuel := 0) (by kernel_rfl) rfl ?_
    intro K hK
    go_simp
    refine hK _ _ ?_
    clear hK K
    refine wpAny_done (by kernel_rfl) ?_ _
    go_wp2
    refine zqa6 rfl _ 24 _ (0, 0) _ _ rfl rfl (zqk _ (zqk _ (zqt _ fr))) Tryz.underlying24 rfl (by rw [zqf]; kernel_rfl) rfl ⟨rfl, Grew.more (Grew.more (Grew.setRow hG _ _ (by omega)) _) _⟩
  ·intro K hK
   go_simp
   refine (c3 _).mono ?_
   rintro e9 w9 ⟨rfl, hb9⟩
   obtain ⟨m9, rfl⟩ := zqcn hb9
   clear hb9
   refine hK _ _ ?_
   clear hK K
   refine zqha (i := 0) (j := 3) (fuel := 3) (by kernel_rfl) rfl rfl ?_ ?_
   ·intro K hK
    go_simp
    refine hK _ _ ?_
    clear hK K
    refine zqha (i := 3) (j := 4) (fuel := 2) (by kernel_rfl) rfl rfl ?_ ?_
    ·intro K hK
     go_simp
     refine hK _ _ ?_
     clear hK K
     refine zqaa (i := 4) (fuel := 1) (by kernel_rfl) rfl ?_
     intro K hK
     go_simp
     refine hK _ _ ?_
     clear hK K
     refine zqaa (i := 5) (fuel := 0) (by kernel_rfl) rfl ?_
     intro K hK
     go_simp
     refine hK _ _ ?_
     clear hK K
     refine wpAny_done (by kernel_rfl) ?_ _
     go_wp2
     refine zqa6 rfl _ 24 _ (0, 0) _ _ rfl rfl (zqk _ (zqk _ (zqt _ fr))) Tryz.underlying24 rfl (by rw [zqf]; kernel_rfl) rfl ⟨rfl, Grew.more (Grew.more (Grew.setRow hG _ _ (by omega)) _) _⟩
    ·intro K hK
     go_simp
     refine hK _ _ ?_
     clear hK K
     refine zqaa (i := 3) (fuel := 1) (by kernel_rfl) rfl ?_
     intro K hK
     go_simp
     refine hK _ _ ?_
     clear hK K
     refine zqaa (i := 5) (fuel := 0) (by kernel_rfl) rfl ?_
     intro K hK
     go_simp
     refine hK _ _ ?_
     clear hK K
     refine wpAny_done (by kernel_rfl) ?_ _
     go_wp2
     refine zqa6 rfl _ 24 _ (0, 0) _ _ rfl rfl (zqk _ (zqk _ (zqt _ fr))) Tryz.underlying24 rfl (by rw [zqf]; kernel_rfl) rfl ⟨rfl, Grew.more (Grew.more (Grew.setRow hG _ _ (by omega)) _) _⟩
   ·intro K hK
    go_simp
    refine hK _ _ ?_
    clear hK K
    refine zqaa (i := 0) (fuel := 2) (by kernel_rfl) rfl ?_
    intro K hK
    go_simp
    refine hK _ _ ?_
    clear hK K
    refine zqaa (i := 4) (fuel := 1) (by kernel_rfl) rfl ?_
    intro K hK
    go_simp
    refine hK _ _ ?_
    clear hK K
    refine zqaa (i := 5) (fuel := 0) (by kernel_rfl) rfl ?_
    intro K hK
    go_simp
    refine hK _ _ ?_
    clear hK K
    refine wpAny_done (by kernel_rfl) ?_ _
    go_wp2
    refine zqa6 rfl _ 24 _ (0, 0) _ _ rfl rfl (zqk _ (zqk _ (zqt _ fr))) Tryz.underlying24 rfl (by rw [zqf]; kernel_rfl) rfl ⟨rfl, Grew.more (Grew.more (Grew.setRow hG _ _ (by omega)) _) _⟩
end Go.Proofs.YtconieddcjpbjaaGreatDoor
namespace Go.Proofs.YtconieddcjpbjaaGreatDoor
open Go.RowKit
set_option linter.unusedVariables false
set_option linter.unusedSimpArgs false
open Edw (red tv)
def cK (k : Nat → Int) : Nat := knum (zqcl k) 32
theorem cK_lt (k : Nat → Int) (hk : Bytes 32 k) : cK k < 2 ^ 256 := zqxl _ (zqdv k hk)
theorem zqq6 (f : Nat → Int) : ∀ j, knum f (j + 1) % 8 = (f 0).toNat % 8
 | 0 => by simp [knum]
 | j + 1 => by
  have e : 256 ^ (j + 1) * (f (j + 1)).toNat = 8 * (32 * 256 ^ j * (f (j + 1)).toNat) := by rw [Nat.pow_succ]; grind
  rw [knum, e, Nat.add_mul_mod_self_left]
  exact zqq6 f j
theorem cK_is (k : Nat → Int) (hk : Bytes 32 k) : ∃ m, cK k = 8 * m ∧ 0 < m ∧ m < Edw.ordl := by
 have h0 := hk 0 (by decide)
 have h1 := hk 31 (by decide)
 have m8 := zqq6 (zqcl k) 31
 have hb := zqjp (zqcl k) (zqdv k hk) 31 (by omega)
 have c0 : zqcl k 0 = k 0 / 8 * 8 := rfl
 have c1 : zqcl k 31 = k 31 % 64 + 64 := rfl
 have hs : knum (zqcl k) 32 = knum (zqcl k) 31 + 256 ^ 31 * (zqcl k 31).toNat := rfl
 rw [c0] at m8
 rw [c1] at hs
 have hm : (k 0 / 8 * 8).toNat % 8 = 0 := by omega
 rw [hm] at m8
 unfold cK
 generalize knum (zqcl k) 31 = A at *
 generalize knum (zqcl k) 32 = B at *
 have t0 : 64 ≤ (k 31 % 64 + 64).toNat := by omega
 have t1 : (k 31 % 64 + 64).toNat ≤ 127 := by omega
 generalize (k 31 % 64 + 64).toNat = t at *
 refine ⟨B / 8, by omega, ?_, ?_⟩
 ·have : 256 ^ 31 * 64 ≤ 256 ^ 31 * t := Nat.mul_le_mul_left _ t0
  have h2 : (256 : Nat) ^ 31 = 452312848583266388373324160190187140051835877600158453279131187530910662656 := by decide
  omega
 ·have : 256 ^ 31 * t ≤ 256 ^ 31 * 127 := Nat.mul_le_mul_left _ t1
  have h2 : (256 : Nat) ^ 31 = 452312848583266388373324160190187140051835877600158453279131187530910662656 := by decide
  unfold Edw.ordl
  omega
theorem zqx9 (k : Nat → Int) (hk : Bytes 32 k) : ¬ Edw.ordl ∣ cK k := by
 obtain ⟨m, e, h0, h1⟩ := cK_is k hk
 rw [e]
 exact Edw.clamped_ndvd m h0 h1
theorem shV_key (k : Nat → Int) (v : Int) (h0 : 0 ≤ v) (h1 : v < 57896044618658097711785492504343953926634992332820282019728792003956564819949) : shV k (keyV v) = tv (cK k) v := by unfold shV cK; rw [nv_ofV v h0 h1]
def pubV (k : Nat → Int) : Int := tv (cK k) 9
theorem pub_bd (k : Nat → Int) : 0 ≤ pubV k ∧ pubV k < 57896044618658097711785492504343953926634992332820282019728792003956564819949 := Edw.tv_bd _ _
def twoV (j k : Nat → Int) : Int := tv (cK j) (pubV k)
theorem two_is (j k : Nat → Int) : shV j (keyV (pubV k)) = twoV j k := shV_key j _ (pub_bd k).1 (pub_bd k).2
theorem two_swap (j k : Nat → Int) (hj : Bytes 32 j) (hk : Bytes 32 k) : twoV j k = twoV k j := Edw.tv_swap 9 _ _ (cK_lt j hj) (cK_lt k hk)
theorem two_ne (j k : Nat → Int) (hj : Bytes 32 j) (hk : Bytes 32 k) : decide (twoV j k = 0) = false := decide_eq_false (Edw.tv_nine2 _ _ (cK_lt k hk) (cK_lt j hj) (zqx9 k hk) (zqx9 j hj))
theorem zqtx (k : Nat → Int) (w : World) (hk : Bytes 32 k) : Calls Tryz.prog 48 #[.agg (ints .u8 32 (k))] w fun e w' => e = .returned (.agg (ints .u8 32 (keyV (pubV k)))) ∧ Below w.heap.size w w' := base_any k w hk
set_option maxHeartbeats 1000000 in
theorem zqw9 (w : World) :
  Calls Tryz.prog 198 #[] w fun e w' => e = .returned (.bool true) ∧ Below w.heap.size w w' := by
 have hG := Grew.refl w
 go_enter Tryz.func198, Tryz.ntmps198
 have c1 := fun w => zqsq (upd zqd 0 1) (upd zqd 0 9) w zqle zqj4
 rw [ok5_num, zqsc, Edw.tv_one 9 (by decide)] at c1
 have c2 := fun w => zqlc zqd w zk5_bytes
 have s1 : same 32 (keyV 9) (upd zqd 0 9) = true := by kernel_rfl
 have s2 : same 32 (zqcl zqd) (upd zqd 31 64) = true := by kernel_rfl
 go_wp2_with fail
 (refine (zqxx _).mono ?_; rintro e w1 ⟨rfl, hb⟩; replace hG : Below w.heap.size w w1 := Grew.trans (by exact zqe) hb; clear hb)
 go_wp2_with fail
 (refine (c1 _).mono ?_; rintro e w2 ⟨rfl, hb⟩; replace hG : Below w.heap.size w w2 := Grew.trans (by exact zqe) hb; clear hb)
 go_wp2_with fail
 (refine (c2 _).mono ?_; rintro e w3 ⟨rfl, hb⟩; replace hG : Below w.heap.size w w3 := Grew.trans (by exact zqe) hb; clear hb)
 go_wp2
 go_ret
 exact ⟨rfl, by exact zqe⟩
end Go.Proofs.YtconieddcjpbjaaGreatDoor
