/- Dh -/
import Derived.Test.YtconieddcjpbjaaGreatDoorOrder
set_option linter.unusedVariables false
set_option linter.unusedSimpArgs false
set_option maxRecDepth 100000
set_option maxHeartbeats 4000000
namespace Go.Proofs.YtconieddcjpbjaaGreatDoor
open Go.RowKit
open Edw (red tv)
theorem zqak {P : Program} {fn : Func} {R : Ending -> World -> Prop} {a : Act} {w : World} {p q : Tmp} {ty : TypeId} (h : fn.results = #[.cell p ty, .tmp q]) (g : Nat) (t : TypeId) (cs : Array Value) (fr : Nat × Nat) (d : TypeDesc) (v : Value)
  (hp : a.tmps.getD p undef = .pointer (some ⟨g, 0, none⟩)) (hq : a.tmps.getD q undef = v) (hg : zqd w g = some (.cells cs t fr))
  (hu : P.underlying ty = some d) (hd : (match d with | .struct _ | .array _ _ => true | _ => false) = true) (hi : (P.info? ty).map (·.size) = some cs.size)
  (hD : a.defers = []) (hR : R (.returned (.tuple #[.agg cs, v])) w) : bodyPost P fn R .ret a w := by
 refine bodyPost_ret_by ?_ hD hR
 have hp' : a.tmps[p]?.getD undef = .pointer (some ⟨g, 0, none⟩) := by simpa using hp
 have hq' : a.tmps[q]?.getD undef = v := by simpa using hq
 unfold zqd at hg
 simp [results, h, hp', hq', asAddr, run_loadVar_row w g t ty cs fr d hg hu hd hi]
def zqc3 (k : Nat -> Int) : Nat -> Int := fun i => if i = 0 then k 0 / 8 * 8 else if i = 31 then k 31 % 64 + 64 else k i
theorem zrbr : ∀ n : Fin 256, bits .andNot .u8 ((n.val : Nat) : Int) 7 = ((n.val : Nat) : Int) / 8 * 8 := by decide +kernel
theorem zrdw : ∀ n : Fin 256, bits .or .u8 (bits .andNot .u8 ((n.val : Nat) : Int) 128) 64 = ((n.val : Nat) : Int) % 64 + 64 := by decide +kernel
theorem zqv2 (k : Nat -> Int) (hk : Bytes 32 k) : ints .u8 32 (upd (upd (upd k 0 (bits BinOp.andNot IntKind.u8 (k 0) 7)) 31 (bits BinOp.andNot IntKind.u8 ((upd k 0 (bits BinOp.andNot IntKind.u8 (k 0) 7)) 31) 128)) 31 (bits BinOp.or IntKind.u8 ((upd (upd k 0 (bits BinOp.andNot IntKind.u8 (k 0) 7)) 31 (bits BinOp.andNot IntKind.u8 ((upd k 0 (bits BinOp.andNot IntKind.u8 (k 0) 7)) 31) 128)) 31) 64)) = ints .u8 32 (zqc3 k) := zqa4 fun i hi => by
 obtain ⟨a, ha, ha1⟩ := zqpz (k 0) (hk 0 (by decide)).1 (hk 0 (by decide)).2;obtain ⟨b, hb, hb1⟩ := zqpz (k 31) (hk 31 (by decide)).1 (hk 31 (by decide)).2;have e0 := zrbr ⟨a, ha1⟩;have e1 := zrdw ⟨b, hb1⟩
 simp only at e0 e1
 rw [<- ha] at e0;rw [<- hb] at e1;unfold zqc3
 by_cases h0 : i = 0
 ·subst h0; simp [upd, e0]
 ·by_cases h1 : i = 31
  ·subst h1; simp [upd, e1]
  ·simp [upd, h0, h1]
theorem zqen (k : Nat -> Int) (hk : Bytes 32 k) : Bytes 32 (zqc3 k) := fun i hi => by
 have h0 := hk 0 (by decide);have h1 := hk 31 (by decide);have h2 := hk i hi;unfold zqc3
 split
 ·omega
 ·split <;> omega
set_option maxHeartbeats 1000000 in
theorem zqol (k : Nat -> Int) (w : World) (hk : Bytes 32 k) :
  Calls Tryz.prog 80 #[.agg (ints .u8 32 (k))] w (Rt w (.agg (ints .u8 32 (zqc3 k)))) := by
 have hG := Grew.refl w
 go_enter Tryz.func80, Tryz.ntmps80
 have hk0 := hk 0 (by decide);have hk31 := hk 31 (by decide);go_wp2_with fail;rw [zqv2 k hk];refine zqaf rfl _ 24 _ (0, 0) _ rfl (by simp [go_sem]) Tryz.underlying24 rfl (by rw [zqh]; kernel_rfl) rfl ⟨rfl, by exact zqf⟩
set_option maxHeartbeats 1000000 in
theorem zqvb (k p : Nat -> Int) (w : World) (hk : Bytes 32 k) (hp : Bytes 32 p) :
  Calls Tryz.prog 79 #[.agg (ints .u8 32 (k)), .agg (ints .u8 32 (p))] w (Rt w (.agg (ints .u8 32 (keyV (tv (knum k 32) (nv (ofF p))))))) := by
 have hG := Grew.refl w;have fk : True := trivial;have fp : True := trivial;have fr : True := trivial
 go_enter Tryz.func79, Tryz.ntmps79
 go_wp2_with fail;generalize hW : ((w.alloc (.cells (ints .u8 32 (k)) 24)).alloc (.cells (ints .u8 32 (p)) 24)).alloc (.cells (ints .u8 32 (zqg)) 24) = w1;replace fk : zqd w1 (w.heap.size) = some (.cells (ints .u8 32 (k)) 24) := zqk hW;replace fp : zqd w1 (w.heap.size + 1) = some (.cells (ints .u8 32 (p)) 24) := zqk hW;replace fr : zqd w1 (w.heap.size + 1 + 1) = some (.cells (ints .u8 32 (zqg)) 24) := zqk hW;replace hG : Below w.heap.size w w1 := zq2 hW;clear hW;have lfk := zqa fk;have lfp := zqa fp;have lfr := zqa fr;have c1 := fun w => zqw8 p w hp;have c2 := fun w => zqoa k (ofF p) w hk (zqie p);have c3 := fun w => zqg3 (zqn0 (ofF p) k) w (zqly _ _ (zqie p));have e : nv (zqn0 (ofF p) k) = tv (knum k 32) (nv (ofF p)) := zqsv _ _ hk;rw [e] at c3
 ((first | (with_reducible refine zq8 5 zqc zqc zqc zqc zqc ?_) | refine zq4 5 zqc zqc zqc zqc zqc ?_); simp only [List.take_succ_cons, List.take_zero]; (repeat (first | go_big_quiet_skip | (go_big_quiet_want; go_big_quiet_op; first | go_big_quiet_on | (apply Exists.intro; refine ⟨fun _ => ?_, ?_⟩; (focus (first | (with_reducible exact Calls.of_more (c1 _)) | (with_reducible exact Calls.of_more (c2 _)) | (with_reducible exact Calls.of_more (c3 _)))); go_big_quiet_on)))); refine wpQuiet_nil ?_; rintro _ ⟨mq, rfl⟩)
 (refine zqaa (i := 5) (fuel := 0) zqc rfl ?_; intro K hK; go_simp; refine hK _ _ ?_; clear hK K)
 (refine wpAny_done zqc ?_ _)
 go_wp2;refine zqaf rfl _ 24 _ (0, 0) _ rfl (zql _ (zqs _ fr)) Tryz.underlying24 rfl (by rw [zqh]; kernel_rfl) rfl ⟨rfl, by exact zqf⟩
theorem zqlb : Bytes 32 (upd zqg 0 9) := fun i _ => by unfold upd zqg; split <;> omega
theorem zqul : nv (ofF (upd zqg 0 9)) = 9 := by kernel_rfl
set_option maxHeartbeats 1000000 in
theorem zq8a (k : Nat -> Int) (w : World) (hk : Bytes 32 k) :
  Calls Tryz.prog 48 #[.agg (ints .u8 32 (k))] w (Rt w (.agg (ints .u8 32 (keyV (tv (knum (zqc3 k) 32) 9))))) := by
 have hG := Grew.refl w;have fk : True := trivial;have fr : True := trivial
 go_enter Tryz.func48, Tryz.ntmps48
 go_wp2_with fail;generalize hW : (w.alloc (.cells (ints .u8 32 (k)) 24)).alloc (.cells (ints .u8 32 (zqg)) 24) = w1;replace fk : zqd w1 (w.heap.size) = some (.cells (ints .u8 32 (k)) 24) := zqk hW;replace fr : zqd w1 (w.heap.size + 1) = some (.cells (ints .u8 32 (zqg)) 24) := zqk hW;replace hG : Below w.heap.size w w1 := zq2 hW;clear hW;have lfk := zqa fk;have lfr := zqa fr;have c1 := fun w => zqol k w hk;have c2 := fun w => zqvb (zqc3 k) (upd zqg 0 9) w (zqen k hk) zqlb;rw [zqul] at c2;go_wp2_with fail
 (refine (c1 _).mono ?_; rintro e w2 ⟨rfl, hb⟩; replace fk : zqd w2 (w.heap.size) = some (.cells (ints .u8 32 (k)) 24) := zqb hb (by exact zqe); have lfk := zqa fk; replace fr : zqd w2 (w.heap.size + 1) = some (.cells (ints .u8 32 (zqg)) 24) := zqb hb (by exact zqe); have lfr := zqa fr; replace hG : Below w.heap.size w w2 := Grew.trans (by exact zqf) hb; clear hb)
 go_wp2_with fail
 (refine (c2 _).mono ?_; rintro e w3 ⟨rfl, hb⟩; replace fk : zqd w3 (w.heap.size) = some (.cells (ints .u8 32 (k)) 24) := zqb hb (by exact zqe); have lfk := zqa fk; replace fr : zqd w3 (w.heap.size + 1) = some (.cells (ints .u8 32 (zqg)) 24) := zqb hb (by exact zqe); have lfr := zqa fr; replace hG : Below w.heap.size w w3 := Grew.trans (by exact zqf) hb; clear hb)
 go_wp2;refine zqaf rfl _ 24 _ (0, 0) _ rfl (zqs _ fr) Tryz.underlying24 rfl (by rw [zqh]; kernel_rfl) rfl ⟨rfl, by exact zqf⟩
theorem zqtn (x : Int) (hx : 0 <= x /\ x < 57896044618658097711785492504343953926634992332820282019728792003956564819949) : same 32 (keyV x) zqg = decide (x = 0) := by
 have h := zq7t (ofF (keyV x));rwa [zrau x hx.1 hx.2] at h
def shV (k p : Nat -> Int) : Int := tv (knum (zqc3 k) 32) (nv (ofF p))
set_option maxHeartbeats 1000000 in
theorem zqx6 (k p : Nat -> Int) (w : World) {T : Bool} (hk : Bytes 32 k) (hp : Bytes 32 p) (hT : decide (shV k p = 0) = T) :
  Calls Tryz.prog 84 #[.agg (ints .u8 32 (k)), .agg (ints .u8 32 (p))] w (Rt w (.tuple #[.agg (ints .u8 32 (keyV (shV k p))), .bool (!T)])) := by
 have hG := Grew.refl w;have fk : True := trivial;have fp : True := trivial;have fr : True := trivial
 go_enter Tryz.func84, Tryz.ntmps84
 go_wp2_with fail;generalize hW : ((w.alloc (.cells (ints .u8 32 (k)) 24)).alloc (.cells (ints .u8 32 (p)) 24)).alloc (.cells (ints .u8 32 (zqg)) 24) = w1;replace fk : zqd w1 (w.heap.size) = some (.cells (ints .u8 32 (k)) 24) := zqk hW;replace fp : zqd w1 (w.heap.size + 1) = some (.cells (ints .u8 32 (p)) 24) := zqk hW;replace fr : zqd w1 (w.heap.size + 1 + 1) = some (.cells (ints .u8 32 (zqg)) 24) := zqk hW;replace hG : Below w.heap.size w w1 := zq2 hW;clear hW;have lfk := zqa fk;have lfp := zqa fp;have lfr := zqa fr;have c1 := fun w => zqol k w hk;have c2 : ∀ w, Calls Tryz.prog 79 #[.agg (ints .u8 32 (zqc3 k)), .agg (ints .u8 32 (p))] w (Rt w (.agg (ints .u8 32 (keyV (shV k p))))) := fun w => zqvb (zqc3 k) p w (zqen k hk) hp;have c3 := fun w => zq6b (keyV (shV k p)) w (zqdw _)
 have e : same 32 (keyV (shV k p)) zqg = decide (shV k p = 0) := zqtn _ (Edw.tv_bd _ _);rw [e, hT] at c3;go_wp2_with fail
 (refine zqeh zqc zqc ?_; (repeat (first | refine zq0 rfl ?_ | (refine zqr rfl ?_; apply Exists.intro))); refine zqbl ?_; intro γ hinj hbase; (repeat (first | (refine zqab rfl ?_; ((first | go_big_quiet_skip | (go_big_quiet_want; go_big_quiet_op; go_big_quiet_on)); refine wpQuiet_nil ?_)) | ((first | refine zqq rfl (fun _ => rfl) ?_ | ((try simp only [Nat.zero_add, Nat.reduceAdd]); apply zqce zqo; (focus rfl); (focus (first | exact zqy _ | exact zq3 _ _ | exact zqv _ | rfl)); (focus (exact zqu))) | ((try simp only [Nat.zero_add, Nat.reduceAdd]); apply zqav _ _ zqo; (focus rfl); (focus (intro W; (first | exact zqa8 _ | exact zqas _ | exact zqa6 _ | exact zqaw _ | exact zqah _ | exact zqag _))); (focus (first | exact zqai _ _ _ | exact zqaq _ _ | rfl)); (focus (exact zqu))) | ((try simp only [Nat.zero_add, Nat.reduceAdd]); apply zqbc zqo; (focus rfl); (focus (intro W; simp only [List.map_toArray, List.map_cons, List.map_nil]; first | fail)); (focus (exact zqu))) | (apply zqaz; (focus rfl); (focus rfl); (focus rfl); (focus (intro W hC hF; go_big_quiet_want; go_big_quiet_op; (first | go_big_quiet_on | (apply Exists.intro; refine ⟨fun _ => ?_, ?_⟩; (focus (first | (with_reducible exact Calls.of_more (c1 _)) | (with_reducible exact Calls.of_more (c2 _)))); go_big_quiet_on)); exact wpQuiet_nil rfl)); (focus (first | exact fun _ => ⟨rfl, rfl⟩ | exact fun h => absurd h (by decide))))); ((first | go_big_quiet_skip | (go_big_quiet_want; go_big_quiet_op; go_big_quiet_on)); refine wpQuiet_nil ?_)) | refine zqp rfl (fun _ => rfl) ?_ | ((try simp only [Nat.zero_add, Nat.reduceAdd]); apply zqar (zqaj (hbase _)); (focus rfl); (focus rfl); (focus rfl); (focus (first | exact zqy _ | exact zq3 _ _ | exact zqv _ | rfl)); rotate_left 3; (focus (exact zqcq)); rotate_right 3; (focus kernel_rfl); (focus (first | exact zqh _ _ _ | rfl)); (focus (first | exact zqan _ _ _ | exact zqa3 _ _ _ _ | kernel_rfl)); (focus (decide +kernel)); (focus (exact zqu))))))
 (refine zqbz ?_; rintro _ ⟨mq, rfl⟩ hF; simp only [List.forall_mem_cons] at hF; obtain ⟨fs, -⟩ := hF)
 have nsr : ¬ (γ 4 = w.heap.size + 1 + 1) := by have := hbase 4; omega
 have nrs : ¬ (w.heap.size + 1 + 1 = γ 4) := fun e => nsr e.symm;have hw0 := hG.size;have l0s : w.heap.size <= γ 4 := by have := hbase 4; omega
 clear hw0;replace fk : zqd (more w1 mq) (w.heap.size) = some (.cells (ints .u8 32 (k)) 24) := by exact zqe
 replace fp : zqd (more w1 mq) (w.heap.size + 1) = some (.cells (ints .u8 32 (p)) 24) := by exact zqe
 replace fr : zqd (more w1 mq) (w.heap.size + 1 + 1) = some (.cells (ints .u8 32 (zqg)) 24) := by exact zqe
 replace hG : Below w.heap.size w (more w1 mq) := by exact zqf
 replace fs : zqd (more w1 mq) (γ 4) = some (.cells (ints .u8 32 (keyV (shV k p))) 24) := fs;clear lfk lfp lfr;clear hinj hbase;generalize γ 4 = gs at *;generalize more w1 mq = w2 at *;clear γ;have lfk := zqa fk;have lfp := zqa fp;have lfr := zqa fr;have lfs := zqa fs;go_wp2_with fail;refine wp_region_any zqc ?_
 rw [show ({ w2 with drawn := w2.drawn + 1 } : World) = more w2 ⟨w2.drawn + 1, #[]⟩ from by simp [more]];generalize (⟨w2.drawn + 1, #[]⟩ : More) = m8;refine zqii (i := 0) (j := 1) (fuel := 5) zqc rfl rfl ?_ ?_
 ·intro K hK
  go_simp
  refine hK _ _ ?_
  clear hK K;refine zqaa (i := 1) (fuel := 4) zqc rfl ?_
  intro K hK
  go_simp
  refine hK _ _ ?_
  clear hK K;refine zqaa (i := 2) (fuel := 3) zqc rfl ?_
  intro K hK
  go_simp
  refine (c3 _).mono ?_
  rintro e9 w9 ⟨rfl, hb9⟩;obtain ⟨m9, rfl⟩ := zqc2 hb9;clear hb9;refine hK _ _ ?_
  clear hK K;refine zqii (i := 3) (j := 4) (fuel := 2) zqc rfl rfl ?_ ?_
  ·intro K hK
   go_simp
   refine hK _ _ ?_
   clear hK K;refine zqaa (i := 4) (fuel := 1) zqc rfl ?_
   intro K hK
   go_simp
   refine hK _ _ ?_
   clear hK K;refine zqaa (i := 5) (fuel := 0) zqc rfl ?_
   intro K hK
   go_simp
   refine hK _ _ ?_
   clear hK K;refine wpAny_done zqc ?_ _
   go_wp2;refine zqak rfl _ 24 _ (0, 0) _ _ rfl rfl (zql _ (zql _ (zqs _ fr))) Tryz.underlying24 rfl (by rw [zqh]; kernel_rfl) rfl ⟨rfl, Grew.more (Grew.more (Grew.setRow hG _ _ (by omega)) _) _⟩
  ·intro K hK
   go_simp
   refine hK _ _ ?_
   clear hK K;refine zqaa (i := 3) (fuel := 1) zqc rfl ?_
   intro K hK
   go_simp
   refine hK _ _ ?_
   clear hK K;refine zqaa (i := 5) (fuel := 0) zqc rfl ?_
   intro K hK
   go_simp
   refine hK _ _ ?_
   clear hK K;refine wpAny_done zqc ?_ _
   go_wp2;refine zqak rfl _ 24 _ (0, 0) _ _ rfl rfl (zql _ (zql _ (zqs _ fr))) Tryz.underlying24 rfl (by rw [zqh]; kernel_rfl) rfl ⟨rfl, Grew.more (Grew.more (Grew.setRow hG _ _ (by omega)) _) _⟩
 ·intro K hK
  go_simp
  refine hK _ _ ?_
  clear hK K;refine zqii (i := 0) (j := 2) (fuel := 4) zqc rfl rfl ?_ ?_
  ·intro K hK
   go_simp
   refine hK _ _ ?_
   clear hK K;refine zqaa (i := 2) (fuel := 3) zqc rfl ?_
   intro K hK
   go_simp
   refine (c3 _).mono ?_
   rintro e9 w9 ⟨rfl, hb9⟩;obtain ⟨m9, rfl⟩ := zqc2 hb9;clear hb9;refine hK _ _ ?_
   clear hK K;refine zqii (i := 3) (j := 4) (fuel := 2) zqc rfl rfl ?_ ?_
   ·intro K hK
    go_simp
    refine hK _ _ ?_
    clear hK K;refine zqaa (i := 4) (fuel := 1) zqc rfl ?_
    intro K hK
    go_simp
    refine hK _ _ ?_
    clear hK K;refine zqaa (i := 5) (fuel := 0) zqc rfl ?_
    intro K hK
    go_simp
    refine hK _ _ ?_
    clear hK K;refine wpAny_done zqc ?_ _
    go_wp2;refine zqak rfl _ 24 _ (0, 0) _ _ rfl rfl (zql _ (zql _ (zqs _ fr))) Tryz.underlying24 rfl (by rw [zqh]; kernel_rfl) rfl ⟨rfl, Grew.more (Grew.more (Grew.setRow hG _ _ (by omega)) _) _⟩
   ·intro K hK
    go_simp
    refine hK _ _ ?_
    clear hK K;refine zqaa (i := 3) (fuel := 1) zqc rfl ?_
    intro K hK
    go_simp
    refine hK _ _ ?_
    clear hK K;refine zqaa (i := 5) (fuel := 0) zqc rfl ?_
    intro K hK
    go_simp
    refine hK _ _ ?_
    clear hK K;refine wpAny_done zqc ?_ _
    go_wp2;refine zqak rfl _ 24 _ (0, 0) _ _ rfl rfl (zql _ (zql _ (zqs _ fr))) Tryz.underlying24 rfl (by rw [zqh]; kernel_rfl) rfl ⟨rfl, Grew.more (Grew.more (Grew.setRow hG _ _ (by omega)) _) _⟩
  ·intro K hK
   go_simp
   refine (c3 _).mono ?_
   rintro e9 w9 ⟨rfl, hb9⟩;obtain ⟨m9, rfl⟩ := zqc2 hb9;clear hb9;refine hK _ _ ?_
   clear hK K;refine zqii (i := 0) (j := 3) (fuel := 3) zqc rfl rfl ?_ ?_
   ·intro K hK
    go_simp
    refine hK _ _ ?_
    clear hK K;refine zqii (i := 3) (j := 4) (fuel := 2) zqc rfl rfl ?_ ?_
    ·intro K hK
     go_simp
     refine hK _ _ ?_
     clear hK K;refine zqaa (i := 4) (fuel := 1) zqc rfl ?_
     intro K hK
     go_simp
     refine hK _ _ ?_
     clear hK K;refine zqaa (i := 5) (fuel := 0) zqc rfl ?_
     intro K hK
     go_simp
     refine hK _ _ ?_
     clear hK K;refine wpAny_done zqc ?_ _
     go_wp2;refine zqak rfl _ 24 _ (0, 0) _ _ rfl rfl (zql _ (zql _ (zqs _ fr))) Tryz.underlying24 rfl (by rw [zqh]; kernel_rfl) rfl ⟨rfl, Grew.more (Grew.more (Grew.setRow hG _ _ (by omega)) _) _⟩
    ·intro K hK
     go_simp
     refine hK _ _ ?_
     clear hK K;refine zqaa (i := 3) (fuel := 1) zqc rfl ?_
     intro K hK
     go_simp
     refine hK _ _ ?_
     clear hK K;refine zqaa (i := 5) (fuel := 0) zqc rfl ?_
     intro K hK
     go_simp
     refine hK _ _ ?_
     clear hK K;refine wpAny_done zqc ?_ _
     go_wp2;refine zqak rfl _ 24 _ (0, 0) _ _ rfl rfl (zql _ (zql _ (zqs _ fr))) Tryz.underlying24 rfl (by rw [zqh]; kernel_rfl) rfl ⟨rfl, Grew.more (Grew.more (Grew.setRow hG _ _ (by omega)) _) _⟩
   ·intro K hK
    go_simp
    refine hK _ _ ?_
    clear hK K;refine zqaa (i := 0) (fuel := 2) zqc rfl ?_
    intro K hK
    go_simp
    refine hK _ _ ?_
    clear hK K;refine zqaa (i := 4) (fuel := 1) zqc rfl ?_
    intro K hK
    go_simp
    refine hK _ _ ?_
    clear hK K;refine zqaa (i := 5) (fuel := 0) zqc rfl ?_
    intro K hK
    go_simp
    refine hK _ _ ?_
    clear hK K;refine wpAny_done zqc ?_ _
    go_wp2;refine zqak rfl _ 24 _ (0, 0) _ _ rfl rfl (zql _ (zql _ (zqs _ fr))) Tryz.underlying24 rfl (by rw [zqh]; kernel_rfl) rfl ⟨rfl, Grew.more (Grew.more (Grew.setRow hG _ _ (by omega)) _) _⟩
end Go.Proofs.YtconieddcjpbjaaGreatDoor
namespace Go.Proofs.YtconieddcjpbjaaGreatDoor
open Go.RowKit
open Edw (red tv)
def cK (k : Nat -> Int) : Nat := knum (zqc3 k) 32
theorem zrgm (k : Nat -> Int) (hk : Bytes 32 k) : cK k < 2 ^ 256 := zqz4 _ (zqen k hk)
theorem zqsq (f : Nat -> Int) : ∀ j, knum f (j + 1) % 8 = (f 0).toNat % 8
 | 0 => by simp [knum]
 | j + 1 => by
  have e : 256 ^ (j + 1) * (f (j + 1)).toNat = 8 * (32 * 256 ^ j * (f (j + 1)).toNat) := by rw [Nat.pow_succ]; grind
  rw [knum, e, Nat.add_mul_mod_self_left];exact zqsq f j
theorem zrky (k : Nat -> Int) (hk : Bytes 32 k) : ∃ m, cK k = 8 * m /\ 0 < m /\ m < Edw.ordl := by
 have h0 := hk 0 (by decide);have h1 := hk 31 (by decide);have m8 := zqsq (zqc3 k) 31;have hb := zqkw (zqc3 k) (zqen k hk) 31 (by omega);have c0 : zqc3 k 0 = k 0 / 8 * 8 := rfl;have c1 : zqc3 k 31 = k 31 % 64 + 64 := rfl;have hs : knum (zqc3 k) 32 = knum (zqc3 k) 31 + 256 ^ 31 * (zqc3 k 31).toNat := rfl;rw [c0] at m8;rw [c1] at hs;have hm : (k 0 / 8 * 8).toNat % 8 = 0 := by omega
 rw [hm] at m8;unfold cK;generalize knum (zqc3 k) 31 = A at *;generalize knum (zqc3 k) 32 = B at *;have t0 : 64 <= (k 31 % 64 + 64).toNat := by omega
 have t1 : (k 31 % 64 + 64).toNat <= 127 := by omega
 generalize (k 31 % 64 + 64).toNat = t at *;refine ⟨B / 8, by omega, ?_, ?_⟩
 ·have : 256 ^ 31 * 64 <= 256 ^ 31 * t := Nat.mul_le_mul_left _ t0
  have h2 : (256 : Nat) ^ 31 = 452312848583266388373324160190187140051835877600158453279131187530910662656 := by decide
  omega
 ·have : 256 ^ 31 * t <= 256 ^ 31 * 127 := Nat.mul_le_mul_left _ t1
  have h2 : (256 : Nat) ^ 31 = 452312848583266388373324160190187140051835877600158453279131187530910662656 := by decide
  unfold Edw.ordl
  omega
theorem zq46 (k : Nat -> Int) (hk : Bytes 32 k) : ¬ Edw.ordl ∣ cK k := by
 obtain ⟨m, e, h0, h1⟩ := zrky k hk;rw [e];exact Edw.clamped_ndvd m h0 h1
theorem zrdg (k : Nat -> Int) (v : Int) (h0 : 0 <= v) (h1 : v < 57896044618658097711785492504343953926634992332820282019728792003956564819949) : shV k (keyV v) = tv (cK k) v := by unfold shV cK; rw [zrau v h0 h1]
def pubV (k : Nat -> Int) : Int := tv (cK k) 9
theorem zray (k : Nat -> Int) : 0 <= pubV k /\ pubV k < 57896044618658097711785492504343953926634992332820282019728792003956564819949 := Edw.tv_bd _ _
def twoV (j k : Nat -> Int) : Int := tv (cK j) (pubV k)
theorem zrgu (j k : Nat -> Int) : shV j (keyV (pubV k)) = twoV j k := zrdg j _ (zray k).1 (zray k).2
theorem zrgd (j k : Nat -> Int) (hj : Bytes 32 j) (hk : Bytes 32 k) : decide (twoV j k = 0) = false := decide_eq_false (Edw.tv_nine2 _ _ (zrgm k hk) (zrgm j hj) (zq46 k hk) (zq46 j hj))
theorem zqqj (k : Nat -> Int) (w : World) (hk : Bytes 32 k) : Calls Tryz.prog 48 #[.agg (ints .u8 32 (k))] w (Rt w (.agg (ints .u8 32 (keyV (pubV k))))) := zq8a k w hk
set_option maxHeartbeats 1000000 in
theorem zq1i (w : World) :
  Calls Tryz.prog 198 #[] w (Rt w (.bool true)) := by
 have hG := Grew.refl w
 go_enter Tryz.func198, Tryz.ntmps198
 have c1 := fun w => zqvb (upd zqg 0 1) (upd zqg 0 9) w zqnj zqlb;rw [zq2e, zqul, Edw.tv_one 9 (by decide)] at c1;have c2 := fun w => zqol zqg w zq5k;have s1 : same 32 (keyV 9) (upd zqg 0 9) = true := by kernel_rfl
 have s2 : same 32 (zqc3 zqg) (upd zqg 31 64) = true := by kernel_rfl
 go_wp2_with fail
 (refine (zqy2 _).mono ?_; rintro e w1 ⟨rfl, hb⟩; replace hG : Below w.heap.size w w1 := Grew.trans (by exact zqf) hb; clear hb)
 go_wp2_with fail
 (refine (c1 _).mono ?_; rintro e w2 ⟨rfl, hb⟩; replace hG : Below w.heap.size w w2 := Grew.trans (by exact zqf) hb; clear hb)
 go_wp2_with fail
 (refine (c2 _).mono ?_; rintro e w3 ⟨rfl, hb⟩; replace hG : Below w.heap.size w w3 := Grew.trans (by exact zqf) hb; clear hb)
 go_wp2;go_ret;exact ⟨rfl, by exact zqf⟩
end Go.Proofs.YtconieddcjpbjaaGreatDoor
