/- Dh -/
import Derived.Test.YtnjghcnhcbobhaaGreatDoorOrder
set_option linter.unusedVariables false
set_option linter.unusedSimpArgs false
set_option maxRecDepth 100000
set_option maxHeartbeats 4000000
namespace Go.Proofs.YtnjghcnhcbobhaaGreatDoor
open Go.RowKit
open Edw (red tv)
theorem zqbc {P : Program} {fn : Func} {R : Ending -> World -> Prop} {a : Act} {w : World} {p q : Tmp} {ty : TypeId} (h : fn.results = #[.cell p ty, .tmp q]) (g : Nat) (t : TypeId) (cs : Array Value) (fr : Nat × Nat) (d : TypeDesc) (v : Value)
  (hp : a.tmps.getD p undef = .pointer (some ⟨g, 0, none⟩)) (hq : a.tmps.getD q undef = v) (hg : zqd w g = some (.cells cs t fr))
  (hu : P.underlying ty = some d) (hd : (match d with | .struct _ | .array _ _ => true | _ => false) = true) (hi : (P.info? ty).map (·.size) = some cs.size)
  (hD : a.defers = []) (hR : R (.returned (.tuple #[.agg cs, v])) w) : bodyPost P fn R .ret a w := by
 refine bodyPost_ret_by ?_ hD hR
 have hp' : a.tmps[p]?.getD undef = .pointer (some ⟨g, 0, none⟩) := by simpa using hp
 have hq' : a.tmps[q]?.getD undef = v := by simpa using hq
 unfold zqd at hg
 simp [results, h, hp', hq', asAddr, run_loadVar_row w g t ty cs fr d hg hu hd hi]
def zqc1 (k : Nat -> Int) : Nat -> Int := fun i => if i = 0 then k 0 / 8 * 8 else if i = 31 then k 31 % 64 + 64 else k i
theorem zrea : ∀ n : Fin 256, bits .andNot .u8 ((n.val : Nat) : Int) 7 = ((n.val : Nat) : Int) / 8 * 8 := by decide +kernel
theorem zra2 : ∀ n : Fin 256, bits .or .u8 (bits .andNot .u8 ((n.val : Nat) : Int) 128) 64 = ((n.val : Nat) : Int) % 64 + 64 := by decide +kernel
theorem zqt4 (k : Nat -> Int) (hk : Bytes 32 k) : ints .u8 32 (upd (upd (upd k 0 (bits BinOp.andNot IntKind.u8 (k 0) 7)) 31 (bits BinOp.andNot IntKind.u8 ((upd k 0 (bits BinOp.andNot IntKind.u8 (k 0) 7)) 31) 128)) 31 (bits BinOp.or IntKind.u8 ((upd (upd k 0 (bits BinOp.andNot IntKind.u8 (k 0) 7)) 31 (bits BinOp.andNot IntKind.u8 ((upd k 0 (bits BinOp.andNot IntKind.u8 (k 0) 7)) 31) 128)) 31) 64)) = ints .u8 32 (zqc1 k) := zqbd fun i hi => by
 obtain ⟨a, ha, ha1⟩ := zqn4 (k 0) (hk 0 (by decide)).1 (hk 0 (by decide)).2;obtain ⟨b, hb, hb1⟩ := zqn4 (k 31) (hk 31 (by decide)).1 (hk 31 (by decide)).2;have e0 := zrea ⟨a, ha1⟩;have e1 := zra2 ⟨b, hb1⟩
 simp only at e0 e1
 rw [<- ha] at e0;rw [<- hb] at e1;unfold zqc1
 by_cases h0 : i = 0
 ·subst h0; simp [upd, e0]
 ·by_cases h1 : i = 31
  ·subst h1; simp [upd, e1]
  ·simp [upd, h0, h1]
theorem zqgb (k : Nat -> Int) (hk : Bytes 32 k) : Bytes 32 (zqc1 k) := fun i hi => by
 have h0 := hk 0 (by decide);have h1 := hk 31 (by decide);have h2 := hk i hi;unfold zqc1
 split
 ·omega
 ·split <;> omega
set_option maxHeartbeats 1000000 in
theorem zqlp (k : Nat -> Int) (w : World) (hk : Bytes 32 k) :
  Calls Tryz.prog 203 #[.agg (ints .u8 32 (k))] w (Rt w (.agg (ints .u8 32 (zqc1 k)))) := by
 have hG := Grew.refl w
 go_enter Tryz.func203, Tryz.ntmps203
 have hk0 := hk 0 (by decide);have hk31 := hk 31 (by decide);go_wp2_with fail;rw [zqt4 k hk];refine zqap rfl _ 44 _ (0, 0) _ rfl (by simp [go_sem]) Tryz.underlying44 rfl (by rw [zqj]; kernel_rfl) rfl ⟨rfl, by exact zqe⟩
set_option maxHeartbeats 1000000 in
theorem zqsj (k p : Nat -> Int) (w : World) (hk : Bytes 32 k) (hp : Bytes 32 p) :
  Calls Tryz.prog 202 #[.agg (ints .u8 32 (k)), .agg (ints .u8 32 (p))] w (Rt w (.agg (ints .u8 32 (keyV (tv (knum k 32) (nv (ofF p))))))) := by
 have hG := Grew.refl w;have fk : True := trivial;have fp : True := trivial;have fr : True := trivial
 go_enter Tryz.func202, Tryz.ntmps202
 go_wp2_with fail;generalize hW : ((w.alloc (.cells (ints .u8 32 (k)) 44)).alloc (.cells (ints .u8 32 (p)) 44)).alloc (.cells (ints .u8 32 (zqg)) 44) = w1;replace fk : zqd w1 (w.heap.size) = some (.cells (ints .u8 32 (k)) 44) := zq0 hW;replace fp : zqd w1 (w.heap.size + 1) = some (.cells (ints .u8 32 (p)) 44) := zq0 hW;replace fr : zqd w1 (w.heap.size + 1 + 1) = some (.cells (ints .u8 32 (zqg)) 44) := zq0 hW;replace hG : Below w.heap.size w w1 := zqay hW;clear hW;have lfk := zqa fk;have lfp := zqa fp;have lfr := zqa fr;have c1 := fun w => zqvp p w hp;have c2 := fun w => zqmm k (ofF p) w hk (zqhc p);have c3 := fun w => zqgk (zqmo (ofF p) k) w (zqke _ _ (zqhc p));have e : nv (zqmo (ofF p) k) = tv (knum k 32) (nv (ofF p)) := zqr6 _ _ hk;rw [e] at c3
 ((first | (with_reducible refine zqa1 5 zqc zqc zqc zqc zqc ?_) | refine zqas 5 zqc zqc zqc zqc zqc ?_); simp only [List.take_succ_cons, List.take_zero]; (repeat (first | go_big_quiet_skip | (go_big_quiet_want; go_big_quiet_op; first | go_big_quiet_on | (apply Exists.intro; refine ⟨fun _ => ?_, ?_⟩; (focus (first | (with_reducible exact Calls.of_more (c1 _)) | (with_reducible exact Calls.of_more (c2 _)) | (with_reducible exact Calls.of_more (c3 _)))); go_big_quiet_on)))); refine wpQuiet_nil ?_; rintro _ ⟨mq, rfl⟩)
 (refine zqx (i := 5) (fuel := 0) zqc rfl ?_; intro K hK; go_simp; refine hK _ _ ?_; clear hK K)
 (refine wpAny_done zqc ?_ _)
 go_wp2;refine zqap rfl _ 44 _ (0, 0) _ rfl (zqp _ (zqs _ fr)) Tryz.underlying44 rfl (by rw [zqj]; kernel_rfl) rfl ⟨rfl, by exact zqe⟩
theorem zqoj : Bytes 32 (upd zqg 0 9) := fun i _ => by unfold upd zqg; split <;> omega
theorem zq16 : nv (ofF (upd zqg 0 9)) = 9 := by kernel_rfl
set_option maxHeartbeats 1000000 in
theorem zq6e (k : Nat -> Int) (w : World) (hk : Bytes 32 k) :
  Calls Tryz.prog 197 #[.agg (ints .u8 32 (k))] w (Rt w (.agg (ints .u8 32 (keyV (tv (knum (zqc1 k) 32) 9))))) := by
 have hG := Grew.refl w;have fk : True := trivial;have fr : True := trivial
 go_enter Tryz.func197, Tryz.ntmps197
 go_wp2_with fail;generalize hW : (w.alloc (.cells (ints .u8 32 (k)) 44)).alloc (.cells (ints .u8 32 (zqg)) 44) = w1;replace fk : zqd w1 (w.heap.size) = some (.cells (ints .u8 32 (k)) 44) := zq0 hW;replace fr : zqd w1 (w.heap.size + 1) = some (.cells (ints .u8 32 (zqg)) 44) := zq0 hW;replace hG : Below w.heap.size w w1 := zqay hW;clear hW;have lfk := zqa fk;have lfr := zqa fr;have c1 := fun w => zqlp k w hk;have c2 := fun w => zqsj (zqc1 k) (upd zqg 0 9) w (zqgb k hk) zqoj;rw [zq16] at c2;go_wp2_with fail
 (refine (c1 _).mono ?_; rintro e w2 ⟨rfl, hb⟩; replace fk : zqd w2 (w.heap.size) = some (.cells (ints .u8 32 (k)) 44) := zqb hb (by exact zqh); have lfk := zqa fk; replace fr : zqd w2 (w.heap.size + 1) = some (.cells (ints .u8 32 (zqg)) 44) := zqb hb (by exact zqh); have lfr := zqa fr; replace hG : Below w.heap.size w w2 := Grew.trans (by exact zqe) hb; clear hb)
 go_wp2_with fail
 (refine (c2 _).mono ?_; rintro e w3 ⟨rfl, hb⟩; replace fk : zqd w3 (w.heap.size) = some (.cells (ints .u8 32 (k)) 44) := zqb hb (by exact zqh); have lfk := zqa fk; replace fr : zqd w3 (w.heap.size + 1) = some (.cells (ints .u8 32 (zqg)) 44) := zqb hb (by exact zqh); have lfr := zqa fr; replace hG : Below w.heap.size w w3 := Grew.trans (by exact zqe) hb; clear hb)
 go_wp2;refine zqap rfl _ 44 _ (0, 0) _ rfl (zqs _ fr) Tryz.underlying44 rfl (by rw [zqj]; kernel_rfl) rfl ⟨rfl, by exact zqe⟩
theorem zq2a (x : Int) (hx : 0 <= x /\ x < 57896044618658097711785492504343953926634992332820282019728792003956564819949) : same 32 (keyV x) zqg = decide (x = 0) := by
 have h := zq6o (ofF (keyV x));rwa [zq9d x hx.1 hx.2] at h
def shV (k p : Nat -> Int) : Int := tv (knum (zqc1 k) 32) (nv (ofF p))
set_option maxHeartbeats 1000000 in
theorem zqwc (k p : Nat -> Int) (w : World) {T : Bool} (hk : Bytes 32 k) (hp : Bytes 32 p) (hT : decide (shV k p = 0) = T) :
  Calls Tryz.prog 206 #[.agg (ints .u8 32 (k)), .agg (ints .u8 32 (p))] w (Rt w (.tuple #[.agg (ints .u8 32 (keyV (shV k p))), .bool (!T)])) := by
 have hG := Grew.refl w;have fk : True := trivial;have fp : True := trivial;have fr : True := trivial
 go_enter Tryz.func206, Tryz.ntmps206
 go_wp2_with fail;generalize hW : ((w.alloc (.cells (ints .u8 32 (k)) 44)).alloc (.cells (ints .u8 32 (p)) 44)).alloc (.cells (ints .u8 32 (zqg)) 44) = w1;replace fk : zqd w1 (w.heap.size) = some (.cells (ints .u8 32 (k)) 44) := zq0 hW;replace fp : zqd w1 (w.heap.size + 1) = some (.cells (ints .u8 32 (p)) 44) := zq0 hW;replace fr : zqd w1 (w.heap.size + 1 + 1) = some (.cells (ints .u8 32 (zqg)) 44) := zq0 hW;replace hG : Below w.heap.size w w1 := zqay hW;clear hW;have lfk := zqa fk;have lfp := zqa fp;have lfr := zqa fr;have c1 := fun w => zqlp k w hk;have c2 : ∀ w, Calls Tryz.prog 202 #[.agg (ints .u8 32 (zqc1 k)), .agg (ints .u8 32 (p))] w (Rt w (.agg (ints .u8 32 (keyV (shV k p))))) := fun w => zqsj (zqc1 k) p w (zqgb k hk) hp;have c3 := fun w => zq6f (keyV (shV k p)) w (zqda _)
 have e : same 32 (keyV (shV k p)) zqg = decide (shV k p = 0) := zq2a _ (Edw.tv_bd _ _);rw [e, hT] at c3;go_wp2_with fail
 (refine zqgn zqc zqc ?_; (repeat (first | refine zqv rfl ?_ | (refine zqo rfl ?_; apply Exists.intro))); refine zqbw ?_; intro γ hinj hbase; (repeat (first | (refine zqy rfl ?_; ((first | go_big_quiet_skip | (go_big_quiet_want; go_big_quiet_op; go_big_quiet_on)); refine wpQuiet_nil ?_)) | ((first | refine zql rfl (fun _ => rfl) ?_ | ((try simp only [Nat.zero_add, Nat.reduceAdd]); apply zqdi zq1; (focus rfl); (focus (first | exact zqag _ | exact zqah _ _ | exact zqaa _ | rfl)); (focus (exact zq8))) | ((try simp only [Nat.zero_add, Nat.reduceAdd]); apply zqbn _ _ zq1; (focus rfl); (focus (intro W; (first | exact zqb9 _ | exact zqbk _ | exact zero_num _ | exact zqbl _ | exact zqa9 _ | exact zqa5 _))); (focus (first | exact zqa8 _ _ _ | exact zqbm _ _ | rfl)); (focus (exact zq8))) | ((try simp only [Nat.zero_add, Nat.reduceAdd]); apply zqbx zq1; (focus rfl); (focus (intro W; simp only [List.map_toArray, List.map_cons, List.map_nil]; first | fail)); (focus (exact zq8))) | (apply zq9; (focus rfl); (focus rfl); (focus rfl); (focus (intro W hC hF; go_big_quiet_want; go_big_quiet_op; (first | go_big_quiet_on | (apply Exists.intro; refine ⟨fun _ => ?_, ?_⟩; (focus (first | (with_reducible exact Calls.of_more (c1 _)) | (with_reducible exact Calls.of_more (c2 _)))); go_big_quiet_on)); exact wpQuiet_nil rfl)); (focus (first | exact fun _ => ⟨rfl, rfl⟩ | exact fun h => absurd h (by decide))))); ((first | go_big_quiet_skip | (go_big_quiet_want; go_big_quiet_op; go_big_quiet_on)); refine wpQuiet_nil ?_)) | refine zqm rfl (fun _ => rfl) ?_ | ((try simp only [Nat.zero_add, Nat.reduceAdd]); apply zqbo (zqa7 (hbase _)); (focus rfl); (focus rfl); (focus rfl); (focus (first | exact zqag _ | exact zqah _ _ | exact zqaa _ | rfl)); rotate_left 3; (focus (exact zqdv)); rotate_right 3; (focus kernel_rfl); (focus (first | exact zqj _ _ _ | rfl)); (focus (first | exact zqa3 _ _ _ | exact zqbr _ _ _ _ | kernel_rfl)); (focus (decide +kernel)); (focus (exact zq8))))))
 (refine zqb7 ?_; rintro _ ⟨mq, rfl⟩ hF; simp only [List.forall_mem_cons] at hF; obtain ⟨fs, -⟩ := hF)
 have nsr : ¬ (γ 4 = w.heap.size + 1 + 1) := by have := hbase 4; omega
 have nrs : ¬ (w.heap.size + 1 + 1 = γ 4) := fun e => nsr e.symm;have hw0 := hG.size;have l0s : w.heap.size <= γ 4 := by have := hbase 4; omega
 clear hw0;replace fk : zqd (more w1 mq) (w.heap.size) = some (.cells (ints .u8 32 (k)) 44) := by exact zqh
 replace fp : zqd (more w1 mq) (w.heap.size + 1) = some (.cells (ints .u8 32 (p)) 44) := by exact zqh
 replace fr : zqd (more w1 mq) (w.heap.size + 1 + 1) = some (.cells (ints .u8 32 (zqg)) 44) := by exact zqh
 replace hG : Below w.heap.size w (more w1 mq) := by exact zqe
 replace fs : zqd (more w1 mq) (γ 4) = some (.cells (ints .u8 32 (keyV (shV k p))) 44) := fs;clear lfk lfp lfr;clear hinj hbase;generalize γ 4 = gs at *;generalize more w1 mq = w2 at *;clear γ;have lfk := zqa fk;have lfp := zqa fp;have lfr := zqa fr;have lfs := zqa fs;go_wp2_with fail;refine wp_region_any zqc ?_
 rw [show ({ w2 with drawn := w2.drawn + 1 } : World) = more w2 ⟨w2.drawn + 1, #[]⟩ from by simp [more]];generalize (⟨w2.drawn + 1, #[]⟩ : More) = m8;refine zqdp (i := 0) (j := 1) (fuel := 5) zqc rfl rfl ?_ ?_
 ·intro K hK
  go_simp
  refine hK _ _ ?_
  clear hK K;refine zqx (i := 1) (fuel := 4) zqc rfl ?_
  intro K hK
  go_simp
  refine hK _ _ ?_
  clear hK K;refine zqx (i := 2) (fuel := 3) zqc rfl ?_
  intro K hK
  go_simp
  refine (c3 _).mono ?_
  rintro e9 w9 ⟨rfl, hb9⟩;obtain ⟨m9, rfl⟩ := zqcx hb9;clear hb9;refine hK _ _ ?_
  clear hK K;refine zqdp (i := 3) (j := 4) (fuel := 2) zqc rfl rfl ?_ ?_
  ·intro K hK
   go_simp
   refine hK _ _ ?_
   clear hK K;refine zqx (i := 4) (fuel := 1) zqc rfl ?_
   intro K hK
   go_simp
   refine hK _ _ ?_
   clear hK K;refine zqx (i := 5) (fuel := 0) zqc rfl ?_
   intro K hK
   go_simp
   refine hK _ _ ?_
   clear hK K;refine wpAny_done zqc ?_ _
   go_wp2;refine zqbc rfl _ 44 _ (0, 0) _ _ rfl rfl (zqp _ (zqp _ (zqs _ fr))) Tryz.underlying44 rfl (by rw [zqj]; kernel_rfl) rfl ⟨rfl, Grew.more (Grew.more (Grew.setRow hG _ _ (by omega)) _) _⟩
  ·intro K hK
   go_simp
   refine hK _ _ ?_
   clear hK K;refine zqx (i := 3) (fuel := 1) zqc rfl ?_
   intro K hK
   go_simp
   refine hK _ _ ?_
   clear hK K;refine zqx (i := 5) (fuel := 0) zqc rfl ?_
   intro K hK
   go_simp
   refine hK _ _ ?_
   clear hK K;refine wpAny_done zqc ?_ _
   go_wp2;refine zqbc rfl _ 44 _ (0, 0) _ _ rfl rfl (zqp _ (zqp _ (zqs _ fr))) Tryz.underlying44 rfl (by rw [zqj]; kernel_rfl) rfl ⟨rfl, Grew.more (Grew.more (Grew.setRow hG _ _ (by omega)) _) _⟩
 ·intro K hK
  go_simp
  refine hK _ _ ?_
  clear hK K;refine zqdp (i := 0) (j := 2) (fuel := 4) zqc rfl rfl ?_ ?_
  ·intro K hK
   go_simp
   refine hK _ _ ?_
   clear hK K;refine zqx (i := 2) (fuel := 3) zqc rfl ?_
   intro K hK
   go_simp
   refine (c3 _).mono ?_
   rintro e9 w9 ⟨rfl, hb9⟩;obtain ⟨m9, rfl⟩ := zqcx hb9;clear hb9;refine hK _ _ ?_
   clear hK K;refine zqdp (i := 3) (j := 4) (fuel := 2) zqc rfl rfl ?_ ?_
   ·intro K hK
    go_simp
    refine hK _ _ ?_
    clear hK K;refine zqx (i := 4) (fuel := 1) zqc rfl ?_
    intro K hK
    go_simp
    refine hK _ _ ?_
    clear hK K;refine zqx (i := 5) (fuel := 0) zqc rfl ?_
    intro K hK
    go_simp
    refine hK _ _ ?_
    clear hK K;refine wpAny_done zqc ?_ _
    go_wp2;refine zqbc rfl _ 44 _ (0, 0) _ _ rfl rfl (zqp _ (zqp _ (zqs _ fr))) Tryz.underlying44 rfl (by rw [zqj]; kernel_rfl) rfl ⟨rfl, Grew.more (Grew.more (Grew.setRow hG _ _ (by omega)) _) _⟩
   ·intro K hK
    go_simp
    refine hK _ _ ?_
    clear hK K;refine zqx (i := 3) (fuel := 1) zqc rfl ?_
    intro K hK
    go_simp
    refine hK _ _ ?_
    clear hK K;refine zqx (i := 5) (fuel := 0) zqc rfl ?_
    intro K hK
    go_simp
    refine hK _ _ ?_
    clear hK K;refine wpAny_done zqc ?_ _
    go_wp2;refine zqbc rfl _ 44 _ (0, 0) _ _ rfl rfl (zqp _ (zqp _ (zqs _ fr))) Tryz.underlying44 rfl (by rw [zqj]; kernel_rfl) rfl ⟨rfl, Grew.more (Grew.more (Grew.setRow hG _ _ (by omega)) _) _⟩
  ·intro K hK
   go_simp
   refine (c3 _).mono ?_
   rintro e9 w9 ⟨rfl, hb9⟩;obtain ⟨m9, rfl⟩ := zqcx hb9;clear hb9;refine hK _ _ ?_
   clear hK K;refine zqdp (i := 0) (j := 3) (fuel := 3) zqc rfl rfl ?_ ?_
   ·intro K hK
    go_simp
    refine hK _ _ ?_
    clear hK K;refine zqdp (i := 3) (j := 4) (fuel := 2) zqc rfl rfl ?_ ?_
    ·intro K hK
     go_simp
     refine hK _ _ ?_
     clear hK K;refine zqx (i := 4) (fuel := 1) zqc rfl ?_
     intro K hK
     go_simp
     refine hK _ _ ?_
     clear hK K;refine zqx (i := 5) (fuel := 0) zqc rfl ?_
     intro K hK
     go_simp
     refine hK _ _ ?_
     clear hK K;refine wpAny_done zqc ?_ _
     go_wp2;refine zqbc rfl _ 44 _ (0, 0) _ _ rfl rfl (zqp _ (zqp _ (zqs _ fr))) Tryz.underlying44 rfl (by rw [zqj]; kernel_rfl) rfl ⟨rfl, Grew.more (Grew.more (Grew.setRow hG _ _ (by omega)) _) _⟩
    ·intro K hK
     go_simp
     refine hK _ _ ?_
     clear hK K;refine zqx (i := 3) (fuel := 1) zqc rfl ?_
     intro K hK
     go_simp
     refine hK _ _ ?_
     clear hK K;refine zqx (i := 5) (fuel := 0) zqc rfl ?_
     intro K hK
     go_simp
     refine hK _ _ ?_
     clear hK K;refine wpAny_done zqc ?_ _
     go_wp2;refine zqbc rfl _ 44 _ (0, 0) _ _ rfl rfl (zqp _ (zqp _ (zqs _ fr))) Tryz.underlying44 rfl (by rw [zqj]; kernel_rfl) rfl ⟨rfl, Grew.more (Grew.more (Grew.setRow hG _ _ (by omega)) _) _⟩
   ·intro K hK
    go_simp
    refine hK _ _ ?_
    clear hK K;refine zqx (i := 0) (fuel := 2) zqc rfl ?_
    intro K hK
    go_simp
    refine hK _ _ ?_
    clear hK K;refine zqx (i := 4) (fuel := 1) zqc rfl ?_
    intro K hK
    go_simp
    refine hK _ _ ?_
    clear hK K;refine zqx (i := 5) (fuel := 0) zqc rfl ?_
    intro K hK
    go_simp
    refine hK _ _ ?_
    clear hK K;refine wpAny_done zqc ?_ _
    go_wp2;refine zqbc rfl _ 44 _ (0, 0) _ _ rfl rfl (zqp _ (zqp _ (zqs _ fr))) Tryz.underlying44 rfl (by rw [zqj]; kernel_rfl) rfl ⟨rfl, Grew.more (Grew.more (Grew.setRow hG _ _ (by omega)) _) _⟩
end Go.Proofs.YtnjghcnhcbobhaaGreatDoor
namespace Go.Proofs.YtnjghcnhcbobhaaGreatDoor
open Go.RowKit
open Edw (red tv)
def cK (k : Nat -> Int) : Nat := knum (zqc1 k) 32
theorem zri3 (k : Nat -> Int) (hk : Bytes 32 k) : cK k < 2 ^ 256 := zqys _ (zqgb k hk)
theorem zqqo (f : Nat -> Int) : ∀ j, knum f (j + 1) % 8 = (f 0).toNat % 8
 | 0 => by simp [knum]
 | j + 1 => by
  have e : 256 ^ (j + 1) * (f (j + 1)).toNat = 8 * (32 * 256 ^ j * (f (j + 1)).toNat) := by rw [Nat.pow_succ]; grind
  rw [knum, e, Nat.add_mul_mod_self_left];exact zqqo f j
theorem zrnf (k : Nat -> Int) (hk : Bytes 32 k) : ∃ m, cK k = 8 * m /\ 0 < m /\ m < Edw.ordl := by
 have h0 := hk 0 (by decide);have h1 := hk 31 (by decide);have m8 := zqqo (zqc1 k) 31;have hb := zqlk (zqc1 k) (zqgb k hk) 31 (by omega);have c0 : zqc1 k 0 = k 0 / 8 * 8 := rfl;have c1 : zqc1 k 31 = k 31 % 64 + 64 := rfl;have hs : knum (zqc1 k) 32 = knum (zqc1 k) 31 + 256 ^ 31 * (zqc1 k 31).toNat := rfl;rw [c0] at m8;rw [c1] at hs;have hm : (k 0 / 8 * 8).toNat % 8 = 0 := by omega
 rw [hm] at m8;unfold cK;generalize knum (zqc1 k) 31 = A at *;generalize knum (zqc1 k) 32 = B at *;have t0 : 64 <= (k 31 % 64 + 64).toNat := by omega
 have t1 : (k 31 % 64 + 64).toNat <= 127 := by omega
 generalize (k 31 % 64 + 64).toNat = t at *;refine ⟨B / 8, by omega, ?_, ?_⟩
 ·have : 256 ^ 31 * 64 <= 256 ^ 31 * t := Nat.mul_le_mul_left _ t0
  have h2 : (256 : Nat) ^ 31 = 452312848583266388373324160190187140051835877600158453279131187530910662656 := by decide
  omega
 ·have : 256 ^ 31 * t <= 256 ^ 31 * 127 := Nat.mul_le_mul_left _ t1
  have h2 : (256 : Nat) ^ 31 = 452312848583266388373324160190187140051835877600158453279131187530910662656 := by decide
  unfold Edw.ordl
  omega
theorem zq0o (k : Nat -> Int) (hk : Bytes 32 k) : ¬ Edw.ordl ∣ cK k := by
 obtain ⟨m, e, h0, h1⟩ := zrnf k hk;rw [e];exact Edw.clamped_ndvd m h0 h1
theorem zrc4 (k : Nat -> Int) (v : Int) (h0 : 0 <= v) (h1 : v < 57896044618658097711785492504343953926634992332820282019728792003956564819949) : shV k (keyV v) = tv (cK k) v := by unfold shV cK; rw [zq9d v h0 h1]
def pubV (k : Nat -> Int) : Int := tv (cK k) 9
theorem zq77 (k : Nat -> Int) : 0 <= pubV k /\ pubV k < 57896044618658097711785492504343953926634992332820282019728792003956564819949 := Edw.tv_bd _ _
def twoV (j k : Nat -> Int) : Int := tv (cK j) (pubV k)
theorem zrh3 (j k : Nat -> Int) : shV j (keyV (pubV k)) = twoV j k := zrc4 j _ (zq77 k).1 (zq77 k).2
theorem zrhj (j k : Nat -> Int) (hj : Bytes 32 j) (hk : Bytes 32 k) : decide (twoV j k = 0) = false := decide_eq_false (Edw.tv_nine2 _ _ (zri3 k hk) (zri3 j hj) (zq0o k hk) (zq0o j hj))
theorem zqpn (k : Nat -> Int) (w : World) (hk : Bytes 32 k) : Calls Tryz.prog 197 #[.agg (ints .u8 32 (k))] w (Rt w (.agg (ints .u8 32 (keyV (pubV k))))) := zq6e k w hk
set_option maxHeartbeats 1000000 in
theorem zqy5 (w : World) :
  Calls Tryz.prog 248 #[] w (Rt w (.bool true)) := by
 have hG := Grew.refl w
 go_enter Tryz.func248, Tryz.ntmps248
 have c1 := fun w => zqsj (upd zqg 0 1) (upd zqg 0 9) w zqla zqoj;rw [zqzk, zq16, Edw.tv_one 9 (by decide)] at c1;have c2 := fun w => zqlp zqg w zq0m;have s1 : same 32 (keyV 9) (upd zqg 0 9) = true := by kernel_rfl
 have s2 : same 32 (zqc1 zqg) (upd zqg 31 64) = true := by kernel_rfl
 go_wp2_with fail
 (refine (zqwm _).mono ?_; rintro e w1 ⟨rfl, hb⟩; replace hG : Below w.heap.size w w1 := Grew.trans (by exact zqe) hb; clear hb)
 go_wp2_with fail
 (refine (c1 _).mono ?_; rintro e w2 ⟨rfl, hb⟩; replace hG : Below w.heap.size w w2 := Grew.trans (by exact zqe) hb; clear hb)
 go_wp2_with fail
 (refine (c2 _).mono ?_; rintro e w3 ⟨rfl, hb⟩; replace hG : Below w.heap.size w w3 := Grew.trans (by exact zqe) hb; clear hb)
 go_wp2;go_ret;exact ⟨rfl, by exact zqe⟩
end Go.Proofs.YtnjghcnhcbobhaaGreatDoor
