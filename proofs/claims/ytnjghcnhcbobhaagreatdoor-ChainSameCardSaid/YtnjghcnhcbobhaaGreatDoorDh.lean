/- Dh -/
import Derived.Test.YtnjghcnhcbobhaaGreatDoorOrder
set_option linter.unusedVariables false
set_option linter.unusedSimpArgs false
set_option maxRecDepth 100000
set_option maxHeartbeats 4000000
namespace Go.Proofs.YtnjghcnhcbobhaaGreatDoor
open Go.RowKit
open Edw (red tv)
theorem zqcf {P : Program} {fn : Func} {R : Ending -> World -> Prop} {a : Act} {w : World} {p q : Tmp} {ty : TypeId} (h : fn.results = #[.cell p ty, .tmp q]) (g : Nat) (t : TypeId) (cs : Array Value) (fr : Nat × Nat) (d : TypeDesc) (v : Value)
  (hp : a.tmps.getD p undef = .pointer (some ⟨g, 0, none⟩)) (hq : a.tmps.getD q undef = v) (hg : zqd w g = some (.cells cs t fr))
  (hu : P.underlying ty = some d) (hd : (match d with | .struct _ | .array _ _ => true | _ => false) = true) (hi : (P.info? ty).map (·.size) = some cs.size)
  (hD : a.defers = []) (hR : R (.returned (.tuple #[.agg cs, v])) w) : bodyPost P fn R .ret a w := by
 refine bodyPost_ret_by ?_ hD hR
 have hp' : a.tmps[p]?.getD undef = .pointer (some ⟨g, 0, none⟩) := by simpa using hp
 have hq' : a.tmps[q]?.getD undef = v := by simpa using hq
 unfold zqd at hg
 simp [results, h, hp', hq', asAddr, run_loadVar_row w g t ty cs fr d hg hu hd hi]
def zqc6 (k : Nat -> Int) : Nat -> Int := fun i => if i = 0 then k 0 / 8 * 8 else if i = 31 then k 31 % 64 + 64 else k i
theorem zre0 : ∀ n : Fin 256, bits .andNot .u8 ((n.val : Nat) : Int) 7 = ((n.val : Nat) : Int) / 8 * 8 := by decide +kernel
theorem zrfh : ∀ n : Fin 256, bits .or .u8 (bits .andNot .u8 ((n.val : Nat) : Int) 128) 64 = ((n.val : Nat) : Int) % 64 + 64 := by decide +kernel
theorem zqu3 (k : Nat -> Int) (hk : Bytes 32 k) : ints .u8 32 (upd (upd (upd k 0 (bits BinOp.andNot IntKind.u8 (k 0) 7)) 31 (bits BinOp.andNot IntKind.u8 ((upd k 0 (bits BinOp.andNot IntKind.u8 (k 0) 7)) 31) 128)) 31 (bits BinOp.or IntKind.u8 ((upd (upd k 0 (bits BinOp.andNot IntKind.u8 (k 0) 7)) 31 (bits BinOp.andNot IntKind.u8 ((upd k 0 (bits BinOp.andNot IntKind.u8 (k 0) 7)) 31) 128)) 31) 64)) = ints .u8 32 (zqc6 k) := zqbr fun i hi => by
 obtain ⟨a, ha, ha1⟩ := zqoz (k 0) (hk 0 (by decide)).1 (hk 0 (by decide)).2;obtain ⟨b, hb, hb1⟩ := zqoz (k 31) (hk 31 (by decide)).1 (hk 31 (by decide)).2;have e0 := zre0 ⟨a, ha1⟩;have e1 := zrfh ⟨b, hb1⟩
 simp only at e0 e1
 rw [<- ha] at e0;rw [<- hb] at e1;unfold zqc6
 by_cases h0 : i = 0
 ·subst h0; simp [upd, e0]
 ·by_cases h1 : i = 31
  ·subst h1; simp [upd, e1]
  ·simp [upd, h0, h1]
theorem zqgp (k : Nat -> Int) (hk : Bytes 32 k) : Bytes 32 (zqc6 k) := fun i hi => by
 have h0 := hk 0 (by decide);have h1 := hk 31 (by decide);have h2 := hk i hi;unfold zqc6
 split
 ·omega
 ·split <;> omega
set_option maxHeartbeats 1000000 in
theorem zql5 (k : Nat -> Int) (w : World) (hk : Bytes 32 k) :
  Calls Tryz.prog 203 #[.agg (ints .u8 32 (k))] w (Rt w (.agg (ints .u8 32 (zqc6 k)))) := by
 have hG := Grew.refl w
 go_enter Tryz.func203, Tryz.ntmps203
 have hk0 := hk 0 (by decide);have hk31 := hk 31 (by decide);go_wp2_with fail;rw [zqu3 k hk];refine zqaf rfl _ 44 _ (0, 0) _ rfl (by simp [go_sem]) Tryz.underlying44 rfl (by rw [zqj]; kernel_rfl) rfl ⟨rfl, by exact zqf⟩
set_option maxHeartbeats 1000000 in
theorem zqtk (k p : Nat -> Int) (w : World) (hk : Bytes 32 k) (hp : Bytes 32 p) :
  Calls Tryz.prog 202 #[.agg (ints .u8 32 (k)), .agg (ints .u8 32 (p))] w (Rt w (.agg (ints .u8 32 (keyV (tv (knum k 32) (nv (ofF p))))))) := by
 have hG := Grew.refl w;have fk : True := trivial;have fp : True := trivial;have fr : True := trivial
 go_enter Tryz.func202, Tryz.ntmps202
 go_wp2_with fail;generalize hW : ((w.alloc (.cells (ints .u8 32 (k)) 44)).alloc (.cells (ints .u8 32 (p)) 44)).alloc (.cells (ints .u8 32 (zqe)) 44) = w1;replace fk : zqd w1 (w.heap.size) = some (.cells (ints .u8 32 (k)) 44) := zqs hW;replace fp : zqd w1 (w.heap.size + 1) = some (.cells (ints .u8 32 (p)) 44) := zqs hW;replace fr : zqd w1 (w.heap.size + 1 + 1) = some (.cells (ints .u8 32 (zqe)) 44) := zqs hW;replace hG : Below w.heap.size w w1 := zqak hW;clear hW;have lfk := zqa fk;have lfp := zqa fp;have lfr := zqa fr;have c1 := fun w => zqvv p w hp;have c2 := fun w => zqm8 k (ofF p) w hk (zqhk p);have c3 := fun w => zqgf (zqmw (ofF p) k) w (zqk1 _ _ (zqhk p));have e : nv (zqmw (ofF p) k) = tv (knum k 32) (nv (ofF p)) := zqro _ _ hk;rw [e] at c3
 ((first | (with_reducible refine zqa2 5 zqb zqb zqb zqb zqb ?_) | refine zqar 5 zqb zqb zqb zqb zqb ?_); simp only [List.take_succ_cons, List.take_zero]; (repeat (first | go_big_quiet_skip | (go_big_quiet_want; go_big_quiet_op; first | go_big_quiet_on | (apply Exists.intro; refine ⟨fun _ => ?_, ?_⟩; (focus (first | (with_reducible exact Calls.of_more (c1 _)) | (with_reducible exact Calls.of_more (c2 _)) | (with_reducible exact Calls.of_more (c3 _)))); go_big_quiet_on)))); refine wpQuiet_nil ?_; rintro _ ⟨mq, rfl⟩)
 (refine zqu (i := 5) (fuel := 0) zqb rfl ?_; intro K hK; go_simp; refine hK _ _ ?_; clear hK K)
 (refine wpAny_done zqb ?_ _)
 go_wp2;refine zqaf rfl _ 44 _ (0, 0) _ rfl (zqq _ (zqr _ fr)) Tryz.underlying44 rfl (by rw [zqj]; kernel_rfl) rfl ⟨rfl, by exact zqf⟩
theorem zqpb : Bytes 32 (upd zqe 0 9) := fun i _ => by unfold upd zqe; split <;> omega
theorem zq0u : nv (ofF (upd zqe 0 9)) = 9 := by kernel_rfl
set_option maxHeartbeats 1000000 in
theorem zq7b (k : Nat -> Int) (w : World) (hk : Bytes 32 k) :
  Calls Tryz.prog 197 #[.agg (ints .u8 32 (k))] w (Rt w (.agg (ints .u8 32 (keyV (tv (knum (zqc6 k) 32) 9))))) := by
 have hG := Grew.refl w;have fk : True := trivial;have fr : True := trivial
 go_enter Tryz.func197, Tryz.ntmps197
 go_wp2_with fail;generalize hW : (w.alloc (.cells (ints .u8 32 (k)) 44)).alloc (.cells (ints .u8 32 (zqe)) 44) = w1;replace fk : zqd w1 (w.heap.size) = some (.cells (ints .u8 32 (k)) 44) := zqs hW;replace fr : zqd w1 (w.heap.size + 1) = some (.cells (ints .u8 32 (zqe)) 44) := zqs hW;replace hG : Below w.heap.size w w1 := zqak hW;clear hW;have lfk := zqa fk;have lfr := zqa fr;have c1 := fun w => zql5 k w hk;have c2 := fun w => zqtk (zqc6 k) (upd zqe 0 9) w (zqgp k hk) zqpb;rw [zq0u] at c2;go_wp2_with fail
 (refine (c1 _).mono ?_; rintro e w2 ⟨rfl, hb⟩; replace fk : zqd w2 (w.heap.size) = some (.cells (ints .u8 32 (k)) 44) := zqc hb (by exact zqh); have lfk := zqa fk; replace fr : zqd w2 (w.heap.size + 1) = some (.cells (ints .u8 32 (zqe)) 44) := zqc hb (by exact zqh); have lfr := zqa fr; replace hG : Below w.heap.size w w2 := Grew.trans (by exact zqf) hb; clear hb)
 go_wp2_with fail
 (refine (c2 _).mono ?_; rintro e w3 ⟨rfl, hb⟩; replace fk : zqd w3 (w.heap.size) = some (.cells (ints .u8 32 (k)) 44) := zqc hb (by exact zqh); have lfk := zqa fk; replace fr : zqd w3 (w.heap.size + 1) = some (.cells (ints .u8 32 (zqe)) 44) := zqc hb (by exact zqh); have lfr := zqa fr; replace hG : Below w.heap.size w w3 := Grew.trans (by exact zqf) hb; clear hb)
 go_wp2;refine zqaf rfl _ 44 _ (0, 0) _ rfl (zqr _ fr) Tryz.underlying44 rfl (by rw [zqj]; kernel_rfl) rfl ⟨rfl, by exact zqf⟩
theorem zq11 (x : Int) (hx : 0 <= x /\ x < 57896044618658097711785492504343953926634992332820282019728792003956564819949) : same 32 (keyV x) zqe = decide (x = 0) := by
 have h := zq8a (ofF (keyV x));rwa [zra2 x hx.1 hx.2] at h
def shV (k p : Nat -> Int) : Int := tv (knum (zqc6 k) 32) (nv (ofF p))
set_option maxHeartbeats 1000000 in
theorem zqzn (k p : Nat -> Int) (w : World) {T : Bool} (hk : Bytes 32 k) (hp : Bytes 32 p) (hT : decide (shV k p = 0) = T) :
  Calls Tryz.prog 206 #[.agg (ints .u8 32 (k)), .agg (ints .u8 32 (p))] w (Rt w (.tuple #[.agg (ints .u8 32 (keyV (shV k p))), .bool (!T)])) := by
 have hG := Grew.refl w;have fk : True := trivial;have fp : True := trivial;have fr : True := trivial
 go_enter Tryz.func206, Tryz.ntmps206
 go_wp2_with fail;generalize hW : ((w.alloc (.cells (ints .u8 32 (k)) 44)).alloc (.cells (ints .u8 32 (p)) 44)).alloc (.cells (ints .u8 32 (zqe)) 44) = w1;replace fk : zqd w1 (w.heap.size) = some (.cells (ints .u8 32 (k)) 44) := zqs hW;replace fp : zqd w1 (w.heap.size + 1) = some (.cells (ints .u8 32 (p)) 44) := zqs hW;replace fr : zqd w1 (w.heap.size + 1 + 1) = some (.cells (ints .u8 32 (zqe)) 44) := zqs hW;replace hG : Below w.heap.size w w1 := zqak hW;clear hW;have lfk := zqa fk;have lfp := zqa fp;have lfr := zqa fr;have c1 := fun w => zql5 k w hk;have c2 : ∀ w, Calls Tryz.prog 202 #[.agg (ints .u8 32 (zqc6 k)), .agg (ints .u8 32 (p))] w (Rt w (.agg (ints .u8 32 (keyV (shV k p))))) := fun w => zqtk (zqc6 k) p w (zqgp k hk) hp;have c3 := fun w => zq87 (keyV (shV k p)) w (zqdl _)
 have e : same 32 (keyV (shV k p)) zqe = decide (shV k p = 0) := zq11 _ (Edw.tv_bd _ _);rw [e, hT] at c3;go_wp2_with fail
 (refine zqg4 zqb zqb ?_; (repeat (first | refine zqx rfl ?_ | (refine zqn rfl ?_; apply Exists.intro))); refine zqbn ?_; intro γ hinj hbase; (repeat (first | (refine zqy rfl ?_; ((first | go_big_quiet_skip | (go_big_quiet_want; go_big_quiet_op; go_big_quiet_on)); refine wpQuiet_nil ?_)) | ((first | refine zqk rfl (fun _ => rfl) ?_ | ((try simp only [Nat.zero_add, Nat.reduceAdd]); apply zqci zqt; (focus rfl); (focus (first | exact zq7 _ | exact zqac _ _ | exact zq4 _ | rfl)); (focus (exact zq2))) | ((try simp only [Nat.zero_add, Nat.reduceAdd]); apply zqa9 _ _ zqt; (focus rfl); (focus (intro W; (first | exact zqbp _ | exact zqa7 _ | exact zero_num _ | exact zqbc _ | exact zero_rnode _ | exact zqax _))); (focus (first | exact zqay _ _ _ | exact zqa6 _ _ | rfl)); (focus (exact zq2))) | ((try simp only [Nat.zero_add, Nat.reduceAdd]); apply zqbd zqt; (focus rfl); (focus (intro W; simp only [List.map_toArray, List.map_cons, List.map_nil]; first | fail)); (focus (exact zq2))) | (apply zqab; (focus rfl); (focus rfl); (focus rfl); (focus (intro W hC hF; go_big_quiet_want; go_big_quiet_op; (first | go_big_quiet_on | (apply Exists.intro; refine ⟨fun _ => ?_, ?_⟩; (focus (first | (with_reducible exact Calls.of_more (c1 _)) | (with_reducible exact Calls.of_more (c2 _)))); go_big_quiet_on)); exact wpQuiet_nil rfl)); (focus (first | exact fun _ => ⟨rfl, rfl⟩ | exact fun h => absurd h (by decide))))); ((first | go_big_quiet_skip | (go_big_quiet_want; go_big_quiet_op; go_big_quiet_on)); refine wpQuiet_nil ?_)) | refine zql rfl (fun _ => rfl) ?_ | ((try simp only [Nat.zero_add, Nat.reduceAdd]); apply zqbb (zqaw (hbase _)); (focus rfl); (focus rfl); (focus rfl); (focus (first | exact zq7 _ | exact zqac _ _ | exact zq4 _ | rfl)); rotate_left 3; (focus (exact zqc3)); rotate_right 3; (focus kernel_rfl); (focus (first | exact zqj _ _ _ | rfl)); (focus (first | exact zqaz _ _ _ | exact zqbj _ _ _ _ | kernel_rfl)); (focus (decide +kernel)); (focus (exact zq2))))))
 (refine zqcb ?_; rintro _ ⟨mq, rfl⟩ hF; simp only [List.forall_mem_cons] at hF; obtain ⟨fs, -⟩ := hF)
 have nsr : ¬ (γ 4 = w.heap.size + 1 + 1) := by have := hbase 4; omega
 have nrs : ¬ (w.heap.size + 1 + 1 = γ 4) := fun e => nsr e.symm;have hw0 := hG.size;have l0s : w.heap.size <= γ 4 := by have := hbase 4; omega
 clear hw0;replace fk : zqd (more w1 mq) (w.heap.size) = some (.cells (ints .u8 32 (k)) 44) := by exact zqh
 replace fp : zqd (more w1 mq) (w.heap.size + 1) = some (.cells (ints .u8 32 (p)) 44) := by exact zqh
 replace fr : zqd (more w1 mq) (w.heap.size + 1 + 1) = some (.cells (ints .u8 32 (zqe)) 44) := by exact zqh
 replace hG : Below w.heap.size w (more w1 mq) := by exact zqf
 replace fs : zqd (more w1 mq) (γ 4) = some (.cells (ints .u8 32 (keyV (shV k p))) 44) := fs;clear lfk lfp lfr;clear hinj hbase;generalize γ 4 = gs at *;generalize more w1 mq = w2 at *;clear γ;have lfk := zqa fk;have lfp := zqa fp;have lfr := zqa fr;have lfs := zqa fs;go_wp2_with fail;refine wp_region_any zqb ?_
 rw [show ({ w2 with drawn := w2.drawn + 1 } : World) = more w2 ⟨w2.drawn + 1, #[]⟩ from by simp [more]];generalize (⟨w2.drawn + 1, #[]⟩ : More) = m8;refine zqd1 (i := 0) (j := 1) (fuel := 5) zqb rfl rfl ?_ ?_
 ·intro K hK
  go_simp
  refine hK _ _ ?_
  clear hK K;refine zqu (i := 1) (fuel := 4) zqb rfl ?_
  intro K hK
  go_simp
  refine hK _ _ ?_
  clear hK K;refine zqu (i := 2) (fuel := 3) zqb rfl ?_
  intro K hK
  go_simp
  refine (c3 _).mono ?_
  rintro e9 w9 ⟨rfl, hb9⟩;obtain ⟨m9, rfl⟩ := zqcx hb9;clear hb9;refine hK _ _ ?_
  clear hK K;refine zqd1 (i := 3) (j := 4) (fuel := 2) zqb rfl rfl ?_ ?_
  ·intro K hK
   go_simp
   refine hK _ _ ?_
   clear hK K;refine zqu (i := 4) (fuel := 1) zqb rfl ?_
   intro K hK
   go_simp
   refine hK _ _ ?_
   clear hK K;refine zqu (i := 5) (fuel := 0) zqb rfl ?_
   intro K hK
   go_simp
   refine hK _ _ ?_
   clear hK K;refine wpAny_done zqb ?_ _
   go_wp2;refine zqcf rfl _ 44 _ (0, 0) _ _ rfl rfl (zqq _ (zqq _ (zqr _ fr))) Tryz.underlying44 rfl (by rw [zqj]; kernel_rfl) rfl ⟨rfl, Grew.more (Grew.more (Grew.setRow hG _ _ (by omega)) _) _⟩
  ·intro K hK
   go_simp
   refine hK _ _ ?_
   clear hK K;refine zqu (i := 3) (fuel := 1) zqb rfl ?_
   intro K hK
   go_simp
   refine hK _ _ ?_
   clear hK K;refine zqu (i := 5) (fuel := 0) zqb rfl ?_
   intro K hK
   go_simp
   refine hK _ _ ?_
   clear hK K;refine wpAny_done zqb ?_ _
   go_wp2;refine zqcf rfl _ 44 _ (0, 0) _ _ rfl rfl (zqq _ (zqq _ (zqr _ fr))) Tryz.underlying44 rfl (by rw [zqj]; kernel_rfl) rfl ⟨rfl, Grew.more (Grew.more (Grew.setRow hG _ _ (by omega)) _) _⟩
 ·intro K hK
  go_simp
  refine hK _ _ ?_
  clear hK K;refine zqd1 (i := 0) (j := 2) (fuel := 4) zqb rfl rfl ?_ ?_
  ·intro K hK
   go_simp
   refine hK _ _ ?_
   clear hK K;refine zqu (i := 2) (fuel := 3) zqb rfl ?_
   intro K hK
   go_simp
   refine (c3 _).mono ?_
   rintro e9 w9 ⟨rfl, hb9⟩;obtain ⟨m9, rfl⟩ := zqcx hb9;clear hb9;refine hK _ _ ?_
   clear hK K;refine zqd1 (i := 3) (j := 4) (fuel := 2) zqb rfl rfl ?_ ?_
   ·intro K hK
    go_simp
    refine hK _ _ ?_
    clear hK K;refine zqu (i := 4) (fuel := 1) zqb rfl ?_
    intro K hK
    go_simp
    refine hK _ _ ?_
    clear hK K;refine zqu (i := 5) (fuel := 0) zqb rfl ?_
    intro K hK
    go_simp
    refine hK _ _ ?_
    clear hK K;refine wpAny_done zqb ?_ _
    go_wp2;refine zqcf rfl _ 44 _ (0, 0) _ _ rfl rfl (zqq _ (zqq _ (zqr _ fr))) Tryz.underlying44 rfl (by rw [zqj]; kernel_rfl) rfl ⟨rfl, Grew.more (Grew.more (Grew.setRow hG _ _ (by omega)) _) _⟩
   ·intro K hK
    go_simp
    refine hK _ _ ?_
    clear hK K;refine zqu (i := 3) (fuel := 1) zqb rfl ?_
    intro K hK
    go_simp
    refine hK _ _ ?_
    clear hK K;refine zqu (i := 5) (fuel := 0) zqb rfl ?_
    intro K hK
    go_simp
    refine hK _ _ ?_
    clear hK K;refine wpAny_done zqb ?_ _
    go_wp2;refine zqcf rfl _ 44 _ (0, 0) _ _ rfl rfl (zqq _ (zqq _ (zqr _ fr))) Tryz.underlying44 rfl (by rw [zqj]; kernel_rfl) rfl ⟨rfl, Grew.more (Grew.more (Grew.setRow hG _ _ (by omega)) _) _⟩
  ·intro K hK
   go_simp
   refine (c3 _).mono ?_
   rintro e9 w9 ⟨rfl, hb9⟩;obtain ⟨m9, rfl⟩ := zqcx hb9;clear hb9;refine hK _ _ ?_
   clear hK K;refine zqd1 (i := 0) (j := 3) (fuel := 3) zqb rfl rfl ?_ ?_
   ·intro K hK
    go_simp
    refine hK _ _ ?_
    clear hK K;refine zqd1 (i := 3) (j := 4) (fuel := 2) zqb rfl rfl ?_ ?_
    ·intro K hK
     go_simp
     refine hK _ _ ?_
     clear hK K;refine zqu (i := 4) (fuel := 1) zqb rfl ?_
     intro K hK
     go_simp
     refine hK _ _ ?_
     clear hK K;refine zqu (i := 5) (fuel := 0) zqb rfl ?_
     intro K hK
     go_simp
     refine hK _ _ ?_
     clear hK K;refine wpAny_done zqb ?_ _
     go_wp2;refine zqcf rfl _ 44 _ (0, 0) _ _ rfl rfl (zqq _ (zqq _ (zqr _ fr))) Tryz.underlying44 rfl (by rw [zqj]; kernel_rfl) rfl ⟨rfl, Grew.more (Grew.more (Grew.setRow hG _ _ (by omega)) _) _⟩
    ·intro K hK
     go_simp
     refine hK _ _ ?_
     clear hK K;refine zqu (i := 3) (fuel := 1) zqb rfl ?_
     intro K hK
     go_simp
     refine hK _ _ ?_
     clear hK K;refine zqu (i := 5) (fuel := 0) zqb rfl ?_
     intro K hK
     go_simp
     refine hK _ _ ?_
     clear hK K;refine wpAny_done zqb ?_ _
     go_wp2;refine zqcf rfl _ 44 _ (0, 0) _ _ rfl rfl (zqq _ (zqq _ (zqr _ fr))) Tryz.underlying44 rfl (by rw [zqj]; kernel_rfl) rfl ⟨rfl, Grew.more (Grew.more (Grew.setRow hG _ _ (by omega)) _) _⟩
   ·intro K hK
    go_simp
    refine hK _ _ ?_
    clear hK K;refine zqu (i := 0) (fuel := 2) zqb rfl ?_
    intro K hK
    go_simp
    refine hK _ _ ?_
    clear hK K;refine zqu (i := 4) (fuel := 1) zqb rfl ?_
    intro K hK
    go_simp
    refine hK _ _ ?_
    clear hK K;refine zqu (i := 5) (fuel := 0) zqb rfl ?_
    intro K hK
    go_simp
    refine hK _ _ ?_
    clear hK K;refine wpAny_done zqb ?_ _
    go_wp2;refine zqcf rfl _ 44 _ (0, 0) _ _ rfl rfl (zqq _ (zqq _ (zqr _ fr))) Tryz.underlying44 rfl (by rw [zqj]; kernel_rfl) rfl ⟨rfl, Grew.more (Grew.more (Grew.setRow hG _ _ (by omega)) _) _⟩
end Go.Proofs.YtnjghcnhcbobhaaGreatDoor
namespace Go.Proofs.YtnjghcnhcbobhaaGreatDoor
open Go.RowKit
open Edw (red tv)
def cK (k : Nat -> Int) : Nat := knum (zqc6 k) 32
theorem zrk8 (k : Nat -> Int) (hk : Bytes 32 k) : cK k < 2 ^ 256 := zqz9 _ (zqgp k hk)
theorem zqr5 (f : Nat -> Int) : ∀ j, knum f (j + 1) % 8 = (f 0).toNat % 8
 | 0 => by simp [knum]
 | j + 1 => by
  have e : 256 ^ (j + 1) * (f (j + 1)).toNat = 8 * (32 * 256 ^ j * (f (j + 1)).toNat) := by rw [Nat.pow_succ]; grind
  rw [knum, e, Nat.add_mul_mod_self_left];exact zqr5 f j
theorem zrpm (k : Nat -> Int) (hk : Bytes 32 k) : ∃ m, cK k = 8 * m /\ 0 < m /\ m < Edw.ordl := by
 have h0 := hk 0 (by decide);have h1 := hk 31 (by decide);have m8 := zqr5 (zqc6 k) 31;have hb := zqnn (zqc6 k) (zqgp k hk) 31 (by omega);have c0 : zqc6 k 0 = k 0 / 8 * 8 := rfl;have c1 : zqc6 k 31 = k 31 % 64 + 64 := rfl;have hs : knum (zqc6 k) 32 = knum (zqc6 k) 31 + 256 ^ 31 * (zqc6 k 31).toNat := rfl;rw [c0] at m8;rw [c1] at hs;have hm : (k 0 / 8 * 8).toNat % 8 = 0 := by omega
 rw [hm] at m8;unfold cK;generalize knum (zqc6 k) 31 = A at *;generalize knum (zqc6 k) 32 = B at *;have t0 : 64 <= (k 31 % 64 + 64).toNat := by omega
 have t1 : (k 31 % 64 + 64).toNat <= 127 := by omega
 generalize (k 31 % 64 + 64).toNat = t at *;refine ⟨B / 8, by omega, ?_, ?_⟩
 ·have : 256 ^ 31 * 64 <= 256 ^ 31 * t := Nat.mul_le_mul_left _ t0
  have h2 : (256 : Nat) ^ 31 = 452312848583266388373324160190187140051835877600158453279131187530910662656 := by decide
  omega
 ·have : 256 ^ 31 * t <= 256 ^ 31 * 127 := Nat.mul_le_mul_left _ t1
  have h2 : (256 : Nat) ^ 31 = 452312848583266388373324160190187140051835877600158453279131187530910662656 := by decide
  unfold Edw.ordl
  omega
theorem zq14 (k : Nat -> Int) (hk : Bytes 32 k) : ¬ Edw.ordl ∣ cK k := by
 obtain ⟨m, e, h0, h1⟩ := zrpm k hk;rw [e];exact Edw.clamped_ndvd m h0 h1
theorem zrej (k : Nat -> Int) (v : Int) (h0 : 0 <= v) (h1 : v < 57896044618658097711785492504343953926634992332820282019728792003956564819949) : shV k (keyV v) = tv (cK k) v := by unfold shV cK; rw [zra2 v h0 h1]
def pubV (k : Nat -> Int) : Int := tv (cK k) 9
theorem zrav (k : Nat -> Int) : 0 <= pubV k /\ pubV k < 57896044618658097711785492504343953926634992332820282019728792003956564819949 := Edw.tv_bd _ _
def twoV (j k : Nat -> Int) : Int := tv (cK j) (pubV k)
theorem zrkk (j k : Nat -> Int) : shV j (keyV (pubV k)) = twoV j k := zrej j _ (zrav k).1 (zrav k).2
theorem zrkh (j k : Nat -> Int) (hj : Bytes 32 j) (hk : Bytes 32 k) : decide (twoV j k = 0) = false := decide_eq_false (Edw.tv_nine2 _ _ (zrk8 k hk) (zrk8 j hj) (zq14 k hk) (zq14 j hj))
theorem zqqm (k : Nat -> Int) (w : World) (hk : Bytes 32 k) : Calls Tryz.prog 197 #[.agg (ints .u8 32 (k))] w (Rt w (.agg (ints .u8 32 (keyV (pubV k))))) := zq7b k w hk
set_option maxHeartbeats 1000000 in
theorem zqxj (w : World) :
  Calls Tryz.prog 248 #[] w (Rt w (.bool true)) := by
 have hG := Grew.refl w
 go_enter Tryz.func248, Tryz.ntmps248
 have c1 := fun w => zqtk (upd zqe 0 1) (upd zqe 0 9) w zqmy zqpb;rw [zq36, zq0u, Edw.tv_one 9 (by decide)] at c1;have c2 := fun w => zql5 zqe w zq3b;have s1 : same 32 (keyV 9) (upd zqe 0 9) = true := by kernel_rfl
 have s2 : same 32 (zqc6 zqe) (upd zqe 31 64) = true := by kernel_rfl
 go_wp2_with fail
 (refine (zqz5 _).mono ?_; rintro e w1 ⟨rfl, hb⟩; replace hG : Below w.heap.size w w1 := Grew.trans (by exact zqf) hb; clear hb)
 go_wp2_with fail
 (refine (c1 _).mono ?_; rintro e w2 ⟨rfl, hb⟩; replace hG : Below w.heap.size w w2 := Grew.trans (by exact zqf) hb; clear hb)
 go_wp2_with fail
 (refine (c2 _).mono ?_; rintro e w3 ⟨rfl, hb⟩; replace hG : Below w.heap.size w w3 := Grew.trans (by exact zqf) hb; clear hb)
 go_wp2;go_ret;exact ⟨rfl, by exact zqf⟩
end Go.Proofs.YtnjghcnhcbobhaaGreatDoor
