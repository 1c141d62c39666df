/- Dh -/
import Derived.Test.YtfglcifnjaknnaaGreatDoorOrder
set_option linter.unusedVariables false
set_option linter.unusedSimpArgs false
set_option maxRecDepth 100000
set_option maxHeartbeats 4000000
namespace Go.Proofs.YtfglcifnjaknnaaGreatDoor
open Go.RowKit
open Edw (red tv)
theorem zqa2 {P : Program} {fn : Func} {R : Ending -> World -> Prop} {a : Act} {w : World} {p q : Tmp} {ty : TypeId} (h : fn.results = #[.cell p ty, .tmp q]) (g : Nat) (t : TypeId) (cs : Array Value) (fr : Nat × Nat) (d : TypeDesc) (v : Value)
  (hp : a.tmps.getD p undef = .pointer (some ⟨g, 0, none⟩)) (hq : a.tmps.getD q undef = v) (hg : zqe w g = some (.cells cs t fr))
  (hu : P.underlying ty = some d) (hd : (match d with | .struct _ | .array _ _ => true | _ => false) = true) (hi : (P.info? ty).map (·.size) = some cs.size)
  (hD : a.defers = []) (hR : R (.returned (.tuple #[.agg cs, v])) w) : bodyPost P fn R .ret a w := by
 refine bodyPost_ret_by ?_ hD hR
 have hp' : a.tmps[p]?.getD undef = .pointer (some ⟨g, 0, none⟩) := by simpa using hp
 have hq' : a.tmps[q]?.getD undef = v := by simpa using hq
 unfold zqe at hg
 simp [results, h, hp', hq', asAddr, run_loadVar_row w g t ty cs fr d hg hu hd hi]
def zqcu (k : Nat -> Int) : Nat -> Int := fun i => if i = 0 then k 0 / 8 * 8 else if i = 31 then k 31 % 64 + 64 else k i
theorem zq9q : ∀ n : Fin 256, bits .andNot .u8 ((n.val : Nat) : Int) 7 = ((n.val : Nat) : Int) / 8 * 8 := by decide +kernel
theorem zrbq : ∀ n : Fin 256, bits .or .u8 (bits .andNot .u8 ((n.val : Nat) : Int) 128) 64 = ((n.val : Nat) : Int) % 64 + 64 := by decide +kernel
theorem zqtl (k : Nat -> Int) (hk : Bytes 32 k) : ints .u8 32 (upd (upd (upd k 0 (bits BinOp.andNot IntKind.u8 (k 0) 7)) 31 (bits BinOp.andNot IntKind.u8 ((upd k 0 (bits BinOp.andNot IntKind.u8 (k 0) 7)) 31) 128)) 31 (bits BinOp.or IntKind.u8 ((upd (upd k 0 (bits BinOp.andNot IntKind.u8 (k 0) 7)) 31 (bits BinOp.andNot IntKind.u8 ((upd k 0 (bits BinOp.andNot IntKind.u8 (k 0) 7)) 31) 128)) 31) 64)) = ints .u8 32 (zqcu k) := zqba fun i hi => by
 obtain ⟨a, ha, ha1⟩ := zqna (k 0) (hk 0 (by decide)).1 (hk 0 (by decide)).2;obtain ⟨b, hb, hb1⟩ := zqna (k 31) (hk 31 (by decide)).1 (hk 31 (by decide)).2;have e0 := zq9q ⟨a, ha1⟩;have e1 := zrbq ⟨b, hb1⟩
 simp only at e0 e1
 rw [<- ha] at e0;rw [<- hb] at e1;unfold zqcu
 by_cases h0 : i = 0
 ·subst h0; simp [upd, e0]
 ·by_cases h1 : i = 31
  ·subst h1; simp [upd, e1]
  ·simp [upd, h0, h1]
theorem zqfy (k : Nat -> Int) (hk : Bytes 32 k) : Bytes 32 (zqcu k) := fun i hi => by
 have h0 := hk 0 (by decide);have h1 := hk 31 (by decide);have h2 := hk i hi;unfold zqcu
 split
 ·omega
 ·split <;> omega
set_option maxHeartbeats 1000000 in
theorem zqll (k : Nat -> Int) (w : World) (hk : Bytes 32 k) :
  Calls Tryz.prog 49 #[.agg (ints .u8 32 (k))] w (Rt w (.agg (ints .u8 32 (zqcu k)))) := by
 have hG := Grew.refl w
 go_enter Tryz.func49, Tryz.ntmps49
 have hk0 := hk 0 (by decide);have hk31 := hk 31 (by decide);go_wp2_with fail;rw [zqtl k hk];refine zqag rfl _ 29 _ (0, 0) _ rfl (by simp [go_sem]) Tryz.underlying29 rfl (by rw [zqi]; kernel_rfl) rfl ⟨rfl, by exact zqf⟩
set_option maxHeartbeats 1000000 in
theorem zqr9 (k p : Nat -> Int) (w : World) (hk : Bytes 32 k) (hp : Bytes 32 p) :
  Calls Tryz.prog 48 #[.agg (ints .u8 32 (k)), .agg (ints .u8 32 (p))] w (Rt w (.agg (ints .u8 32 (keyV (tv (knum k 32) (nv (ofF p))))))) := by
 have hG := Grew.refl w;have fk : True := trivial;have fp : True := trivial;have fr : True := trivial
 go_enter Tryz.func48, Tryz.ntmps48
 go_wp2_with fail;generalize hW : ((w.alloc (.cells (ints .u8 32 (k)) 29)).alloc (.cells (ints .u8 32 (p)) 29)).alloc (.cells (ints .u8 32 (zqd)) 29) = w1;replace fk : zqe w1 (w.heap.size) = some (.cells (ints .u8 32 (k)) 29) := zqs hW;replace fp : zqe w1 (w.heap.size + 1) = some (.cells (ints .u8 32 (p)) 29) := zqs hW;replace fr : zqe w1 (w.heap.size + 1 + 1) = some (.cells (ints .u8 32 (zqd)) 29) := zqs hW;replace hG : Below w.heap.size w w1 := zqam hW;clear hW;have lfk := zqa fk;have lfp := zqa fp;have lfr := zqa fr;have c1 := fun w => zqvg p w hp;have c2 := fun w => zqmf k (ofF p) w hk (zqg9 p);have c3 := fun w => zqf0 (zqlo (ofF p) k) w (zqke _ _ (zqg9 p));have e : nv (zqlo (ofF p) k) = tv (knum k 32) (nv (ofF p)) := zqp0 _ _ hk;rw [e] at c3
 ((first | (with_reducible refine zqav 5 zqb zqb zqb zqb zqb ?_) | refine zqan 5 zqb zqb zqb zqb zqb ?_); simp only [List.take_succ_cons, List.take_zero]; (repeat (first | go_big_quiet_skip | (go_big_quiet_want; go_big_quiet_op; first | go_big_quiet_on | (apply Exists.intro; refine ⟨fun _ => ?_, ?_⟩; (focus (first | (with_reducible exact Calls.of_more (c1 _)) | (with_reducible exact Calls.of_more (c2 _)) | (with_reducible exact Calls.of_more (c3 _)))); go_big_quiet_on)))); refine wpQuiet_nil ?_; rintro _ ⟨mq, rfl⟩)
 (refine zqt (i := 5) (fuel := 0) zqb rfl ?_; intro K hK; go_simp; refine hK _ _ ?_; clear hK K)
 (refine wpAny_done zqb ?_ _)
 go_wp2;refine zqag rfl _ 29 _ (0, 0) _ rfl (zqp _ (zqq _ fr)) Tryz.underlying29 rfl (by rw [zqi]; kernel_rfl) rfl ⟨rfl, by exact zqf⟩
theorem zqnn : Bytes 32 (upd zqd 0 9) := fun i _ => by unfold upd zqd; split <;> omega
theorem zq0d : nv (ofF (upd zqd 0 9)) = 9 := by kernel_rfl
set_option maxHeartbeats 1000000 in
theorem zq6l (k : Nat -> Int) (w : World) (hk : Bytes 32 k) :
  Calls Tryz.prog 35 #[.agg (ints .u8 32 (k))] w (Rt w (.agg (ints .u8 32 (keyV (tv (knum (zqcu k) 32) 9))))) := by
 have hG := Grew.refl w;have fk : True := trivial;have fr : True := trivial
 go_enter Tryz.func35, Tryz.ntmps35
 go_wp2_with fail;generalize hW : (w.alloc (.cells (ints .u8 32 (k)) 29)).alloc (.cells (ints .u8 32 (zqd)) 29) = w1;replace fk : zqe w1 (w.heap.size) = some (.cells (ints .u8 32 (k)) 29) := zqs hW;replace fr : zqe w1 (w.heap.size + 1) = some (.cells (ints .u8 32 (zqd)) 29) := zqs hW;replace hG : Below w.heap.size w w1 := zqam hW;clear hW;have lfk := zqa fk;have lfr := zqa fr;have c1 := fun w => zqll k w hk;have c2 := fun w => zqr9 (zqcu k) (upd zqd 0 9) w (zqfy k hk) zqnn;rw [zq0d] at c2;go_wp2_with fail
 (refine (c1 _).mono ?_; rintro e w2 ⟨rfl, hb⟩; replace fk : zqe w2 (w.heap.size) = some (.cells (ints .u8 32 (k)) 29) := zqc hb (by exact zqh); have lfk := zqa fk; replace fr : zqe w2 (w.heap.size + 1) = some (.cells (ints .u8 32 (zqd)) 29) := zqc hb (by exact zqh); have lfr := zqa fr; replace hG : Below w.heap.size w w2 := Grew.trans (by exact zqf) hb; clear hb)
 go_wp2_with fail
 (refine (c2 _).mono ?_; rintro e w3 ⟨rfl, hb⟩; replace fk : zqe w3 (w.heap.size) = some (.cells (ints .u8 32 (k)) 29) := zqc hb (by exact zqh); have lfk := zqa fk; replace fr : zqe w3 (w.heap.size + 1) = some (.cells (ints .u8 32 (zqd)) 29) := zqc hb (by exact zqh); have lfr := zqa fr; replace hG : Below w.heap.size w w3 := Grew.trans (by exact zqf) hb; clear hb)
 go_wp2;refine zqag rfl _ 29 _ (0, 0) _ rfl (zqq _ fr) Tryz.underlying29 rfl (by rw [zqi]; kernel_rfl) rfl ⟨rfl, by exact zqf⟩
theorem zqz2 (x : Int) (hx : 0 <= x /\ x < 57896044618658097711785492504343953926634992332820282019728792003956564819949) : same 32 (keyV x) zqd = decide (x = 0) := by
 have h := zq62 (ofF (keyV x));rwa [zq7j x hx.1 hx.2] at h
def shV (k p : Nat -> Int) : Int := tv (knum (zqcu k) 32) (nv (ofF p))
set_option maxHeartbeats 1000000 in
theorem zqw5 (k p : Nat -> Int) (w : World) {T : Bool} (hk : Bytes 32 k) (hp : Bytes 32 p) (hT : decide (shV k p = 0) = T) :
  Calls Tryz.prog 234 #[.agg (ints .u8 32 (k)), .agg (ints .u8 32 (p))] w (Rt w (.tuple #[.agg (ints .u8 32 (keyV (shV k p))), .bool (!T)])) := by
 have hG := Grew.refl w;have fk : True := trivial;have fp : True := trivial;have fr : True := trivial
 go_enter Tryz.func234, Tryz.ntmps234
 go_wp2_with fail;generalize hW : ((w.alloc (.cells (ints .u8 32 (k)) 29)).alloc (.cells (ints .u8 32 (p)) 29)).alloc (.cells (ints .u8 32 (zqd)) 29) = w1;replace fk : zqe w1 (w.heap.size) = some (.cells (ints .u8 32 (k)) 29) := zqs hW;replace fp : zqe w1 (w.heap.size + 1) = some (.cells (ints .u8 32 (p)) 29) := zqs hW;replace fr : zqe w1 (w.heap.size + 1 + 1) = some (.cells (ints .u8 32 (zqd)) 29) := zqs hW;replace hG : Below w.heap.size w w1 := zqam hW;clear hW;have lfk := zqa fk;have lfp := zqa fp;have lfr := zqa fr;have c1 := fun w => zqll k w hk;have c2 : ∀ w, Calls Tryz.prog 48 #[.agg (ints .u8 32 (zqcu k)), .agg (ints .u8 32 (p))] w (Rt w (.agg (ints .u8 32 (keyV (shV k p))))) := fun w => zqr9 (zqcu k) p w (zqfy k hk) hp;have c3 := fun w => zq6v (keyV (shV k p)) w (zqc4 _)
 have e : same 32 (keyV (shV k p)) zqd = decide (shV k p = 0) := zqz2 _ (Edw.tv_bd _ _);rw [e, hT] at c3;go_wp2_with fail
 (refine zqhj zqb zqb ?_; (repeat (first | refine zqv rfl ?_ | (refine zqn rfl ?_; apply Exists.intro))); refine zqbt ?_; intro γ hinj hbase; (repeat (first | (refine zqx rfl ?_; (refine zAa ?_)) | ((first | refine zqm rfl (fun _ => rfl) ?_ | (refine zAf ?_) | (refine zAd ?_) | (refine zAg ?_) | (apply zqaa; (focus rfl); (focus rfl); (focus rfl); (focus (intro W hC hF; go_big_quiet_want; go_big_quiet_op; (first | go_big_quiet_on | (refine zAm ?_)); exact wpQuiet_nil rfl)); (focus (first | exact fun _ => ⟨rfl, rfl⟩ | exact fun h => absurd h (by decide))))); (refine zAa ?_)) | refine zql rfl (fun _ => rfl) ?_ | (refine zAc ?_))))
 (refine zqce ?_; rintro _ ⟨mq, rfl⟩ hF; simp only [List.forall_mem_cons] at hF; obtain ⟨fs, -⟩ := hF)
 have nsr : ¬ (γ 4 = w.heap.size + 1 + 1) := by have := hbase 4; omega
 have nrs : ¬ (w.heap.size + 1 + 1 = γ 4) := fun e => nsr e.symm;have hw0 := hG.size;have l0s : w.heap.size <= γ 4 := by have := hbase 4; omega
 clear hw0;replace fk : zqe (more w1 mq) (w.heap.size) = some (.cells (ints .u8 32 (k)) 29) := by exact zqh
 replace fp : zqe (more w1 mq) (w.heap.size + 1) = some (.cells (ints .u8 32 (p)) 29) := by exact zqh
 replace fr : zqe (more w1 mq) (w.heap.size + 1 + 1) = some (.cells (ints .u8 32 (zqd)) 29) := by exact zqh
 replace hG : Below w.heap.size w (more w1 mq) := by exact zqf
 replace fs : zqe (more w1 mq) (γ 4) = some (.cells (ints .u8 32 (keyV (shV k p))) 29) := fs;clear lfk lfp lfr;clear hinj hbase;generalize γ 4 = gs at *;generalize more w1 mq = w2 at *;clear γ;have lfk := zqa fk;have lfp := zqa fp;have lfr := zqa fr;have lfs := zqa fs;go_wp2_with fail;refine wp_region_any zqb ?_
 rw [show ({ w2 with drawn := w2.drawn + 1 } : World) = more w2 ⟨w2.drawn + 1, #[]⟩ from by simp [more]];generalize (⟨w2.drawn + 1, #[]⟩ : More) = m8;refine zqdg (i := 0) (j := 1) (fuel := 5) zqb rfl rfl ?_ ?_
 ·intro K hK
  go_simp
  refine hK _ _ ?_
  clear hK K;refine zqt (i := 1) (fuel := 4) zqb rfl ?_
  intro K hK
  go_simp
  refine hK _ _ ?_
  clear hK K;refine zqt (i := 2) (fuel := 3) zqb rfl ?_
  intro K hK
  go_simp
  refine (c3 _).mono ?_
  rintro e9 w9 ⟨rfl, hb9⟩;obtain ⟨m9, rfl⟩ := zqcn hb9;clear hb9;refine hK _ _ ?_
  clear hK K;refine zqdg (i := 3) (j := 4) (fuel := 2) zqb rfl rfl ?_ ?_
  ·intro K hK
   go_simp
   refine hK _ _ ?_
   clear hK K;refine zqt (i := 4) (fuel := 1) zqb rfl ?_
   intro K hK
   go_simp
   refine hK _ _ ?_
   clear hK K;refine zqt (i := 5) (fuel := 0) zqb rfl ?_
   intro K hK
   go_simp
   refine hK _ _ ?_
   clear hK K;refine wpAny_done zqb ?_ _
   go_wp2;refine zqa2 rfl _ 29 _ (0, 0) _ _ rfl rfl (zqp _ (zqp _ (zqq _ fr))) Tryz.underlying29 rfl (by rw [zqi]; kernel_rfl) rfl ⟨rfl, Grew.more (Grew.more (Grew.setRow hG _ _ (by omega)) _) _⟩
  ·intro K hK
   go_simp
   refine hK _ _ ?_
   clear hK K;refine zqt (i := 3) (fuel := 1) zqb rfl ?_
   intro K hK
   go_simp
   refine hK _ _ ?_
   clear hK K;refine zqt (i := 5) (fuel := 0) zqb rfl ?_
   intro K hK
   go_simp
   refine hK _ _ ?_
   clear hK K;refine wpAny_done zqb ?_ _
   go_wp2;refine zqa2 rfl _ 29 _ (0, 0) _ _ rfl rfl (zqp _ (zqp _ (zqq _ fr))) Tryz.underlying29 rfl (by rw [zqi]; kernel_rfl) rfl ⟨rfl, Grew.more (Grew.more (Grew.setRow hG _ _ (by omega)) _) _⟩
 ·intro K hK
  go_simp
  refine hK _ _ ?_
  clear hK K;refine zqdg (i := 0) (j := 2) (fuel := 4) zqb rfl rfl ?_ ?_
  ·intro K hK
   go_simp
   refine hK _ _ ?_
   clear hK K;refine zqt (i := 2) (fuel := 3) zqb rfl ?_
   intro K hK
   go_simp
   refine (c3 _).mono ?_
   rintro e9 w9 ⟨rfl, hb9⟩;obtain ⟨m9, rfl⟩ := zqcn hb9;clear hb9;refine hK _ _ ?_
   clear hK K;refine zqdg (i := 3) (j := 4) (fuel := 2) zqb rfl rfl ?_ ?_
   ·intro K hK
    go_simp
    refine hK _ _ ?_
    clear hK K;refine zqt (i := 4) (fuel := 1) zqb rfl ?_
    intro K hK
    go_simp
    refine hK _ _ ?_
    clear hK K;refine zqt (i := 5) (fuel := 0) zqb rfl ?_
    intro K hK
    go_simp
    refine hK _ _ ?_
    clear hK K;refine wpAny_done zqb ?_ _
    go_wp2;refine zqa2 rfl _ 29 _ (0, 0) _ _ rfl rfl (zqp _ (zqp _ (zqq _ fr))) Tryz.underlying29 rfl (by rw [zqi]; kernel_rfl) rfl ⟨rfl, Grew.more (Grew.more (Grew.setRow hG _ _ (by omega)) _) _⟩
   ·intro K hK
    go_simp
    refine hK _ _ ?_
    clear hK K;refine zqt (i := 3) (fuel := 1) zqb rfl ?_
    intro K hK
    go_simp
    refine hK _ _ ?_
    clear hK K;refine zqt (i := 5) (fuel := 0) zqb rfl ?_
    intro K hK
    go_simp
    refine hK _ _ ?_
    clear hK K;refine wpAny_done zqb ?_ _
    go_wp2;refine zqa2 rfl _ 29 _ (0, 0) _ _ rfl rfl (zqp _ (zqp _ (zqq _ fr))) Tryz.underlying29 rfl (by rw [zqi]; kernel_rfl) rfl ⟨rfl, Grew.more (Grew.more (Grew.setRow hG _ _ (by omega)) _) _⟩
  ·intro K hK
   go_simp
   refine (c3 _).mono ?_
   rintro e9 w9 ⟨rfl, hb9⟩;obtain ⟨m9, rfl⟩ := zqcn hb9;clear hb9;refine hK _ _ ?_
   clear hK K;refine zqdg (i := 0) (j := 3) (fuel := 3) zqb rfl rfl ?_ ?_
   ·intro K hK
    go_simp
    refine hK _ _ ?_
    clear hK K;refine zqdg (i := 3) (j := 4) (fuel := 2) zqb rfl rfl ?_ ?_
    ·intro K hK
     go_simp
     refine hK _ _ ?_
     clear hK K;refine zqt (i := 4) (fuel := 1) zqb rfl ?_
     intro K hK
     go_simp
     refine hK _ _ ?_
     clear hK K;refine zqt (i := 5) (fuel := 0) zqb rfl ?_
     intro K hK
     go_simp
     refine hK _ _ ?_
     clear hK K;refine wpAny_done zqb ?_ _
     go_wp2;refine zqa2 rfl _ 29 _ (0, 0) _ _ rfl rfl (zqp _ (zqp _ (zqq _ fr))) Tryz.underlying29 rfl (by rw [zqi]; kernel_rfl) rfl ⟨rfl, Grew.more (Grew.more (Grew.setRow hG _ _ (by omega)) _) _⟩
    ·intro K hK
     go_simp
     refine hK _ _ ?_
     clear hK K;refine zqt (i := 3) (fuel := 1) zqb rfl ?_
     intro K hK
     go_simp
     refine hK _ _ ?_
     clear hK K;refine zqt (i := 5) (fuel := 0) zqb rfl ?_
     intro K hK
     go_simp
     refine hK _ _ ?_
     clear hK K;refine wpAny_done zqb ?_ _
     go_wp2;refine zqa2 rfl _ 29 _ (0, 0) _ _ rfl rfl (zqp _ (zqp _ (zqq _ fr))) Tryz.underlying29 rfl (by rw [zqi]; kernel_rfl) rfl ⟨rfl, Grew.more (Grew.more (Grew.setRow hG _ _ (by omega)) _) _⟩
   ·intro K hK
    go_simp
    refine hK _ _ ?_
    clear hK K;refine zqt (i := 0) (fuel := 2) zqb rfl ?_
    intro K hK
    go_simp
    refine hK _ _ ?_
    clear hK K;refine zqt (i := 4) (fuel := 1) zqb rfl ?_
    intro K hK
    go_simp
    refine hK _ _ ?_
    clear hK K;refine zqt (i := 5) (fuel := 0) zqb rfl ?_
    intro K hK
    go_simp
    refine hK _ _ ?_
    clear hK K;refine wpAny_done zqb ?_ _
    go_wp2;refine zqa2 rfl _ 29 _ (0, 0) _ _ rfl rfl (zqp _ (zqp _ (zqq _ fr))) Tryz.underlying29 rfl (by rw [zqi]; kernel_rfl) rfl ⟨rfl, Grew.more (Grew.more (Grew.setRow hG _ _ (by omega)) _) _⟩
def cK (k : Nat -> Int) : Nat := knum (zqcu k) 32
theorem zrgg (k : Nat -> Int) (hk : Bytes 32 k) : cK k < 2 ^ 256 := zqxg _ (zqfy k hk)
theorem zqrh (f : Nat -> Int) : ∀ j, knum f (j + 1) % 8 = (f 0).toNat % 8
 | 0 => by simp [knum]
 | j + 1 => by
  have e : 256 ^ (j + 1) * (f (j + 1)).toNat = 8 * (32 * 256 ^ j * (f (j + 1)).toNat) := by rw [Nat.pow_succ]; grind
  rw [knum, e, Nat.add_mul_mod_self_left];exact zqrh f j
theorem zrjh (k : Nat -> Int) (hk : Bytes 32 k) : ∃ m, cK k = 8 * m /\ 0 < m /\ m < Edw.ordl := by
 have h0 := hk 0 (by decide);have h1 := hk 31 (by decide);have m8 := zqrh (zqcu k) 31;have hb := zqme (zqcu k) (zqfy k hk) 31 (by omega);have c0 : zqcu k 0 = k 0 / 8 * 8 := rfl;have c1 : zqcu k 31 = k 31 % 64 + 64 := rfl;have hs : knum (zqcu k) 32 = knum (zqcu k) 31 + 256 ^ 31 * (zqcu k 31).toNat := rfl;rw [c0] at m8;rw [c1] at hs;have hm : (k 0 / 8 * 8).toNat % 8 = 0 := by omega
 rw [hm] at m8;unfold cK;generalize knum (zqcu k) 31 = A at *;generalize knum (zqcu k) 32 = B at *;have t0 : 64 <= (k 31 % 64 + 64).toNat := by omega
 have t1 : (k 31 % 64 + 64).toNat <= 127 := by omega
 generalize (k 31 % 64 + 64).toNat = t at *;refine ⟨B / 8, by omega, ?_, ?_⟩
 ·have : 256 ^ 31 * 64 <= 256 ^ 31 * t := Nat.mul_le_mul_left _ t0
  have h2 : (256 : Nat) ^ 31 = 452312848583266388373324160190187140051835877600158453279131187530910662656 := by decide
  omega
 ·have : 256 ^ 31 * t <= 256 ^ 31 * 127 := Nat.mul_le_mul_left _ t1
  have h2 : (256 : Nat) ^ 31 = 452312848583266388373324160190187140051835877600158453279131187530910662656 := by decide
  unfold Edw.ordl
  omega
theorem zq1g (k : Nat -> Int) (hk : Bytes 32 k) : ¬ Edw.ordl ∣ cK k := by
 obtain ⟨m, e, h0, h1⟩ := zrjh k hk;rw [e];exact Edw.clamped_ndvd m h0 h1
theorem zrbb (k : Nat -> Int) (v : Int) (h0 : 0 <= v) (h1 : v < 57896044618658097711785492504343953926634992332820282019728792003956564819949) : shV k (keyV v) = tv (cK k) v := by unfold shV cK; rw [zq7j v h0 h1]
def pubV (k : Nat -> Int) : Int := tv (cK k) 9
theorem zq8l (k : Nat -> Int) : 0 <= pubV k /\ pubV k < 57896044618658097711785492504343953926634992332820282019728792003956564819949 := Edw.tv_bd _ _
def twoV (j k : Nat -> Int) : Int := tv (cK j) (pubV k)
theorem zrfn (j k : Nat -> Int) : shV j (keyV (pubV k)) = twoV j k := zrbb j _ (zq8l k).1 (zq8l k).2
theorem zrfw (j k : Nat -> Int) (hj : Bytes 32 j) (hk : Bytes 32 k) : decide (twoV j k = 0) = false := decide_eq_false (Edw.tv_nine2 _ _ (zrgg k hk) (zrgg j hj) (zq1g k hk) (zq1g j hj))
theorem zqn9 (k : Nat -> Int) (w : World) (hk : Bytes 32 k) : Calls Tryz.prog 35 #[.agg (ints .u8 32 (k))] w (Rt w (.agg (ints .u8 32 (keyV (pubV k))))) := zq6l k w hk
set_option maxHeartbeats 1000000 in
theorem zqxc (w : World) :
  Calls Tryz.prog 254 #[] w (Rt w (.bool true)) := by
 have hG := Grew.refl w
 go_enter Tryz.func254, Tryz.ntmps254
 have c1 := fun w => zqr9 (upd zqd 0 1) (upd zqd 0 9) w zqkz zqnn;rw [zqz0, zq0d, Edw.tv_one 9 (by decide)] at c1;have c2 := fun w => zqll zqd w zq1w;have s1 : same 32 (keyV 9) (upd zqd 0 9) = true := by kernel_rfl
 have s2 : same 32 (zqcu zqd) (upd zqd 31 64) = true := by kernel_rfl
 go_wp2_with fail
 (refine (zqyf _).mono ?_; rintro e w1 ⟨rfl, hb⟩; replace hG : Below w.heap.size w w1 := Grew.trans (by exact zqf) hb; clear hb)
 go_wp2_with fail
 (refine (c1 _).mono ?_; rintro e w2 ⟨rfl, hb⟩; replace hG : Below w.heap.size w w2 := Grew.trans (by exact zqf) hb; clear hb)
 go_wp2_with fail
 (refine (c2 _).mono ?_; rintro e w3 ⟨rfl, hb⟩; replace hG : Below w.heap.size w w3 := Grew.trans (by exact zqf) hb; clear hb)
 go_wp2;go_ret;exact ⟨rfl, by exact zqf⟩
end Go.Proofs.YtfglcifnjaknnaaGreatDoor
