/- Times -/
import Derived.Test.YtnjghcnhcbobhaaGreatDoorStep
set_option linter.unusedVariables false
set_option linter.unusedSimpArgs false
set_option maxRecDepth 100000
set_option maxHeartbeats 4000000
namespace Go.Proofs.YtnjghcnhcbobhaaGreatDoor
open Go.RowKit
structure El where
 a : Nat -> Int
 b : Nat -> Int
 c : Nat -> Int
 e : Nat -> Int
def swE (bit : Int) (s : El) : El := ⟨oneOf bit s.a s.c, oneOf bit s.b s.e, oneOf bit s.c s.a, oneOf bit s.e s.b⟩
def stE (u : Nat -> Int) (s : El) : El := ⟨twX s.a s.b, twZ s.a s.b, boX s.a s.b s.c s.e, boZ u s.a s.b s.c s.e⟩
def ruE (u k : Nat -> Int) : Nat -> El
 | 0 => ⟨upd zqe 0 1, zqe, u, upd zqe 0 1⟩
 | c + 1 => swE (bitN k (255 - c)) (stE u (swE (bitN k (255 - c)) (ruE u k c)))
structure LooseP (s : El) : Prop where
 a : zqag 18014398509481984 s.a
 b : zqag 18014398509481984 s.b
 c : zqag 18014398509481984 s.c
 e : zqag 18014398509481984 s.e
theorem zqgk {x y : Nat -> Int} (b : Int) (hx : zqag 18014398509481984 x) (hy : zqag 18014398509481984 y) : zqag 18014398509481984 (oneOf b x y) := by unfold oneOf; split <;> assumption
theorem zqi8 {x : Nat -> Int} (hx : zqag 18014398509481984 x) : W64 5 x := fun i hi => by have := hx i hi; omega
theorem LooseP.sw {s : El} (h : LooseP s) (b : Int) : LooseP (swE b s) := ⟨zqgk b h.a h.c, zqgk b h.b h.e, zqgk b h.c h.a, zqgk b h.e h.b⟩
theorem zqw3 {x z : Nat -> Int} (hx : zqag 18014398509481984 x) (hz : zqag 18014398509481984 z) : zqag 18014398509481984 (twX x z) /\ zqag 18014398509481984 (twZ x z) := by
 have hs := zqcw x z hx hz;have hd := zqcc x z hx hz;have hss := zqb2 _ _ hs hs;have hdd := zqb2 _ _ hd hd;have he := zqcc _ _ hss hdd;exact ⟨zqb2 _ _ hss hdd, zqb2 _ _ he (zqcw _ _ hss (zqig _ 121665 he ⟨by decide, by decide⟩))⟩
theorem zqvm {u x z x' z' : Nat -> Int} (hu : zqag 18014398509481984 u) (hx : zqag 18014398509481984 x) (hz : zqag 18014398509481984 z) (hx' : zqag 18014398509481984 x') (hz' : zqag 18014398509481984 z') : zqag 4503599627370496 (boX x z x' z') /\ zqag 4503599627370496 (boZ u x z x' z') := by
 have hda := zqb2 _ _ (zqcc x' z' hx' hz') (zqcw x z hx hz);have hcb := zqb2 _ _ (zqcw x' z' hx' hz') (zqcc x z hx hz);have hs := zqcw _ _ hda hcb;have hd := zqcc _ _ hda hcb;exact ⟨zqe8 _ _ hs hs, zqe8 _ _ hu (zqb2 _ _ hd hd)⟩
theorem LooseP.st {s : El} (h : LooseP s) {u : Nat -> Int} (hu : zqag 18014398509481984 u) : LooseP (stE u s) := ⟨(zqw3 h.a h.b).1, (zqw3 h.a h.b).2, zqcd (zqvm hu h.a h.b h.c h.e).1, zqcd (zqvm hu h.a h.b h.c h.e).2⟩
theorem zqji (u k : Nat -> Int) (hu : zqag 18014398509481984 u) : ∀ c, LooseP (ruE u k c)
 | 0 => ⟨zqix, zqeo, hu, zqix⟩
 | c + 1 => (((zqji u k hu c).sw _).st hu).sw _
theorem zqvp (bit : Int) (s : El) (w : World) (h : LooseP s) : Calls Tryz.prog 214 #[.int .i64 bit, .agg (ints .u64 10 (zq0 (s.a) (s.b))), .agg (ints .u64 10 (zq0 (s.c) (s.e)))] w (Rt w (.tuple #[.agg (ints .u64 10 (zq0 ((swE bit s).a) ((swE bit s).b))), .agg (ints .u64 10 (zq0 ((swE bit s).c) ((swE bit s).e)))])) := zq17 bit s.a s.b s.c s.e w (zqi8 h.a) (zqi8 h.b) (zqi8 h.c) (zqi8 h.e)
theorem zq7i (u : Nat -> Int) (s : El) (w : World) (hu : zqag 18014398509481984 u) (h : LooseP s) : Calls Tryz.prog 215 #[.agg (ints .u64 5 (u)), .agg (ints .u64 10 (zq0 (s.a) (s.b))), .agg (ints .u64 10 (zq0 (s.c) (s.e)))] w (Rt w (.tuple #[.agg (ints .u64 10 (zq0 ((stE u s).a) ((stE u s).b))), .agg (ints .u64 10 (zq0 ((stE u s).c) ((stE u s).e)))])) := zq85 u s.a s.b s.c s.e w hu h.a h.b h.c h.e
def zqmw (u k : Nat -> Int) : Nat -> Int := mulF (ruE u k 256).a (invF (ruE u k 256).b)
structure TimesInv (u k : Nat -> Int) (ga gb : Nat) (w : World) (c : Nat) (wr : World) : Prop where
 g : Below w.heap.size w wr
 fk : zqd wr (w.heap.size) = some (.cells (ints .u8 32 (k)) 44)
 fx : zqd wr (w.heap.size + 1) = some (.cells (ints .u64 5 (u)) 291)
 fr : zqd wr (w.heap.size + 1 + 1) = some (.cells (ints .u64 5 (zqe)) 291)
 fa : zqd wr ga = some (.cells (ints .u64 10 (zq0 ((ruE u k c).a) ((ruE u k c).b))) 297)
 fb : zqd wr gb = some (.cells (ints .u64 10 (zq0 ((ruE u k c).c) ((ruE u k c).e))) 297)
set_option maxHeartbeats 2000000 in
theorem zqm8 (k u : Nat -> Int) (w : World) (hk : Bytes 32 k) (hu : zqag 18014398509481984 (u)) :
  Calls Tryz.prog 208 #[.agg (ints .u8 32 (k)), .agg (ints .u64 5 (u))] w (Rt w (.agg (ints .u64 5 (zqmw u k)))) := by
 have hG := Grew.refl w;have fk : True := trivial;have fx : True := trivial;have fr : True := trivial
 go_enter Tryz.func208, Tryz.ntmps208
 go_wp2_with fail;generalize hW : ((w.alloc (.cells (ints .u8 32 (k)) 44)).alloc (.cells (ints .u64 5 (u)) 291)).alloc (.cells (ints .u64 5 (zqe)) 291) = w1;replace fk : zqd w1 (w.heap.size) = some (.cells (ints .u8 32 (k)) 44) := zqs hW;replace fx : zqd w1 (w.heap.size + 1) = some (.cells (ints .u64 5 (u)) 291) := zqs hW;replace fr : zqd w1 (w.heap.size + 1 + 1) = some (.cells (ints .u64 5 (zqe)) 291) := zqs hW;replace hG : Below w.heap.size w w1 := zqak hW;clear hW;have lfk := zqa fk;have lfx := zqa fx;have lfr := zqa fr;go_wp2_with fail
 (refine zqg4 zqb zqb ?_; (repeat (first | refine zqx rfl ?_ | (refine zqn rfl ?_; apply Exists.intro))); refine zqbn ?_; intro γ hinj hbase; (repeat (first | (refine zqy rfl ?_; ((first | go_big_quiet_skip | (go_big_quiet_want; go_big_quiet_op; go_big_quiet_on)); refine wpQuiet_nil ?_)) | ((first | refine zqk rfl (fun _ => rfl) ?_ | ((try simp only [Nat.zero_add, Nat.reduceAdd]); apply zqci zqt; (focus rfl); (focus (first | exact zq7 _ | exact zqac _ _ | exact zq4 _ | rfl)); (focus (exact zq2))) | ((try simp only [Nat.zero_add, Nat.reduceAdd]); apply zqa9 _ _ zqt; (focus rfl); (focus (intro W; (first | exact zqbp _ | exact zqa7 _ | exact zero_num _ | exact zqbc _ | exact zero_rnode _ | exact zqax _))); (focus (first | exact zqay _ _ _ | exact zqa6 _ _ | rfl)); (focus (exact zq2))) | ((try simp only [Nat.zero_add, Nat.reduceAdd]); apply zqbd zqt; (focus rfl); (focus (intro W; simp only [List.map_toArray, List.map_cons, List.map_nil]; first | fail)); (focus (exact zq2))) | (apply zqab; (focus rfl); (focus rfl); (focus rfl); (focus (intro W hC hF; go_big_quiet_want; go_big_quiet_op; (first | go_big_quiet_on | (apply Exists.intro; refine ⟨fun _ => ?_, ?_⟩; (focus (first | (with_reducible exact Calls.of_more (zqc4 1 _ (by decide) (by decide))))); go_big_quiet_on)); exact wpQuiet_nil rfl)); (focus (first | exact fun _ => ⟨rfl, rfl⟩ | exact fun h => absurd h (by decide))))); ((first | go_big_quiet_skip | (go_big_quiet_want; go_big_quiet_op; go_big_quiet_on)); refine wpQuiet_nil ?_)) | refine zql rfl (fun _ => rfl) ?_ | ((try simp only [Nat.zero_add, Nat.reduceAdd]); apply zqbb (zqaw (hbase _)); (focus rfl); (focus rfl); (focus rfl); (focus (first | exact zq7 _ | exact zqac _ _ | exact zq4 _ | rfl)); rotate_left 3; (focus (exact zqc3)); rotate_right 3; (focus kernel_rfl); (focus (first | exact zqj _ _ _ | rfl)); (focus (first | exact zqaz _ _ _ | exact zqbj _ _ _ _ | kernel_rfl)); (focus (decide +kernel)); (focus (exact zq2))))))
 (refine zqcb ?_; rintro _ ⟨mq, rfl⟩ hF; simp only [List.forall_mem_cons] at hF; obtain ⟨fb, fa, -⟩ := hF)
 have nak : ¬ (γ 5 = w.heap.size) := by have := hbase 5; omega
 have nka : ¬ (w.heap.size = γ 5) := fun e => nak e.symm;have nax : ¬ (γ 5 = w.heap.size + 1) := by have := hbase 5; omega
 have nxa : ¬ (w.heap.size + 1 = γ 5) := fun e => nax e.symm;have nar : ¬ (γ 5 = w.heap.size + 1 + 1) := by have := hbase 5; omega
 have nra : ¬ (w.heap.size + 1 + 1 = γ 5) := fun e => nar e.symm;have nbk : ¬ (γ 6 = w.heap.size) := by have := hbase 6; omega
 have nkb : ¬ (w.heap.size = γ 6) := fun e => nbk e.symm;have nbx : ¬ (γ 6 = w.heap.size + 1) := by have := hbase 6; omega
 have nxb : ¬ (w.heap.size + 1 = γ 6) := fun e => nbx e.symm;have nbr : ¬ (γ 6 = w.heap.size + 1 + 1) := by have := hbase 6; omega
 have nrb : ¬ (w.heap.size + 1 + 1 = γ 6) := fun e => nbr e.symm;have hw0 := hG.size;have l0a : w.heap.size <= γ 5 := by have := hbase 5; omega
 have l0b : w.heap.size <= γ 6 := by have := hbase 6; omega
 clear hw0;have nab : ¬ (γ 5 = γ 6) := hinj _ _ (by decide);replace fk : zqd (more w1 mq) (w.heap.size) = some (.cells (ints .u8 32 (k)) 44) := by exact zqh
 replace fx : zqd (more w1 mq) (w.heap.size + 1) = some (.cells (ints .u64 5 (u)) 291) := by exact zqh
 replace fr : zqd (more w1 mq) (w.heap.size + 1 + 1) = some (.cells (ints .u64 5 (zqe)) 291) := by exact zqh
 replace hG : Below w.heap.size w (more w1 mq) := by exact zqf
 replace fa : zqd (more w1 mq) (γ 5) = some (.cells (ints .u64 10 (zq0 (upd zqe 0 1) (zqe))) 297) := fa;replace fb : zqd (more w1 mq) (γ 6) = some (.cells (ints .u64 10 (zq0 (u) (upd zqe 0 1))) 297) := fb;clear lfk lfx lfr;clear hinj hbase;generalize γ 5 = ga at *;generalize γ 6 = gb at *;generalize more w1 mq = w2 at *;clear γ;have lfk := zqa fk;have lfx := zqa fx;have lfr := zqa fr;have lfa := zqa fa;have lfb := zqa fb;have n0 : ¬ (gb = ga) := fun e => nab e.symm;go_wp2_with fail
 go_loopw [7] (fun i wr => ∃ c : Nat, c <= 256 /\ ((c < 256 /\ i = .int .i64 ((255 - c : Nat) : Int)) \/ (c = 256 /\ i = .int .i64 (-1))) /\ TimesInv u k ga gb w c wr) (fun i _ => (intOf i + 1).toNat)
 case atStart => exact ⟨0, by omega, .inl ⟨by omega, rfl⟩, ⟨hG, fk, fx, fr, fa, fb⟩⟩
 case round =>
  clear fk fx fr fa fb hG lfk lfx lfr lfa lfb;obtain ⟨c, hc, hi, hG, fk, fx, fr, fa, fb⟩ := hrel;have lfk := zqa fk;have lfx := zqa fx;have lfr := zqa fr;have lfa := zqa fa;have lfb := zqa fb
  rcases hi with ⟨hlt, rfl⟩ | ⟨rfl, rfl⟩
  ·have hL := zqji u k hu c
   have hkb := hk ((255 - c) / 8) (by omega);have Z : Hid (ruE u k (c + 1) = swE (bitN k (255 - c)) (stE u (swE (bitN k (255 - c)) (ruE u k c)))) := rfl;generalize hb : 255 - c = b at *;have hb255 : b <= 255 := by omega
   have hb8 : b / 8 < 32 := by omega
   have hx0 : 0 <= k (b / 8) / 2 ^ (b % 8) := Int.ediv_nonneg hkb.1 (Int.le_of_lt (Int.pow_pos (by decide)));have hx1 : k (b / 8) / 2 ^ (b % 8) <= 255 := Int.le_trans (Int.ediv_le_self _ hkb.1) hkb.2;have hbit := zq2x (k (b / 8) / 2 ^ (b % 8)) hx0 hx1;have hB : bitN k b = k (b / 8) / 2 ^ (b % 8) % 2 := rfl;rw [<- hB] at hbit;have h01 := zqpn k b;generalize bitN k b = B at *;clear hB hx0 hx1;have p1 := fun w => zqvp B (ruE u k c) w hL;have hL1 := hL.sw B;have p2 := fun w => zq7i u (swE B (ruE u k c)) w hu hL1;have hL2 := hL1.st hu;have p3 := fun w => zqvp B (stE u (swE B (ruE u k c))) w hL2;generalize swE B (ruE u k c) = t1 at *;generalize stE u t1 = t2 at *;generalize swE B t2 = t3 at *;clear hL hL1 hL2
   have hend : ∀ b : Nat, 255 - c = b -> ((c + 1 < 256 /\ Value.int .i64 ((b : Int) - 1) = .int .i64 ((255 - (c + 1) : Nat) : Int)) \/ (c + 1 = 256 /\ Value.int .i64 ((b : Int) - 1) = .int .i64 (-1))) := fun b hb => by
    by_cases h : b = 0
    ·exact .inr ⟨by omega, by rw [h]; rfl⟩
    ·exact .inl ⟨by omega, by congr 1; omega⟩
   have HE : Hid _ := hend b hb;clear hend;have hB0 : 0 <= B := by omega
   have hB1 : B <= 1 := by omega
   clear h01;go_wp2_with fail
   (refine (p1 _).mono ?_; rintro e w3 ⟨rfl, hb⟩; replace fk : zqd w3 (w.heap.size) = some (.cells (ints .u8 32 (k)) 44) := zqc hb (by exact zqh); have lfk := zqa fk; replace fx : zqd w3 (w.heap.size + 1) = some (.cells (ints .u64 5 (u)) 291) := zqc hb (by exact zqh); have lfx := zqa fx; replace fr : zqd w3 (w.heap.size + 1 + 1) = some (.cells (ints .u64 5 (zqe)) 291) := zqc hb (by exact zqh); have lfr := zqa fr; replace fa : zqd w3 (ga) = some (.cells (ints .u64 10 (zq0 ((ruE u k c).a) ((ruE u k c).b))) 297) := zqc hb (by exact zqh); have lfa := zqa fa; replace fb : zqd w3 (gb) = some (.cells (ints .u64 10 (zq0 ((ruE u k c).c) ((ruE u k c).e))) 297) := zqc hb (by exact zqh); have lfb := zqa fb; replace hG : Below w.heap.size w w3 := Grew.trans (by exact zqf) hb; clear hb)
   go_wp2_with fail;have ek : zqd ((w3.setRow (ga) ((ints .u64 10 (zq0 (t1.a) (t1.b))))).setRow (gb) ((ints .u64 10 (zq0 (t1.c) (t1.e))))) (w.heap.size) = some (.cells (ints .u8 32 (k)) 44) := zqm _ _ (zqm _ _ (fk) (by first | assumption | omega | simp)) (by first | assumption | omega | simp);have ex : zqd ((w3.setRow (ga) ((ints .u64 10 (zq0 (t1.a) (t1.b))))).setRow (gb) ((ints .u64 10 (zq0 (t1.c) (t1.e))))) (w.heap.size + 1) = some (.cells (ints .u64 5 (u)) 291) := zqm _ _ (zqm _ _ (fx) (by first | assumption | omega | simp)) (by first | assumption | omega | simp)
   have er : zqd ((w3.setRow (ga) ((ints .u64 10 (zq0 (t1.a) (t1.b))))).setRow (gb) ((ints .u64 10 (zq0 (t1.c) (t1.e))))) (w.heap.size + 1 + 1) = some (.cells (ints .u64 5 (zqe)) 291) := zqm _ _ (zqm _ _ (fr) (by first | assumption | omega | simp)) (by first | assumption | omega | simp);have ea : zqd ((w3.setRow (ga) ((ints .u64 10 (zq0 (t1.a) (t1.b))))).setRow (gb) ((ints .u64 10 (zq0 (t1.c) (t1.e))))) (ga) = some (.cells (ints .u64 10 (zq0 (t1.a) (t1.b))) 297) := zqm _ _ (zqr _ (fa)) (by first | assumption | omega | simp);have eb : zqd ((w3.setRow (ga) ((ints .u64 10 (zq0 (t1.a) (t1.b))))).setRow (gb) ((ints .u64 10 (zq0 (t1.c) (t1.e))))) (gb) = some (.cells (ints .u64 10 (zq0 (t1.c) (t1.e))) 297) := zqr _ (zqm _ _ (fb) (by first | assumption | omega | simp));clear fk lfk fx lfx fr lfr fa lfa fb lfb
   replace hG : Below w.heap.size w ((w3.setRow (ga) ((ints .u64 10 (zq0 (t1.a) (t1.b))))).setRow (gb) ((ints .u64 10 (zq0 (t1.c) (t1.e))))) := by exact zqf
   generalize (w3.setRow (ga) ((ints .u64 10 (zq0 (t1.a) (t1.b))))).setRow (gb) ((ints .u64 10 (zq0 (t1.c) (t1.e)))) = w4 at *;have fk := ek;have fx := ex;have fr := er;have fa := ea;have fb := eb;clear ek ex er ea eb;have lfk := zqa fk;have lfx := zqa fx;have lfr := zqa fr;have lfa := zqa fa;have lfb := zqa fb;go_wp2_with fail
   (refine (p2 _).mono ?_; rintro e w5 ⟨rfl, hb⟩; replace fk : zqd w5 (w.heap.size) = some (.cells (ints .u8 32 (k)) 44) := zqc hb (by exact zqh); have lfk := zqa fk; replace fx : zqd w5 (w.heap.size + 1) = some (.cells (ints .u64 5 (u)) 291) := zqc hb (by exact zqh); have lfx := zqa fx; replace fr : zqd w5 (w.heap.size + 1 + 1) = some (.cells (ints .u64 5 (zqe)) 291) := zqc hb (by exact zqh); have lfr := zqa fr; replace fa : zqd w5 (ga) = some (.cells (ints .u64 10 (zq0 (t1.a) (t1.b))) 297) := zqc hb (by exact zqh); have lfa := zqa fa; replace fb : zqd w5 (gb) = some (.cells (ints .u64 10 (zq0 (t1.c) (t1.e))) 297) := zqc hb (by exact zqh); have lfb := zqa fb; replace hG : Below w.heap.size w w5 := Grew.trans (by exact zqf) hb; clear hb)
   go_wp2_with fail;have ek : zqd ((w5.setRow (ga) ((ints .u64 10 (zq0 (t2.a) (t2.b))))).setRow (gb) ((ints .u64 10 (zq0 (t2.c) (t2.e))))) (w.heap.size) = some (.cells (ints .u8 32 (k)) 44) := zqm _ _ (zqm _ _ (fk) (by first | assumption | omega | simp)) (by first | assumption | omega | simp);have ex : zqd ((w5.setRow (ga) ((ints .u64 10 (zq0 (t2.a) (t2.b))))).setRow (gb) ((ints .u64 10 (zq0 (t2.c) (t2.e))))) (w.heap.size + 1) = some (.cells (ints .u64 5 (u)) 291) := zqm _ _ (zqm _ _ (fx) (by first | assumption | omega | simp)) (by first | assumption | omega | simp)
   have er : zqd ((w5.setRow (ga) ((ints .u64 10 (zq0 (t2.a) (t2.b))))).setRow (gb) ((ints .u64 10 (zq0 (t2.c) (t2.e))))) (w.heap.size + 1 + 1) = some (.cells (ints .u64 5 (zqe)) 291) := zqm _ _ (zqm _ _ (fr) (by first | assumption | omega | simp)) (by first | assumption | omega | simp);have ea : zqd ((w5.setRow (ga) ((ints .u64 10 (zq0 (t2.a) (t2.b))))).setRow (gb) ((ints .u64 10 (zq0 (t2.c) (t2.e))))) (ga) = some (.cells (ints .u64 10 (zq0 (t2.a) (t2.b))) 297) := zqm _ _ (zqr _ (fa)) (by first | assumption | omega | simp);have eb : zqd ((w5.setRow (ga) ((ints .u64 10 (zq0 (t2.a) (t2.b))))).setRow (gb) ((ints .u64 10 (zq0 (t2.c) (t2.e))))) (gb) = some (.cells (ints .u64 10 (zq0 (t2.c) (t2.e))) 297) := zqr _ (zqm _ _ (fb) (by first | assumption | omega | simp));clear fk lfk fx lfx fr lfr fa lfa fb lfb
   replace hG : Below w.heap.size w ((w5.setRow (ga) ((ints .u64 10 (zq0 (t2.a) (t2.b))))).setRow (gb) ((ints .u64 10 (zq0 (t2.c) (t2.e))))) := by exact zqf
   generalize (w5.setRow (ga) ((ints .u64 10 (zq0 (t2.a) (t2.b))))).setRow (gb) ((ints .u64 10 (zq0 (t2.c) (t2.e)))) = w6 at *;have fk := ek;have fx := ex;have fr := er;have fa := ea;have fb := eb;clear ek ex er ea eb;have lfk := zqa fk;have lfx := zqa fx;have lfr := zqa fr;have lfa := zqa fa;have lfb := zqa fb;go_wp2_with fail
   (refine (p3 _).mono ?_; rintro e w7 ⟨rfl, hb⟩; replace fk : zqd w7 (w.heap.size) = some (.cells (ints .u8 32 (k)) 44) := zqc hb (by exact zqh); have lfk := zqa fk; replace fx : zqd w7 (w.heap.size + 1) = some (.cells (ints .u64 5 (u)) 291) := zqc hb (by exact zqh); have lfx := zqa fx; replace fr : zqd w7 (w.heap.size + 1 + 1) = some (.cells (ints .u64 5 (zqe)) 291) := zqc hb (by exact zqh); have lfr := zqa fr; replace fa : zqd w7 (ga) = some (.cells (ints .u64 10 (zq0 (t2.a) (t2.b))) 297) := zqc hb (by exact zqh); have lfa := zqa fa; replace fb : zqd w7 (gb) = some (.cells (ints .u64 10 (zq0 (t2.c) (t2.e))) 297) := zqc hb (by exact zqh); have lfb := zqa fb; replace hG : Below w.heap.size w w7 := Grew.trans (by exact zqf) hb; clear hb)
   go_wp2_with fail;have ek : zqd ((w7.setRow (ga) ((ints .u64 10 (zq0 (t3.a) (t3.b))))).setRow (gb) ((ints .u64 10 (zq0 (t3.c) (t3.e))))) (w.heap.size) = some (.cells (ints .u8 32 (k)) 44) := zqm _ _ (zqm _ _ (fk) (by first | assumption | omega | simp)) (by first | assumption | omega | simp);have ex : zqd ((w7.setRow (ga) ((ints .u64 10 (zq0 (t3.a) (t3.b))))).setRow (gb) ((ints .u64 10 (zq0 (t3.c) (t3.e))))) (w.heap.size + 1) = some (.cells (ints .u64 5 (u)) 291) := zqm _ _ (zqm _ _ (fx) (by first | assumption | omega | simp)) (by first | assumption | omega | simp)
   have er : zqd ((w7.setRow (ga) ((ints .u64 10 (zq0 (t3.a) (t3.b))))).setRow (gb) ((ints .u64 10 (zq0 (t3.c) (t3.e))))) (w.heap.size + 1 + 1) = some (.cells (ints .u64 5 (zqe)) 291) := zqm _ _ (zqm _ _ (fr) (by first | assumption | omega | simp)) (by first | assumption | omega | simp);have ea : zqd ((w7.setRow (ga) ((ints .u64 10 (zq0 (t3.a) (t3.b))))).setRow (gb) ((ints .u64 10 (zq0 (t3.c) (t3.e))))) (ga) = some (.cells (ints .u64 10 (zq0 (t3.a) (t3.b))) 297) := zqm _ _ (zqr _ (fa)) (by first | assumption | omega | simp);have eb : zqd ((w7.setRow (ga) ((ints .u64 10 (zq0 (t3.a) (t3.b))))).setRow (gb) ((ints .u64 10 (zq0 (t3.c) (t3.e))))) (gb) = some (.cells (ints .u64 10 (zq0 (t3.c) (t3.e))) 297) := zqr _ (zqm _ _ (fb) (by first | assumption | omega | simp));clear fk lfk fx lfx fr lfr fa lfa fb lfb
   replace hG : Below w.heap.size w ((w7.setRow (ga) ((ints .u64 10 (zq0 (t3.a) (t3.b))))).setRow (gb) ((ints .u64 10 (zq0 (t3.c) (t3.e))))) := by exact zqf
   generalize (w7.setRow (ga) ((ints .u64 10 (zq0 (t3.a) (t3.b))))).setRow (gb) ((ints .u64 10 (zq0 (t3.c) (t3.e)))) = w8 at *;have fk := ek;have fx := ex;have fr := er;have fa := ea;have fb := eb;clear ek ex er ea eb;have lfk := zqa fk;have lfx := zqa fx;have lfr := zqa fr;have lfa := zqa fa;have lfb := zqa fb
   go_roundw
   case rel => exact ⟨c + 1, by omega, HE.out, ⟨hG, fk, fx, fr, by rw [Z.out]; exact fa, by rw [Z.out]; exact fb⟩⟩
   case measure => simp [intOf] <;> omega
  ·have hL := zqji u k hu 256
   have p1 := fun w => zqyt (ruE u k 256).a (ruE u k 256).b w hL.a hL.b;go_wp2_with fail
   (refine (p1 _).mono ?_; rintro e w9 ⟨rfl, hb⟩; replace fk : zqd w9 (w.heap.size) = some (.cells (ints .u8 32 (k)) 44) := zqc hb (by exact zqh); have lfk := zqa fk; replace fx : zqd w9 (w.heap.size + 1) = some (.cells (ints .u64 5 (u)) 291) := zqc hb (by exact zqh); have lfx := zqa fx; replace fr : zqd w9 (w.heap.size + 1 + 1) = some (.cells (ints .u64 5 (zqe)) 291) := zqc hb (by exact zqh); have lfr := zqa fr; replace fa : zqd w9 (ga) = some (.cells (ints .u64 10 (zq0 ((ruE u k 256).a) ((ruE u k 256).b))) 297) := zqc hb (by exact zqh); have lfa := zqa fa; replace fb : zqd w9 (gb) = some (.cells (ints .u64 10 (zq0 ((ruE u k 256).c) ((ruE u k 256).e))) 297) := zqc hb (by exact zqh); have lfb := zqa fb; replace hG : Below w.heap.size w w9 := Grew.trans (by exact zqf) hb; clear hb)
   go_wp2;refine zqaf rfl _ 291 _ (0, 0) _ rfl (zqr _ fr) Tryz.underlying291 rfl (by rw [zqj]; kernel_rfl) rfl ⟨rfl, by exact zqf⟩
end Go.Proofs.YtnjghcnhcbobhaaGreatDoor
