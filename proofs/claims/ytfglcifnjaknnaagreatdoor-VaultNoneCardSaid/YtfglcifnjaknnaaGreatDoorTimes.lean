/- Times -/
import Derived.Test.YtfglcifnjaknnaaGreatDoorStep
set_option linter.unusedVariables false
set_option linter.unusedSimpArgs false
set_option maxRecDepth 100000
set_option maxHeartbeats 4000000
namespace Go.Proofs.YtfglcifnjaknnaaGreatDoor
open Go.RowKit
structure El where
 a : Nat -> Int
 b : Nat -> Int
 c : Nat -> Int
 e : Nat -> Int
def swE (bit : Int) (s : El) : El := ⟨oneOf bit s.a s.c, oneOf bit s.b s.e, oneOf bit s.c s.a, oneOf bit s.e s.b⟩
def stE (u : Nat -> Int) (s : El) : El := ⟨twX s.a s.b, twZ s.a s.b, boX s.a s.b s.c s.e, boZ u s.a s.b s.c s.e⟩
def ruE (u k : Nat -> Int) : Nat -> El
 | 0 => ⟨upd zqd 0 1, zqd, u, upd zqd 0 1⟩
 | c + 1 => swE (bitN k (255 - c)) (stE u (swE (bitN k (255 - c)) (ruE u k c)))
structure LooseP (s : El) : Prop where
 a : zq8 18014398509481984 s.a
 b : zq8 18014398509481984 s.b
 c : zq8 18014398509481984 s.c
 e : zq8 18014398509481984 s.e
theorem zqf1 {x y : Nat -> Int} (b : Int) (hx : zq8 18014398509481984 x) (hy : zq8 18014398509481984 y) : zq8 18014398509481984 (oneOf b x y) := by unfold oneOf; split <;> assumption
theorem zqip {x : Nat -> Int} (hx : zq8 18014398509481984 x) : W64 5 x := fun i hi => by have := hx i hi; omega
theorem LooseP.sw {s : El} (h : LooseP s) (b : Int) : LooseP (swE b s) := ⟨zqf1 b h.a h.c, zqf1 b h.b h.e, zqf1 b h.c h.a, zqf1 b h.e h.b⟩
theorem zqt3 {x z : Nat -> Int} (hx : zq8 18014398509481984 x) (hz : zq8 18014398509481984 z) : zq8 18014398509481984 (twX x z) /\ zq8 18014398509481984 (twZ x z) := by
 have hs := zqcl x z hx hz;have hd := zqb4 x z hx hz;have hss := zqbr _ _ hs hs;have hdd := zqbr _ _ hd hd;have he := zqb4 _ _ hss hdd;exact ⟨zqbr _ _ hss hdd, zqbr _ _ he (zqcl _ _ hss (zqhz _ 121665 he ⟨by decide, by decide⟩))⟩
theorem zqt2 {u x z x' z' : Nat -> Int} (hu : zq8 18014398509481984 u) (hx : zq8 18014398509481984 x) (hz : zq8 18014398509481984 z) (hx' : zq8 18014398509481984 x') (hz' : zq8 18014398509481984 z') : zq8 4503599627370496 (boX x z x' z') /\ zq8 4503599627370496 (boZ u x z x' z') := by
 have hda := zqbr _ _ (zqb4 x' z' hx' hz') (zqcl x z hx hz);have hcb := zqbr _ _ (zqcl x' z' hx' hz') (zqb4 x z hx hz);have hs := zqcl _ _ hda hcb;have hd := zqb4 _ _ hda hcb;exact ⟨zqez _ _ hs hs, zqez _ _ hu (zqbr _ _ hd hd)⟩
theorem LooseP.st {s : El} (h : LooseP s) {u : Nat -> Int} (hu : zq8 18014398509481984 u) : LooseP (stE u s) := ⟨(zqt3 h.a h.b).1, (zqt3 h.a h.b).2, zqb5 (zqt2 hu h.a h.b h.c h.e).1, zqb5 (zqt2 hu h.a h.b h.c h.e).2⟩
theorem zqii (u k : Nat -> Int) (hu : zq8 18014398509481984 u) : ∀ c, LooseP (ruE u k c)
 | 0 => ⟨zqio, zqd8, hu, zqio⟩
 | c + 1 => (((zqii u k hu c).sw _).st hu).sw _
theorem zqt7 (bit : Int) (s : El) (w : World) (h : LooseP s) : Calls Tryz.prog 80 #[.int .i64 bit, .agg (ints .u64 10 (zqu (s.a) (s.b))), .agg (ints .u64 10 (zqu (s.c) (s.e)))] w (Rt w (.tuple #[.agg (ints .u64 10 (zqu ((swE bit s).a) ((swE bit s).b))), .agg (ints .u64 10 (zqu ((swE bit s).c) ((swE bit s).e)))])) := zqzn bit s.a s.b s.c s.e w (zqip h.a) (zqip h.b) (zqip h.c) (zqip h.e)
theorem zq40 (u : Nat -> Int) (s : El) (w : World) (hu : zq8 18014398509481984 u) (h : LooseP s) : Calls Tryz.prog 81 #[.agg (ints .u64 5 (u)), .agg (ints .u64 10 (zqu (s.a) (s.b))), .agg (ints .u64 10 (zqu (s.c) (s.e)))] w (Rt w (.tuple #[.agg (ints .u64 10 (zqu ((stE u s).a) ((stE u s).b))), .agg (ints .u64 10 (zqu ((stE u s).c) ((stE u s).e)))])) := zq3o u s.a s.b s.c s.e w hu h.a h.b h.c h.e
def zqlo (u k : Nat -> Int) : Nat -> Int := mulF (ruE u k 256).a (invF (ruE u k 256).b)
structure TimesInv (u k : Nat -> Int) (ga gb : Nat) (w : World) (c : Nat) (wr : World) : Prop where
 g : Below w.heap.size w wr
 fk : zqe wr (w.heap.size) = some (.cells (ints .u8 32 (k)) 29)
 fx : zqe wr (w.heap.size + 1) = some (.cells (ints .u64 5 (u)) 136)
 fr : zqe wr (w.heap.size + 1 + 1) = some (.cells (ints .u64 5 (zqd)) 136)
 fa : zqe wr ga = some (.cells (ints .u64 10 (zqu ((ruE u k c).a) ((ruE u k c).b))) 161)
 fb : zqe wr gb = some (.cells (ints .u64 10 (zqu ((ruE u k c).c) ((ruE u k c).e))) 161)
set_option maxHeartbeats 2000000 in
theorem zqmf (k u : Nat -> Int) (w : World) (hk : Bytes 32 k) (hu : zq8 18014398509481984 (u)) :
  Calls Tryz.prog 65 #[.agg (ints .u8 32 (k)), .agg (ints .u64 5 (u))] w (Rt w (.agg (ints .u64 5 (zqlo u k)))) := by
 have hG := Grew.refl w;have fk : True := trivial;have fx : True := trivial;have fr : True := trivial
 go_enter Tryz.func65, Tryz.ntmps65
 go_wp2_with fail;generalize hW : ((w.alloc (.cells (ints .u8 32 (k)) 29)).alloc (.cells (ints .u64 5 (u)) 136)).alloc (.cells (ints .u64 5 (zqd)) 136) = w1;replace fk : zqe w1 (w.heap.size) = some (.cells (ints .u8 32 (k)) 29) := zqs hW;replace fx : zqe w1 (w.heap.size + 1) = some (.cells (ints .u64 5 (u)) 136) := zqs hW;replace fr : zqe w1 (w.heap.size + 1 + 1) = some (.cells (ints .u64 5 (zqd)) 136) := zqs hW;replace hG : Below w.heap.size w w1 := zqam hW;clear hW;have lfk := zqa fk;have lfx := zqa fx;have lfr := zqa fr;go_wp2_with fail
 (refine zqhj zqb zqb ?_; (repeat (first | refine zqv rfl ?_ | (refine zqn rfl ?_; apply Exists.intro))); refine zqbt ?_; intro γ hinj hbase; (repeat (first | (refine zqx rfl ?_; (refine zAa ?_)) | ((first | refine zqm rfl (fun _ => rfl) ?_ | (refine zAf ?_) | (refine zAd ?_) | (refine zAg ?_) | (apply zqaa; (focus rfl); (focus rfl); (focus rfl); (focus (intro W hC hF; go_big_quiet_want; go_big_quiet_op; (first | go_big_quiet_on | (apply Exists.intro; refine ⟨fun _ => ?_, ?_⟩; (focus (first | (with_reducible exact Calls.of_more (zqcq 1 _ (by decide) (by decide))))); go_big_quiet_on)); exact wpQuiet_nil rfl)); (focus (first | exact fun _ => ⟨rfl, rfl⟩ | exact fun h => absurd h (by decide))))); (refine zAa ?_)) | refine zql rfl (fun _ => rfl) ?_ | (refine zAc ?_))))
 (refine zqce ?_; rintro _ ⟨mq, rfl⟩ hF; simp only [List.forall_mem_cons] at hF; obtain ⟨fb, fa, -⟩ := hF)
 have nak : ¬ (γ 5 = w.heap.size) := by have := hbase 5; omega
 have nka : ¬ (w.heap.size = γ 5) := fun e => nak e.symm;have nax : ¬ (γ 5 = w.heap.size + 1) := by have := hbase 5; omega
 have nxa : ¬ (w.heap.size + 1 = γ 5) := fun e => nax e.symm;have nar : ¬ (γ 5 = w.heap.size + 1 + 1) := by have := hbase 5; omega
 have nra : ¬ (w.heap.size + 1 + 1 = γ 5) := fun e => nar e.symm;have nbk : ¬ (γ 6 = w.heap.size) := by have := hbase 6; omega
 have nkb : ¬ (w.heap.size = γ 6) := fun e => nbk e.symm;have nbx : ¬ (γ 6 = w.heap.size + 1) := by have := hbase 6; omega
 have nxb : ¬ (w.heap.size + 1 = γ 6) := fun e => nbx e.symm;have nbr : ¬ (γ 6 = w.heap.size + 1 + 1) := by have := hbase 6; omega
 have nrb : ¬ (w.heap.size + 1 + 1 = γ 6) := fun e => nbr e.symm;have hw0 := hG.size;have l0a : w.heap.size <= γ 5 := by have := hbase 5; omega
 have l0b : w.heap.size <= γ 6 := by have := hbase 6; omega
 clear hw0;have nab : ¬ (γ 5 = γ 6) := hinj _ _ (by decide);replace fk : zqe (more w1 mq) (w.heap.size) = some (.cells (ints .u8 32 (k)) 29) := by exact zqh
 replace fx : zqe (more w1 mq) (w.heap.size + 1) = some (.cells (ints .u64 5 (u)) 136) := by exact zqh
 replace fr : zqe (more w1 mq) (w.heap.size + 1 + 1) = some (.cells (ints .u64 5 (zqd)) 136) := by exact zqh
 replace hG : Below w.heap.size w (more w1 mq) := by exact zqf
 replace fa : zqe (more w1 mq) (γ 5) = some (.cells (ints .u64 10 (zqu (upd zqd 0 1) (zqd))) 161) := fa;replace fb : zqe (more w1 mq) (γ 6) = some (.cells (ints .u64 10 (zqu (u) (upd zqd 0 1))) 161) := fb;clear lfk lfx lfr;clear hinj hbase;generalize γ 5 = ga at *;generalize γ 6 = gb at *;generalize more w1 mq = w2 at *;clear γ;have lfk := zqa fk;have lfx := zqa fx;have lfr := zqa fr;have lfa := zqa fa;have lfb := zqa fb;have n0 : ¬ (gb = ga) := fun e => nab e.symm;go_wp2_with fail
 go_loopw [7] (fun i wr => ∃ c : Nat, c <= 256 /\ ((c < 256 /\ i = .int .i64 ((255 - c : Nat) : Int)) \/ (c = 256 /\ i = .int .i64 (-1))) /\ TimesInv u k ga gb w c wr) (fun i _ => (intOf i + 1).toNat)
 case atStart => exact ⟨0, by omega, .inl ⟨by omega, rfl⟩, ⟨hG, fk, fx, fr, fa, fb⟩⟩
 case round =>
  clear fk fx fr fa fb hG lfk lfx lfr lfa lfb;obtain ⟨c, hc, hi, hG, fk, fx, fr, fa, fb⟩ := hrel;have lfk := zqa fk;have lfx := zqa fx;have lfr := zqa fr;have lfa := zqa fa;have lfb := zqa fb
  rcases hi with ⟨hlt, rfl⟩ | ⟨rfl, rfl⟩
  ·have hL := zqii u k hu c
   have hkb := hk ((255 - c) / 8) (by omega);have Z : Hid (ruE u k (c + 1) = swE (bitN k (255 - c)) (stE u (swE (bitN k (255 - c)) (ruE u k c)))) := rfl;generalize hb : 255 - c = b at *;have hb255 : b <= 255 := by omega
   have hb8 : b / 8 < 32 := by omega
   have hx0 : 0 <= k (b / 8) / 2 ^ (b % 8) := Int.ediv_nonneg hkb.1 (Int.le_of_lt (Int.pow_pos (by decide)));have hx1 : k (b / 8) / 2 ^ (b % 8) <= 255 := Int.le_trans (Int.ediv_le_self _ hkb.1) hkb.2;have hbit := zq1i (k (b / 8) / 2 ^ (b % 8)) hx0 hx1;have hB : bitN k b = k (b / 8) / 2 ^ (b % 8) % 2 := rfl;rw [<- hB] at hbit;have h01 := zqov k b;generalize bitN k b = B at *;clear hB hx0 hx1;have p1 := fun w => zqt7 B (ruE u k c) w hL;have hL1 := hL.sw B;have p2 := fun w => zq40 u (swE B (ruE u k c)) w hu hL1;have hL2 := hL1.st hu;have p3 := fun w => zqt7 B (stE u (swE B (ruE u k c))) w hL2;generalize swE B (ruE u k c) = t1 at *;generalize stE u t1 = t2 at *;generalize swE B t2 = t3 at *;clear hL hL1 hL2
   have hend : ∀ b : Nat, 255 - c = b -> ((c + 1 < 256 /\ Value.int .i64 ((b : Int) - 1) = .int .i64 ((255 - (c + 1) : Nat) : Int)) \/ (c + 1 = 256 /\ Value.int .i64 ((b : Int) - 1) = .int .i64 (-1))) := fun b hb => by
    by_cases h : b = 0
    ·exact .inr ⟨by omega, by rw [h]; rfl⟩
    ·exact .inl ⟨by omega, by congr 1; omega⟩
   have HE : Hid _ := hend b hb;clear hend;have hB0 : 0 <= B := by omega
   have hB1 : B <= 1 := by omega
   clear h01;go_wp2_with fail
   (refine (p1 _).mono ?_; rintro e w3 ⟨rfl, hb⟩; replace fk : zqe w3 (w.heap.size) = some (.cells (ints .u8 32 (k)) 29) := zqc hb (by exact zqh); have lfk := zqa fk; replace fx : zqe w3 (w.heap.size + 1) = some (.cells (ints .u64 5 (u)) 136) := zqc hb (by exact zqh); have lfx := zqa fx; replace fr : zqe w3 (w.heap.size + 1 + 1) = some (.cells (ints .u64 5 (zqd)) 136) := zqc hb (by exact zqh); have lfr := zqa fr; replace fa : zqe w3 (ga) = some (.cells (ints .u64 10 (zqu ((ruE u k c).a) ((ruE u k c).b))) 161) := zqc hb (by exact zqh); have lfa := zqa fa; replace fb : zqe w3 (gb) = some (.cells (ints .u64 10 (zqu ((ruE u k c).c) ((ruE u k c).e))) 161) := zqc hb (by exact zqh); have lfb := zqa fb; replace hG : Below w.heap.size w w3 := Grew.trans (by exact zqf) hb; clear hb)
   go_wp2_with fail;have ek : zqe ((w3.setRow (ga) ((ints .u64 10 (zqu (t1.a) (t1.b))))).setRow (gb) ((ints .u64 10 (zqu (t1.c) (t1.e))))) (w.heap.size) = some (.cells (ints .u8 32 (k)) 29) := zqk _ _ (zqk _ _ (fk) (by first | assumption | omega | simp)) (by first | assumption | omega | simp);have ex : zqe ((w3.setRow (ga) ((ints .u64 10 (zqu (t1.a) (t1.b))))).setRow (gb) ((ints .u64 10 (zqu (t1.c) (t1.e))))) (w.heap.size + 1) = some (.cells (ints .u64 5 (u)) 136) := zqk _ _ (zqk _ _ (fx) (by first | assumption | omega | simp)) (by first | assumption | omega | simp)
   have er : zqe ((w3.setRow (ga) ((ints .u64 10 (zqu (t1.a) (t1.b))))).setRow (gb) ((ints .u64 10 (zqu (t1.c) (t1.e))))) (w.heap.size + 1 + 1) = some (.cells (ints .u64 5 (zqd)) 136) := zqk _ _ (zqk _ _ (fr) (by first | assumption | omega | simp)) (by first | assumption | omega | simp);have ea : zqe ((w3.setRow (ga) ((ints .u64 10 (zqu (t1.a) (t1.b))))).setRow (gb) ((ints .u64 10 (zqu (t1.c) (t1.e))))) (ga) = some (.cells (ints .u64 10 (zqu (t1.a) (t1.b))) 161) := zqk _ _ (zqq _ (fa)) (by first | assumption | omega | simp);have eb : zqe ((w3.setRow (ga) ((ints .u64 10 (zqu (t1.a) (t1.b))))).setRow (gb) ((ints .u64 10 (zqu (t1.c) (t1.e))))) (gb) = some (.cells (ints .u64 10 (zqu (t1.c) (t1.e))) 161) := zqq _ (zqk _ _ (fb) (by first | assumption | omega | simp));clear fk lfk fx lfx fr lfr fa lfa fb lfb
   replace hG : Below w.heap.size w ((w3.setRow (ga) ((ints .u64 10 (zqu (t1.a) (t1.b))))).setRow (gb) ((ints .u64 10 (zqu (t1.c) (t1.e))))) := by exact zqf
   generalize (w3.setRow (ga) ((ints .u64 10 (zqu (t1.a) (t1.b))))).setRow (gb) ((ints .u64 10 (zqu (t1.c) (t1.e)))) = w4 at *;have fk := ek;have fx := ex;have fr := er;have fa := ea;have fb := eb;clear ek ex er ea eb;have lfk := zqa fk;have lfx := zqa fx;have lfr := zqa fr;have lfa := zqa fa;have lfb := zqa fb;go_wp2_with fail
   (refine (p2 _).mono ?_; rintro e w5 ⟨rfl, hb⟩; replace fk : zqe w5 (w.heap.size) = some (.cells (ints .u8 32 (k)) 29) := zqc hb (by exact zqh); have lfk := zqa fk; replace fx : zqe w5 (w.heap.size + 1) = some (.cells (ints .u64 5 (u)) 136) := zqc hb (by exact zqh); have lfx := zqa fx; replace fr : zqe w5 (w.heap.size + 1 + 1) = some (.cells (ints .u64 5 (zqd)) 136) := zqc hb (by exact zqh); have lfr := zqa fr; replace fa : zqe w5 (ga) = some (.cells (ints .u64 10 (zqu (t1.a) (t1.b))) 161) := zqc hb (by exact zqh); have lfa := zqa fa; replace fb : zqe w5 (gb) = some (.cells (ints .u64 10 (zqu (t1.c) (t1.e))) 161) := zqc hb (by exact zqh); have lfb := zqa fb; replace hG : Below w.heap.size w w5 := Grew.trans (by exact zqf) hb; clear hb)
   go_wp2_with fail;have ek : zqe ((w5.setRow (ga) ((ints .u64 10 (zqu (t2.a) (t2.b))))).setRow (gb) ((ints .u64 10 (zqu (t2.c) (t2.e))))) (w.heap.size) = some (.cells (ints .u8 32 (k)) 29) := zqk _ _ (zqk _ _ (fk) (by first | assumption | omega | simp)) (by first | assumption | omega | simp);have ex : zqe ((w5.setRow (ga) ((ints .u64 10 (zqu (t2.a) (t2.b))))).setRow (gb) ((ints .u64 10 (zqu (t2.c) (t2.e))))) (w.heap.size + 1) = some (.cells (ints .u64 5 (u)) 136) := zqk _ _ (zqk _ _ (fx) (by first | assumption | omega | simp)) (by first | assumption | omega | simp)
   have er : zqe ((w5.setRow (ga) ((ints .u64 10 (zqu (t2.a) (t2.b))))).setRow (gb) ((ints .u64 10 (zqu (t2.c) (t2.e))))) (w.heap.size + 1 + 1) = some (.cells (ints .u64 5 (zqd)) 136) := zqk _ _ (zqk _ _ (fr) (by first | assumption | omega | simp)) (by first | assumption | omega | simp);have ea : zqe ((w5.setRow (ga) ((ints .u64 10 (zqu (t2.a) (t2.b))))).setRow (gb) ((ints .u64 10 (zqu (t2.c) (t2.e))))) (ga) = some (.cells (ints .u64 10 (zqu (t2.a) (t2.b))) 161) := zqk _ _ (zqq _ (fa)) (by first | assumption | omega | simp);have eb : zqe ((w5.setRow (ga) ((ints .u64 10 (zqu (t2.a) (t2.b))))).setRow (gb) ((ints .u64 10 (zqu (t2.c) (t2.e))))) (gb) = some (.cells (ints .u64 10 (zqu (t2.c) (t2.e))) 161) := zqq _ (zqk _ _ (fb) (by first | assumption | omega | simp));clear fk lfk fx lfx fr lfr fa lfa fb lfb
   replace hG : Below w.heap.size w ((w5.setRow (ga) ((ints .u64 10 (zqu (t2.a) (t2.b))))).setRow (gb) ((ints .u64 10 (zqu (t2.c) (t2.e))))) := by exact zqf
   generalize (w5.setRow (ga) ((ints .u64 10 (zqu (t2.a) (t2.b))))).setRow (gb) ((ints .u64 10 (zqu (t2.c) (t2.e)))) = w6 at *;have fk := ek;have fx := ex;have fr := er;have fa := ea;have fb := eb;clear ek ex er ea eb;have lfk := zqa fk;have lfx := zqa fx;have lfr := zqa fr;have lfa := zqa fa;have lfb := zqa fb;go_wp2_with fail
   (refine (p3 _).mono ?_; rintro e w7 ⟨rfl, hb⟩; replace fk : zqe w7 (w.heap.size) = some (.cells (ints .u8 32 (k)) 29) := zqc hb (by exact zqh); have lfk := zqa fk; replace fx : zqe w7 (w.heap.size + 1) = some (.cells (ints .u64 5 (u)) 136) := zqc hb (by exact zqh); have lfx := zqa fx; replace fr : zqe w7 (w.heap.size + 1 + 1) = some (.cells (ints .u64 5 (zqd)) 136) := zqc hb (by exact zqh); have lfr := zqa fr; replace fa : zqe w7 (ga) = some (.cells (ints .u64 10 (zqu (t2.a) (t2.b))) 161) := zqc hb (by exact zqh); have lfa := zqa fa; replace fb : zqe w7 (gb) = some (.cells (ints .u64 10 (zqu (t2.c) (t2.e))) 161) := zqc hb (by exact zqh); have lfb := zqa fb; replace hG : Below w.heap.size w w7 := Grew.trans (by exact zqf) hb; clear hb)
   go_wp2_with fail;have ek : zqe ((w7.setRow (ga) ((ints .u64 10 (zqu (t3.a) (t3.b))))).setRow (gb) ((ints .u64 10 (zqu (t3.c) (t3.e))))) (w.heap.size) = some (.cells (ints .u8 32 (k)) 29) := zqk _ _ (zqk _ _ (fk) (by first | assumption | omega | simp)) (by first | assumption | omega | simp);have ex : zqe ((w7.setRow (ga) ((ints .u64 10 (zqu (t3.a) (t3.b))))).setRow (gb) ((ints .u64 10 (zqu (t3.c) (t3.e))))) (w.heap.size + 1) = some (.cells (ints .u64 5 (u)) 136) := zqk _ _ (zqk _ _ (fx) (by first | assumption | omega | simp)) (by first | assumption | omega | simp)
   have er : zqe ((w7.setRow (ga) ((ints .u64 10 (zqu (t3.a) (t3.b))))).setRow (gb) ((ints .u64 10 (zqu (t3.c) (t3.e))))) (w.heap.size + 1 + 1) = some (.cells (ints .u64 5 (zqd)) 136) := zqk _ _ (zqk _ _ (fr) (by first | assumption | omega | simp)) (by first | assumption | omega | simp);have ea : zqe ((w7.setRow (ga) ((ints .u64 10 (zqu (t3.a) (t3.b))))).setRow (gb) ((ints .u64 10 (zqu (t3.c) (t3.e))))) (ga) = some (.cells (ints .u64 10 (zqu (t3.a) (t3.b))) 161) := zqk _ _ (zqq _ (fa)) (by first | assumption | omega | simp);have eb : zqe ((w7.setRow (ga) ((ints .u64 10 (zqu (t3.a) (t3.b))))).setRow (gb) ((ints .u64 10 (zqu (t3.c) (t3.e))))) (gb) = some (.cells (ints .u64 10 (zqu (t3.c) (t3.e))) 161) := zqq _ (zqk _ _ (fb) (by first | assumption | omega | simp));clear fk lfk fx lfx fr lfr fa lfa fb lfb
   replace hG : Below w.heap.size w ((w7.setRow (ga) ((ints .u64 10 (zqu (t3.a) (t3.b))))).setRow (gb) ((ints .u64 10 (zqu (t3.c) (t3.e))))) := by exact zqf
   generalize (w7.setRow (ga) ((ints .u64 10 (zqu (t3.a) (t3.b))))).setRow (gb) ((ints .u64 10 (zqu (t3.c) (t3.e)))) = w8 at *;have fk := ek;have fx := ex;have fr := er;have fa := ea;have fb := eb;clear ek ex er ea eb;have lfk := zqa fk;have lfx := zqa fx;have lfr := zqa fr;have lfa := zqa fa;have lfb := zqa fb
   go_roundw
   case rel => exact ⟨c + 1, by omega, HE.out, ⟨hG, fk, fx, fr, by rw [Z.out]; exact fa, by rw [Z.out]; exact fb⟩⟩
   case measure => simp [intOf] <;> omega
  ·have hL := zqii u k hu 256
   have p1 := fun w => zqxq (ruE u k 256).a (ruE u k 256).b w hL.a hL.b;go_wp2_with fail
   (refine (p1 _).mono ?_; rintro e w9 ⟨rfl, hb⟩; replace fk : zqe w9 (w.heap.size) = some (.cells (ints .u8 32 (k)) 29) := zqc hb (by exact zqh); have lfk := zqa fk; replace fx : zqe w9 (w.heap.size + 1) = some (.cells (ints .u64 5 (u)) 136) := zqc hb (by exact zqh); have lfx := zqa fx; replace fr : zqe w9 (w.heap.size + 1 + 1) = some (.cells (ints .u64 5 (zqd)) 136) := zqc hb (by exact zqh); have lfr := zqa fr; replace fa : zqe w9 (ga) = some (.cells (ints .u64 10 (zqu ((ruE u k 256).a) ((ruE u k 256).b))) 161) := zqc hb (by exact zqh); have lfa := zqa fa; replace fb : zqe w9 (gb) = some (.cells (ints .u64 10 (zqu ((ruE u k 256).c) ((ruE u k 256).e))) 161) := zqc hb (by exact zqh); have lfb := zqa fb; replace hG : Below w.heap.size w w9 := Grew.trans (by exact zqf) hb; clear hb)
   go_wp2;refine zqag rfl _ 136 _ (0, 0) _ rfl (zqq _ fr) Tryz.underlying136 rfl (by rw [zqi]; kernel_rfl) rfl ⟨rfl, by exact zqf⟩
end Go.Proofs.YtfglcifnjaknnaaGreatDoor
