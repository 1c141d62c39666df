/- Times -/
import Derived.Test.YtdoolhbmekahdaaGreatDoorStep
set_option maxRecDepth 100000
set_option maxHeartbeats 4000000
namespace Go.Proofs.YtdoolhbmekahdaaGreatDoor
open Go.RowKit
set_option linter.unusedVariables false
set_option linter.unusedSimpArgs false
structure El where
 a : Nat → Int
 b : Nat → Int
 c : Nat → Int
 e : Nat → Int
def swE (bit : Int) (s : El) : El := ⟨oneOf bit s.a s.c, oneOf bit s.b s.e, oneOf bit s.c s.a, oneOf bit s.e s.b⟩
def stE (u : Nat → Int) (s : El) : El := ⟨twX s.a s.b, twZ s.a s.b, boX s.a s.b s.c s.e, boZ u s.a s.b s.c s.e⟩
def ruE (u k : Nat → Int) : Nat → El
 | 0 => ⟨upd nought 0 1, nought, u, upd nought 0 1⟩
 | c + 1 => swE (bitN k (255 - c)) (stE u (swE (bitN k (255 - c)) (ruE u k c)))
structure LooseP (s : El) : Prop where
 a : Under 18014398509481984 s.a
 b : Under 18014398509481984 s.b
 c : Under 18014398509481984 s.c
 e : Under 18014398509481984 s.e
theorem loose_oneOf {x y : Nat → Int} (b : Int) (hx : Under 18014398509481984 x) (hy : Under 18014398509481984 y) : Under 18014398509481984 (oneOf b x y) := by unfold oneOf; split <;> assumption
theorem w64_loose {x : Nat → Int} (hx : Under 18014398509481984 x) : W64 5 x := fun i hi => by have := hx i hi; omega
theorem LooseP.sw {s : El} (h : LooseP s) (b : Int) : LooseP (swE b s) := ⟨loose_oneOf b h.a h.c, loose_oneOf b h.b h.e, loose_oneOf b h.c h.a, loose_oneOf b h.e h.b⟩
theorem loose_tw {x z : Nat → Int} (hx : Under 18014398509481984 x) (hz : Under 18014398509481984 z) : Under 18014398509481984 (twX x z) ∧ Under 18014398509481984 (twZ x z) := by
 have hs := loose_plus x z hx hz
 have hd := loose_minus x z hx hz
 have hss := loose_mul _ _ hs hs
 have hdd := loose_mul _ _ hd hd
 have he := loose_minus _ _ hss hdd
 exact ⟨loose_mul _ _ hss hdd, loose_mul _ _ he (loose_plus _ _ hss (loose_times _ 121665 he ⟨by decide, by decide⟩))⟩
theorem tight_bo {u x z x' z' : Nat → Int} (hu : Under 18014398509481984 u) (hx : Under 18014398509481984 x) (hz : Under 18014398509481984 z) (hx' : Under 18014398509481984 x') (hz' : Under 18014398509481984 z') : Under 4503599627370496 (boX x z x' z') ∧ Under 4503599627370496 (boZ u x z x' z') := by
 have hda := loose_mul _ _ (loose_minus x' z' hx' hz') (loose_plus x z hx hz)
 have hcb := loose_mul _ _ (loose_plus x' z' hx' hz') (loose_minus x z hx hz)
 have hs := loose_plus _ _ hda hcb
 have hd := loose_minus _ _ hda hcb
 exact ⟨tight_mul _ _ hs hs, tight_mul _ _ hu (loose_mul _ _ hd hd)⟩
theorem LooseP.st {s : El} (h : LooseP s) {u : Nat → Int} (hu : Under 18014398509481984 u) : LooseP (stE u s) := ⟨(loose_tw h.a h.b).1, (loose_tw h.a h.b).2, loose_tight (tight_bo hu h.a h.b h.c h.e).1, loose_tight (tight_bo hu h.a h.b h.c h.e).2⟩
theorem loose_ru (u k : Nat → Int) (hu : Under 18014398509481984 u) : ∀ c, LooseP (ruE u k c)
 | 0 => ⟨loose_one, loose_nought, hu, loose_one⟩
 | c + 1 => (((loose_ru u k hu c).sw _).st hu).sw _
theorem sw_calls (bit : Int) (s : El) (w : World) (h : LooseP s) : Calls Tryz.prog 343 #[.int .i64 bit, .agg (ints .u64 10 (pairF (s.a) (s.b))), .agg (ints .u64 10 (pairF (s.c) (s.e)))] w fun e w' => e = .returned (.tuple #[.agg (ints .u64 10 (pairF ((swE bit s).a) ((swE bit s).b))), .agg (ints .u64 10 (pairF ((swE bit s).c) ((swE bit s).e)))]) ∧ Below w.heap.size w w' := swapP_any bit s.a s.b s.c s.e w (w64_loose h.a) (w64_loose h.b) (w64_loose h.c) (w64_loose h.e)
theorem st_calls (u : Nat → Int) (s : El) (w : World) (hu : Under 18014398509481984 u) (h : LooseP s) : Calls Tryz.prog 344 #[.agg (ints .u64 5 (u)), .agg (ints .u64 10 (pairF (s.a) (s.b))), .agg (ints .u64 10 (pairF (s.c) (s.e)))] w fun e w' => e = .returned (.tuple #[.agg (ints .u64 10 (pairF ((stE u s).a) ((stE u s).b))), .agg (ints .u64 10 (pairF ((stE u s).c) ((stE u s).e)))]) ∧ Below w.heap.size w w' := step_any u s.a s.b s.c s.e w hu h.a h.b h.c h.e
def timesL (u k : Nat → Int) : Nat → Int := mulF (ruE u k 256).a (invF (ruE u k 256).b)
structure TimesInv (u k : Nat → Int) (ga gb : Nat) (w : World) (c : Nat) (wr : World) : Prop where
 g : Below w.heap.size w wr
 fk : objAt wr (w.heap.size) = some (.cells (ints .u8 32 (k)) 27)
 fx : objAt wr (w.heap.size + 1) = some (.cells (ints .u64 5 (u)) 386)
 fr : objAt wr (w.heap.size + 1 + 1) = some (.cells (ints .u64 5 (nought)) 386)
 fa : objAt wr ga = some (.cells (ints .u64 10 (pairF ((ruE u k c).a) ((ruE u k c).b))) 412)
 fb : objAt wr gb = some (.cells (ints .u64 10 (pairF ((ruE u k c).c) ((ruE u k c).e))) 412)
set_option maxHeartbeats 2000000 in
theorem times_calls (k u : Nat → Int) (w : World) (hk : Bytes 32 k) (hu : Under 18014398509481984 (u)) :
  Calls Tryz.prog 306 #[.agg (ints .u8 32 (k)), .agg (ints .u64 5 (u))] w fun e w' => e = .returned (.agg (ints .u64 5 (timesL u k))) ∧ Below w.heap.size w w' := by
 have hG := Grew.refl w
 have fk : True := trivial
 have fx : True := trivial
 have fr : True := trivial
 go_enter Tryz.func306, Tryz.ntmps306
 go_wp2_with fail
 replace fk : objAt (((w.alloc (.cells (ints .u8 32 (k)) 27)).alloc (.cells (ints .u64 5 (u)) 386)).alloc (.cells (ints .u64 5 (nought)) 386)) (w.heap.size) = some (.cells (ints .u8 32 (k)) 27) := by exact keep_auto
 replace fx : objAt (((w.alloc (.cells (ints .u8 32 (k)) 27)).alloc (.cells (ints .u64 5 (u)) 386)).alloc (.cells (ints .u64 5 (nought)) 386)) (w.heap.size + 1) = some (.cells (ints .u64 5 (u)) 386) := by exact keep_auto
 replace fr : objAt (((w.alloc (.cells (ints .u8 32 (k)) 27)).alloc (.cells (ints .u64 5 (u)) 386)).alloc (.cells (ints .u64 5 (nought)) 386)) (w.heap.size + 1 + 1) = some (.cells (ints .u64 5 (nought)) 386) := by exact keep_auto
 replace hG : Below w.heap.size w (((w.alloc (.cells (ints .u8 32 (k)) 27)).alloc (.cells (ints .u64 5 (u)) 386)).alloc (.cells (ints .u64 5 (nought)) 386)) := by exact grew_auto
 generalize ((w.alloc (.cells (ints .u8 32 (k)) 27)).alloc (.cells (ints .u64 5 (u)) 386)).alloc (.cells (ints .u64 5 (nought)) 386) = w1 at *
 have lfk := lt_of_objAt fk
 have lfx := lt_of_objAt fx
 have lfr := lt_of_objAt fr
 go_wp2_with fail
 (refine wp_rel (by kernel_rfl) (by kernel_rfl) ?_; (repeat (first | refine exv_skip rfl ?_ | (refine exv_call rfl ?_; apply Exists.intro))); refine exv_nil ?_; intro γ hinj hbase; (repeat (first | (refine rel_quiet rfl ?_; ((first | go_big_quiet_skip | (go_big_quiet_want; go_big_quiet_op; go_big_quiet_on)); refine wpQuiet_nil ?_)) | ((first | refine rel_skip_some rfl (fun _ => rfl) ?_ | ((try simp only [Nat.zero_add, Nat.reduceAdd]); apply rel_box alloc_cls; (focus rfl); (focus (first | exact cells_agg _ | exact cells_int _ _ | exact cells_bool _ | rfl)); (focus (exact by_fits))) | ((try simp only [Nat.zero_add, Nat.reduceAdd]); apply rel_alloc _ _ alloc_cls; (focus rfl); (focus (intro W; (first | exact zero_key _ | exact zero_elem _ | exact zero_num _ | exact zero_pair _ | exact zero_rnode _ | exact zero_kpair _))); (focus (first | exact cells_ints _ _ _ | exact cells_two _ _ | rfl)); (focus (exact by_fits))) | ((try simp only [Nat.zero_add, Nat.reduceAdd]); apply rel_slice alloc_cls; (focus rfl); (focus (intro W; simp only [List.map_toArray, List.map_cons, List.map_nil]; first | fail)); (focus (exact by_fits))) | (apply rel_fact; (focus rfl); (focus rfl); (focus rfl); (focus (intro W hC hF; go_big_quiet_want; go_big_quiet_op; (first | go_big_quiet_on | (apply Exists.intro; refine ⟨fun _ => ?_, ?_⟩; (focus (first | (with_reducible exact Calls.of_more (small_any 1 _ (by decide) (by decide))))); go_big_quiet_on)); exact wpQuiet_nil rfl)); (focus (first | exact fun _ => ⟨rfl, rfl⟩ | exact fun h => absurd h (by decide))))); ((first | go_big_quiet_skip | (go_big_quiet_want; go_big_quiet_op; go_big_quiet_on)); refine wpQuiet_nil ?_)) | refine rel_skip_none rfl (fun _ => rfl) ?_ | ((try simp only [Nat.zero_add, Nat.reduceAdd]); apply rel_store (setRow_cls (hbase _)); (focus rfl); (focus rfl); (focus rfl); (focus (first | exact cells_agg _ | exact cells_int _ _ | exact cells_bool _ | rfl)); rotate_left 3; (focus (exact by_mem)); rotate_right 3; (focus kernel_rfl); (focus (first | exact ints_size _ _ _ | rfl)); (focus (first | exact ints_ones _ _ _ | exact ones_two _ _ _ _ | kernel_rfl)); (focus (decide +kernel)); (focus (exact by_fits))))))
 (refine rel_nil ?_; rintro _ ⟨mq, rfl⟩ hF; simp only [List.forall_mem_cons] at hF; obtain ⟨fb, fa, -⟩ := hF)
 have nak : ¬ (γ 5 = w.heap.size) := by have := hbase 5; omega
 have nka : ¬ (w.heap.size = γ 5) := fun e => nak e.symm
 have nax : ¬ (γ 5 = w.heap.size + 1) := by have := hbase 5; omega
 have nxa : ¬ (w.heap.size + 1 = γ 5) := fun e => nax e.symm
 have nar : ¬ (γ 5 = w.heap.size + 1 + 1) := by have := hbase 5; omega
 have nra : ¬ (w.heap.size + 1 + 1 = γ 5) := fun e => nar e.symm
 have nbk : ¬ (γ 6 = w.heap.size) := by have := hbase 6; omega
 have nkb : ¬ (w.heap.size = γ 6) := fun e => nbk e.symm
 have nbx : ¬ (γ 6 = w.heap.size + 1) := by have := hbase 6; omega
 have nxb : ¬ (w.heap.size + 1 = γ 6) := fun e => nbx e.symm
 have nbr : ¬ (γ 6 = w.heap.size + 1 + 1) := by have := hbase 6; omega
 have nrb : ¬ (w.heap.size + 1 + 1 = γ 6) := fun e => nbr e.symm
 have hw0 := hG.size
 have l0a : w.heap.size ≤ γ 5 := by have := hbase 5; omega
 have l0b : w.heap.size ≤ γ 6 := by have := hbase 6; omega
 clear hw0
 have nab : ¬ (γ 5 = γ 6) := hinj _ _ (by decide)
 replace fk : objAt (more w1 mq) (w.heap.size) = some (.cells (ints .u8 32 (k)) 27) := by exact keep_auto
 replace fx : objAt (more w1 mq) (w.heap.size + 1) = some (.cells (ints .u64 5 (u)) 386) := by exact keep_auto
 replace fr : objAt (more w1 mq) (w.heap.size + 1 + 1) = some (.cells (ints .u64 5 (nought)) 386) := by exact keep_auto
 replace hG : Below w.heap.size w (more w1 mq) := by exact grew_auto
 replace fa : objAt (more w1 mq) (γ 5) = some (.cells (ints .u64 10 (pairF (upd nought 0 1) (nought))) 412) := fa
 replace fb : objAt (more w1 mq) (γ 6) = some (.cells (ints .u64 10 (pairF (u) (upd nought 0 1))) 412) := fb
 clear lfk lfx lfr
 clear hinj hbase
 generalize γ 5 = ga at *
 generalize γ 6 = gb at *
 generalize more w1 mq = w2 at *
 clear γ
 have lfk := lt_of_objAt fk
 have lfx := lt_of_objAt fx
 have lfr := lt_of_objAt fr
 have lfa := lt_of_objAt fa
 have lfb := lt_of_objAt fb
 have n0 : ¬ (gb = ga) := fun e => nab e.symm
 go_wp2_with fail
 go_loopw [7] (fun i wr => ∃ c : Nat, c ≤ 256 ∧ ((c < 256 ∧ i = .int .i64 ((255 - c : Nat) : Int)) ∨ (c = 256 ∧ i = .int .i64 (-1))) ∧ TimesInv u k ga gb w c wr) (fun i _ => (intOf i + 1).toNat)
 case atStart => exact ⟨0, by omega, .inl ⟨by omega, rfl⟩, ⟨hG, fk, fx, fr, fa, fb⟩⟩
 case round =>
  clear fk fx fr fa fb hG lfk lfx lfr lfa lfb
  obtain ⟨c, hc, hi, hG, fk, fx, fr, fa, fb⟩ := hrel
  have lfk := lt_of_objAt fk
  have lfx := lt_of_objAt fx
  have lfr := lt_of_objAt fr
  have lfa := lt_of_objAt fa
  have lfb := lt_of_objAt fb
  rcases hi with ⟨hlt, rfl⟩ | ⟨rfl, rfl⟩
  ·have hL := loose_ru u k hu c
   have hkb := hk ((255 - c) / 8) (by omega)
   have Z : Hid (ruE u k (c + 1) = swE (bitN k (255 - c)) (stE u (swE (bitN k (255 - c)) (ruE u k c)))) := rfl
   generalize hb : 255 - c = b at *
   have hb255 : b ≤ 255 := by omega
   have hb8 : b / 8 < 32 := by omega
   have hx0 : 0 ≤ k (b / 8) / 2 ^ (b % 8) := Int.ediv_nonneg hkb.1 (Int.le_of_lt (Int.pow_pos (by decide)))
   have hx1 : k (b / 8) / 2 ^ (b % 8) ≤ 255 := Int.le_trans (Int.ediv_le_self _ hkb.1) hkb.2
   have hbit := u8_and1 (k (b / 8) / 2 ^ (b % 8)) hx0 hx1
   have hB : bitN k b = k (b / 8) / 2 ^ (b % 8) % 2 := rfl
   rw [← hB] at hbit
   have h01 := bitN_01 k b
   generalize bitN k b = B at *
   clear hB hx0 hx1
   have p1 := fun w => sw_calls B (ruE u k c) w hL
   have hL1 := hL.sw B
   have p2 := fun w => st_calls u (swE B (ruE u k c)) w hu hL1
   have hL2 := hL1.st hu
   have p3 := fun w => sw_calls B (stE u (swE B (ruE u k c))) w hL2
   generalize swE B (ruE u k c) = t1 at *
   generalize stE u t1 = t2 at *
   generalize swE B t2 = t3 at *
   clear hL hL1 hL2
   have hend : ∀ b : Nat, 255 - c = b → ((c + 1 < 256 ∧ Value.int .i64 ((b : Int) - 1) = .int .i64 ((255 - (c + 1) : Nat) : Int)) ∨ (c + 1 = 256 ∧ Value.int .i64 ((b : Int) - 1) = .int .i64 (-1))) := fun b hb => by
    by_cases h : b = 0
    ·exact .inr ⟨by omega, by rw [h]; rfl⟩
    ·exact .inl ⟨by omega, by congr 1; omega⟩
   have HE : Hid _ := hend b hb
   clear hend
   have hB0 : 0 ≤ B := by omega
   have hB1 : B ≤ 1 := by omega
   clear h01
   go_wp2_with fail
   (refine (p1 _).mono ?_; rintro e w3 ⟨rfl, hb⟩; replace fk : objAt w3 (w.heap.size) = some (.cells (ints .u8 32 (k)) 27) := keep_below hb (by exact keep_auto); have lfk := lt_of_objAt fk; replace fx : objAt w3 (w.heap.size + 1) = some (.cells (ints .u64 5 (u)) 386) := keep_below hb (by exact keep_auto); have lfx := lt_of_objAt fx; replace fr : objAt w3 (w.heap.size + 1 + 1) = some (.cells (ints .u64 5 (nought)) 386) := keep_below hb (by exact keep_auto); have lfr := lt_of_objAt fr; replace fa : objAt w3 (ga) = some (.cells (ints .u64 10 (pairF ((ruE u k c).a) ((ruE u k c).b))) 412) := keep_below hb (by exact keep_auto); have lfa := lt_of_objAt fa; replace fb : objAt w3 (gb) = some (.cells (ints .u64 10 (pairF ((ruE u k c).c) ((ruE u k c).e))) 412) := keep_below hb (by exact keep_auto); have lfb := lt_of_objAt fb; replace hG : Below w.heap.size w w3 := Grew.trans (by exact grew_auto) hb; clear hb)
   go_wp2_with fail
   have ek : objAt ((w3.setRow (ga) ((ints .u64 10 (pairF (t1.a) (t1.b))))).setRow (gb) ((ints .u64 10 (pairF (t1.c) (t1.e))))) (w.heap.size) = some (.cells (ints .u8 32 (k)) 27) := keep_setRow _ _ (keep_setRow _ _ (fk) (by first | assumption | omega | simp)) (by first | assumption | omega | simp)
   have ex : objAt ((w3.setRow (ga) ((ints .u64 10 (pairF (t1.a) (t1.b))))).setRow (gb) ((ints .u64 10 (pairF (t1.c) (t1.e))))) (w.heap.size + 1) = some (.cells (ints .u64 5 (u)) 386) := keep_setRow _ _ (keep_setRow _ _ (fx) (by first | assumption | omega | simp)) (by first | assumption | omega | simp)
   have er : objAt ((w3.setRow (ga) ((ints .u64 10 (pairF (t1.a) (t1.b))))).setRow (gb) ((ints .u64 10 (pairF (t1.c) (t1.e))))) (w.heap.size + 1 + 1) = some (.cells (ints .u64 5 (nought)) 386) := keep_setRow _ _ (keep_setRow _ _ (fr) (by first | assumption | omega | simp)) (by first | assumption | omega | simp)
   have ea : objAt ((w3.setRow (ga) ((ints .u64 10 (pairF (t1.a) (t1.b))))).setRow (gb) ((ints .u64 10 (pairF (t1.c) (t1.e))))) (ga) = some (.cells (ints .u64 10 (pairF (t1.a) (t1.b))) 412) := keep_setRow _ _ (keep_row _ (fa)) (by first | assumption | omega | simp)
   have eb : objAt ((w3.setRow (ga) ((ints .u64 10 (pairF (t1.a) (t1.b))))).setRow (gb) ((ints .u64 10 (pairF (t1.c) (t1.e))))) (gb) = some (.cells (ints .u64 10 (pairF (t1.c) (t1.e))) 412) := keep_row _ (keep_setRow _ _ (fb) (by first | assumption | omega | simp))
   clear fk lfk fx lfx fr lfr fa lfa fb lfb
   replace hG : Below w.heap.size w ((w3.setRow (ga) ((ints .u64 10 (pairF (t1.a) (t1.b))))).setRow (gb) ((ints .u64 10 (pairF (t1.c) (t1.e))))) := by exact grew_auto
   generalize (w3.setRow (ga) ((ints .u64 10 (pairF (t1.a) (t1.b))))).setRow (gb) ((ints .u64 10 (pairF (t1.c) (t1.e)))) = w4 at *
   have fk := ek
   have fx := ex
   have fr := er
   have fa := ea
   have fb := eb
   clear ek ex er ea eb
   have lfk := lt_of_objAt fk
   have lfx := lt_of_objAt fx
   have lfr := lt_of_objAt fr
   have lfa := lt_of_objAt fa
   have lfb := lt_of_objAt fb
   go_wp2_with fail
   (refine (p2 _).mono ?_; rintro e w5 ⟨rfl, hb⟩; replace fk : objAt w5 (w.heap.size) = some (.cells (ints .u8 32 (k)) 27) := keep_below hb (by exact keep_auto); have lfk := lt_of_objAt fk; replace fx : objAt w5 (w.heap.size + 1) = some (.cells (ints .u64 5 (u)) 386) := keep_below hb (by exact keep_auto); have lfx := lt_of_objAt fx; replace fr : objAt w5 (w.heap.size + 1 + 1) = some (.cells (ints .u64 5 (nought)) 386) := keep_below hb (by exact keep_auto); have lfr := lt_of_objAt fr; replace fa : objAt w5 (ga) = some (.cells (ints .u64 10 (pairF (t1.a) (t1.b))) 412) := keep_below hb (by exact keep_auto); have lfa := lt_of_objAt fa; replace fb : objAt w5 (gb) = some (.cells (ints .u64 10 (pairF (t1.c) (t1.e))) 412) := keep_below hb (by exact keep_auto); have lfb := lt_of_objAt fb; replace hG : Below w.heap.size w w5 := Grew.trans (by exact grew_auto) hb; clear hb)
   go_wp2_with fail
   have ek : objAt ((w5.setRow (ga) ((ints .u64 10 (pairF (t2.a) (t2.b))))).setRow (gb) ((ints .u64 10 (pairF (t2.c) (t2.e))))) (w.heap.size) = some (.cells (ints .u8 32 (k)) 27) := keep_setRow _ _ (keep_setRow _ _ (fk) (by first | assumption | omega | simp)) (by first | assumption | omega | simp)
   have ex : objAt ((w5.setRow (ga) ((ints .u64 10 (pairF (t2.a) (t2.b))))).setRow (gb) ((ints .u64 10 (pairF (t2.c) (t2.e))))) (w.heap.size + 1) = some (.cells (ints .u64 5 (u)) 386) := keep_setRow _ _ (keep_setRow _ _ (fx) (by first | assumption | omega | simp)) (by first | assumption | omega | simp)
   have er : objAt ((w5.setRow (ga) ((ints .u64 10 (pairF (t2.a) (t2.b))))).setRow (gb) ((ints .u64 10 (pairF (t2.c) (t2.e))))) (w.heap.size + 1 + 1) = some (.cells (ints .u64 5 (nought)) 386) := keep_setRow _ _ (keep_setRow _ _ (fr) (by first | assumption | omega | simp)) (by first | assumption | omega | simp)
   have ea : objAt ((w5.setRow (ga) ((ints .u64 10 (pairF (t2.a) (t2.b))))).setRow (gb) ((ints .u64 10 (pairF (t2.c) (t2.e))))) (ga) = some (.cells (ints .u64 10 (pairF (t2.a) (t2.b))) 412) := keep_setRow _ _ (keep_row _ (fa)) (by first | assumption | omega | simp)
   have eb : objAt ((w5.setRow (ga) ((ints .u64 10 (pairF (t2.a) (t2.b))))).setRow (gb) ((ints .u64 10 (pairF (t2.c) (t2.e))))) (gb) = some (.cells (ints .u64 10 (pairF (t2.c) (t2.e))) 412) := keep_row _ (keep_setRow _ _ (fb) (by first | assumption | omega | simp))
   clear fk lfk fx lfx fr lfr fa lfa fb lfb
   replace hG : Below w.heap.size w ((w5.setRow (ga) ((ints .u64 10 (pairF (t2.a) (t2.b))))).setRow (gb) ((ints .u64 10 (pairF (t2.c) (t2.e))))) := by exact grew_auto
   generalize (w5.setRow (ga) ((ints .u64 10 (pairF (t2.a) (t2.b))))).setRow (gb) ((ints .u64 10 (pairF (t2.c) (t2.e)))) = w6 at *
   have fk := ek
   have fx := ex
   have fr := er
   have fa := ea
   have fb := eb
   clear ek ex er ea eb
   have lfk := lt_of_objAt fk
   have lfx := lt_of_objAt fx
   have lfr := lt_of_objAt fr
   have lfa := lt_of_objAt fa
   have lfb := lt_of_objAt fb
   go_wp2_with fail
   (refine (p3 _).mono ?_; rintro e w7 ⟨rfl, hb⟩; replace fk : objAt w7 (w.heap.size) = some (.cells (ints .u8 32 (k)) 27) := keep_below hb (by exact keep_auto); have lfk := lt_of_objAt fk; replace fx : objAt w7 (w.heap.size + 1) = some (.cells (ints .u64 5 (u)) 386) := keep_below hb (by exact keep_auto); have lfx := lt_of_objAt fx; replace fr : objAt w7 (w.heap.size + 1 + 1) = some (.cells (ints .u64 5 (nought)) 386) := keep_below hb (by exact keep_auto); have lfr := lt_of_objAt fr; replace fa : objAt w7 (ga) = some (.cells (ints .u64 10 (pairF (t2.a) (t2.b))) 412) := keep_below hb (by exact keep_auto); have lfa := lt_of_objAt fa; replace fb : objAt w7 (gb) = some (.cells (ints .u64 10 (pairF (t2.c) (t2.e))) 412) := keep_below hb (by exact keep_auto); have lfb := lt_of_objAt fb; replace hG : Below w.heap.size w w7 := Grew.trans (by exact grew_auto) hb; clear hb)
   go_wp2_with fail
   have ek : objAt ((w7.setRow (ga) ((ints .u64 10 (pairF (t3.a) (t3.b))))).setRow (gb) ((ints .u64 10 (pairF (t3.c) (t3.e))))) (w.heap.size) = some (.cells (ints .u8 32 (k)) 27) := keep_setRow _ _ (keep_setRow _ _ (fk) (by first | assumption | omega | simp)) (by first | assumption | omega | simp)
   have ex : objAt ((w7.setRow (ga) ((ints .u64 10 (pairF (t3.a) (t3.b))))).setRow (gb) ((ints .u64 10 (pairF (t3.c) (t3.e))))) (w.heap.size + 1) = some (.cells (ints .u64 5 (u)) 386) := keep_setRow _ _ (keep_setRow _ _ (fx) (by first | assumption | omega | simp)) (by first | assumption | omega | simp)
   have er : objAt ((w7.setRow (ga) ((ints .u64 10 (pairF (t3.a) (t3.b))))).setRow (gb) ((ints .u64 10 (pairF (t3.c) (t3.e))))) (w.heap.size + 1 + 1) = some (.cells (ints .u64 5 (nought)) 386) := keep_setRow _ _ (keep_setRow _ _ (fr) (by first | assumption | omega | simp)) (by first | assumption | omega | simp)
   have ea : objAt ((w7.setRow (ga) ((ints .u64 10 (pairF (t3.a) (t3.b))))).setRow (gb) ((ints .u64 10 (pairF (t3.c) (t3.e))))) (ga) = some (.cells (ints .u64 10 (pairF (t3.a) (t3.b))) 412) := keep_setRow _ _ (keep_row _ (fa)) (by first | assumption | omega | simp)
   have eb : objAt ((w7.setRow (ga) ((ints .u64 10 (pairF (t3.a) (t3.b))))).setRow (gb) ((ints .u64 10 (pairF (t3.c) (t3.e))))) (gb) = some (.cells (ints .u64 10 (pairF (t3.c) (t3.e))) 412) := keep_row _ (keep_setRow _ _ (fb) (by first | assumption | omega | simp))
   clear fk lfk fx lfx fr lfr fa lfa fb lfb
   replace hG : Below w.heap.size w ((w7.setRow (ga) ((ints .u64 10 (pairF (t3.a) (t3.b))))).setRow (gb) ((ints .u64 10 (pairF (t3.c) (t3.e))))) := by exact grew_auto
   generalize (w7.setRow (ga) ((ints .u64 10 (pairF (t3.a) (t3.b))))).setRow (gb) ((ints .u64 10 (pairF (t3.c) (t3.e)))) = w8 at *
   have fk := ek
   have fx := ex
   have fr := er
   have fa := ea
   have fb := eb
   clear ek ex er ea eb
   have lfk := lt_of_objAt fk
   have lfx := lt_of_objAt fx
   have lfr := lt_of_objAt fr
   have lfa := lt_of_objAt fa
   have lfb := lt_of_objAt fb
   go_roundw
   case rel => exact ⟨c + 1, by omega, HE.out, ⟨hG, fk, fx, fr, by rw [Z.out]; exact fa, by rw [Z.out]; exact fb⟩⟩
   case measure => simp [intOf] <;> omega
  ·have hL := loose_ru u k hu 256
   have p1 := fun w => affine_any (ruE u k 256).a (ruE u k 256).b w hL.a hL.b
   go_wp2_with fail
   (refine (p1 _).mono ?_; rintro e w9 ⟨rfl, hb⟩; replace fk : objAt w9 (w.heap.size) = some (.cells (ints .u8 32 (k)) 27) := keep_below hb (by exact keep_auto); have lfk := lt_of_objAt fk; replace fx : objAt w9 (w.heap.size + 1) = some (.cells (ints .u64 5 (u)) 386) := keep_below hb (by exact keep_auto); have lfx := lt_of_objAt fx; replace fr : objAt w9 (w.heap.size + 1 + 1) = some (.cells (ints .u64 5 (nought)) 386) := keep_below hb (by exact keep_auto); have lfr := lt_of_objAt fr; replace fa : objAt w9 (ga) = some (.cells (ints .u64 10 (pairF ((ruE u k 256).a) ((ruE u k 256).b))) 412) := keep_below hb (by exact keep_auto); have lfa := lt_of_objAt fa; replace fb : objAt w9 (gb) = some (.cells (ints .u64 10 (pairF ((ruE u k 256).c) ((ruE u k 256).e))) 412) := keep_below hb (by exact keep_auto); have lfb := lt_of_objAt fb; replace hG : Below w.heap.size w w9 := Grew.trans (by exact grew_auto) hb; clear hb)
   go_wp2
   refine ret_row rfl _ 386 _ (0, 0) _ rfl (keep_row _ fr) Tryz.underlying386 rfl (by rw [ints_size]; kernel_rfl) rfl ⟨rfl, by exact grew_auto⟩
end Go.Proofs.YtdoolhbmekahdaaGreatDoor
