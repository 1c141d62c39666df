/- Bk -/
import Derived.Test.YtconieddcjpbjaaGreatDoorOw
import Derived.Test.YtconieddcjpbjaaGreatDoorSw
set_option linter.unusedVariables false
set_option linter.unusedSimpArgs false
set_option maxRecDepth 100000
set_option maxHeartbeats 4000000
namespace Go.Proofs.YtconieddcjpbjaaGreatDoor
open Go.RowKit
attribute [local irreducible] strOf shaF zqay padB zqb8 zqcf
theorem zqnu {k : IntKind} {w : World} {g : Nat} {x y : Int} {t : TypeId} (h : Full g #[.int k x] t w) (e : x = y) : zqd w g = some (.cells #[.int k y] t) := by subst e; exact h
theorem zq1x {w w' : World} {g i : Nat} {v : Value} (hb : Below w.heap.size w w') (hg : g < w.heap.size) (h : cellOf (zqd w g) i = some v) : cellOf (zqd w' g) i = some v := by
 rw [show zqd w' g = zqd w g from hb.block g hg]; exact h
def BytesAt (w : World) (g o n : Nat) (G : Nat -> Int) : Prop := g < w.heap.size /\ ∀ i, i < n -> cellOf (zqd w g) (o + i) = some (.int .u8 (G i))
theorem BytesAt.later {w w' : World} {g o n : Nat} {G : Nat -> Int} (h : BytesAt w g o n G) (hb : Below w.heap.size w w') : BytesAt w' g o n G :=
 ⟨Nat.lt_of_lt_of_le h.1 hb.size, fun i hi => zq1x hb h.1 (h.2 i hi)⟩
theorem zqpi {w : World} {g n : Nat} {G : Nat -> Int} {t : TypeId} {fr : Nat × Nat} (h : zqd w g = some (.cells (ints .u32 n G) t fr)) : WordsAt w g 0 n G :=
 ⟨zqa h, fun i hi => by rw [h, zqb7, Nat.zero_add, zqa9 _ _ _ _ hi]⟩
theorem WordsAt.at0 {w : World} {g n : Nat} {G : Nat -> Int} (h : WordsAt w g 0 n G) (i : Nat) (hi : i < n) : cellOf (zqd w g) i = some (.int .u32 (G i)) := by
 have := h.2 i hi;rwa [Nat.zero_add] at this
set_option maxHeartbeats 8000000 in
theorem zqub (H B : Nat -> Int) (gh ch gb ob cb : Nat) (w : World) (hB : Bytes 64 B) (hH : Words 8 H) (hh : WordsAt w gh 0 8 H) (hb : BytesAt w gb ob 64 B) :
  Calls Tryz.prog 175 #[.slice (some ⟨gh, 0, none⟩) 8 ch, .slice (some ⟨gb, ob, none⟩) 64 cb] w fun e w' => ∃ g c, e = .returned (.slice (some ⟨g, 0, none⟩) 8 c) /\ WordsAt w' g 0 8 (cmp H B) /\ Below w.heap.size w w' := by
 have HB : Hid (BytesAt w gb ob 64 B) := hb;have HH : Hid (WordsAt w gh 0 8 H) := hh;clear hb hh;have hlow : Hid (∀ i, i < 16 -> sch B 64 i = wd B i) := zrdi B;have hhigh : Hid (∀ t, 16 <= t -> t < 64 -> sch B 64 t = (sm1 (sch B 64 (t - 2)) + sch B 64 (t - 7) + sm0 (sch B 64 (t - 15)) + sch B 64 (t - 16)) % 4294967296) := zq7b B;have hSW := zqj3 B hB 64;have hR0 := zqkl (sch B 64) H hH;have F8 : Hid (∀ i, (H i + runR (sch B 64) H 64 i) % 4294967296 = cmp H B i) := fun _ => rfl;have R0 : Hid (runR (sch B 64) H 0 = H) := rfl;have RS : Hid (∀ k, runR (sch B 64) H (k + 1) = rnd (sch B 64) k (runR (sch B 64) H k)) := fun _ => rfl;generalize cmp H B = C at *;generalize sch B 64 = S at *;generalize hRR : runR S H = R at *;clear hRR
 go_enter Tryz.func175, Tryz.ntmps175
 go_wp2_with fail
 go_loopw [5, 6] (fun v i wr => ∃ (k : Nat) (v0 : Value), v0 = v /\ k <= 16 /\ i = .int .i64 k /\ Below w.heap.size w wr /\ Hid (wr.ownsRow w.heap.size 120 1 v0 k (rowL .u32 S k))) (fun _ i _ => 16 - (intOf i).toNat)
 case atStart => exact ⟨0, _, rfl, by omega, rfl, Grew.refl _, World.ownsRow_nil _ _ _ _⟩
 case round =>
  obtain ⟨k, v0, rfl, hk, rfl, hG, OWN⟩ := hrel
  by_cases hlt : k < 16
  ·have hbW := (HB.out).later hG
   have hgb := hbW.1;have c0 := hbW.2 (4 * k) (by omega);have c1 := hbW.2 (4 * k + 1) (by omega);have c2 := hbW.2 (4 * k + 2) (by omega);have c3 := hbW.2 (4 * k + 3) (by omega);have b0 := hB (4 * k) (by omega);have b1 := hB (4 * k + 1) (by omega);have b2 := hB (4 * k + 2) (by omega);have b3 := hB (4 * k + 3) (by omega);have hS : Hid (S k = B (4 * k) * 16777216 + B (4 * k + 1) * 65536 + B (4 * k + 2) * 256 + B (4 * k + 3)) := hlow.out k hlt;generalize B (4 * k) = B0 at *;generalize B (4 * k + 1) = B1 at *;generalize B (4 * k + 2) = B2 at *;generalize B (4 * k + 3) = B3 at *;clear hbW hB hH hSW hR0;have hk0 : (0 : Int) <= 4 * (k : Int) := by omega
   have hk1 : 4 * (k : Int) + 3 < 64 := by omega
   have n0 : (4 * (k : Int)).toNat = 4 * k := by omega
   have n1 : (4 * (k : Int) + 1).toNat = 4 * k + 1 := by omega
   have n2 : (4 * (k : Int) + 2).toNat = 4 * k + 2 := by omega
   have n3 : (4 * (k : Int) + 3).toNat = 4 * k + 3 := by omega
   have l0 : 4 * (k : Int) < 64 := by omega
   have l1 : 4 * (k : Int) + 1 < 64 := by omega
   have l2 : 4 * (k : Int) + 2 < 64 := by omega
   have m1 : (0 : Int) <= 4 * (k : Int) + 1 := by omega
   have m2 : (0 : Int) <= 4 * (k : Int) + 2 := by omega
   have m3 : (0 : Int) <= 4 * (k : Int) + 3 := by omega
   have r0 : IntKind.i64.wrap (4 * (k : Int)) = 4 * (k : Int) := by rw [IntKind.wrap_i64]; omega
   have r1 : IntKind.i64.wrap (4 * (k : Int) + 1) = 4 * (k : Int) + 1 := by rw [IntKind.wrap_i64]; omega
   have r2 : IntKind.i64.wrap (4 * (k : Int) + 2) = 4 * (k : Int) + 2 := by rw [IntKind.wrap_i64]; omega
   have r3 : IntKind.i64.wrap (4 * (k : Int) + 3) = 4 * (k : Int) + 3 := by rw [IntKind.wrap_i64]; omega
   go_wp2_with fail
   (refine zqrg 35 zqc zqc zqc zqc zqc ?_; simp only [List.take_succ_cons, List.take_zero]; (repeat (first | refine zq0 rfl ?_ | (refine zqr rfl ?_; apply Exists.intro))); refine zqbl ?_; intro γ hinj hbase; (repeat (first | (refine zqab rfl ?_; ((first | go_big_quiet_skip | (go_big_quiet_want; go_big_quiet_op; go_big_quiet_on)); refine wpQuiet_nil ?_)) | ((first | refine zqq rfl (fun _ => rfl) ?_ | ((try simp only [Nat.zero_add, Nat.reduceAdd]); apply zqce zqo; (focus rfl); (focus (first | exact zqy _ | exact zq3 _ _ | exact zqv _ | rfl)); (focus (exact zqu))) | ((try simp only [Nat.zero_add, Nat.reduceAdd]); apply zqav _ _ zqo; (focus rfl); (focus (intro W; (first | exact zqa8 _ | exact zqas _ | exact zqa6 _ | exact zqaw _ | exact zqah _ | exact zqag _))); (focus (first | exact zqai _ _ _ | exact zqaq _ _ | rfl)); (focus (exact zqu))) | ((try simp only [Nat.zero_add, Nat.reduceAdd]); apply zqbc zqo; (focus rfl); (focus (intro W; simp only [List.map_toArray, List.map_cons, List.map_nil]; first | (with_reducible exact zqiu _ W) | exact zqiu _ W)); (focus (exact zqu))) | (apply zqaz; (focus rfl); (focus rfl); (focus rfl); (focus (intro W hC hF; go_big_quiet_want; go_big_quiet_op; (first | go_big_quiet_on | (apply Exists.intro; refine ⟨fun _ => ?_, ?_⟩; (focus (fail)); go_big_quiet_on)); exact wpQuiet_nil rfl)); (focus (first | exact fun _ => ⟨rfl, rfl⟩ | exact fun h => absurd h (by decide))))); ((first | go_big_quiet_skip | (go_big_quiet_want; go_big_quiet_op; go_big_quiet_on)); refine wpQuiet_nil ?_)) | refine zqp rfl (fun _ => rfl) ?_ | ((try simp only [Nat.zero_add, Nat.reduceAdd]); apply zqar (zqaj (hbase _)); (focus rfl); (focus rfl); (focus rfl); (focus (first | exact zqy _ | exact zq3 _ _ | exact zqv _ | rfl)); rotate_left 3; (focus (exact zqcq)); rotate_right 3; (focus kernel_rfl); (focus (first | exact zqh _ _ _ | rfl)); (focus (first | exact zqan _ _ _ | exact zqa3 _ _ _ _ | kernel_rfl)); (focus (decide +kernel)); (focus (exact zqu))))))
   (refine zqih ?_; rintro _ ⟨mq, rfl⟩ hF; simp only [List.forall_mem_cons] at hF; obtain ⟨hv, -⟩ := hF)
   refine zqaa (i := 35) (fuel := 1) zqc rfl ?_
   intro K hK;refine zqm4 rfl (.tmp 31) (.tmp 65) rfl w (more wr mq) w.heap.size v0 k S (γ 34) _ _ rfl rfl (zqbp OWN.out (zqn wr mq)) (by omega) (zqnu hv (by first | (rw [hS.out]; done) | (rw [hS.out]; omega))) (Grew.more hG mq) (Nat.le_refl _) (Grew.more hG mq).size ?_
   intro g3 c3 w3 own3 hG3 hk3 hg3;refine hK _ _ ?_
   clear hK K
   (refine zqaa (i := 36) (fuel := 0) zqc rfl ?_; intro K hK; go_simp; refine hK _ _ ?_; clear hK K)
   (refine wpAny_done zqc ?_ _)
   go_wp2
   go_roundw
   case rel => exact ⟨k + 1, _, rfl, by omega, by go_num, hG3, own3⟩
   case measure => simp [intOf]; omega
  ·obtain rfl : k = 16 := by omega
   clear hlt hk;obtain ⟨g, c, rfl, -, hgl⟩ := OWN.out.form (by omega);go_wp2_with fail
   go_loopw [5, 7, 8, 9, 10, 11] (fun v i _ _ _ _ wr2 => ∃ t g c : Nat, 16 <= t /\ t <= 64 /\ i = .int .i64 t /\ v = .slice (some ⟨g, 0, none⟩) t c /\ Below w.heap.size w wr2 /\ Hid (wr2.ownsRow w.heap.size 120 1 (.slice (some ⟨g, 0, none⟩) t c) t (rowL .u32 S t))) (fun _ i _ _ _ _ _ => 64 - (intOf i).toNat)
   case atStart => exact ⟨16, g, c, by omega, by omega, rfl, rfl, hG, OWN⟩
   case round =>
    clear hG OWN hgl;obtain ⟨t, g, c, ht0, ht1, rfl, rfl, hG, OWN⟩ := hrel
    by_cases hlt : t < 64
    ·obtain ⟨u, rfl⟩ : ∃ u, t = u + 16 := ⟨t - 16, by omega⟩
     have hS : Hid (S (u + 16) = (sm1 (S (u + 14)) + S (u + 9) + sm0 (S (u + 1)) + S u) % 4294967296) := by
      have := hhigh.out (u + 16) (by omega) hlt;rw [show u + 16 - 2 = u + 14 by omega, show u + 16 - 7 = u + 9 by omega, show u + 16 - 15 = u + 1 by omega, show u + 16 - 16 = u by omega] at this;exact this
     have hWA : Hid (WordsAt wr g 0 (u + 16) S) := zqf4 OWN.out;have lg := hWA.out.1;have cx := hWA.out.at0 (u + 1) (by omega);have cy := hWA.out.at0 (u + 14) (by omega);have bx := hSW (u + 1);have by0 := hSW (u + 14);have b7 := hSW (u + 9);have b16 := hSW u;generalize S (u + 1) = X at *;generalize S (u + 14) = Y at *;have p7 := fun w => zqer X 7 w bx (by decide) (by decide);have p18 := fun w => zqer X 18 w bx (by decide) (by decide);have p3 := fun w => zrkt X w bx;have q17 := fun w => zqer Y 17 w by0 (by decide) (by decide);have q19 := fun w => zqer Y 19 w by0 (by decide) (by decide);have q10 := fun w => zrf0 Y w by0;have es0 := zrgq X;have es1 := zrg5 Y;have bs0 := zq2d bx;have bs1 := zq24 by0;unfold W32 at bx by0 b7 b16 bs0 bs1;clear hB hH hSW hR0;have hu0 : (0 : Int) <= u := by omega
     have n15 : ((u : Int) + 16 - 15).toNat = u + 1 := by omega
     have n2 : ((u : Int) + 16 - 2).toNat = u + 14 := by omega
     have n7 : ((u : Int) + 16 - 7).toNat = u + 9 := by omega
     have n16 : ((u : Int) + 16 - 16).toNat = u := by omega
     go_wp2_with fail
     ((first | (with_reducible refine zq5 zqc zqc ?_) | refine zqt zqc zqc ?_); (repeat (first | go_big_quiet_skip | (go_big_quiet_want; go_big_quiet_op; go_big_quiet_on))); refine wpQuiet_nil ?_; rintro _ ⟨mq, rfl⟩)
     have hR : Below wr.heap.size wr (more wr mq) := zqn wr mq;generalize more wr mq = w1 at *;go_wp2_with fail;refine (p7 _).mono ?_
     rintro e w2 ⟨rfl, hb9⟩;replace hR := Grew.trans hR hb9;clear hb9;go_wp2_with fail;refine (p18 _).mono ?_
     rintro e w3 ⟨rfl, hb9⟩;replace hR := Grew.trans hR hb9;clear hb9;go_wp2_with fail;refine (p3 _).mono ?_
     rintro e w4 ⟨rfl, hb9⟩;replace hR := Grew.trans hR hb9;clear hb9;go_wp2_with fail;refine (q17 _).mono ?_
     rintro e w5 ⟨rfl, hb9⟩;replace hR := Grew.trans hR hb9;clear hb9;go_wp2_with fail;refine (q19 _).mono ?_
     rintro e w6 ⟨rfl, hb9⟩;replace hR := Grew.trans hR hb9;clear hb9;go_wp2_with fail;refine (q10 _).mono ?_
     rintro e w7 ⟨rfl, hb9⟩;replace hR := Grew.trans hR hb9;clear hb9;have hG7 := Grew.trans hG hR;have OWN7 : Hid (w7.ownsRow w.heap.size 120 1 (.slice (some ⟨g, 0, none⟩) (u + 16) c) (u + 16) (rowL .u32 S (u + 16))) := zqbp OWN.out hR;have hWB := hWA.out.later hR;have lg7 := hWB.1;have c7 := hWB.at0 (u + 9) (by omega);have c16 := hWB.at0 u (by omega);generalize S (u + 9) = Z at *;generalize S u = Q0 at *;clear hWB cx cy lg p7 p18 p3 q17 q19 q10 hR OWN hG hWA;go_wp2_with fail
     (refine zqrg 17 zqc zqc zqc zqc zqc ?_; simp only [List.take_succ_cons, List.take_zero]; (repeat (first | refine zq0 rfl ?_ | (refine zqr rfl ?_; apply Exists.intro))); refine zqbl ?_; intro γ hinj hbase; (repeat (first | (refine zqab rfl ?_; ((first | go_big_quiet_skip | (go_big_quiet_want; go_big_quiet_op; go_big_quiet_on)); refine wpQuiet_nil ?_)) | ((first | refine zqq rfl (fun _ => rfl) ?_ | ((try simp only [Nat.zero_add, Nat.reduceAdd]); apply zqce zqo; (focus rfl); (focus (first | exact zqy _ | exact zq3 _ _ | exact zqv _ | rfl)); (focus (exact zqu))) | ((try simp only [Nat.zero_add, Nat.reduceAdd]); apply zqav _ _ zqo; (focus rfl); (focus (intro W; (first | exact zqa8 _ | exact zqas _ | exact zqa6 _ | exact zqaw _ | exact zqah _ | exact zqag _))); (focus (first | exact zqai _ _ _ | exact zqaq _ _ | rfl)); (focus (exact zqu))) | ((try simp only [Nat.zero_add, Nat.reduceAdd]); apply zqbc zqo; (focus rfl); (focus (intro W; simp only [List.map_toArray, List.map_cons, List.map_nil]; first | (with_reducible exact zqiu _ W) | exact zqiu _ W)); (focus (exact zqu))) | (apply zqaz; (focus rfl); (focus rfl); (focus rfl); (focus (intro W hC hF; go_big_quiet_want; go_big_quiet_op; (first | go_big_quiet_on | (apply Exists.intro; refine ⟨fun _ => ?_, ?_⟩; (focus (fail)); go_big_quiet_on)); exact wpQuiet_nil rfl)); (focus (first | exact fun _ => ⟨rfl, rfl⟩ | exact fun h => absurd h (by decide))))); ((first | go_big_quiet_skip | (go_big_quiet_want; go_big_quiet_op; go_big_quiet_on)); refine wpQuiet_nil ?_)) | refine zqp rfl (fun _ => rfl) ?_ | ((try simp only [Nat.zero_add, Nat.reduceAdd]); apply zqar (zqaj (hbase _)); (focus rfl); (focus rfl); (focus rfl); (focus (first | exact zqy _ | exact zq3 _ _ | exact zqv _ | rfl)); rotate_left 3; (focus (exact zqcq)); rotate_right 3; (focus kernel_rfl); (focus (first | exact zqh _ _ _ | rfl)); (focus (first | exact zqan _ _ _ | exact zqa3 _ _ _ _ | kernel_rfl)); (focus (decide +kernel)); (focus (exact zqu))))))
     (refine zqih ?_; rintro _ ⟨mq, rfl⟩ hF; simp only [List.forall_mem_cons] at hF; obtain ⟨hv, -⟩ := hF)
     refine zqaa (i := 17) (fuel := 1) zqc rfl ?_
     intro K hK;refine zqm4 rfl (.tmp 97) (.tmp 113) rfl w (more w7 mq) w.heap.size (.slice (some ⟨g, 0, none⟩) (u + 16) c) (u + 16) S (γ 16) _ _ rfl rfl (zqbp OWN7.out (zqn w7 mq)) (by omega) (zqnu hv (by first | (rw [hS.out]; done) | (rw [hS.out]; omega))) (Grew.more hG7 mq) (Nat.le_refl _) (Grew.more hG7 mq).size ?_
     intro g3 c3 w3 own3 hG3 hk3 hg3;refine hK _ _ ?_
     clear hK K
     (refine zqaa (i := 18) (fuel := 0) zqc rfl ?_; intro K hK; go_simp; refine hK _ _ ?_; clear hK K)
     (refine wpAny_done zqc ?_ _)
     go_wp2
     go_roundw
     case rel =>
      iterate 54 (apply Exists.intro)
      exact ⟨⟨u + 16 + 1, g3, c3, by omega, by omega, by go_num, rfl, hG3, own3⟩, rfl⟩
     case measure => simp [intOf]; omega
    ·obtain rfl : t = 64 := by omega
     clear hlt ht0 ht1 hlow hhigh;have hWA : Hid (WordsAt wr g 0 64 S) := zqf4 OWN.out;clear OWN;go_wp2_with fail;refine (zrkx _).mono ?_
     rintro e w1 ⟨rfl, hk1, hb1⟩;have hK1 := zqpi hk1;have hS1 := hWA.out.later hb1;have hG1 := Grew.trans hG hb1;generalize wr.heap.size = gk at *;obtain ⟨gv, cv, w2, hr2, wv2, hb2⟩ := zqqx w1 212 gh 0 ch H (HH.out.later hG1);have HK2 : Hid (WordsAt w2 gk 0 64 zqe5) := hK1.later hb2;have HS2 : Hid (WordsAt w2 g 0 64 S) := hS1.later hb2;have hG2 := Grew.trans hG1 hb2;have WV2 : Hid (WordsAt w2 gv 0 8 H) := wv2;clear wv2 hK1 hS1 hG1 hb1 hb2 hk1 hWA hG;go_wp2_with fail
     go_loopw [13, 14, 15, 16, 17, 18, 19, 20, 21, 22, 23, 24] (fun v i _ _ _ _ _ _ _ _ _ _ wr3 => ∃ t g c : Nat, t <= 64 /\ i = .int .i64 t /\ v = .slice (some ⟨g, 0, none⟩) 8 c /\ Below w2.heap.size w2 wr3 /\ Hid (WordsAt wr3 g 0 8 (R t))) (fun _ i _ _ _ _ _ _ _ _ _ _ _ => 64 - (intOf i).toNat)
     case atStart => exact ⟨0, gv, cv, by omega, rfl, rfl, Grew.refl _, by rw [R0.out]; exact WV2⟩
     case round =>
      clear WV2;obtain ⟨t, g9, c9, ht, rfl, rfl, hL, WV⟩ := hrel
      by_cases hlt : t < 64
      ·have hs := hR0 t
       have E : Hid (R (t + 1) = rnd S t (R t)) := RS.out t;have lv := WV.out.1;have v0 := WV.out.at0 0 (by decide);have v1 := WV.out.at0 1 (by decide);have v2 := WV.out.at0 2 (by decide);have v3 := WV.out.at0 3 (by decide);have v4 := WV.out.at0 4 (by decide);have v5 := WV.out.at0 5 (by decide);have v6 := WV.out.at0 6 (by decide);have v7 := WV.out.at0 7 (by decide);clear WV;have it0 : (0 : Int) <= (t : Int) := by omega
       have it1 : (t : Int) < 64 := by omega
       generalize R t = s at *;have b0 := hs 0 (by decide);have b1 := hs 1 (by decide);have b2 := hs 2 (by decide);have b3 := hs 3 (by decide);have b4 := hs 4 (by decide);have b5 := hs 5 (by decide);have b6 := hs 6 (by decide);have b7 := hs 7 (by decide);have bW := hSW t;have bC := zqwr t;have bc := zq2h b4 b5 b6;have bg := zq4c b4;have bm := zq3f b0 b1 b2;have bh := zq27 b0;have hc := zrij (s 4) (s 5) (s 6);have hm := zrci b0 b1 b2;have hg1 := zrhc (s 4);have hg0 := zrhq (s 0);have et1 := zq1z S t s;have et2 := zq4j s;have bt1 := zqxt S t s;have bt2 := zqxo s;have p6 := fun w => zqer (s 4) 6 w b4 (by decide) (by decide);have p11 := fun w => zqer (s 4) 11 w b4 (by decide) (by decide);have p25 := fun w => zqer (s 4) 25 w b4 (by decide) (by decide);have p2 := fun w => zqer (s 0) 2 w b0 (by decide) (by decide)
       have p13 := fun w => zqer (s 0) 13 w b0 (by decide) (by decide);have p22 := fun w => zqer (s 0) 22 w b0 (by decide) (by decide);unfold W32 at b0 b1 b2 b3 b4 b5 b6 b7 bW bC bc bg bm bh bt1 bt2;clear hs hB hH hSW hR0;go_wp2_with fail
       ((first | (with_reducible refine zq5 zqc zqc ?_) | refine zqt zqc zqc ?_); (repeat (first | go_big_quiet_skip | (go_big_quiet_want; go_big_quiet_op; go_big_quiet_on))); refine wpQuiet_nil ?_; rintro _ ⟨mq, rfl⟩)
       have hR : Below wr.heap.size wr (more wr mq) := zqn wr mq;generalize more wr mq = w3 at *;clear v0 v1 v2 v3 v4 v5 v6 v7;have lk := (HK2.out.later (Grew.trans hL hR)).1;have ck := (HK2.out.later (Grew.trans hL hR)).at0 t hlt;have ls := (HS2.out.later (Grew.trans hL hR)).1;have cs := (HS2.out.later (Grew.trans hL hR)).at0 t hlt;go_wp2_with fail
       ((first | (with_reducible refine zq5 zqc zqc ?_) | refine zqt zqc zqc ?_); (repeat (first | go_big_quiet_skip | (go_big_quiet_want; go_big_quiet_op; first | go_big_quiet_on | (apply Exists.intro; refine ⟨fun _ => ?_, ?_⟩; (focus (first | (with_reducible exact Calls.of_more (p6 _)) | (with_reducible exact Calls.of_more (p11 _)) | (with_reducible exact Calls.of_more (p25 _)))); go_big_quiet_on)))); refine wpQuiet_nil ?_; rintro _ ⟨mq, rfl⟩)
       replace hR : Below wr.heap.size wr (more w3 mq) := Grew.trans hR (zqn w3 mq);clear lk ck ls cs;generalize more w3 mq = w4 at *;go_wp2_with fail;refine (p2 _).mono ?_
       rintro e w5 ⟨rfl, hb9⟩;replace hR := Grew.trans hR hb9;clear hb9;go_wp2_with fail;refine (p13 _).mono ?_
       rintro e w6 ⟨rfl, hb9⟩;replace hR := Grew.trans hR hb9;clear hb9;go_wp2_with fail;refine (p22 _).mono ?_
       rintro e w7 ⟨rfl, hb9⟩;replace hR := Grew.trans hR hb9;clear hb9;clear p6 p11 p25 p2 p13 p22;go_wp2
       go_roundw
       case rel =>
        have W9 := zqoz (G := R (t + 1)) (zqj w7 (.cells #[.int .u32 ((tOne S t s + tTwo s) % 4294967296), .int .u32 (s 0), .int .u32 (s 1), .int .u32 (s 2), .int .u32 ((s 3 + tOne S t s) % 4294967296), .int .u32 (s 4), .int .u32 (s 5), .int .u32 (s 6)] 120) w7.heap.size rfl) (by rw [E.out]; rfl) (by rw [E.out]; rfl) (by rw [E.out]; rfl) (by rw [E.out]; rfl) (by rw [E.out]; rfl) (by rw [E.out]; rfl) (by rw [E.out]; rfl) (by rw [E.out]; rfl)
        first | exact ⟨t + 1, _, _, by omega, by go_num, rfl, Grew.alloc (Grew.trans hL hR) _, W9⟩ | ((repeat' apply Exists.intro) <;> first | exact ⟨⟨t + 1, _, _, by omega, by go_num, rfl, Grew.alloc (Grew.trans hL hR) _, W9⟩, rfl⟩ | exact undef)
       case measure => simp [intOf]; omega
      ·obtain rfl : t = 64 := by omega
       clear hlt ht R0 RS HS2 HK2 hr2;have hs := hR0 64;have F9 : Hid (∀ i, (H i + R 64 i) % 4294967296 = C i) := F8;clear F8;generalize R 64 = s at *;obtain ⟨w5, rfl⟩ : ∃ w5, w5 = wr := ⟨_, rfl⟩
       go_wp2_with fail
       go_loopw [25, 26] (fun v i wr4 => ∃ (j : Nat) (u0 : Value), u0 = v /\ j <= 8 /\ i = .int .i64 j /\ Below w5.heap.size w5 wr4 /\ Hid (wr4.ownsRow w5.heap.size 120 1 u0 j (rowL .u32 C j))) (fun _ i _ => 8 - (intOf i).toNat)
       case atStart => exact ⟨0, _, rfl, by omega, rfl, Grew.refl _, World.ownsRow_nil _ _ _ _⟩
       case round =>
        obtain ⟨j, u0, rfl, hj, rfl, hM, OWN⟩ := hrel
        by_cases hlt : j < 8
        ·have hWH := HH.out.later (Grew.trans (Grew.trans hG2 hL) hM)
         have lh := hWH.1;have chj := hWH.at0 j hlt;have hWV := WV.out.later hM;have lv := hWV.1;have cvj := hWV.at0 j hlt;have bH := hH j hlt;have bs := hs j hlt;have ej : Hid ((H j + s j) % 4294967296 = C j) := F9.out j;have ij0 : (0 : Int) <= (j : Int) := by omega
         have ij1 : (j : Int) < 8 := by omega
         generalize H j = X at *;generalize s j = Y at *;unfold W32 at bH bs;clear hWH hWV hB hH hSW hR0 hs F9;go_wp2_with fail
         (refine zqrg 11 zqc zqc zqc zqc zqc ?_; simp only [List.take_succ_cons, List.take_zero]; (repeat (first | refine zq0 rfl ?_ | (refine zqr rfl ?_; apply Exists.intro))); refine zqbl ?_; intro γ hinj hbase; (repeat (first | (refine zqab rfl ?_; ((first | go_big_quiet_skip | (go_big_quiet_want; go_big_quiet_op; go_big_quiet_on)); refine wpQuiet_nil ?_)) | ((first | refine zqq rfl (fun _ => rfl) ?_ | ((try simp only [Nat.zero_add, Nat.reduceAdd]); apply zqce zqo; (focus rfl); (focus (first | exact zqy _ | exact zq3 _ _ | exact zqv _ | rfl)); (focus (exact zqu))) | ((try simp only [Nat.zero_add, Nat.reduceAdd]); apply zqav _ _ zqo; (focus rfl); (focus (intro W; (first | exact zqa8 _ | exact zqas _ | exact zqa6 _ | exact zqaw _ | exact zqah _ | exact zqag _))); (focus (first | exact zqai _ _ _ | exact zqaq _ _ | rfl)); (focus (exact zqu))) | ((try simp only [Nat.zero_add, Nat.reduceAdd]); apply zqbc zqo; (focus rfl); (focus (intro W; simp only [List.map_toArray, List.map_cons, List.map_nil]; first | (with_reducible exact zqiu _ W) | exact zqiu _ W)); (focus (exact zqu))) | (apply zqaz; (focus rfl); (focus rfl); (focus rfl); (focus (intro W hC hF; go_big_quiet_want; go_big_quiet_op; (first | go_big_quiet_on | (apply Exists.intro; refine ⟨fun _ => ?_, ?_⟩; (focus (fail)); go_big_quiet_on)); exact wpQuiet_nil rfl)); (focus (first | exact fun _ => ⟨rfl, rfl⟩ | exact fun h => absurd h (by decide))))); ((first | go_big_quiet_skip | (go_big_quiet_want; go_big_quiet_op; go_big_quiet_on)); refine wpQuiet_nil ?_)) | refine zqp rfl (fun _ => rfl) ?_ | ((try simp only [Nat.zero_add, Nat.reduceAdd]); apply zqar (zqaj (hbase _)); (focus rfl); (focus rfl); (focus rfl); (focus (first | exact zqy _ | exact zq3 _ _ | exact zqv _ | rfl)); rotate_left 3; (focus (exact zqcq)); rotate_right 3; (focus kernel_rfl); (focus (first | exact zqh _ _ _ | rfl)); (focus (first | exact zqan _ _ _ | exact zqa3 _ _ _ _ | kernel_rfl)); (focus (decide +kernel)); (focus (exact zqu))))))
         (refine zqih ?_; rintro _ ⟨mq, rfl⟩ hF; simp only [List.forall_mem_cons] at hF; obtain ⟨hv, -⟩ := hF)
         refine zqaa (i := 11) (fuel := 1) zqc rfl ?_
         intro K hK;refine zqm4 rfl (.tmp 213) (.tmp 223) rfl w5 (more wr mq) w5.heap.size u0 j C (γ 10) _ _ rfl rfl (zqbp OWN.out (zqn wr mq)) (by omega) (zqnu hv (by first | exact ej.out | (rw [<- ej.out]; omega))) (Grew.more hM mq) (Nat.le_refl _) (Grew.more hM mq).size ?_
         intro g3 c3 w3 own3 hG3 hk3 hg3;refine hK _ _ ?_
         clear hK K
         (refine zqaa (i := 12) (fuel := 0) zqc rfl ?_; intro K hK; go_simp; refine hK _ _ ?_; clear hK K)
         (refine wpAny_done zqc ?_ _)
         go_wp2
         go_roundw
         case rel => (repeat' apply Exists.intro) <;> first | exact ⟨⟨j + 1, _, rfl, by omega, by go_num, hG3, own3⟩, rfl⟩ | exact undef
         case measure => simp [intOf]; omega
        ·obtain rfl : j = 8 := by omega
         clear hlt;obtain ⟨g8, c8, rfl, -, -⟩ := OWN.out.form (by omega);go_wp2;go_ret;exact ⟨g8, c8, rfl, zqf4 OWN.out, Grew.trans (Grew.trans hG2 hL) hM⟩
end Go.Proofs.YtconieddcjpbjaaGreatDoor
