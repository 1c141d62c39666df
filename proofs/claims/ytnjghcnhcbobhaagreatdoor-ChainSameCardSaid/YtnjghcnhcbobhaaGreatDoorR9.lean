/- R9 -/
import Derived.Test.YtnjghcnhcbobhaaGreatDoorOw
import Derived.Test.YtnjghcnhcbobhaaGreatDoorSw
import Derived.Test.YtnjghcnhcbobhaaGreatDoorMa
import Derived.Test.YtnjghcnhcbobhaaGreatDoorShelf
set_option linter.unusedVariables false
set_option linter.unusedSimpArgs false
set_option maxRecDepth 100000
set_option maxHeartbeats 4000000
namespace Go.Proofs.YtnjghcnhcbobhaaGreatDoor
open Go.RowKit
attribute [local irreducible] strOf shaF zqap padB zqbv zqb5
theorem zqmq {k : IntKind} {w : World} {g : Nat} {x y : Int} {t : TypeId} (h : Full g #[.int k x] t w) (e : x = y) : zqd w g = some (.cells #[.int k y] t) := by subst e; exact h
theorem zq2v {w w' : World} {g i : Nat} {v : Value} (hb : Below w.heap.size w w') (hg : g < w.heap.size) (h : cellOf (zqd w g) i = some v) : cellOf (zqd w' g) i = some v := by
 rw [show zqd w' g = zqd w g from hb.block g hg]; exact h
def BytesAt (w : World) (g o n : Nat) (G : Nat -> Int) : Prop := g < w.heap.size /\ ∀ i, i < n -> cellOf (zqd w g) (o + i) = some (.int .u8 (G i))
theorem BytesAt.later {w w' : World} {g o n : Nat} {G : Nat -> Int} (h : BytesAt w g o n G) (hb : Below w.heap.size w w') : BytesAt w' g o n G :=
 ⟨Nat.lt_of_lt_of_le h.1 hb.size, fun i hi => zq2v hb h.1 (h.2 i hi)⟩
theorem zqos {w : World} {g n : Nat} {G : Nat -> Int} {t : TypeId} {fr : Nat × Nat} (h : zqd w g = some (.cells (ints .u32 n G) t fr)) : WordsAt w g 0 n G :=
 ⟨zqa h, fun i hi => by rw [h, zqbs, Nat.zero_add, zqal _ _ _ _ hi]⟩
theorem WordsAt.at0 {w : World} {g n : Nat} {G : Nat -> Int} (h : WordsAt w g 0 n G) (i : Nat) (hi : i < n) : cellOf (zqd w g) i = some (.int .u32 (G i)) := by
 have := h.2 i hi;rwa [Nat.zero_add] at this
set_option maxHeartbeats 8000000 in
theorem zqrj (H B : Nat -> Int) (gh ch gb ob cb : Nat) (w : World) (hB : Bytes 64 B) (hH : Words 8 H) (hh : WordsAt w gh 0 8 H) (hb : BytesAt w gb ob 64 B) :
  Calls Tryz.prog 135 #[.slice (some ⟨gh, 0, none⟩) 8 ch, .slice (some ⟨gb, ob, none⟩) 64 cb] w fun e w' => ∃ g c, e = .returned (.slice (some ⟨g, 0, none⟩) 8 c) /\ WordsAt w' g 0 8 (cmp H B) /\ Below w.heap.size w w' := by
 have HB : Hid (BytesAt w gb ob 64 B) := hb;have HH : Hid (WordsAt w gh 0 8 H) := hh;clear hb hh;have hlow : Hid (∀ i, i < 16 -> sch B 64 i = wd B i) := zrfu B;have hhigh : Hid (∀ t, 16 <= t -> t < 64 -> sch B 64 t = (sm1 (sch B 64 (t - 2)) + sch B 64 (t - 7) + sm0 (sch B 64 (t - 15)) + sch B 64 (t - 16)) % 4294967296) := zq6p B;have hSW := zqiy B hB 64;have hR0 := zqkv (sch B 64) H hH;have F8 : Hid (∀ i, (H i + runR (sch B 64) H 64 i) % 4294967296 = cmp H B i) := fun _ => rfl;have R0 : Hid (runR (sch B 64) H 0 = H) := rfl;have RS : Hid (∀ k, runR (sch B 64) H (k + 1) = rnd (sch B 64) k (runR (sch B 64) H k)) := fun _ => rfl;generalize cmp H B = C at *;generalize sch B 64 = S at *;generalize hRR : runR S H = R at *;clear hRR
 go_enter Tryz.func135, Tryz.ntmps135
 go_wp2_with fail
 go_loopw [5, 6] (fun v i wr => ∃ (k : Nat) (v0 : Value), v0 = v /\ k <= 16 /\ i = .int .i64 k /\ Below w.heap.size w wr /\ Hid (wr.ownsRow w.heap.size 22 1 v0 k (rowL .u32 S k))) (fun _ i _ => 16 - (intOf i).toNat)
 case atStart => exact ⟨0, _, rfl, by omega, rfl, Grew.refl _, World.ownsRow_nil _ _ _ _⟩
 case round =>
  obtain ⟨k, v0, rfl, hk, rfl, hG, OWN⟩ := hrel
  by_cases hlt : k < 16
  ·have hbW := (HB.out).later hG
   have hgb := hbW.1;have c0 := hbW.2 (4 * k) (by omega);have c1 := hbW.2 (4 * k + 1) (by omega);have c2 := hbW.2 (4 * k + 2) (by omega);have c3 := hbW.2 (4 * k + 3) (by omega);have b0 := hB (4 * k) (by omega);have b1 := hB (4 * k + 1) (by omega);have b2 := hB (4 * k + 2) (by omega);have b3 := hB (4 * k + 3) (by omega);have hS : Hid (S k = B (4 * k) * 16777216 + B (4 * k + 1) * 65536 + B (4 * k + 2) * 256 + B (4 * k + 3)) := hlow.out k hlt;generalize B (4 * k) = B0 at *;generalize B (4 * k + 1) = B1 at *;generalize B (4 * k + 2) = B2 at *;generalize B (4 * k + 3) = B3 at *;clear hbW hB hH hSW hR0;have hk0 : (0 : Int) <= 4 * (k : Int) := by omega
   have hk1 : 4 * (k : Int) + 3 < 64 := by omega
   have n0 : (4 * (k : Int)).toNat = 4 * k := by omega
   have n1 : (4 * (k : Int) + 1).toNat = 4 * k + 1 := by omega
   have n2 : (4 * (k : Int) + 2).toNat = 4 * k + 2 := by omega
   have n3 : (4 * (k : Int) + 3).toNat = 4 * k + 3 := by omega
   have l0 : 4 * (k : Int) < 64 := by omega
   have l1 : 4 * (k : Int) + 1 < 64 := by omega
   have l2 : 4 * (k : Int) + 2 < 64 := by omega
   have m1 : (0 : Int) <= 4 * (k : Int) + 1 := by omega
   have m2 : (0 : Int) <= 4 * (k : Int) + 2 := by omega
   have m3 : (0 : Int) <= 4 * (k : Int) + 3 := by omega
   have r0 : IntKind.i64.wrap (4 * (k : Int)) = 4 * (k : Int) := by rw [IntKind.wrap_i64]; omega
   have r1 : IntKind.i64.wrap (4 * (k : Int) + 1) = 4 * (k : Int) + 1 := by rw [IntKind.wrap_i64]; omega
   have r2 : IntKind.i64.wrap (4 * (k : Int) + 2) = 4 * (k : Int) + 2 := by rw [IntKind.wrap_i64]; omega
   have r3 : IntKind.i64.wrap (4 * (k : Int) + 3) = 4 * (k : Int) + 3 := by rw [IntKind.wrap_i64]; omega
   go_wp2_with fail
   (refine zqha 35 zqb zqb zqb zqb zqb ?_; simp only [List.take_succ_cons, List.take_zero]; (repeat (first | refine zqx rfl ?_ | (refine zqn rfl ?_; apply Exists.intro))); refine zqbn ?_; intro γ hinj hbase; (repeat (first | (refine zqy rfl ?_; ((first | go_big_quiet_skip | (go_big_quiet_want; go_big_quiet_op; go_big_quiet_on)); refine wpQuiet_nil ?_)) | ((first | refine zqk rfl (fun _ => rfl) ?_ | ((try simp only [Nat.zero_add, Nat.reduceAdd]); apply zqci zqt; (focus rfl); (focus (first | exact zq7 _ | exact zqac _ _ | exact zq4 _ | rfl)); (focus (exact zq2))) | ((try simp only [Nat.zero_add, Nat.reduceAdd]); apply zqa9 _ _ zqt; (focus rfl); (focus (intro W; (first | exact zqbp _ | exact zqa7 _ | exact zero_num _ | exact zqbc _ | exact zero_rnode _ | exact zqax _))); (focus (first | exact zqay _ _ _ | exact zqa6 _ _ | rfl)); (focus (exact zq2))) | ((try simp only [Nat.zero_add, Nat.reduceAdd]); apply zqbd zqt; (focus rfl); (focus (intro W; simp only [List.map_toArray, List.map_cons, List.map_nil]; first | (with_reducible exact zqih _ W) | exact zqih _ W)); (focus (exact zq2))) | (apply zqab; (focus rfl); (focus rfl); (focus rfl); (focus (intro W hC hF; go_big_quiet_want; go_big_quiet_op; (first | go_big_quiet_on | (apply Exists.intro; refine ⟨fun _ => ?_, ?_⟩; (focus (fail)); go_big_quiet_on)); exact wpQuiet_nil rfl)); (focus (first | exact fun _ => ⟨rfl, rfl⟩ | exact fun h => absurd h (by decide))))); ((first | go_big_quiet_skip | (go_big_quiet_want; go_big_quiet_op; go_big_quiet_on)); refine wpQuiet_nil ?_)) | refine zql rfl (fun _ => rfl) ?_ | ((try simp only [Nat.zero_add, Nat.reduceAdd]); apply zqbb (zqaw (hbase _)); (focus rfl); (focus rfl); (focus rfl); (focus (first | exact zq7 _ | exact zqac _ _ | exact zq4 _ | rfl)); rotate_left 3; (focus (exact zqc3)); rotate_right 3; (focus kernel_rfl); (focus (first | exact zqj _ _ _ | rfl)); (focus (first | exact zqaz _ _ _ | exact zqbj _ _ _ _ | kernel_rfl)); (focus (decide +kernel)); (focus (exact zq2))))))
   (refine zqdz ?_; rintro _ ⟨mq, rfl⟩ hF; simp only [List.forall_mem_cons] at hF; obtain ⟨hv, -⟩ := hF)
   refine zqu (i := 35) (fuel := 1) zqb rfl ?_
   intro K hK;refine zqlr rfl (.tmp 31) (.tmp 65) rfl w (more wr mq) w.heap.size v0 k S (γ 34) _ _ rfl rfl (zqc2 OWN.out (zqo wr mq)) (by omega) (zqmq hv (by first | (rw [hS.out]; done) | (rw [hS.out]; omega))) (Grew.more hG mq) (Nat.le_refl _) (Grew.more hG mq).size ?_
   intro g3 c3 w3 own3 hG3 hk3 hg3;refine hK _ _ ?_
   clear hK K
   (refine zqu (i := 36) (fuel := 0) zqb rfl ?_; intro K hK; go_simp; refine hK _ _ ?_; clear hK K)
   (refine wpAny_done zqb ?_ _)
   go_wp2
   go_roundw
   case rel => exact ⟨k + 1, _, rfl, by omega, by go_num, hG3, own3⟩
   case measure => simp [intOf]; omega
  ·obtain rfl : k = 16 := by omega
   clear hlt hk;obtain ⟨g, c, rfl, -, hgl⟩ := OWN.out.form (by omega);go_wp2_with fail
   go_loopw [5, 7, 8, 9, 10, 11] (fun v i _ _ _ _ wr2 => ∃ t g c : Nat, 16 <= t /\ t <= 64 /\ i = .int .i64 t /\ v = .slice (some ⟨g, 0, none⟩) t c /\ Below w.heap.size w wr2 /\ Hid (wr2.ownsRow w.heap.size 22 1 (.slice (some ⟨g, 0, none⟩) t c) t (rowL .u32 S t))) (fun _ i _ _ _ _ _ => 64 - (intOf i).toNat)
   case atStart => exact ⟨16, g, c, by omega, by omega, rfl, rfl, hG, OWN⟩
   case round =>
    clear hG OWN hgl;obtain ⟨t, g, c, ht0, ht1, rfl, rfl, hG, OWN⟩ := hrel
    by_cases hlt : t < 64
    ·obtain ⟨u, rfl⟩ : ∃ u, t = u + 16 := ⟨t - 16, by omega⟩
     have hS : Hid (S (u + 16) = (sm1 (S (u + 14)) + S (u + 9) + sm0 (S (u + 1)) + S u) % 4294967296) := by
      have := hhigh.out (u + 16) (by omega) hlt;rw [show u + 16 - 2 = u + 14 by omega, show u + 16 - 7 = u + 9 by omega, show u + 16 - 15 = u + 1 by omega, show u + 16 - 16 = u by omega] at this;exact this
     have hWA : Hid (WordsAt wr g 0 (u + 16) S) := zqfm OWN.out;have lg := hWA.out.1;have cx := hWA.out.at0 (u + 1) (by omega);have cy := hWA.out.at0 (u + 14) (by omega);have bx := hSW (u + 1);have by0 := hSW (u + 14);have b7 := hSW (u + 9);have b16 := hSW u;generalize S (u + 1) = X at *;generalize S (u + 14) = Y at *;have p7 := fun w => zqej X 7 w bx (by decide) (by decide);have p18 := fun w => zqej X 18 w bx (by decide) (by decide);have p3 := fun w => zrp2 X w bx;have q17 := fun w => zqej Y 17 w by0 (by decide) (by decide);have q19 := fun w => zqej Y 19 w by0 (by decide) (by decide);have q10 := fun w => zri5 Y w by0;have es0 := zri1 X;have es1 := zrky Y;have bs0 := zq4w bx;have bs1 := zq05 by0;unfold W32 at bx by0 b7 b16 bs0 bs1;clear hB hH hSW hR0;have hu0 : (0 : Int) <= u := by omega
     have n15 : ((u : Int) + 16 - 15).toNat = u + 1 := by omega
     have n2 : ((u : Int) + 16 - 2).toNat = u + 14 := by omega
     have n7 : ((u : Int) + 16 - 7).toNat = u + 9 := by omega
     have n16 : ((u : Int) + 16 - 16).toNat = u := by omega
     go_wp2_with fail
     ((first | (with_reducible refine zq8 zqb zqb ?_) | refine zqz zqb zqb ?_); (repeat (first | go_big_quiet_skip | (go_big_quiet_want; go_big_quiet_op; go_big_quiet_on))); refine wpQuiet_nil ?_; rintro _ ⟨mq, rfl⟩)
     have hR : Below wr.heap.size wr (more wr mq) := zqo wr mq;generalize more wr mq = w1 at *;go_wp2_with fail;refine (p7 _).mono ?_
     rintro e w2 ⟨rfl, hb9⟩;replace hR := Grew.trans hR hb9;clear hb9;go_wp2_with fail;refine (p18 _).mono ?_
     rintro e w3 ⟨rfl, hb9⟩;replace hR := Grew.trans hR hb9;clear hb9;go_wp2_with fail;refine (p3 _).mono ?_
     rintro e w4 ⟨rfl, hb9⟩;replace hR := Grew.trans hR hb9;clear hb9;go_wp2_with fail;refine (q17 _).mono ?_
     rintro e w5 ⟨rfl, hb9⟩;replace hR := Grew.trans hR hb9;clear hb9;go_wp2_with fail;refine (q19 _).mono ?_
     rintro e w6 ⟨rfl, hb9⟩;replace hR := Grew.trans hR hb9;clear hb9;go_wp2_with fail;refine (q10 _).mono ?_
     rintro e w7 ⟨rfl, hb9⟩;replace hR := Grew.trans hR hb9;clear hb9;have hG7 := Grew.trans hG hR;have OWN7 : Hid (w7.ownsRow w.heap.size 22 1 (.slice (some ⟨g, 0, none⟩) (u + 16) c) (u + 16) (rowL .u32 S (u + 16))) := zqc2 OWN.out hR;have hWB := hWA.out.later hR;have lg7 := hWB.1;have c7 := hWB.at0 (u + 9) (by omega);have c16 := hWB.at0 u (by omega);generalize S (u + 9) = Z at *;generalize S u = Q0 at *;clear hWB cx cy lg p7 p18 p3 q17 q19 q10 hR OWN hG hWA;go_wp2_with fail
     (refine zqha 17 zqb zqb zqb zqb zqb ?_; simp only [List.take_succ_cons, List.take_zero]; (repeat (first | refine zqx rfl ?_ | (refine zqn rfl ?_; apply Exists.intro))); refine zqbn ?_; intro γ hinj hbase; (repeat (first | (refine zqy rfl ?_; ((first | go_big_quiet_skip | (go_big_quiet_want; go_big_quiet_op; go_big_quiet_on)); refine wpQuiet_nil ?_)) | ((first | refine zqk rfl (fun _ => rfl) ?_ | ((try simp only [Nat.zero_add, Nat.reduceAdd]); apply zqci zqt; (focus rfl); (focus (first | exact zq7 _ | exact zqac _ _ | exact zq4 _ | rfl)); (focus (exact zq2))) | ((try simp only [Nat.zero_add, Nat.reduceAdd]); apply zqa9 _ _ zqt; (focus rfl); (focus (intro W; (first | exact zqbp _ | exact zqa7 _ | exact zero_num _ | exact zqbc _ | exact zero_rnode _ | exact zqax _))); (focus (first | exact zqay _ _ _ | exact zqa6 _ _ | rfl)); (focus (exact zq2))) | ((try simp only [Nat.zero_add, Nat.reduceAdd]); apply zqbd zqt; (focus rfl); (focus (intro W; simp only [List.map_toArray, List.map_cons, List.map_nil]; first | (with_reducible exact zqih _ W) | exact zqih _ W)); (focus (exact zq2))) | (apply zqab; (focus rfl); (focus rfl); (focus rfl); (focus (intro W hC hF; go_big_quiet_want; go_big_quiet_op; (first | go_big_quiet_on | (apply Exists.intro; refine ⟨fun _ => ?_, ?_⟩; (focus (fail)); go_big_quiet_on)); exact wpQuiet_nil rfl)); (focus (first | exact fun _ => ⟨rfl, rfl⟩ | exact fun h => absurd h (by decide))))); ((first | go_big_quiet_skip | (go_big_quiet_want; go_big_quiet_op; go_big_quiet_on)); refine wpQuiet_nil ?_)) | refine zql rfl (fun _ => rfl) ?_ | ((try simp only [Nat.zero_add, Nat.reduceAdd]); apply zqbb (zqaw (hbase _)); (focus rfl); (focus rfl); (focus rfl); (focus (first | exact zq7 _ | exact zqac _ _ | exact zq4 _ | rfl)); rotate_left 3; (focus (exact zqc3)); rotate_right 3; (focus kernel_rfl); (focus (first | exact zqj _ _ _ | rfl)); (focus (first | exact zqaz _ _ _ | exact zqbj _ _ _ _ | kernel_rfl)); (focus (decide +kernel)); (focus (exact zq2))))))
     (refine zqdz ?_; rintro _ ⟨mq, rfl⟩ hF; simp only [List.forall_mem_cons] at hF; obtain ⟨hv, -⟩ := hF)
     refine zqu (i := 17) (fuel := 1) zqb rfl ?_
     intro K hK;refine zqlr rfl (.tmp 97) (.tmp 113) rfl w (more w7 mq) w.heap.size (.slice (some ⟨g, 0, none⟩) (u + 16) c) (u + 16) S (γ 16) _ _ rfl rfl (zqc2 OWN7.out (zqo w7 mq)) (by omega) (zqmq hv (by first | (rw [hS.out]; done) | (rw [hS.out]; omega))) (Grew.more hG7 mq) (Nat.le_refl _) (Grew.more hG7 mq).size ?_
     intro g3 c3 w3 own3 hG3 hk3 hg3;refine hK _ _ ?_
     clear hK K
     (refine zqu (i := 18) (fuel := 0) zqb rfl ?_; intro K hK; go_simp; refine hK _ _ ?_; clear hK K)
     (refine wpAny_done zqb ?_ _)
     go_wp2
     go_roundw
     case rel =>
      iterate 54 (apply Exists.intro)
      exact ⟨⟨u + 16 + 1, g3, c3, by omega, by omega, by go_num, rfl, hG3, own3⟩, rfl⟩
     case measure => simp [intOf]; omega
    ·obtain rfl : t = 64 := by omega
     clear hlt ht0 ht1 hlow hhigh;have hWA : Hid (WordsAt wr g 0 64 S) := zqfm OWN.out;clear OWN;go_wp2_with fail;refine (zrpy _).mono ?_
     rintro e w1 ⟨rfl, hk1, hb1⟩;have hK1 := zqos hk1;have hS1 := hWA.out.later hb1;have hG1 := Grew.trans hG hb1;generalize wr.heap.size = gk at *;obtain ⟨gv, cv, w2, hr2, wv2, hb2⟩ := zqp7 w1 228 gh 0 ch H (HH.out.later hG1);have HK2 : Hid (WordsAt w2 gk 0 64 zqex) := hK1.later hb2;have HS2 : Hid (WordsAt w2 g 0 64 S) := hS1.later hb2;have hG2 := Grew.trans hG1 hb2;have WV2 : Hid (WordsAt w2 gv 0 8 H) := wv2;clear wv2 hK1 hS1 hG1 hb1 hb2 hk1 hWA hG;go_wp2_with fail
     go_loopw [13, 14, 15, 16, 17, 18, 19, 20, 21, 22, 23, 24] (fun v i _ _ _ _ _ _ _ _ _ _ wr3 => ∃ t g c : Nat, t <= 64 /\ i = .int .i64 t /\ v = .slice (some ⟨g, 0, none⟩) 8 c /\ Below w2.heap.size w2 wr3 /\ Hid (WordsAt wr3 g 0 8 (R t))) (fun _ i _ _ _ _ _ _ _ _ _ _ _ => 64 - (intOf i).toNat)
     case atStart => exact ⟨0, gv, cv, by omega, rfl, rfl, Grew.refl _, by rw [R0.out]; exact WV2⟩
     case round =>
      clear WV2;obtain ⟨t, g9, c9, ht, rfl, rfl, hL, WV⟩ := hrel
      by_cases hlt : t < 64
      ·have hs := hR0 t
       have E : Hid (R (t + 1) = rnd S t (R t)) := RS.out t;have lv := WV.out.1;have v0 := WV.out.at0 0 (by decide);have v1 := WV.out.at0 1 (by decide);have v2 := WV.out.at0 2 (by decide);have v3 := WV.out.at0 3 (by decide);have v4 := WV.out.at0 4 (by decide);have v5 := WV.out.at0 5 (by decide);have v6 := WV.out.at0 6 (by decide);have v7 := WV.out.at0 7 (by decide);clear WV;have it0 : (0 : Int) <= (t : Int) := by omega
       have it1 : (t : Int) < 64 := by omega
       generalize R t = s at *;have b0 := hs 0 (by decide);have b1 := hs 1 (by decide);have b2 := hs 2 (by decide);have b3 := hs 3 (by decide);have b4 := hs 4 (by decide);have b5 := hs 5 (by decide);have b6 := hs 6 (by decide);have b7 := hs 7 (by decide);have bW := hSW t;have bC := zqwr t;have bc := zq1j b4 b5 b6;have bg := zq4x b4;have bm := zq3c b0 b1 b2;have bh := zq06 b0;have hc := zrjr (s 4) (s 5) (s 6);have hm := zrc0 b0 b1 b2;have hg1 := zrj0 (s 4);have hg0 := zrk6 (s 0);have et1 := zq42 S t s;have et2 := zq39 s;have bt1 := zqv5 S t s;have bt2 := zqws s;have p6 := fun w => zqej (s 4) 6 w b4 (by decide) (by decide);have p11 := fun w => zqej (s 4) 11 w b4 (by decide) (by decide);have p25 := fun w => zqej (s 4) 25 w b4 (by decide) (by decide);have p2 := fun w => zqej (s 0) 2 w b0 (by decide) (by decide)
       have p13 := fun w => zqej (s 0) 13 w b0 (by decide) (by decide);have p22 := fun w => zqej (s 0) 22 w b0 (by decide) (by decide);unfold W32 at b0 b1 b2 b3 b4 b5 b6 b7 bW bC bc bg bm bh bt1 bt2;clear hs hB hH hSW hR0;go_wp2_with fail
       ((first | (with_reducible refine zq8 zqb zqb ?_) | refine zqz zqb zqb ?_); (repeat (first | go_big_quiet_skip | (go_big_quiet_want; go_big_quiet_op; go_big_quiet_on))); refine wpQuiet_nil ?_; rintro _ ⟨mq, rfl⟩)
       have hR : Below wr.heap.size wr (more wr mq) := zqo wr mq;generalize more wr mq = w3 at *;clear v0 v1 v2 v3 v4 v5 v6 v7;have lk := (HK2.out.later (Grew.trans hL hR)).1;have ck := (HK2.out.later (Grew.trans hL hR)).at0 t hlt;have ls := (HS2.out.later (Grew.trans hL hR)).1;have cs := (HS2.out.later (Grew.trans hL hR)).at0 t hlt;go_wp2_with fail
       ((first | (with_reducible refine zq8 zqb zqb ?_) | refine zqz zqb zqb ?_); (repeat (first | go_big_quiet_skip | (go_big_quiet_want; go_big_quiet_op; first | go_big_quiet_on | (apply Exists.intro; refine ⟨fun _ => ?_, ?_⟩; (focus (first | (with_reducible exact Calls.of_more (p6 _)) | (with_reducible exact Calls.of_more (p11 _)) | (with_reducible exact Calls.of_more (p25 _)))); go_big_quiet_on)))); refine wpQuiet_nil ?_; rintro _ ⟨mq, rfl⟩)
       replace hR : Below wr.heap.size wr (more w3 mq) := Grew.trans hR (zqo w3 mq);clear lk ck ls cs;generalize more w3 mq = w4 at *;go_wp2_with fail;refine (p2 _).mono ?_
       rintro e w5 ⟨rfl, hb9⟩;replace hR := Grew.trans hR hb9;clear hb9;go_wp2_with fail;refine (p13 _).mono ?_
       rintro e w6 ⟨rfl, hb9⟩;replace hR := Grew.trans hR hb9;clear hb9;go_wp2_with fail;refine (p22 _).mono ?_
       rintro e w7 ⟨rfl, hb9⟩;replace hR := Grew.trans hR hb9;clear hb9;clear p6 p11 p25 p2 p13 p22;go_wp2
       go_roundw
       case rel =>
        have W9 := zqn1 (G := R (t + 1)) (zqg w7 (.cells #[.int .u32 ((tOne S t s + tTwo s) % 4294967296), .int .u32 (s 0), .int .u32 (s 1), .int .u32 (s 2), .int .u32 ((s 3 + tOne S t s) % 4294967296), .int .u32 (s 4), .int .u32 (s 5), .int .u32 (s 6)] 22) w7.heap.size rfl) (by rw [E.out]; rfl) (by rw [E.out]; rfl) (by rw [E.out]; rfl) (by rw [E.out]; rfl) (by rw [E.out]; rfl) (by rw [E.out]; rfl) (by rw [E.out]; rfl) (by rw [E.out]; rfl)
        first | exact ⟨t + 1, _, _, by omega, by go_num, rfl, Grew.alloc (Grew.trans hL hR) _, W9⟩ | ((repeat' apply Exists.intro) <;> first | exact ⟨⟨t + 1, _, _, by omega, by go_num, rfl, Grew.alloc (Grew.trans hL hR) _, W9⟩, rfl⟩ | exact undef)
       case measure => simp [intOf]; omega
      ·obtain rfl : t = 64 := by omega
       clear hlt ht R0 RS HS2 HK2 hr2;have hs := hR0 64;have F9 : Hid (∀ i, (H i + R 64 i) % 4294967296 = C i) := F8;clear F8;generalize R 64 = s at *;obtain ⟨w5, rfl⟩ : ∃ w5, w5 = wr := ⟨_, rfl⟩
       go_wp2_with fail
       go_loopw [25, 26] (fun v i wr4 => ∃ (j : Nat) (u0 : Value), u0 = v /\ j <= 8 /\ i = .int .i64 j /\ Below w5.heap.size w5 wr4 /\ Hid (wr4.ownsRow w5.heap.size 22 1 u0 j (rowL .u32 C j))) (fun _ i _ => 8 - (intOf i).toNat)
       case atStart => exact ⟨0, _, rfl, by omega, rfl, Grew.refl _, World.ownsRow_nil _ _ _ _⟩
       case round =>
        obtain ⟨j, u0, rfl, hj, rfl, hM, OWN⟩ := hrel
        by_cases hlt : j < 8
        ·have hWH := HH.out.later (Grew.trans (Grew.trans hG2 hL) hM)
         have lh := hWH.1;have chj := hWH.at0 j hlt;have hWV := WV.out.later hM;have lv := hWV.1;have cvj := hWV.at0 j hlt;have bH := hH j hlt;have bs := hs j hlt;have ej : Hid ((H j + s j) % 4294967296 = C j) := F9.out j;have ij0 : (0 : Int) <= (j : Int) := by omega
         have ij1 : (j : Int) < 8 := by omega
         generalize H j = X at *;generalize s j = Y at *;unfold W32 at bH bs;clear hWH hWV hB hH hSW hR0 hs F9;go_wp2_with fail
         (refine zqha 11 zqb zqb zqb zqb zqb ?_; simp only [List.take_succ_cons, List.take_zero]; (repeat (first | refine zqx rfl ?_ | (refine zqn rfl ?_; apply Exists.intro))); refine zqbn ?_; intro γ hinj hbase; (repeat (first | (refine zqy rfl ?_; ((first | go_big_quiet_skip | (go_big_quiet_want; go_big_quiet_op; go_big_quiet_on)); refine wpQuiet_nil ?_)) | ((first | refine zqk rfl (fun _ => rfl) ?_ | ((try simp only [Nat.zero_add, Nat.reduceAdd]); apply zqci zqt; (focus rfl); (focus (first | exact zq7 _ | exact zqac _ _ | exact zq4 _ | rfl)); (focus (exact zq2))) | ((try simp only [Nat.zero_add, Nat.reduceAdd]); apply zqa9 _ _ zqt; (focus rfl); (focus (intro W; (first | exact zqbp _ | exact zqa7 _ | exact zero_num _ | exact zqbc _ | exact zero_rnode _ | exact zqax _))); (focus (first | exact zqay _ _ _ | exact zqa6 _ _ | rfl)); (focus (exact zq2))) | ((try simp only [Nat.zero_add, Nat.reduceAdd]); apply zqbd zqt; (focus rfl); (focus (intro W; simp only [List.map_toArray, List.map_cons, List.map_nil]; first | (with_reducible exact zqih _ W) | exact zqih _ W)); (focus (exact zq2))) | (apply zqab; (focus rfl); (focus rfl); (focus rfl); (focus (intro W hC hF; go_big_quiet_want; go_big_quiet_op; (first | go_big_quiet_on | (apply Exists.intro; refine ⟨fun _ => ?_, ?_⟩; (focus (fail)); go_big_quiet_on)); exact wpQuiet_nil rfl)); (focus (first | exact fun _ => ⟨rfl, rfl⟩ | exact fun h => absurd h (by decide))))); ((first | go_big_quiet_skip | (go_big_quiet_want; go_big_quiet_op; go_big_quiet_on)); refine wpQuiet_nil ?_)) | refine zql rfl (fun _ => rfl) ?_ | ((try simp only [Nat.zero_add, Nat.reduceAdd]); apply zqbb (zqaw (hbase _)); (focus rfl); (focus rfl); (focus rfl); (focus (first | exact zq7 _ | exact zqac _ _ | exact zq4 _ | rfl)); rotate_left 3; (focus (exact zqc3)); rotate_right 3; (focus kernel_rfl); (focus (first | exact zqj _ _ _ | rfl)); (focus (first | exact zqaz _ _ _ | exact zqbj _ _ _ _ | kernel_rfl)); (focus (decide +kernel)); (focus (exact zq2))))))
         (refine zqdz ?_; rintro _ ⟨mq, rfl⟩ hF; simp only [List.forall_mem_cons] at hF; obtain ⟨hv, -⟩ := hF)
         refine zqu (i := 11) (fuel := 1) zqb rfl ?_
         intro K hK;refine zqlr rfl (.tmp 213) (.tmp 223) rfl w5 (more wr mq) w5.heap.size u0 j C (γ 10) _ _ rfl rfl (zqc2 OWN.out (zqo wr mq)) (by omega) (zqmq hv (by first | exact ej.out | (rw [<- ej.out]; omega))) (Grew.more hM mq) (Nat.le_refl _) (Grew.more hM mq).size ?_
         intro g3 c3 w3 own3 hG3 hk3 hg3;refine hK _ _ ?_
         clear hK K
         (refine zqu (i := 12) (fuel := 0) zqb rfl ?_; intro K hK; go_simp; refine hK _ _ ?_; clear hK K)
         (refine wpAny_done zqb ?_ _)
         go_wp2
         go_roundw
         case rel => (repeat' apply Exists.intro) <;> first | exact ⟨⟨j + 1, _, rfl, by omega, by go_num, hG3, own3⟩, rfl⟩ | exact undef
         case measure => simp [intOf]; omega
        ·obtain rfl : j = 8 := by omega
         clear hlt;obtain ⟨g8, c8, rfl, -, -⟩ := OWN.out.form (by omega);go_wp2;go_ret;exact ⟨g8, c8, rfl, zqfm OWN.out, Grew.trans (Grew.trans hG2 hL) hM⟩
end Go.Proofs.YtnjghcnhcbobhaaGreatDoor
namespace Go.Proofs.YtnjghcnhcbobhaaGreatDoor
open Go.RowKit
attribute [local irreducible] strOf shaF zqap padB zqbv zqb5
theorem zqrp {w : World} {base g n c : Nat} {G : Nat -> Int} {t : TypeId} (h : w.ownsRow base t 1 (.slice (some ⟨g, 0, none⟩) n c) n (rowL .u8 G n)) : BytesAt w g 0 n G /\ n <= c := by
 rcases h.2 with ⟨h0, _⟩ | ⟨g', cap, cur, h0, hb, hg, hnc, hcm, hcs, htake⟩
 ·cases h0
 ·cases h0
  have hlt : g < w.heap.size := zqa (show zqd w g = _ from hg);refine ⟨⟨hlt, fun i hi => ?_⟩, hnc⟩;rw [show zqd w g = some (.cells cur t (0, 0)) from hg, zqbs, Nat.zero_add];have h1 := zqi0 .u8 G n i hi;rw [<- htake, List.getElem?_take, if_pos (by omega)] at h1
  simpa using h1
theorem BytesAt.part {w : World} {g n : Nat} {G : Nat -> Int} (h : BytesAt w g 0 n G) (o m : Nat) (hm : o + m <= n) : BytesAt w g o m (fun i => G (o + i)) :=
 ⟨h.1, fun i hi => by have := h.2 (o + i) (by omega); rwa [Nat.zero_add] at this⟩
def zqr1 (f g : Nat -> Int) : Prop := ∀ i, i < 8 -> f i = g i
theorem WordsAt.same {w : World} {g o : Nat} {G G' : Nat -> Int} (h : WordsAt w g o 8 G) (e : zqr1 G' G) : WordsAt w g o 8 G' := ⟨h.1, fun i hi => by rw [e i hi]; exact h.2 i hi⟩
theorem zqvh : (#[.int .u32 1779033703, .int .u32 3144134277, .int .u32 1013904242, .int .u32 2773480762, .int .u32 1359893119, .int .u32 2600822924, .int .u32 528734635, .int .u32 1541459225] : Array Value) = ints .u32 8 sqF := by kernel_rfl
set_option maxHeartbeats 8000000 in
theorem zqhq (s : ByteArray) (w : World) (hs : s.size <= 1000000000) :
  Calls Tryz.prog 107 #[.string s] w (Rt w (.agg (ints .u8 32 (shaF s)))) := by
 have hfs := zqst s;obtain ⟨m, hm⟩ : ∃ m, (zqbv s).size = 64 * m := ⟨(zqbv s).size / 64, by omega⟩
 have hdiv : (zqbv s).size / 64 = m := by omega
 have hm1 : 0 < m := by omega
 have hm2 : m <= 20000000 := by omega
 have hF : Hid (∀ i, absH (AA (byteAt (zqbv s)) m) (i / 4) / 2 ^ (24 - i % 4 * 8) % 256 = shaF s i) := fun i => by rw [<- hdiv]; unfold shaF; rfl
 have hp := fun W : World => zqye s W hs;have hGb : Hid (∀ i, 0 <= byteAt (zqbv s) i /\ byteAt (zqbv s) i <= 255) := fun i => zqhf _ i;rw [hm] at hp;clear hfs hdiv;generalize shaF s = F at *;generalize byteAt (zqbv s) = G at *;clear hm;have A0 : Hid (zqr1 (absH (AA G 0)) sqF) := fun i _ => by
  have := zqh9 i;unfold W32 at this
  show (sqF i + zqe i) % 4294967296 = sqF i
  unfold zqe
  omega
 have AS : Hid (∀ j, absH (AA G (j + 1)) = cmp (absH (AA G j)) (fun i => G (64 * j + i))) := fun j => zq9f _ _;have AW : Hid (∀ j, Words 8 (absH (AA G j))) := fun j => zqoy _;obtain ⟨A, hA⟩ : ∃ A : Nat -> Nat -> Int, A = fun j => absH (AA G j) := ⟨_, rfl⟩
 have eA : ∀ j, absH (AA G j) = A j := fun j => by rw [hA]
 simp only [eA] at A0 AS AW hF
 clear hA eA;have hG := Grew.refl w
 go_enter Tryz.func107, Tryz.ntmps107
 go_wp2_with fail;have e8 := zqvh;refine (hp _).mono ?_
 rintro e w2 ⟨gp, cap, rfl, hb2, own2⟩;have fr : zqd w2 w.heap.size = some (.cells (ints .u8 32 (zqe)) 43) := zqc hb2 (by exact zqh);have hG2 : Below w.heap.size w w2 := Grew.trans (by exact zqf) hb2;have fw : zqd w2 (w.heap.size + 1) = some (.cells (ints .u32 8 sqF) 22) := zqc hb2 (by rw [<- zqvh]; exact zqh);have lr := zqa fr;have lw := zqa fw;have hW2 : Hid (WordsAt w2 (w.heap.size + 1) 0 8 (A 0)) := (zqos fw).same A0.out;obtain ⟨hP2, hcap⟩ := zqrp own2;have hPP : Hid (BytesAt w2 gp 0 (64 * m) G) := hP2;clear own2 hP2 hb2 hp fw e8;go_wp2_with fail
 go_loopw [3, 5] (fun v i wr => ∃ j g c : Nat, j <= m /\ i = .int .i64 ((64 * j : Nat) : Int) /\ v = .slice (some ⟨g, 0, none⟩) 8 c /\ Below w2.heap.size w2 wr /\ Hid (WordsAt wr g 0 8 (A j))) (fun _ i _ => 64 * m - (intOf i).toNat)
 case atStart => exact ⟨0, _, 8, by omega, rfl, rfl, Grew.refl _, hW2⟩
 case round =>
  clear hW2 lw;obtain ⟨j, g, c, hj, rfl, rfl, hL, WV⟩ := hrel
  by_cases hlt : j < m
  ·have hbB := (hPP.out.later hL).part (64 * j) 64 (by omega)
   have hc := fun cb w' (h1 : WordsAt w' g 0 8 (A j)) h2 => zqrj (A j) (fun i => G (64 * j + i)) g c gp (64 * j) cb w' (fun i _ => hGb.out _) (AW.out j) h1 h2;rw [<- AS.out j] at hc;have n0 : (64 * (j : Int)).toNat = 64 * j := by omega
   have n1 : (64 * (j : Int) + 64).toNat = 64 * j + 64 := by omega
   have i0 : (0 : Int) <= 64 * (j : Int) := by omega
   have i1 : 64 * (j : Int) < 64 * (m : Int) := by omega
   have i2 : 64 * (j : Int) + 64 <= (cap : Int) := by omega
   have i3 : 64 * (j : Int) <= 64 * (j : Int) + 64 := by omega
   have n2 : 64 * j + 64 - 64 * j = 64 := by omega
   go_wp2_with fail;refine (hc _ _ WV.out hbB).mono ?_
   rintro e w3 ⟨g3, c3, rfl, hW3, hb3⟩;go_wp2
   go_roundw
   case rel => exact ⟨j + 1, g3, c3, by omega, by go_num, rfl, Grew.trans hL hb3, hW3⟩
   case measure => simp [intOf]; omega
  ·obtain rfl : j = m := by omega
   have i1 : ¬ (64 * (j : Int) < 64 * (j : Int)) := by omega
   clear hlt hj hPP AS A0;have hWs := AW.out j;have hFF : Hid (∀ i, A j (i / 4) / 2 ^ (24 - i % 4 * 8) % 256 = F i) := hF;clear hF AW;have fr3 : zqd wr w.heap.size = some (.cells (ints .u8 32 (zqe)) 43) := zqc hL fr;have hG3 : Below w.heap.size w wr := Grew.trans hG2 hL;clear fr lr hL hG2 hG;generalize A j = S at *;obtain ⟨w5, rfl⟩ : ∃ w5, w5 = wr := ⟨_, rfl⟩
   have lr := zqa fr3;go_wp2_with fail
   go_loopw [7] (fun i wr => ∃ k : Nat, k <= 32 /\ i = .int .i64 k /\ Below w5.heap.size w5 wr /\ zqd wr w5.heap.size = some (.cells (ints .u8 32 (zqc7 F k)) 43)) (fun i _ => 32 - (intOf i).toNat)
   case atStart => exact ⟨0, by omega, rfl, Grew.alloc (Grew.refl _) _, by rw [zqfd]; exact zqh⟩
   case round =>
    obtain ⟨k, hk, rfl, hM, fk⟩ := hrel;have lfk := zqa fk
    by_cases hlt : k < 32
    ·have SS : Hid (upd (zqc7 F k) k (F k) = zqc7 F (k + 1)) := zqd6 F k
     have hv := hFF.out k;obtain ⟨q, hq⟩ : ∃ q, k / 4 = q := ⟨_, rfl⟩
     obtain ⟨r, hr⟩ : ∃ r, k % 4 = r := ⟨_, rfl⟩
     have hq8 : q < 8 := by omega
     have hr4 : r < 4 := by omega
     have hqi : (k : Int) / 4 = (q : Int) := by omega
     have hri : (k : Int) % 4 = (r : Int) := by omega
     rw [hq, hr] at hv;have ba := hWs q hq8;have hWV := WV.out.later hM;have lv := hWV.1;have cv := hWV.at0 q hq8;have hn : (24 - 8 * (r : Int)).toNat = 24 - r * 8 := by omega
     have hmv := fun w => move_any (S q) (24 - 8 * (r : Int)) w ba (by omega) (by omega);rw [hn] at hmv;have bm : W32 (S q / 2 ^ (24 - r * 8)) := zqpp ba _ (Int.pow_pos (by decide));have hlk : k < 32 := hlt;generalize S q / 2 ^ (24 - r * 8) = Z at *;have HV : Hid (Z % 256 = F k) := hv;generalize F k = V at *;unfold W32 at bm ba;have iq1 : (q : Int) < 8 := by omega
     clear hv hq hr hWV;go_wp2_with fail;refine (hmv _).mono ?_
     rintro e w6 ⟨rfl, hb6⟩;have fk6 : zqd w6 w5.heap.size = some (.cells (ints .u8 32 (zqc7 F k)) 43) := zqc hb6 fk;have hM6 := Grew.trans hM hb6;clear fk hb6 hM cv lv hmv;go_wp2;rw [HV.out, SS.out]
     go_roundw
     case rel => exact ⟨k + 1, by omega, by go_num, by exact zqf, by exact zqh⟩
     case measure => simp [intOf]; omega
    ·obtain rfl : k = 32 := by omega
     clear hlt hk;rw [zqf7] at fk;have fr6 : zqd wr w.heap.size = some (.cells (ints .u8 32 (zqe)) 43) := zqc hM fr3;have hG6 := Grew.trans hG3 hM;go_wp2;refine zqaf rfl _ 43 _ (0, 0) _ rfl (zqr _ fr6) Tryz.underlying43 rfl (by rw [zqj]; kernel_rfl) rfl ⟨rfl, by exact zqf⟩
end Go.Proofs.YtnjghcnhcbobhaaGreatDoor
namespace Go.Proofs.YtnjghcnhcbobhaaGreatDoor
open Go.RowKit
attribute [local irreducible] strOf shaF zqap padB zqbv zqb5
theorem zq8o {base n : Nat} {v : Value} {G : Nat -> Int} {t : TypeId} {w : World} (h : w.ownsRow base t 1 v n (rowL .u8 G n)) : (convert 144 9 v).run Tryz.prog w = .ok (.string (strOf n G)) w := by
 rcases h.2 with ⟨rfl, rfl⟩ | ⟨g, cap, cur, rfl, hb, hg, hnc, hcm, hcs, htake⟩
 ·rw [run_convert_bytes_nil w 144 5 Tryz.underlying144 Tryz.underlying5 0 0 _ Tryz.underlying9]
  unfold strOf
  rfl
 ·rw [run_convert_bytes_string w _ _ _ _ n cap Tryz.underlying144 Tryz.underlying5 Tryz.underlying9]
  unfold strOf;refine run_bytesToString w _ n cap ((List.range n).map G) ?_
  have h2 := run_loadCells_list (P := Tryz.prog) w ⟨g, 0, none⟩ (((List.range n).map G).map (Value.int .u8)) (fun j u hu => by
   have hadd : (⟨g, 0, none⟩ : Addr).add j = ⟨g, j, none⟩ := by unfold Addr.add; split <;> simp_all
   rw [hadd, cell_of_row w g j _ _ _ hg];have hj : j < n := by
    rcases Nat.lt_or_ge j n with h | h
    ·exact h
    ·rw [List.getElem?_eq_none (by simpa using h)] at hu; cases hu
   have h1 := zqi0 .u8 G n j hj;rw [<- htake, List.getElem?_take, if_pos (by omega)] at h1;rw [List.map_map, List.getElem?_map, List.getElem?_range hj] at hu;rw [<- hu]
   simpa using h1)
  simpa using h2
theorem zqxi (k : Nat) : zqap k ++ ⟨#[0]⟩ = zqap (k + 1) := by
 have h : (zqap k ++ ⟨#[0]⟩ : ByteArray).data.toList = (zqap (k + 1)).data.toList := by
  rw [ByteArray.data_append, Array.toList_append, zqhl, zqhl, List.replicate_succ']
 cases h1 : (zqap k ++ ⟨#[0]⟩ : ByteArray)
 cases h2 : zqap (k + 1)
 rw [h1, h2] at h
 simp only [ByteArray.mk.injEq]
 exact Array.toList_inj.1 h
theorem zqq8 (K : ByteArray) (k : Nat) : K ++ zqap k ++ ⟨#[0]⟩ = K ++ zqap (k + 1) := by rw [ByteArray.append_assoc, zqxi]
theorem zqz0 (K : ByteArray) : K ++ zqap 0 = K := by
 have : zqap 0 = ByteArray.empty := by unfold zqap; rfl
 rw [this, ByteArray.append_empty]
theorem zqph (s : ByteArray) (k : Nat) (w : World) (h : k < s.size) : (Instr.index 9 (.string s) (.int .i64 k)).run Tryz.prog w = .ok (.int .u8 (byteAt s k)) w := by
 rw [<- zqde s k h];have h0 : (0 : Int) <= (k : Int) := by omega
 have h1 : (k : Int) < (s.size : Int) := by omega
 simp [go_sem, h0, h1, h]
@[go_sem high] theorem zrdl (w : World) (g : Nat) : (Instr.sliceAt 43 (.pointer (some ⟨g, 0, none⟩)) none none none).run Tryz.prog w = .ok (.slice (some ⟨g, 0, none⟩) 32 32) w := by kernel_rfl
set_option maxHeartbeats 1000000 in
theorem zqek (k : Nat -> Int) (w : World) :
  Calls Tryz.prog 81 #[.agg (ints .u8 32 k)] w (Rt w (.string (strOf 32 k))) := by
 have hG := Grew.refl w;have fk : True := trivial
 go_enter Tryz.func81, Tryz.ntmps81
 go_wp2_with fail;generalize hW : w.alloc (.cells (ints .u8 32 (k)) 43) = w1;replace fk : zqd w1 (w.heap.size) = some (.cells (ints .u8 32 (k)) 43) := zqs hW;replace hG : Below w.heap.size w w1 := zqak hW;clear hW;have lfk := zqa fk;have hc := zqdq (P := Tryz.prog) (src := 144) (dst := 9) Tryz.underlying144 Tryz.underlying5 Tryz.underlying9 w.heap.size 32 32 32 k w1 fk (by omega);go_wp2_with fail;rw [hc];go_wp2;go_ret;exact ⟨rfl, by exact zqf⟩
theorem zqq6 (s : ByteArray) (c : Int) (w : World) (h0 : 0 <= c) (h1 : c < 256) (hs : s.size <= 1000000000) :
  Calls Tryz.prog 110 #[.string s, .int .u8 c] w (Rt w (.string (zqcv s c))) := by
 have hF : Hid (∀ i, bits .xor .u8 (byteAt s i) c = zqiz s c i) := fun i => by unfold zqiz; rfl
 have hE : Hid (strOf s.size (zqiz s c) = zqcv s c) := by show _ = _; unfold zqcv; rfl
 generalize zqiz s c = E at *;generalize zqcv s c = R at *
 go_enter Tryz.func110, Tryz.ntmps110
 go_wp2_with fail
 go_loopw [5, 6] (fun v i wr => ∃ (k : Nat) (v0 : Value), v0 = v /\ k <= s.size /\ i = .int .i64 k /\ Below w.heap.size w wr /\ Hid (wr.ownsRow w.heap.size 5 1 v0 k (rowL .u8 E k))) (fun _ i _ => s.size - (intOf i).toNat)
 case atStart => exact ⟨0, _, rfl, by omega, rfl, Grew.refl _, World.ownsRow_nil _ _ _ _⟩
 case round =>
  obtain ⟨k, v0, rfl, hk, rfl, hG, OWN⟩ := hrel
  by_cases hlt : k < s.size
  ·have e := hF.out k
   have hb := zqhf s k;have hix := fun w => zqph s k w hlt;obtain ⟨g3, c3, w3, hr3, own3, hG3, _, _⟩ := zqgl w (wr.alloc (.cells #[.int .u8 (E k)] 5)) w.heap.size v0 k E wr.heap.size 5 144 (0, 0) (OWN.out.alloc _) (by omega) (zqg _ _ _ rfl) (Grew.alloc hG _) (Nat.le_refl _) (by have := (Grew.alloc hG (.cells #[.int .u8 (E k)] 5)).size; omega);have OWN3 : Hid (w3.ownsRow w.heap.size 5 1 (.slice (some ⟨g3, 0, none⟩) (k + 1) c3) (k + 1) (rowL .u8 E (k + 1))) := own3;clear own3;go_wp2
   go_roundw
   case rel => exact ⟨k + 1, _, rfl, by omega, by go_num, hG3, OWN3⟩
   case measure => simp [intOf]; omega
  ·obtain rfl : k = s.size := by omega
   clear hlt;have hc := zq8o OWN.out;rw [hE.out] at hc;go_wp2;go_ret;exact ⟨rfl, hG⟩
theorem zq0c (key : ByteArray) (w : World) (hk : key.size <= 1000000000) :
  Calls Tryz.prog 109 #[.string key] w (Rt w (.string (zqbk key))) := by
 have H := zqry key;have hKb : Hid (zqdp key ++ zqap (64 - (zqdp key).size) = zqbk key) := H.out.symm;have hK64 : (zqdp key).size <= 64 := zqvu key;have hKz : Hid (zqdp key ++ zqap 0 = zqdp key) := zqz0 _;clear H;generalize zqbk key = R at *
 by_cases hl : 64 < key.size
 ·have e : zqdp key = strOf 32 (shaF key) := by unfold zqdp; rw [if_pos hl]
  have h1 := fun w => zqhq key w hk;have h2 := fun w => zqek (shaF key) w;rw [<- e] at h2;clear e;generalize zqdp key = K at *;generalize shaF key = F at *;have hG := Grew.refl w
  go_enter Tryz.func109, Tryz.ntmps109
  go_wp2_with fail
  (refine (h1 _).mono ?_; rintro e w1 ⟨rfl, hb⟩; replace hG : Below w.heap.size w w1 := Grew.trans (by exact zqf) hb; clear hb)
  go_wp2_with fail
  (refine (h2 _).mono ?_; rintro e w2 ⟨rfl, hb⟩; replace hG : Below w.heap.size w w2 := Grew.trans (by exact zqf) hb; clear hb)
  clear h1 h2;go_wp2_with fail
  go_loopw [0] (fun v wr => ∃ k : Nat, K.size + k <= 64 /\ v = .string (K ++ zqap k) /\ Below w.heap.size w wr) (fun v _ => match v with | .string s => 64 - s.size | _ => 0)
  case atStart => exact ⟨0, by omega, by rw [hKz.out], by exact zqf⟩
  case round =>
   clear hG;obtain ⟨k, hk2, rfl, hG⟩ := hrel;have hsz : (K ++ zqap k).size = K.size + k := by rw [ByteArray.size_append, zqbu]
   have hft : zqgv (K ++ zqap k) ⟨#[0]⟩ := by show _ + 1 <= _; omega
   have hnx : Hid (K ++ zqap k ++ ⟨#[0]⟩ = K ++ zqap (k + 1)) := zqq8 K k;have hsn : Hid ((K ++ zqap (k + 1)).size = K.size + (k + 1)) := by show _ = _; rw [ByteArray.size_append, zqbu]
   obtain ⟨T2, hT2⟩ : ∃ T2, Hid (K ++ zqap (k + 1) = T2) := ⟨_, rfl⟩
   rw [hT2.out] at hnx hsn
   by_cases hlt : K.size + k < 64
   ·generalize hT1 : K ++ zqap k = T1 at *
    have hl1 : (K.size : Int) + (k : Int) < 64 := by omega
    go_wp2;rw [hnx.out]
    go_roundw
    case rel => exact ⟨k + 1, by omega, by rw [<- hT2.out], hG⟩
    case measure =>
     have := hsn.out
     simp
     omega
   ·have e : K.size + k = 64 := by omega
    have hB : Hid (K ++ zqap k = R) := by
     show _ = _
     rw [<- hKb.out]
     congr 2
     omega
    generalize K ++ zqap k = T1 at *;have hl1 : ¬ ((K.size : Int) + (k : Int) < 64) := by omega
    go_wp2;go_ret;have hB9 := hB.out;subst hB9;exact ⟨rfl, hG⟩
 ·have e : zqdp key = key := by unfold zqdp; rw [if_neg hl]
  rw [e] at hKb hK64 hKz;have hl2 : ¬ ((64 : Int) < key.size) := by omega
  obtain ⟨K, hKe⟩ : ∃ K, Hid (key = K) := ⟨_, rfl⟩
  rw [hKe.out] at hKb hK64 hKz;have hG := Grew.refl w
  go_enter Tryz.func109, Tryz.ntmps109
  go_wp2_with fail
  go_loopw [0] (fun v wr => ∃ k : Nat, K.size + k <= 64 /\ v = .string (K ++ zqap k) /\ Below w.heap.size w wr) (fun v _ => match v with | .string s => 64 - s.size | _ => 0)
  case atStart => exact ⟨0, by omega, by rw [hKz.out, <- hKe.out], by exact zqf⟩
  case round =>
   clear hG;obtain ⟨k, hk2, rfl, hG⟩ := hrel;have hsz : (K ++ zqap k).size = K.size + k := by rw [ByteArray.size_append, zqbu]
   have hft : zqgv (K ++ zqap k) ⟨#[0]⟩ := by show _ + 1 <= _; omega
   have hnx : Hid (K ++ zqap k ++ ⟨#[0]⟩ = K ++ zqap (k + 1)) := zqq8 K k;have hsn : Hid ((K ++ zqap (k + 1)).size = K.size + (k + 1)) := by show _ = _; rw [ByteArray.size_append, zqbu]
   obtain ⟨T2, hT2⟩ : ∃ T2, Hid (K ++ zqap (k + 1) = T2) := ⟨_, rfl⟩
   rw [hT2.out] at hnx hsn
   by_cases hlt : K.size + k < 64
   ·generalize hT1 : K ++ zqap k = T1 at *
    have hl1 : (K.size : Int) + (k : Int) < 64 := by omega
    go_wp2;rw [hnx.out]
    go_roundw
    case rel => exact ⟨k + 1, by omega, by rw [<- hT2.out], hG⟩
    case measure =>
     have := hsn.out
     simp
     omega
   ·have e : K.size + k = 64 := by omega
    have hB : Hid (K ++ zqap k = R) := by
     show _ = _
     rw [<- hKb.out]
     congr 2
     omega
    generalize K ++ zqap k = T1 at *;have hl1 : ¬ ((K.size : Int) + (k : Int) < 64) := by omega
    go_wp2;go_ret;have hB9 := hB.out;subst hB9;exact ⟨rfl, hG⟩
theorem zqt3 (key s B B1 B2 T1 : ByteArray) (F1 M : Nat -> Int) (w : World) (cb : ∀ W : World, Calls Tryz.prog 109 #[.string key] W (Rt W (.string B))) (c2 : ∀ W : World, Calls Tryz.prog 110 #[.string B, .int .u8 92] W (Rt W (.string B2))) (c1 : ∀ W : World, Calls Tryz.prog 110 #[.string B, .int .u8 54] W (Rt W (.string B1))) (hf1 : zqgv B1 s) (h1 : ∀ W : World, Calls Tryz.prog 107 #[.string (B1 ++ s)] W (Rt W (.agg (ints .u8 32 F1)))) (t1 : ∀ W : World, Calls Tryz.prog 81 #[.agg (ints .u8 32 F1)] W (Rt W (.string T1))) (hf2 : zqgv B2 T1) (h2 : ∀ W : World, Calls Tryz.prog 107 #[.string (B2 ++ T1)] W (Rt W (.agg (ints .u8 32 M)))) :
  Calls Tryz.prog 80 #[.string key, .string s] w (Rt w (.agg (ints .u8 32 M))) := by
 have hG := Grew.refl w;have fr : True := trivial
 go_enter Tryz.func80, Tryz.ntmps80
 go_wp2_with fail;generalize hW : w.alloc (.cells (ints .u8 32 (zqe)) 43) = w1;replace fr : zqd w1 (w.heap.size) = some (.cells (ints .u8 32 (zqe)) 43) := zqs hW;replace hG : Below w.heap.size w w1 := zqak hW;clear hW;have lfr := zqa fr;go_wp2_with fail
 (refine (cb _).mono ?_; rintro e w2 ⟨rfl, hb⟩; replace fr := zqc hb fr; have lfr := zqa fr; replace hG : Below w.heap.size w w2 := Grew.trans (by exact zqf) hb; clear hb)
 go_wp2_with fail
 (refine (c2 _).mono ?_; rintro e w3 ⟨rfl, hb⟩; replace fr := zqc hb fr; have lfr := zqa fr; replace hG : Below w.heap.size w w3 := Grew.trans (by exact zqf) hb; clear hb)
 go_wp2_with fail
 (refine (c1 _).mono ?_; rintro e w4 ⟨rfl, hb⟩; replace fr := zqc hb fr; have lfr := zqa fr; replace hG : Below w.heap.size w w4 := Grew.trans (by exact zqf) hb; clear hb)
 go_wp2_with fail
 (refine (h1 _).mono ?_; rintro e w5 ⟨rfl, hb⟩; replace fr := zqc hb fr; have lfr := zqa fr; replace hG : Below w.heap.size w w5 := Grew.trans (by exact zqf) hb; clear hb)
 go_wp2_with fail
 (refine (t1 _).mono ?_; rintro e w6 ⟨rfl, hb⟩; replace fr := zqc hb fr; have lfr := zqa fr; replace hG : Below w.heap.size w w6 := Grew.trans (by exact zqf) hb; clear hb)
 go_wp2_with fail
 (refine (h2 _).mono ?_; rintro e w7 ⟨rfl, hb⟩; replace fr := zqc hb fr; have lfr := zqa fr; replace hG : Below w.heap.size w w7 := Grew.trans (by exact zqf) hb; clear hb)
 go_wp2;refine zqaf rfl _ 43 _ (0, 0) _ rfl (zqr _ fr) Tryz.underlying43 rfl (by rw [zqj]; kernel_rfl) rfl ⟨rfl, by exact zqf⟩
theorem zqkw (key s : ByteArray) (w : World) (hk : key.size <= 100000000) (hs : s.size <= 100000000) :
  Calls Tryz.prog 80 #[.string key, .string s] w (Rt w (.agg (ints .u8 32 (macF key s)))) := by
 have H := zq2c key s;have hb64 := zql4 key;have he1 : (zqcv (zqbk key) 54).size = 64 := by rw [zqhj, hb64]
 have he2 : (zqcv (zqbk key) 92).size = 64 := by rw [zqhj, hb64]
 rw [H.out];exact zqt3 key s _ _ _ _ _ _ w (fun W => zq0c key W (by omega)) (fun W => zqq6 (zqbk key) 92 W (by decide) (by decide) (by omega)) (fun W => zqq6 (zqbk key) 54 W (by decide) (by decide) (by omega))
  (by show _ + _ <= _; omega) (fun W => zqhq _ W (by rw [ByteArray.size_append]; omega)) (fun W => zqek _ W) (by show _ + _ <= _; rw [zq1]; omega) (fun W => zqhq _ W (by rw [ByteArray.size_append, zq1]; omega))
end Go.Proofs.YtnjghcnhcbobhaaGreatDoor
namespace Go.Proofs.YtnjghcnhcbobhaaGreatDoor
open Go.RowKit
def zqo6 (a b c : ByteArray) : Nat -> ByteArray := fun j => if j = 0 then a else if j = 1 then b else c
theorem zqsz (a b c : ByteArray) : catS (zqo6 a b c) 3 = a ++ b ++ c := by
 show ByteArray.empty ++ a ++ b ++ c = _
 rw [ByteArray.empty_append]
theorem zquu (a b c : ByteArray) (W : World) : (Instr.buildSlice 155 3 #[(0, .string a), (1, .string b), (2, .string c)]).run Tryz.prog W = .ok (.slice (some ⟨W.heap.size, 0, none⟩) 3 3) (W.alloc (.cells #[.string a, .string b, .string c] 9)) := by kernel_rfl
def zqkl (u v x : Value) : Sem Next := do pure (.value (<- Instr.buildSlice 155 3 #[(0, u), (1, v), (2, x)]))
@[go_sem ↓ high] theorem zqyi (ρ : Operand -> Value) (d : Option Tmp) (x y z : Operand) (t : TypeId) (pos : String) (af : Array Edge) (g : Option (Nat × Bool)) :
  execOp ρ ⟨d, .buildSlice 155 3 #[(0, x), (1, y), (2, z)], t, pos, af, g⟩ = zqkl (ρ x) (ρ y) (ρ z) := by
 unfold execOp zqkl
 simp
@[go_sem high] theorem zrds (ρ : Operand -> Value) (d : Option Tmp) (x y z : Operand) (t : TypeId) (pos : String) (af : Array Edge) (g : Option (Nat × Bool)) :
  execOp ρ ⟨d, .buildSlice 155 3 #[(0, x), (1, y), (2, z)], t, pos, af, g⟩ = zqkl (ρ x) (ρ y) (ρ z) := zqyi ρ d x y z t pos af g
@[go_sem] theorem zrco (a b c : ByteArray) (W : World) : (zqkl (.string a) (.string b) (.string c)).run Tryz.prog W = .ok (.value (.slice (some ⟨W.heap.size, 0, none⟩) 3 3)) (W.alloc (.cells #[.string a, .string b, .string c] 9)) := by
 unfold zqkl
 simp only [Sem.run_bind, zquu, Result.andThen_ok, Sem.run_pure]
attribute [irreducible] zqkl
theorem zqyv {W : World} {g : Nat} {a b c : ByteArray} {t : TypeId} {fr : Nat × Nat} (h : zqd W g = some (.cells #[.string a, .string b, .string c] t fr)) : StrsAt W (some ⟨g, 0, none⟩) 3 (zqo6 a b c) := by
 refine .inr ⟨_, rfl, fun w' hb j hj => ?_⟩;have h' := zqc hb h;unfold zqd at h';have e : (⟨g, 0, none⟩ : Addr).add j = ⟨g, j, none⟩ := by unfold Addr.add; split <;> simp_all
 rw [e, cell_of_row w' g _ _ _ _ h']
 rcases (by omega : j = 0 \/ j = 1 \/ j = 2) with rfl | rfl | rfl <;> rfl
theorem zq3k (key a b c : ByteArray) (g : Nat) (W : World) (hk : key.size < 1152921504606846976) (hs : a.size + b.size + c.size < 1152921504606840000) (h : StrsAt W (some ⟨g, 0, none⟩) 3 (zqo6 a b c)) (hT : Tabs W) :
  Calls Tryz.prog 82 #[.string key, .slice (some ⟨g, 0, none⟩) 3 3] W (Rt W (.agg (ints .u8 32 (macF key (a ++ b ++ c))))) := by
 have := zqlm key (some ⟨g, 0, none⟩) 3 3 (zqo6 a b c) W hk (by rw [zqsz, ByteArray.size_append, ByteArray.size_append]; exact hs) (by decide) h hT;rw [zqsz] at this;exact this
end Go.Proofs.YtnjghcnhcbobhaaGreatDoor
namespace Go.Proofs.YtnjghcnhcbobhaaGreatDoor
open Go.RowKit
attribute [local irreducible] strOf shaF zqap padB zqbv zqb5 macF
theorem zqg1 {s t : ByteArray} (h : s.size = t.size) (h2 : ∀ i, i < s.size -> byteAt s i = byteAt t i) : s = t := by
 apply ByteArray.ext
 apply Array.ext h
 intro i i1 i2;have e := h2 i i1;rw [<- zqde s i i1, <- zqde t i i2] at e;have e2 : (s[i]).toNat = (t[i]).toNat := by exact_mod_cast e
 exact UInt8.toNat_inj.1 e2
def zqjf (i : Nat) : ByteArray := strOf 1 fun _ => ((i % 256 : Nat) : Int)
theorem zqks (i : Nat) : (zqjf i).size = 1 := zq1 _ _
def tB (K info : ByteArray) : Nat -> ByteArray
 | 0 => ByteArray.empty
 | i + 1 => strOf 32 (macF K (tB K info i ++ info ++ zqjf (i + 1)))
theorem zqkn (K info : ByteArray) (i : Nat) : (tB K info (i + 1)).size = 32 := zq1 _ _
theorem zros (K info : ByteArray) (i : Nat) : (tB K info i).size <= 32 := by
 cases i with
 | zero => exact Nat.zero_le _
 | succ i => rw [zqkn]; omega
def zqfu (K info : ByteArray) : Nat -> Int := fun i => byteAt (tB K info (i / 32 + 1)) (i % 32)
theorem zqkq (K info : ByteArray) (i : Nat) : 0 <= zqfu K info i /\ zqfu K info i <= 255 := zqhf _ _
theorem zqsm (K info : ByteArray) (m : Nat) : strOf (32 * m) (zqfu K info) ++ tB K info (m + 1) = strOf (32 * (m + 1)) (zqfu K info) := by
 have hs : (strOf (32 * m) (zqfu K info)).size = 32 * m := zq1 _ _;refine zqg1 (by rw [ByteArray.size_append, zq1, zq1, zqkn]; omega) fun i hi => ?_
 rw [ByteArray.size_append, zq1, zqkn] at hi;rw [zqda _ _ _ (by omega) (zqkq _ _ _)]
 by_cases h : i < 32 * m
 ·rw [zqdc _ _ _ (by rw [zq1]; exact h), zqda _ _ _ h (zqkq _ _ _)]
 ·obtain ⟨k, rfl⟩ : ∃ k, i = 32 * m + k := ⟨i - 32 * m, by omega⟩
  have := zqdd (strOf (32 * m) (zqfu K info)) (tB K info (m + 1)) k (by rw [zqkn]; omega);rw [hs] at this;rw [this];unfold zqfu;rw [show (32 * m + k) / 32 = m by omega, show (32 * m + k) % 32 = k by omega]
theorem zqka (f : Nat -> Int) : strOf 0 f = ByteArray.empty := zqg1 (by rw [zq1]; rfl) fun i hi => by rw [zq1] at hi; omega
theorem zqyz (s : ByteArray) (a b i : Nat) (h : a + i < b) (hb : b <= s.size) : byteAt (s.extract a b) i = byteAt s (a + i) := by
 have h1 : i < (s.extract a b).size := by rw [ByteArray.size_extract]; omega
 rw [<- zqde _ _ h1, <- zqde _ _ (show a + i < s.size by omega), ByteArray.getElem_extract]
theorem zqpz (N a n : Nat) (f : Nat -> Int) (hf : ∀ i, 0 <= f i /\ f i <= 255) (h : a + n <= N) : (strOf N f).extract a (a + n) = strOf n (fun i => f (a + i)) := by
 have hs : (strOf N f).size = N := zq1 _ _;refine zqg1 (by rw [ByteArray.size_extract, zq1, zq1]; omega) fun i hi => ?_
 rw [ByteArray.size_extract, zq1] at hi;rw [zqyz _ _ _ _ (by omega) (by omega), zqda _ _ _ (by omega) (hf _), zqda n (fun i => f (a + i)) _ (by omega) (hf _)]
theorem zqt8 (N n : Nat) (f : Nat -> Int) (hf : ∀ i, 0 <= f i /\ f i <= 255) (h : n <= N) : (strOf N f).extract 0 n = strOf n f := by
 have := zqpz N 0 n f hf (by omega)
 simpa using this
def oneF (K info : ByteArray) : Nat -> Int := macF K (info ++ zqjf 1)
theorem zq2j (K info : ByteArray) : tB K info 1 = strOf 32 (oneF K info) := by
 show strOf 32 (macF K (ByteArray.empty ++ info ++ zqjf 1)) = _
 rw [ByteArray.empty_append]; rfl
theorem zqmu (K info : ByteArray) : Bytes 32 (oneF K info) := zqg6 _ _
theorem zq8u (K info : ByteArray) : strOf 32 (zqfu K info) = strOf 32 (oneF K info) := by
 have := zqsm K info 0;rw [zqka, ByteArray.empty_append, zq2j] at this;exact this.symm
def zqbw (name secret info : ByteArray) : Nat -> Int := oneF (strOf 32 (macF name secret)) info
theorem zqt4 (name secret info : ByteArray) : Bytes 32 (zqbw name secret info) := zqmu _ _
end Go.Proofs.YtnjghcnhcbobhaaGreatDoor
namespace Go.Proofs.YtnjghcnhcbobhaaGreatDoor
open Go.RowKit
attribute [local irreducible] strOf shaF zqap padB zqbv zqb5
attribute [local irreducible] macF
theorem zqta (c : Int) : ints .u8 1 (fun _ => c) = #[.int .u8 c] := by unfold ints; rfl
theorem zq2z {W : World} {g i : Nat} {x : Int} {t : TypeId} (h : Full g #[.int .u8 x] t W) (e : x = ((i % 256 : Nat) : Int)) (m : More) : (convert 144 9 (.slice (some ⟨g, 0, none⟩) 1 1)).run Tryz.prog (more W m) = .ok (.string (zqjf i)) (more W m) := by
 subst e;exact zqdq (P := Tryz.prog) Tryz.underlying144 Tryz.underlying5 Tryz.underlying9 g 1 1 1 (fun _ => ((i % 256 : Nat) : Int)) (more W m) (te := t) (fr := (0, 0)) (zqq m (by rw [zqta]; exact h)) (by decide)
theorem zqr7 (salt secret : ByteArray) (w : World) (hk : salt.size <= 100000000) (hs : secret.size <= 100000000) :
  Calls Tryz.prog 138 #[.string salt, .string secret] w (Rt w (.agg (ints .u8 32 (macF salt secret)))) := by
 have h := fun W : World => zqkw salt secret W hk hs;generalize macF salt secret = M at *;have hG := Grew.refl w;have fr : True := trivial
 go_enter Tryz.func138, Tryz.ntmps138
 go_wp2_with fail;generalize hW : w.alloc (.cells (ints .u8 32 (zqe)) 43) = w1;replace fr : zqd w1 (w.heap.size) = some (.cells (ints .u8 32 (zqe)) 43) := zqs hW;replace hG : Below w.heap.size w w1 := zqak hW;clear hW;have lfr := zqa fr;go_wp2_with fail
 (refine (h _).mono ?_; rintro e w2 ⟨rfl, hb⟩; replace fr := zqc hb fr; have lfr := zqa fr; replace hG : Below w.heap.size w w2 := Grew.trans (by exact zqf) hb; clear hb)
 go_wp2;refine zqaf rfl _ 43 _ (0, 0) _ rfl (zqr _ fr) Tryz.underlying43 rfl (by rw [zqj]; kernel_rfl) rfl ⟨rfl, by exact zqf⟩
theorem zriq (k : Nat -> Int) (info : ByteArray) (w : World) :
  Calls Tryz.prog 151 #[.agg (ints .u8 32 k), .string info, .int .i64 0] w (Rt w (.string ByteArray.empty)) := by
 have hG := Grew.refl w;have fk : True := trivial
 go_enter Tryz.func151, Tryz.ntmps151
 go_wp2_with fail;generalize hW : w.alloc (.cells (ints .u8 32 (k)) 43) = w1;replace fk : zqd w1 (w.heap.size) = some (.cells (ints .u8 32 (k)) 43) := zqs hW;replace hG : Below w.heap.size w w1 := zqak hW;clear hW;have lfk := zqa fk;go_wp2;go_ret;exact ⟨rfl, by exact zqf⟩
theorem zroz (k : Nat -> Int) (info : ByteArray) (w : World) (hi : info.size <= 100000) :
  Calls Tryz.prog 151 #[.agg (ints .u8 32 k), .string info, .int .i64 1] w (Rt w (.string (tB (strOf 32 k) info 1))) := by
 have c1 := fun W : World => zqek k W;have c2 := fun W : World => zriq k info W;have f1 : zqgv ByteArray.empty info := by show 0 + _ <= _; omega
 have e1 : ByteArray.empty ++ info = info := ByteArray.empty_append;have f2 : zqgv info (zqjf 1) := by show _ + _ <= _; rw [zqks]; omega
 have c3 := fun W : World => zqkw (strOf 32 k) (info ++ zqjf 1) W (by rw [zq1]; omega) (by rw [ByteArray.size_append, zqks]; omega);have c4 := fun W : World => zqek (oneF (strOf 32 k) info) W;rw [<- zq2j] at c4;have e2 : macF (strOf 32 k) (info ++ zqjf 1) = oneF (strOf 32 k) info := rfl;rw [e2] at c3;clear e2;generalize oneF (strOf 32 k) info = M at *;generalize tB (strOf 32 k) info 1 = R at *;generalize strOf 32 k = K at *;clear hi;have hG := Grew.refl w;have fk : True := trivial
 go_enter Tryz.func151, Tryz.ntmps151
 go_wp2_with fail;generalize hW : w.alloc (.cells (ints .u8 32 (k)) 43) = w1;replace fk : zqd w1 (w.heap.size) = some (.cells (ints .u8 32 (k)) 43) := zqs hW;replace hG : Below w.heap.size w w1 := zqak hW;clear hW;have lfk := zqa fk;go_wp2_with fail
 (refine zqg4 zqb zqb ?_; (repeat (first | refine zqx rfl ?_ | (refine zqn rfl ?_; apply Exists.intro))); refine zqbn ?_; intro γ hinj hbase; (repeat (first | (refine zqy rfl ?_; ((first | go_big_quiet_skip | (go_big_quiet_want; go_big_quiet_op; go_big_quiet_on)); refine wpQuiet_nil ?_)) | ((first | refine zqk rfl (fun _ => rfl) ?_ | ((try simp only [Nat.zero_add, Nat.reduceAdd]); apply zqci zqt; (focus rfl); (focus (first | exact zq7 _ | exact zqac _ _ | exact zq4 _ | rfl)); (focus (exact zq2))) | ((try simp only [Nat.zero_add, Nat.reduceAdd]); apply zqa9 _ _ zqt; (focus rfl); (focus (intro W; (first | exact zqbp _ | exact zqa7 _ | exact zero_num _ | exact zqbc _ | exact zero_rnode _ | exact zqax _))); (focus (first | exact zqay _ _ _ | exact zqa6 _ _ | rfl)); (focus (exact zq2))) | ((try simp only [Nat.zero_add, Nat.reduceAdd]); apply zqbd zqt; (focus rfl); (focus (intro W; simp only [List.map_toArray, List.map_cons, List.map_nil]; first | (with_reducible exact zqno _ W) | exact zqno _ W)); (focus (exact zq2))) | (apply zqab; (focus rfl); (focus rfl); (focus rfl); (focus (intro W hC hF; (try (have hcv := fun m => zq2z (i := 1) (known hF (List.mem_cons_self ..) (by decide +kernel)) (by decide) m)); go_big_quiet_want; go_big_quiet_op; (first | go_big_quiet_on | (apply Exists.intro; refine ⟨fun _ => ?_, ?_⟩; (focus (first | (with_reducible exact Calls.of_more (c1 _)) | (with_reducible exact Calls.of_more (c2 _)) | (with_reducible exact Calls.of_more (c3 _)) | (with_reducible exact Calls.of_more (c4 _)))); go_big_quiet_on)); exact wpQuiet_nil rfl)); (focus (first | exact fun _ => ⟨rfl, rfl⟩ | exact fun h => absurd h (by decide))))); ((first | go_big_quiet_skip | (go_big_quiet_want; go_big_quiet_op; go_big_quiet_on)); refine wpQuiet_nil ?_)) | refine zql rfl (fun _ => rfl) ?_ | ((try simp only [Nat.zero_add, Nat.reduceAdd]); apply zqbb (zqaw (hbase _)); (focus rfl); (focus rfl); (focus rfl); (focus (first | exact zq7 _ | exact zqac _ _ | exact zq4 _ | rfl)); rotate_left 3; (focus (exact zqc3)); rotate_right 3; (focus kernel_rfl); (focus (first | exact zqj _ _ _ | rfl)); (focus (first | exact zqaz _ _ _ | exact zqbj _ _ _ _ | kernel_rfl)); (focus (decide +kernel)); (focus (exact zq2))))))
 (refine zqcb ?_; rintro _ ⟨mq, rfl⟩ hF; simp only [List.forall_mem_cons] at hF; obtain - := hF)
 go_wp2;go_ret;exact ⟨rfl, by exact zqf⟩
theorem zq8y (k : Nat -> Int) (info : ByteArray) (w : World) (hi : info.size <= 100000) :
  Calls Tryz.prog 137 #[.agg (ints .u8 32 k), .string info] w (Rt w (.agg (ints .u8 32 (oneF (strOf 32 k) info)))) := by
 have c1 := fun W : World => zroz k info W hi;have hb := zqmu (strOf 32 k) info;have hx : Hid (∀ j, j < 32 -> byteAt (tB (strOf 32 k) info 1) j = oneF (strOf 32 k) info j) := fun j hj => by rw [zq2j]; exact zqda _ _ _ hj (hb j hj)
 have hz : (tB (strOf 32 k) info 1).size = 32 := zqkn _ _ _;generalize oneF (strOf 32 k) info = F at *;generalize tB (strOf 32 k) info 1 = T1 at *;clear hi;have hG := Grew.refl w;have fk : True := trivial;have fr : True := trivial
 go_enter Tryz.func137, Tryz.ntmps137
 go_wp2_with fail;generalize hW : (w.alloc (.cells (ints .u8 32 (k)) 43)).alloc (.cells (ints .u8 32 (zqe)) 43) = w1;replace fk : zqd w1 (w.heap.size) = some (.cells (ints .u8 32 (k)) 43) := zqs hW;replace fr : zqd w1 (w.heap.size + 1) = some (.cells (ints .u8 32 (zqe)) 43) := zqs hW;replace hG : Below w.heap.size w w1 := zqak hW;clear hW;have lfk := zqa fk;have lfr := zqa fr;go_wp2_with fail
 (refine (c1 _).mono ?_; rintro e w2 ⟨rfl, hb⟩; replace fk : zqd w2 (w.heap.size) = some (.cells (ints .u8 32 (k)) 43) := zqc hb (by exact zqh); have lfk := zqa fk; replace fr : zqd w2 (w.heap.size + 1) = some (.cells (ints .u8 32 (zqe)) 43) := zqc hb (by exact zqh); have lfr := zqa fr; replace hG : Below w.heap.size w w2 := Grew.trans (by exact zqf) hb; clear hb)
 have nkk : ¬ (w2.heap.size = w.heap.size) := by omega
 have nkr : ¬ (w2.heap.size = w.heap.size + 1) := by omega
 have lw : w.heap.size <= w2.heap.size := hG.size;go_wp2_with fail;have fo : zqd (w2.alloc (.cells (ints .u8 32 (zqe)) 43)) w2.heap.size = some (.cells (ints .u8 32 (zqe)) 43) := zqg _ _ _ rfl;replace fk : zqd (w2.alloc (.cells (ints .u8 32 (zqe)) 43)) (w.heap.size) = some (.cells (ints .u8 32 (k)) 43) := zqi _ fk;replace fr : zqd (w2.alloc (.cells (ints .u8 32 (zqe)) 43)) (w.heap.size + 1) = some (.cells (ints .u8 32 (zqe)) 43) := zqi _ fr;replace hG : Below w.heap.size w (w2.alloc (.cells (ints .u8 32 (zqe)) 43)) := Grew.alloc hG _;clear lfk lfr;generalize w2.alloc (.cells (ints .u8 32 (zqe)) 43) = w3 at *;generalize w2.heap.size = go at *;have lfk := zqa fk;have lfr := zqa fr;have lfo := zqa fo;go_wp2_with fail
 go_loopw [7] (fun i wr => ∃ j : Nat, j <= 32 /\ i = .int .i64 j /\ Below w.heap.size w wr /\ zqd wr (w.heap.size) = some (.cells (ints .u8 32 (k)) 43) /\ zqd wr (w.heap.size + 1) = some (.cells (ints .u8 32 (zqe)) 43) /\ zqd wr (go) = some (.cells (ints .u8 32 (zqc7 F j)) 43)) (fun i _ => 32 - (intOf i).toNat)
 case atStart => exact ⟨0, by omega, rfl, hG, fk, fr, by rw [zqfd]; exact fo⟩
 case round =>
  clear fk lfk fr lfr fo lfo hG;obtain ⟨j, hj, rfl, hG, fk, fr, fo⟩ := hrel;have lfk := zqa fk;have lfr := zqa fr;have lfo := zqa fo
  by_cases hlt : j < 32
  ·have hix := fun w => zqph T1 j w (by omega)
   have e := hx.out j hlt;rw [e] at hix;have SS : Hid (upd (zqc7 F j) j (F j) = zqc7 F (j + 1)) := zqd6 F j;generalize F j = V at *;go_wp2;rw [SS.out]
   go_roundw
   case rel => exact ⟨j + 1, by omega, by go_num, by exact zqf, by exact zqh, by exact zqh, by exact zqh⟩
   case measure => simp [intOf]; omega
  ·obtain rfl : j = 32 := by omega
   clear hlt;rw [zqf7] at fo;go_wp2;refine zqaf rfl _ 43 _ (0, 0) _ rfl (zqr _ fr) Tryz.underlying43 rfl (by rw [zqj]; kernel_rfl) rfl ⟨rfl, by exact zqf⟩
end Go.Proofs.YtnjghcnhcbobhaaGreatDoor
namespace Go.Proofs.YtnjghcnhcbobhaaGreatDoor
open Go.RowKit
attribute [local irreducible] strOf shaF zqap padB zqbv zqb5
attribute [local irreducible] macF
def zqp8 : Prop := ∀ (k : Nat -> Int) (info : ByteArray) (n : Int) (W : World), Bytes 32 k -> info.size <= 100000 -> Tabs W -> Calls Tryz.prog 169 #[.agg (ints .u8 32 k), .string info, .int .i64 n] W (Rt W (.tuple #[.string (if 0 <= n /\ n <= 8160 then strOf n.toNat (zqfu (strOf 32 k) info) else ByteArray.empty), .bool (decide (0 <= n /\ n <= 8160))]))
theorem zqm9 (hE : zqp8) (k : Nat -> Int) (info : ByteArray) (N : Nat) (W : World) (hk : Bytes 32 k) (hi : info.size <= 100000) (hN : N <= 8160) (hT : Tabs W) : Calls Tryz.prog 169 #[.agg (ints .u8 32 k), .string info, .int .i64 (N : Int)] W (Rt W (.tuple #[.string (strOf N (zqfu (strOf 32 k) info)), .bool true])) := by
 have h := hE k info N W hk hi hT;have h0 : 0 <= (N : Int) /\ (N : Int) <= 8160 := ⟨by omega, by omega⟩
 rw [if_pos h0, decide_eq_true h0, show ((N : Int)).toNat = N by omega] at h;exact h
theorem zqxu (w : World) (hT : Tabs w) :
  Calls Tryz.prog 242 #[] w (Rt w (.bool true)) := by
 have hG := Grew.refl w
 go_enter Tryz.func242, Tryz.ntmps242
 go_wp2_with fail
 (refine (zqzo _ hT).mono ?_; rintro e w1 ⟨rfl, hb⟩; replace hG : Below w.heap.size w w1 := Grew.trans (by exact zqf) hb; clear hb)
 go_wp2;go_ret;exact ⟨rfl, by exact zqf⟩
theorem zqx8 (hE : zqp8) (w : World) (hT : Tabs w) :
  Calls Tryz.prog 241 #[] w (Rt w (.bool true)) := by
 have hTT : Hid (Tabs w) := hT;clear hT;have c0 : ∀ W : World, Below w.heap.size w W -> Calls Tryz.prog 169 #[.agg (ints .u8 32 zqe), .string ByteArray.empty, .int .i64 0] W (Rt W (.tuple #[.string ByteArray.empty, .bool true])) := fun W hW => by
  have := zqm9 hE zqe ByteArray.empty 0 W (fun _ _ => ⟨Int.le_refl 0, by show (0 : Int) <= 255; decide⟩) (by decide) (by decide) (hTT.out.later hW);rw [zqka] at this;exact this
 have c1 : ∀ W : World, Below w.heap.size w W -> Calls Tryz.prog 169 #[.agg (ints .u8 32 zqe), .string ByteArray.empty, .int .i64 1] W (Rt W (.tuple #[.string (strOf 1 (zqfu (strOf 32 zqe) ByteArray.empty)), .bool true])) := fun W hW => zqm9 hE zqe ByteArray.empty 1 W (fun _ _ => ⟨Int.le_refl 0, by show (0 : Int) <= 255; decide⟩) (by decide) (by decide) (hTT.out.later hW);have hz : (strOf 1 (zqfu (strOf 32 zqe) ByteArray.empty)).size = 1 := zq1 _ _;generalize strOf 1 (zqfu (strOf 32 zqe) ByteArray.empty) = S1 at *;clear hE;have hG := Grew.refl w
 go_enter Tryz.func241, Tryz.ntmps241
 go_wp2_with fail
 (refine (c0 _ hG).mono ?_; rintro e w1 ⟨rfl, hb⟩; replace hG : Below w.heap.size w w1 := Grew.trans (by exact zqf) hb; clear hb)
 go_wp2_with fail
 (refine (c1 _ hG).mono ?_; rintro e w2 ⟨rfl, hb⟩; replace hG : Below w.heap.size w w2 := Grew.trans (by exact zqf) hb; clear hb)
 go_wp2_with fail
 (refine (zqxu _ (hTT.out.later hG)).mono ?_; rintro e w3 ⟨rfl, hb⟩; replace hG : Below w.heap.size w w3 := Grew.trans (by exact zqf) hb; clear hb)
 go_wp2;go_ret;exact ⟨rfl, by exact zqf⟩
theorem zqyx (hE : zqp8) (w : World) (hT : Tabs w) :
  Calls Tryz.prog 239 #[] w (Rt w (.bool true)) := by
 have hG := Grew.refl w
 go_enter Tryz.func239, Tryz.ntmps239
 go_wp2_with fail
 (refine (zqx8 hE _ hT).mono ?_; rintro e w1 ⟨rfl, hb⟩; replace hG : Below w.heap.size w w1 := Grew.trans (by exact zqf) hb; clear hb)
 go_wp2;go_ret;exact ⟨rfl, by exact zqf⟩
end Go.Proofs.YtnjghcnhcbobhaaGreatDoor
namespace Go.Proofs.YtnjghcnhcbobhaaGreatDoor
open Go.RowKit
attribute [local irreducible] strOf shaF zqap padB zqbv zqb5
attribute [local irreducible] macF
end Go.Proofs.YtnjghcnhcbobhaaGreatDoor
