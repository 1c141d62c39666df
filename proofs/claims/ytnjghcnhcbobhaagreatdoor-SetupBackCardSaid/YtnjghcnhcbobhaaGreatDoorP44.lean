/-
For every input the law SetupBack of layer 18 returns true, and each argument reads afterwards as it read before; the listed tables of package sha and the listed handle of errors' type are tied to the program's text.
-/
import Derived.Test.YtnjghcnhcbobhaaGreatDoorU20
import Derived.Test.YtnjghcnhcbobhaaGreatDoorU19
import Derived.Test.YtnjghcnhcbobhaaGreatDoorB17
import Derived.Test.YtnjghcnhcbobhaaGreatDoorOw
import Derived.Test.YtnjghcnhcbobhaaGreatDoorL13
import Derived.Test.YtnjghcnhcbobhaaGreatDoorV14
import Derived.Test.YtnjghcnhcbobhaaGreatDoorE15
set_option linter.unusedVariables false
set_option linter.unusedSimpArgs false
set_option maxRecDepth 100000
set_option maxHeartbeats 4000000
namespace Go.Proofs.YtnjghcnhcbobhaaGreatDoor
open Go.RowKit Go.Extern
theorem zqh2 {W : ByteArray} {n m : Nat} {N I f : Nat -> Int} {P : Nat -> Nat -> Int} {t : Nat -> Int} (hs : W.size <= 30000) (hp : scE W = 0) (h1 : seN W = n) (hm : 2 * n - 2 = m) (hN : ∀ j, j < n -> sNm W j = N j) (hI : ∀ j, j < n -> sId W j = I j) (hf : ∀ i, i < 32 -> sFr W i = f i) (hP : ∀ j, j < m -> ∀ i, i < 32 -> sPk W j i = P j i) (ht : ∀ i, i < 32 -> sTg W i = t i) (w : World) :
  Calls Tryz.prog 28 #[.string W] w fun e w' => ∃ oa ob c d, e = .returned (.tuple #[.agg (stC (.slice oa n c) f (.slice ob m d) t), .nilIface]) /\ SeAt w' oa n N I /\ K32At w' ob m P /\ Below w.heap.size w w' := by
 refine (zqnt W w hs).mono ?_
 rintro e w' ⟨v, u, rfl, hB, hu, hb⟩;rw [hp, if_pos rfl, if_pos rfl, if_pos rfl, if_pos rfl, h1, hm] at hB;obtain ⟨oa, ob, c, d, rfl, hS, hK⟩ := hB.congr hN hI hf hP ht
 rcases hu with ⟨-, rfl⟩ | ⟨h, -⟩
 ·exact ⟨oa, ob, c, d, rfl, hS, hK, hb⟩
 ·exact absurd hp h
theorem zqg3 {W : ByteArray} {X : Int} (hs : W.size <= 30000) (hp : scE W = X) (h0 : X ≠ 0) (w : World) :
  Calls Tryz.prog 28 #[.string W] w fun e w' => ∃ oa ob c d t x, e = .returned (.tuple #[.agg (stC (.slice oa 0 c) zqe (.slice ob 0 d) zqe), .iface t x]) /\ ErV w' (.iface t x) X /\ Below w.heap.size w w' := by
 refine (zqnt W w hs).mono ?_
 rintro e w' ⟨v, u, rfl, hB, hu, hb⟩;rw [hp, if_neg h0, if_neg h0, if_neg h0, if_neg h0] at hB;rw [hp] at hu;obtain ⟨oa, ob, c, d, rfl, -⟩ := hB
 rcases hu with ⟨h, -⟩ | ⟨h, t, x, l, rfl, hc⟩
 ·exact absurd h h0
 ·exact ⟨oa, ob, c, d, t, x, rfl, .inr ⟨h, t, x, l, rfl, hc⟩, hb⟩
theorem zraw (n : Nat) (N I f : Nat -> Int) (m : Nat) (P : Nat -> Nat -> Int) (t : Nat -> Int) (h1 : 2 <= n) (hm : m = 2 * n - 2) : (sB n N I f m P t).size = 72 * n + 4 := by
 rw [zqs8]; omega
theorem zrd3 (n : Nat) (N I f : Nat -> Int) (m : Nat) (P : Nat -> Nat -> Int) (t : Nat -> Int) (h1 : 2 <= n) (h2 : n <= 40) (hm : m = 2 * n - 2) : scE (sB n N I f m P t ++ ⟨#[120]⟩) = 2 :=
 zrc4 (zqti n N I f m P t) (zqz0 n N I f m P t) (sB_n n N I f m P t (by omega)) h1 (by omega) (zraw n N I f m P t h1 hm) ⟨#[120]⟩ (by decide)
theorem zrfv (n : Nat) (N I f : Nat -> Int) (m : Nat) (P : Nat -> Nat -> Int) (t : Nat -> Int) (h1 : 2 <= n) (h2 : n <= 40) (hm : m = 2 * n - 2) : (sB n N I f m P t ++ ⟨#[120]⟩).size <= 30000 := by
 have h : (⟨#[120]⟩ : ByteArray).size = 1 := rfl;rw [ByteArray.size_append, zraw n N I f m P t h1 hm, h]
 omega
theorem zrha {n m : Nat} {N : Nat -> Int} (h : ¬ (2 <= n /\ m = 2 * n - 2 /\ ¬ Twice N n)) (hn : n <= 40) : chkE n N m ≠ 0 := by
 intro h0
 by_cases h1 : 2 <= n
 ·by_cases h2 : Twice N n
  ·rw [zqw0 (by omega) h2] at h0
   exact absurd h0 (by decide)
  ·by_cases h3 : m = 2 * n - 2
   ·exact h ⟨h1, h3, h2⟩
   ·rw [zqz9 (by omega) h2 h3] at h0
    exact absurd h0 (by decide)
 ·rw [zqzd (by omega)] at h0
  exact absurd h0 (by decide)
theorem zqo9 (aw : ∀ (w : World), Tabs w -> EtAt w -> Calls Tryz.prog 14 #[] w (Rt w (.bool true))) (oa ob : Option Addr) (n c m d : Nat) (f t N I : Nat -> Int) (P : Nat -> Nat -> Int) (S : ByteArray) (q : Int) (w : World) (hP : SeAt w oa n N I) (hN : ∀ j, j < n -> 0 <= N j /\ N j < 4294967296) (hI : ∀ j, j < n -> 0 <= I j /\ I j < 4294967296) (hK : K32At w ob m P) (gP : ∀ j, j < m -> Bytes 32 (P j)) (gf : Bytes 32 f) (gt : Bytes 32 t) (hq0 : 0 <= q) (hq1 : q <= 65535) (hT : Tabs w) (hE : EtAt w) :
  Calls Tryz.prog 5 #[.agg (stC (.slice oa n c) f (.slice ob m d) t), .string S, .int .u16 q] w (Rt w (.bool true)) := by
 have HE : Hid (EtAt w) := hE;have HP : Hid (SeAt w oa n N I) := hP;have HK : Hid (K32At w ob m P) := hK;have GP := hid1 gP;have HN := hid1 hN;have HI := hid1 hI;clear hP gP hK hN hI
 go_enter Tryz.func5, Tryz.ntmps5
 go_wp2_with fail;have f0 : zqd (w.alloc (.cells (stC (.slice oa n c) f (.slice ob m d) t) 47)) w.heap.size = some (.cells (stC (.slice oa n c) f (.slice ob m d) t) 47) := zqh _ _ _ rfl;have hG : Below w.heap.size w (w.alloc (.cells (stC (.slice oa n c) f (.slice ob m d) t) 47)) := Grew.alloc (Grew.refl _) _;have aw1 := aw (w.alloc (.cells (stC (.slice oa n c) f (.slice ob m d) t) 47)) (hT.later hG) (hE.later hG);clear aw hT hE;generalize w.alloc (.cells (stC (.slice oa n c) f (.slice ob m d) t) 47) = w0 at *;refine aw1.mono ?_
 rintro e w1 ⟨rfl, hb⟩;replace f0 := zqc hb f0;replace hG := Grew.trans hG hb;clear hb aw1;have l0 := zqa f0
 by_cases hn : (40 : Int) < (n : Int)
 ·go_wp2
  go_ret;exact ⟨rfl, hG⟩
 by_cases hm1 : (100 : Int) < (m : Int)
 ·go_wp2
  go_ret;exact ⟨rfl, hG⟩
 by_cases hbig : (5000 : Int) < (S.size : Int)
 ·go_wp2
  go_ret;exact ⟨rfl, hG⟩
 by_cases hd : 2 <= n /\ m = 2 * n - 2 /\ ¬ Twice N n
 ·obtain ⟨hn2, hme2, hdd⟩ := hd
  have hWs := zraw n N I f m P t hn2 hme2;have hWn := hid1 (sB_n n N I f m P t (by omega));have hW0 := hid1 (zqti n N I f m P t);have hW1 := hid1 (zqz0 n N I f m P t);have cW := fun (W : World) (hb : Below w.heap.size w W) => zqhj oa ob n c m d f t N I P W (HP.out.later hb) HN.out HI.out (HK.out.later hb) GP.out gf gt hn2 (by omega) hme2 hdd;have cG := fun (W : World) => zqh2 (W := sB n N I f m P t) (n := n) (m := m) (N := N) (I := I) (f := f) (P := P) (t := t) (by omega) ((zrlg n N I f m P t hn2 (by omega) hme2 HN.out).trans (zqgq hdd)) hWn.out hme2.symm (fun j hj => zrgn n N I f m P t j hj (HN.out j hj)) (fun j hj => zrlc n N I f m P t j hj (HI.out j hj)) (fun i hi => zrkw n N I f m P t (by omega) gf i hi) (fun j hj i hi => zrla n N I f m P t (by omega) GP.out j i hj hi) (fun i hi => zrlk n N I f m P t (by omega) hn2 hme2 gt i hi) W
  have hX : 0 < (sB n N I f m P t).size := by omega
  obtain ⟨k, hk⟩ : ∃ k : Nat, q.tmod ((sB n N I f m P t).size : Int) = (k : Int) := ⟨(q.tmod ((sB n N I f m P t).size : Int)).toNat, by have := Int.tmod_nonneg ((sB n N I f m P t).size : Int) hq0; omega⟩
  have hkl : k < (sB n N I f m P t).size := by have := Int.tmod_lt_of_pos q (show (0 : Int) < ((sB n N I f m P t).size : Int) by omega); omega
  have cS := fun (W : World) => zqg3 (W := (sB n N I f m P t).extract 0 k) (by rw [ByteArray.size_extract]; omega) (zq7i hW0.out hW1.out hWn.out hn2 (by omega) hWs k hkl) (by decide) W;have cL := fun (W : World) => zqg3 (X := 2) (zrfv n N I f m P t hn2 (by omega) hme2) (zrd3 n N I f m P t hn2 (by omega) hme2) (by decide) W;have hme : q % ((sB n N I f m P t).size : Int) = (k : Int) := by rw [<- hk, Int.tmod_eq_emod_of_nonneg hq0]
  have hqw : IntKind.i64.wrap q = q := wrap_small (by omega) (by omega);clear hWn hW0 hW1;generalize sB n N I f m P t = Z at *;have hz0 : ¬ ((Z.size : Int) = 0) := by omega
  have hm2 : (k : Int) <= (Z.size : Int) := by omega
  have hm3 : (0 : Int) <= (k : Int) := by omega
  have hz9 : ¬ (9223372036854775807 < Z.size + 1) := by omega
  clear hWs hX hkl hme2 hdd;go_wp2_with fail;refine (cW _ hG).mono ?_
  rintro e w2 ⟨rfl, hb⟩;replace f0 := zqc hb f0;replace hG := Grew.trans hG hb;clear hb cW;have l0 := zqa f0;go_wp2_with fail;refine (cG _).mono ?_
  rintro e w3 ⟨pa, pb, c1, d1, rfl, hS1, hP1, hb⟩;have HB : Hid (SeAt (w3.alloc (.cells (stC (.slice pa n c1) f (.slice pb m d1) t) 47)) pa n N I /\ K32At (w3.alloc (.cells (stC (.slice pa n c1) f (.slice pb m d1) t) 47)) pb m P) := ⟨hS1.later (Grew.alloc (Grew.refl _) _), hP1.later (Grew.alloc (Grew.refl _) _)⟩
  replace f0 := zqj (.cells (stC (.slice pa n c1) f (.slice pb m d1) t) 47) (zqc hb f0);have f1 : zqd (w3.alloc (.cells (stC (.slice pa n c1) f (.slice pb m d1) t) 47)) w3.heap.size = some (.cells (stC (.slice pa n c1) f (.slice pb m d1) t) 47) := zqh _ _ _ rfl;replace hG := Grew.alloc (Grew.trans hG hb) (.cells (stC (.slice pa n c1) f (.slice pb m d1) t) 47);clear hb hP1 hS1 cG;go_wp2_with fail;generalize w3.alloc (.cells (stC (.slice pa n c1) f (.slice pb m d1) t) 47) = w4 at *;generalize w3.heap.size = g1 at *;refine (cS _).mono ?_
  rintro e w5 ⟨o2, p2, c2, d2, t2, x2, rfl, hE2, hb⟩;have HV : Hid (ErV (w5.alloc (.cells (stC (.slice o2 0 c2) zqe (.slice p2 0 d2) zqe) 47)) (.iface t2 x2) 1) := hE2.later (Grew.alloc (Grew.refl _) _);have hb2 : Below w4.heap.size w4 (w5.alloc (.cells (stC (.slice o2 0 c2) zqe (.slice p2 0 d2) zqe) 47)) := Grew.alloc hb (.cells (stC (.slice o2 0 c2) zqe (.slice p2 0 d2) zqe) 47);replace HB : Hid (SeAt (w5.alloc (.cells (stC (.slice o2 0 c2) zqe (.slice p2 0 d2) zqe) 47)) pa n N I /\ K32At (w5.alloc (.cells (stC (.slice o2 0 c2) zqe (.slice p2 0 d2) zqe) 47)) pb m P) := ⟨HB.out.1.later hb2, HB.out.2.later hb2⟩
  replace f0 := zqj (.cells (stC (.slice o2 0 c2) zqe (.slice p2 0 d2) zqe) 47) (zqc hb f0);replace f1 := zqj (.cells (stC (.slice o2 0 c2) zqe (.slice p2 0 d2) zqe) 47) (zqc hb f1);replace hG := Grew.alloc (Grew.trans hG hb) (.cells (stC (.slice o2 0 c2) zqe (.slice p2 0 d2) zqe) 47);clear hb hb2 cS hE2;have l1 := zqa f1;go_wp2_with fail;generalize w5.alloc (.cells (stC (.slice o2 0 c2) zqe (.slice p2 0 d2) zqe) 47) = w6 at *;generalize w5.heap.size = g2 at *;refine (cL _).mono ?_
  rintro e w7 ⟨o3, p3, c3, d3, t3, x3, rfl, hE3, hb⟩;have HU : Hid (ErV (w7.alloc (.cells (stC (.slice o3 0 c3) zqe (.slice p3 0 d3) zqe) 47)) (.iface t3 x3) 2) := hE3.later (Grew.alloc (Grew.refl _) _);have hb2 : Below w6.heap.size w6 (w7.alloc (.cells (stC (.slice o3 0 c3) zqe (.slice p3 0 d3) zqe) 47)) := Grew.alloc hb (.cells (stC (.slice o3 0 c3) zqe (.slice p3 0 d3) zqe) 47);replace HV : Hid (ErV (w7.alloc (.cells (stC (.slice o3 0 c3) zqe (.slice p3 0 d3) zqe) 47)) (.iface t2 x2) 1) := HV.out.later hb2;replace HB : Hid (SeAt (w7.alloc (.cells (stC (.slice o3 0 c3) zqe (.slice p3 0 d3) zqe) 47)) pa n N I /\ K32At (w7.alloc (.cells (stC (.slice o3 0 c3) zqe (.slice p3 0 d3) zqe) 47)) pb m P) := ⟨HB.out.1.later hb2, HB.out.2.later hb2⟩
  replace f0 := zqj (.cells (stC (.slice o3 0 c3) zqe (.slice p3 0 d3) zqe) 47) (zqc hb f0);replace f1 := zqj (.cells (stC (.slice o3 0 c3) zqe (.slice p3 0 d3) zqe) 47) (zqc hb f1);replace hG := Grew.alloc (Grew.trans hG hb) (.cells (stC (.slice o3 0 c3) zqe (.slice p3 0 d3) zqe) 47);clear hb hb2 cL hE3 l0 l1;go_wp2_with fail;generalize w7.alloc (.cells (stC (.slice o3 0 c3) zqe (.slice p3 0 d3) zqe) 47) = w8 at *;generalize w7.heap.size = g3 at *;have l0 := zqa f0;have l1 := zqa f1;have HA : Hid (SeAt w8 oa n N I /\ K32At w8 ob m P) := ⟨HP.out.later hG, HK.out.later hG⟩
  have cA := fun (W : World) (hb : Below w8.heap.size w8 W) => zqk1 oa ob n c m d f t N I P W (by omega) (by omega) (HA.out.1.later hb) (HA.out.2.later hb);have cB := fun (W : World) (hb : Below w8.heap.size w8 W) => zqk1 pa pb n c1 m d1 f t N I P W (by omega) (by omega) (HB.out.1.later hb) (HB.out.2.later hb)
  refine zqe2 (fun k => k == 4 || k == 6) (fun k => match k with | 4 => fun u => ∃ oa ob c d, u = .agg (stC (.slice oa n c) f (.slice ob m d) t) | 6 => fun u => ∃ oa ob c d, u = .agg (stC (.slice oa n c) f (.slice ob m d) t) | _ => fun _ => True) (fun k => match k with | 4 => fun u w => ∀ oa ob c d, u = .agg (stC (.slice oa n c) f (.slice ob m d) t) -> SeAt w oa n N I /\ K32At w ob m P | 6 => fun u w => ∀ oa ob c d, u = .agg (stC (.slice oa n c) f (.slice ob m d) t) -> SeAt w oa n N I /\ K32At w ob m P | _ => fun _ _ => True) (fun k => match k with | 4 => .agg (stC (.slice none n 0) f (.slice none m 0) t) | 6 => .agg (stC (.slice none n 0) f (.slice none m 0) t) | _ => undef) (fun i hi => ?_) zqb zqb ?_
  ·simp only [Bool.or_eq_true, beq_iff_eq] at hi
   rcases hi with rfl | rfl
   ·exact ⟨none, none, 0, 0, rfl⟩
   ·exact ⟨none, none, 0, 0, rfl⟩
  iterate 4 (first | refine zqy rfl ?_ | (refine zqo rfl ?_; apply Exists.intro))
  refine zqo rfl ⟨undef, ?_⟩
  (first | refine zqy rfl ?_ | (refine zqo rfl ?_; apply Exists.intro))
  refine zqo rfl ⟨undef, ?_⟩
  iterate 13 (first | refine zqy rfl ?_ | (refine zqo rfl ?_; apply Exists.intro))
  refine zqb8 ?_
  intro γ gv hsv hinj hbase;obtain ⟨o5, p5, c5, d5, e5⟩ := hsv 4 rfl;obtain ⟨o6, p6, c6, d6, e6⟩ := hsv 6 rfl
  (repeat (first | (refine zq0 rfl ?_; ((first | go_big_quiet_skip | (go_big_quiet_want; go_big_quiet_op; go_big_quiet_on)); refine wpQuiet_nil ?_)) | ((first | refine zqm rfl (fun _ => rfl) ?_ | (apply zqae; (focus rfl); (focus rfl); (focus rfl); (focus (intro W hC hF; (have hbW : Below w8.heap.size w8 W := by obtain ⟨mm, rfl⟩ := hC; exact zql w8 mm); go_big_quiet_want; go_big_quiet_op; (first | go_big_quiet_on | (apply Exists.intro; refine ⟨fun _ => ?_, ?_⟩; (focus ((fail))); go_big_quiet_on)); exact wpQuiet_nil rfl)); (focus (first | exact fun _ => ⟨rfl, rfl⟩ | exact fun h => absurd h (by decide))))); ((first | go_big_quiet_skip | (go_big_quiet_want; go_big_quiet_op; go_big_quiet_on)); refine wpQuiet_nil ?_)) | refine zqn rfl (fun _ => rfl) ?_))
  refine rel_callv #[.agg (stC (.slice oa n c) f (.slice ob m d) t)] (enters_of Tryz.func15 zqb rfl) rfl e5 rfl rfl rfl rfl (zqbl (zqpb _ _ _ _ _ _ _ _)) (by first | kernel_rfl | simp [go_sem]) ?_ ?_
  ·intro W hC hF
   obtain ⟨mm, rfl⟩ := hC;refine (cA _ (zql w8 mm)).mono ?_
   rintro e w9 ⟨v, rfl, ⟨o8, o9, c9, d9, rfl, hs9, hp9⟩, hb9⟩;exact ⟨_, rfl, ⟨_, _, _, _, rfl⟩, (fun oa2 ob2 c2 d2 e2 => by rcases zqzt e2 with ⟨⟨rfl, rfl⟩, rfl, rfl⟩; exact ⟨hs9, hp9⟩), hb9⟩
  ((first | go_big_quiet_skip | (go_big_quiet_want; go_big_quiet_op; go_big_quiet_on)); refine wpQuiet_nil ?_)
  (repeat (first | (refine zq0 rfl ?_; ((first | go_big_quiet_skip | (go_big_quiet_want; go_big_quiet_op; go_big_quiet_on)); refine wpQuiet_nil ?_)) | ((first | refine zqm rfl (fun _ => rfl) ?_ | (apply zqae; (focus rfl); (focus rfl); (focus rfl); (focus (intro W hC hF; (have hbW : Below w8.heap.size w8 W := by obtain ⟨mm, rfl⟩ := hC; exact zql w8 mm); go_big_quiet_want; go_big_quiet_op; (first | go_big_quiet_on | (apply Exists.intro; refine ⟨fun _ => ?_, ?_⟩; (focus ((fail))); go_big_quiet_on)); exact wpQuiet_nil rfl)); (focus (first | exact fun _ => ⟨rfl, rfl⟩ | exact fun h => absurd h (by decide))))); ((first | go_big_quiet_skip | (go_big_quiet_want; go_big_quiet_op; go_big_quiet_on)); refine wpQuiet_nil ?_)) | refine zqn rfl (fun _ => rfl) ?_))
  refine rel_callv #[.agg (stC (.slice pa n c1) f (.slice pb m d1) t)] (enters_of Tryz.func15 zqb rfl) rfl e6 rfl rfl rfl rfl (fits_one (zqpb _ _ _ _ _ _ _ _) (zqpb _ _ _ _ _ _ _ _) rfl rfl (zqbl (zqpb _ _ _ _ _ _ _ _))) (by first | kernel_rfl | simp [go_sem]) ?_ ?_
  ·intro W hC hF
   obtain ⟨mm, rfl⟩ := hC;refine (cB _ (zql w8 mm)).mono ?_
   rintro e w9 ⟨v, rfl, ⟨o8, o9, c9, d9, rfl, hs9, hp9⟩, hb9⟩;exact ⟨_, rfl, ⟨_, _, _, _, rfl⟩, (fun oa2 ob2 c2 d2 e2 => by rcases zqzt e2 with ⟨⟨rfl, rfl⟩, rfl, rfl⟩; exact ⟨hs9, hp9⟩), hb9⟩
  ((first | go_big_quiet_skip | (go_big_quiet_want; go_big_quiet_op; go_big_quiet_on)); refine wpQuiet_nil ?_)
  (repeat (first | (refine zq0 rfl ?_; ((first | go_big_quiet_skip | (go_big_quiet_want; go_big_quiet_op; go_big_quiet_on)); refine wpQuiet_nil ?_)) | ((first | refine zqm rfl (fun _ => rfl) ?_ | (apply zqae; (focus rfl); (focus rfl); (focus rfl); (focus (intro W hC hF; (have hbW : Below w8.heap.size w8 W := by obtain ⟨mm, rfl⟩ := hC; exact zql w8 mm); (try (have hP0 : ∀ oa ob c d, (.agg (stC (.slice o6 n c6) f (.slice p6 m d6) t) : Value) = .agg (stC (.slice oa n c) f (.slice ob m d) t) -> SeAt W oa n N I /\ K32At W ob m P := known hF (List.mem_cons_self ..) (by decide +kernel))); (try (have hP1 : ∀ oa ob c d, (.agg (stC (.slice o5 n c5) f (.slice p5 m d5) t) : Value) = .agg (stC (.slice oa n c) f (.slice ob m d) t) -> SeAt W oa n N I /\ K32At W ob m P := known hF (List.mem_cons_of_mem _ (List.mem_cons_self ..)) (by decide +kernel))); go_big_quiet_want; go_big_quiet_op; (first | go_big_quiet_on | (apply Exists.intro; refine ⟨fun _ => ?_, ?_⟩; (focus (first | (exact Calls.of_more (zqjl o5 o6 p5 p6 n c5 c6 m d5 d6 f t N I P _ (by omega) (by omega) ((hP1 _ _ _ _ rfl).1.later (zql W _)) ((hP0 _ _ _ _ rfl).1.later (zql W _)) ((hP1 _ _ _ _ rfl).2.later (zql W _)) ((hP0 _ _ _ _ rfl).2.later (zql W _)))) | (exact Calls.of_more (zrgg _ (by decide) (HU.out.later (Grew.more hbW _)))) | (exact Calls.of_more (zrgg _ (by decide) (HV.out.later (Grew.more hbW _)))))); go_big_quiet_on)); exact wpQuiet_nil rfl)); (focus (first | exact fun _ => ⟨rfl, rfl⟩ | exact fun h => absurd h (by decide))))); ((first | go_big_quiet_skip | (go_big_quiet_want; go_big_quiet_op; go_big_quiet_on)); refine wpQuiet_nil ?_)) | refine zqn rfl (fun _ => rfl) ?_))
  (refine zqcg ?_; rintro _ ⟨mq, rfl⟩ hF; simp only [List.forall_mem_cons] at hF; obtain ⟨-, -⟩ := hF)
  replace hG := Grew.more hG mq;clear hinj hbase hsv e5 e6 HA HB HU HV f0 f1 l0 l1 cA cB;generalize more w8 mq = w9 at *;clear γ gv
  by_cases hX : scE S = 0
  ·obtain ⟨-, -, -, hb2, -, hb5, hb6⟩ := zq5f hX
   have hdd2 : ¬ Twice (sNm S) (seN S) := fun h => by rw [zqf0 h] at hb6; exact absurd hb6 (by decide)
   have cP := fun (W : World) => zqh2 (W := S) (n := seN S) (m := 2 * seN S - 2) (N := sNm S) (I := sId S) (f := sFr S) (P := sPk S) (t := sTg S) (by omega) hX rfl rfl (fun _ _ => rfl) (fun _ _ => rfl) (fun _ _ => rfl) (fun _ _ _ _ => rfl) (fun _ _ => rfl) W;have cW := fun (W : World) (o p : Option Addr) (cc dd : Nat) (hs : SeAt W o (seN S) (sNm S) (sId S)) (hp : K32At W p (2 * seN S - 2) (sPk S)) => zqhj o p (seN S) cc (2 * seN S - 2) dd (sFr S) (sTg S) (sNm S) (sId S) (sPk S) W hs (fun j _ => zq7q S j) (fun j _ => zq9c S j) hp (fun j _ => zrhl S j) (zrgj S) (zrhy S) hb2 (by omega) rfl hdd2;rw [zq2a hX] at cW;clear hb2 hb5 hb6 hX hdd2;generalize 2 * seN S - 2 = m2 at *;generalize seN S = n2 at *;generalize sFr S = f2 at *;generalize sTg S = t2 at *;generalize sPk S = P2 at *;generalize sNm S = N2 at *;generalize sId S = I2 at *;go_wp2_with fail
   refine (cP _).mono ?_
   rintro e w10 ⟨o4, p4, c4, d4, rfl, hs, hp, hb⟩;have HQ : Hid (SeAt (w10.alloc (.cells (stC (.slice o4 n2 c4) f2 (.slice p4 m2 d4) t2) 47)) o4 n2 N2 I2 /\ K32At (w10.alloc (.cells (stC (.slice o4 n2 c4) f2 (.slice p4 m2 d4) t2) 47)) p4 m2 P2) := ⟨hs.later (Grew.alloc (Grew.refl _) _), hp.later (Grew.alloc (Grew.refl _) _)⟩
   have f4 : zqd (w10.alloc (.cells (stC (.slice o4 n2 c4) f2 (.slice p4 m2 d4) t2) 47)) w10.heap.size = some (.cells (stC (.slice o4 n2 c4) f2 (.slice p4 m2 d4) t2) 47) := zqh _ _ _ rfl;replace hG := Grew.alloc (Grew.trans hG hb) (.cells (stC (.slice o4 n2 c4) f2 (.slice p4 m2 d4) t2) 47);clear hb hp hs cP;go_wp2_with fail;generalize w10.alloc (.cells (stC (.slice o4 n2 c4) f2 (.slice p4 m2 d4) t2) 47) = w11 at *;generalize w10.heap.size = g4 at *;refine (cW _ _ _ _ _ HQ.out.1 HQ.out.2).mono ?_
   rintro e w12 ⟨rfl, hb⟩;replace hG := Grew.trans hG hb;go_wp2;go_ret;exact ⟨rfl, hG⟩
  ·have cP := fun (W : World) => zqg3 (W := S) (X := scE S) (by omega) rfl hX W
   go_wp2_with fail;refine (cP _).mono ?_
   rintro e w10 ⟨o4, p4, c4, d4, t4, x4, rfl, -, hb⟩;have f4 : zqd (w10.alloc (.cells (stC (.slice o4 0 c4) zqe (.slice p4 0 d4) zqe) 47)) w10.heap.size = some (.cells (stC (.slice o4 0 c4) zqe (.slice p4 0 d4) zqe) 47) := zqh _ _ _ rfl;replace hG := Grew.alloc (Grew.trans hG hb) (.cells (stC (.slice o4 0 c4) zqe (.slice p4 0 d4) zqe) 47);clear hb cP;go_wp2_with fail;generalize w10.alloc (.cells (stC (.slice o4 0 c4) zqe (.slice p4 0 d4) zqe) 47) = w11 at *;generalize w10.heap.size = g4 at *;refine (zqk1 o4 p4 0 c4 0 d4 zqe zqe N I P _ (by decide) (by decide) (.inl rfl) (.inl rfl)).mono ?_
   rintro e w12 ⟨v, rfl, ⟨o7, p7, c7, d7, rfl, -⟩, hb⟩;replace hG := Grew.trans hG hb;clear hb;go_wp2_with fail;refine (zqjl o7 none p7 none 0 c7 0 0 d7 0 zqe zqe N I P _ (by decide) (by decide) (.inl rfl) (.inl rfl) (.inl rfl) (.inl rfl)).mono ?_
   rintro e w13 ⟨rfl, hb⟩;replace hG := Grew.trans hG hb;go_wp2;go_ret;exact ⟨rfl, hG⟩
 ·have hch := zrha hd (by omega)
  have cW := fun (W : World) (hb : Below w.heap.size w W) => zqx9 oa ob n c m d f t N I W (HP.out.later hb) HN.out (by omega) (by omega) hch;generalize chkE n N m = X9 at *;clear hd;go_wp2_with fail;refine (cW _ hG).mono ?_
  rintro e w9 ⟨u9, rfl, hu9, hb⟩;replace hG := Grew.trans hG hb;clear hb cW f0 l0
  rcases hu9 with ⟨h9, -⟩ | ⟨-, t9, x9, q9, rfl, -⟩
  case inl => exact absurd h9 hch
  by_cases hX : scE S = 0
  ·obtain ⟨-, -, -, hb2, -, hb5, hb6⟩ := zq5f hX
   have hdd2 : ¬ Twice (sNm S) (seN S) := fun h => by rw [zqf0 h] at hb6; exact absurd hb6 (by decide)
   have cP := fun (W : World) => zqh2 (W := S) (n := seN S) (m := 2 * seN S - 2) (N := sNm S) (I := sId S) (f := sFr S) (P := sPk S) (t := sTg S) (by omega) hX rfl rfl (fun _ _ => rfl) (fun _ _ => rfl) (fun _ _ => rfl) (fun _ _ _ _ => rfl) (fun _ _ => rfl) W;have cW := fun (W : World) (o p : Option Addr) (cc dd : Nat) (hs : SeAt W o (seN S) (sNm S) (sId S)) (hp : K32At W p (2 * seN S - 2) (sPk S)) => zqhj o p (seN S) cc (2 * seN S - 2) dd (sFr S) (sTg S) (sNm S) (sId S) (sPk S) W hs (fun j _ => zq7q S j) (fun j _ => zq9c S j) hp (fun j _ => zrhl S j) (zrgj S) (zrhy S) hb2 (by omega) rfl hdd2;rw [zq2a hX] at cW;clear hb2 hb5 hb6 hX hdd2;generalize 2 * seN S - 2 = m2 at *;generalize seN S = n2 at *;generalize sFr S = f2 at *;generalize sTg S = t2 at *;generalize sPk S = P2 at *;generalize sNm S = N2 at *;generalize sId S = I2 at *;go_wp2_with fail
   refine (cP _).mono ?_
   rintro e w10 ⟨o4, p4, c4, d4, rfl, hs, hp, hb⟩;have HQ : Hid (SeAt (w10.alloc (.cells (stC (.slice o4 n2 c4) f2 (.slice p4 m2 d4) t2) 47)) o4 n2 N2 I2 /\ K32At (w10.alloc (.cells (stC (.slice o4 n2 c4) f2 (.slice p4 m2 d4) t2) 47)) p4 m2 P2) := ⟨hs.later (Grew.alloc (Grew.refl _) _), hp.later (Grew.alloc (Grew.refl _) _)⟩
   have f4 : zqd (w10.alloc (.cells (stC (.slice o4 n2 c4) f2 (.slice p4 m2 d4) t2) 47)) w10.heap.size = some (.cells (stC (.slice o4 n2 c4) f2 (.slice p4 m2 d4) t2) 47) := zqh _ _ _ rfl;replace hG := Grew.alloc (Grew.trans hG hb) (.cells (stC (.slice o4 n2 c4) f2 (.slice p4 m2 d4) t2) 47);clear hb hp hs cP;go_wp2_with fail;generalize w10.alloc (.cells (stC (.slice o4 n2 c4) f2 (.slice p4 m2 d4) t2) 47) = w11 at *;generalize w10.heap.size = g4 at *;refine (cW _ _ _ _ _ HQ.out.1 HQ.out.2).mono ?_
   rintro e w12 ⟨rfl, hb⟩;replace hG := Grew.trans hG hb;go_wp2;go_ret;exact ⟨rfl, hG⟩
  ·have cP := fun (W : World) => zqg3 (W := S) (X := scE S) (by omega) rfl hX W
   go_wp2_with fail;refine (cP _).mono ?_
   rintro e w10 ⟨o4, p4, c4, d4, t4, x4, rfl, -, hb⟩;have f4 : zqd (w10.alloc (.cells (stC (.slice o4 0 c4) zqe (.slice p4 0 d4) zqe) 47)) w10.heap.size = some (.cells (stC (.slice o4 0 c4) zqe (.slice p4 0 d4) zqe) 47) := zqh _ _ _ rfl;replace hG := Grew.alloc (Grew.trans hG hb) (.cells (stC (.slice o4 0 c4) zqe (.slice p4 0 d4) zqe) 47);clear hb cP;go_wp2_with fail;generalize w10.alloc (.cells (stC (.slice o4 0 c4) zqe (.slice p4 0 d4) zqe) 47) = w11 at *;generalize w10.heap.size = g4 at *;refine (zqk1 o4 p4 0 c4 0 d4 zqe zqe N I P _ (by decide) (by decide) (.inl rfl) (.inl rfl)).mono ?_
   rintro e w12 ⟨v, rfl, ⟨o7, p7, c7, d7, rfl, -⟩, hb⟩;replace hG := Grew.trans hG hb;clear hb;go_wp2_with fail;refine (zqjl o7 none p7 none 0 c7 0 0 d7 0 zqe zqe N I P _ (by decide) (by decide) (.inl rfl) (.inl rfl) (.inl rfl) (.inl rfl)).mono ?_
   rintro e w13 ⟨rfl, hb⟩;replace hG := Grew.trans hG hb;go_wp2;go_ret;exact ⟨rfl, hG⟩
end Go.Proofs.YtnjghcnhcbobhaaGreatDoor
namespace Go.Proofs.YtnjghcnhcbobhaaGreatDoor
open Go.ChangeShapes Go.WideShapes Go.ChangeAt Go.RowKit
open Go.ChangeMaps (open_string shut_string)
theorem setupBack_lifted (os : Os) (started : os.Started) (H : Type) (enc : TypeId × Value -> H) :
  ReturnsInHanded {} Tryz.checked os 5 .any (fun w args => (Rows.setupBackSpec.pre enc Tryz.prog Tryz.f5 [] false w args /\ laidMetH Tryz.prog Rows.setupBackRow.laid w) /\ sizedMet enc Tryz.prog Tryz.f5 (OpenSpec.ofChange Rows.setupBackSpec) false w args)
   (Rows.setupBackSpec.post enc Tryz.prog Tryz.f5 false true false false) := by
 refine returnsInHanded_of_change_and (C := Tryz.checked) (X := fun w _ => laidMetH Tryz.prog Rows.setupBackRow.laid w) (fun _ _ _ hh h => h.of_heap hh) own started zqb Tryz.func5
  (ChangeSpec.witness_shaped (enc := enc) (C := Tryz.checked) (os := os) (X := fun w _ => laidMetH Tryz.prog Rows.setupBackRow.laid w) false (hwL os) #[.agg (#[Value.slice none 0 0] ++ Array.replicate 32 (Value.int .u8 0) ++ #[Value.slice none 0 0] ++ Array.replicate 32 (Value.int .u8 0)), .string ⟨#[]⟩, .int .u16 0] 8 (zrgz os)
   (World.shaped_of_ZipB zqb zqb) zqb zqb zqb
   (zrck os _)) ?_
 intro W base args ds gs before hval0 hW _ _ hL _;have hval : ∀ (j : Nat) t v, Tryz.f5.params[j]? = some t -> args[j]? = some v -> Value.okWide Tryz.prog W .any base t v := hval0;have hW' := hW;obtain ⟨p, q, hA0, hV, rfl, hfz, hnd⟩ := hW;have hA : DataW.TrodAll enc Tryz.prog W 0 (fun _ => true) true Tryz.f5.params.toList args.toList ds p := hA0;rw [Tryz.params5] at hA hval;obtain ⟨v0, vs0, d0, ds0, p0, q0, hargs, rfl, rfl, h0, r0⟩ := trodAll_cons hA;obtain ⟨v1, vs1, d1, ds1, p1, q1, rfl, rfl, rfl, h1, r1⟩ := trodAll_cons r0;obtain ⟨v2, vs2, d2, ds2, p2, q2, rfl, rfl, rfl, h2, r2⟩ := trodAll_cons r1;obtain ⟨rfl, rfl, rfl⟩ := trodAll_nil r2;obtain rfl : args = #[v0, v1, v2] := by cases args; simp_all
 obtain ⟨rfl, rfl⟩ := trodVars_none hV;have k0 := h0;have lt0 : ∀ x ∈ p0, x.block < W.heap.size := by obtain ⟨m, hm⟩ := k0; exact DataW.trod_lt m _ _ _ hm
 have k1 := h1;have lt1 : ∀ x ∈ p1, x.block < W.heap.size := by obtain ⟨m, hm⟩ := k1; exact DataW.trod_lt m _ _ _ hm
 have k2 := h2;have lt2 : ∀ x ∈ p2, x.block < W.heap.size := by obtain ⟨m, hm⟩ := k2; exact DataW.trod_lt m _ _ _ hm
 obtain ⟨oa0, ob0, n0, c0, m0, d0', f0, t0, N0, I0, P0, rfl, bn0, bi0, bp0, bf0, bt0, ms0, mk0⟩ := zq5e (hval 0 47 v0 rfl rfl) h0;obtain ⟨a1, rfl, _, _, w1⟩ := open_string Tryz.underlying9 (hval 1 9 v1 rfl rfl) h1;obtain ⟨a2, rfl, _, _, w2⟩ := open_int Tryz.underlying26 (hval 2 26 v2 rfl rfl) h2;clear hA0 hval0;obtain ⟨hT, hE⟩ := zq3w hL
 refine (zqo9 (fun W h hE => zqss (fun W h hE => zqto (fun W h hE => zqt3 (fun W h hE => zqsm (fun W h hE => zqtz (fun W h hE => zqs4 (fun W h hE => zqs0 (fun W h => zquc (fun W h => zqth (fun W h => zqsi (fun W h => zqsh (fun W h => zqtr aw12 W h) W h) W h) W h) W h) W h hE) W h hE) W h hE) W h hE) W h hE) W h hE) W h hE) oa0 ob0 n0 c0 m0 d0' f0 t0 N0 I0 P0 a1 a2 W ms0 bn0 bi0 mk0 bp0 bf0 bt0 (bounds_u16 w2).1 (bounds_u16 w2).2 hT hE).mono fun e W' ⟨he, bel⟩ => ?_
 subst he;exact ⟨_, rfl, _, _, _, [], _, [], hW', trodAll_mk1 (shut_bool Tryz.underlying4 _), (trodAll_cons_mk (Below.trod laidOut zqb (of_decide_eq_true zqb) k0 bel lt0) (trodAll_cons_mk (Below.trod laidOut zqb (of_decide_eq_true zqb) k1 bel lt1) (trodAll_cons_mk (Below.trod laidOut zqb (of_decide_eq_true zqb) k2 bel lt2) trodAll_mk0))), rfl, bel.frame _, fun h => by cases h⟩
theorem zqkw : joinedFacts Tryz.prog 5 Tryz.f5 (Rows.setupBackSpec) Rows.setupBackRow = true := by
 first
 | (unfold joinedFacts; rw [may_enter, make_is, zq5x]; first | (rw [zrmn 5 (by decide)]; kernel_rfl) | kernel_rfl)
 | kernel_rfl
theorem setupBack_said : Rows.SetupBackSaid :=
 OpenClaim.holds_of_wide 5 Tryz.f5 rfl rfl rfl rfl rfl rfl rfl ⟨rfl, rfl, rfl, rfl, rfl⟩ rfl rfl rfl rfl rfl zqb Tryz.func5 (by first | exact zqkw | kernel_rfl)
  (of_decide_eq_true zqb) (by unfold Func.isWrapper; first | (rw [if_pos (by decide +kernel)]; kernel_rfl) | (rw [if_neg (by decide +kernel)]; exact ⟨rfl, rfl⟩))
  (fun os started H enc _ => setupBack_lifted os started H enc)
theorem setupBack_card : Rows.SetupBackCardSaid :=
 Claim7.holds_tied_plain_at .later [] _ _ _ _ setupBack_said (fun _ h => by cases h) zqb (fun _ h => by cases h) setupBack_row_tie rfl ⟨rfl, rfl⟩ zqb rfl
  (fun f fn hf hfn => by
   obtain rfl : f = 5 := Option.some.inj ((show Tryz.prog.funcNamed "sapwood/sapwoodlaw18.SetupBack" = some 5 by kernel_rfl).symm.trans hf) |>.symm
   obtain rfl : fn = Tryz.f5 := (Option.some.inj (Tryz.func5.symm.trans hfn)).symm;exact ⟨by kernel_rfl, fun j t ht => by
    rw [Tryz.params5] at ht;have hm : t ∈ [47, 9, 26] := by simpa using Array.mem_of_getElem? ht
    have hall : ([47, 9, 26].all fun u => !Tryz.prog.wantsStandIn u) = true := by kernel_rfl
    exact (show Tryz.prog.wantsStandIn t = false by simpa using List.all_eq_true.1 hall t hm)⟩)
  zqb
end Go.Proofs.YtnjghcnhcbobhaaGreatDoor
