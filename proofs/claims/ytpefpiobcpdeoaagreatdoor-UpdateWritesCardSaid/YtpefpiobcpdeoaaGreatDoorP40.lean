/-
For every input the law UpdateWrites of layer 19 returns true, and each argument reads afterwards as it read before; the listed tables of package sha and the listed handle of errors' type are tied to the program's text.
-/
import Derived.Test.YtpefpiobcpdeoaaGreatDoorU20
import Derived.Test.YtpefpiobcpdeoaaGreatDoorOw
import Derived.Test.YtpefpiobcpdeoaaGreatDoorL13
import Derived.Test.YtpefpiobcpdeoaaGreatDoorV14
import Derived.Test.YtpefpiobcpdeoaaGreatDoorE15
import Derived.Test.YtpefpiobcpdeoaaGreatDoorB17
import Derived.Test.YtpefpiobcpdeoaaGreatDoorU19
set_option linter.unusedVariables false
set_option linter.unusedSimpArgs false
set_option maxRecDepth 100000
set_option maxHeartbeats 4000000
namespace Go.Proofs.YtpefpiobcpdeoaaGreatDoor
open Go.RowKit Go.Extern
theorem updateWrites_walk (aw : ∀ (w : World), Tabs w -> EtAt w -> Calls Tryz.prog 35 #[] w (Rt w (.bool true))) (s l : Int) (oa : Option Addr) (n c : Nat) (t : Nat -> Int) (P : Nat -> Nat -> Int) (N D : Int) (w : World) (cD1 : ∀ W : World, Calls Tryz.prog 97 #[.int .i64 N, .int .i64 l] W (Rt W (.int .i64 D))) (cD2 : ∀ W : World, Calls Tryz.prog 98 #[.int .i64 N, .int .i64 l] W (Rt W (.int .i64 D))) (hs : 0 <= s /\ s < 4294967296) (hl : 0 <= l /\ l < 65536) (hP : K32At w oa n P) (gP : ∀ j, j < n -> Bytes 32 (P j)) (gt : Bytes 32 t) (hT : Tabs w) (hE : EtAt w) :
  Calls Tryz.prog 7 #[.agg (uvC s l (.slice oa n c) t), .int .i64 N] w (Rt w (.bool true)) := by
 have HE : Hid (EtAt w) := hE;have HP : Hid (K32At w oa n P) := hP;have GP := hid1 gP;have H1 := hid1 cD1;have H2 := hid1 cD2;clear hP gP cD1 cD2
 go_enter Tryz.func7, Tryz.ntmps7
 go_wp2_with fail;have f0 : zqd (w.alloc (.cells (uvC s l (.slice oa n c) t) 81)) w.heap.size = some (.cells (uvC s l (.slice oa n c) t) 81) := zqg _ _ _ rfl;have hG : Below w.heap.size w (w.alloc (.cells (uvC s l (.slice oa n c) t) 81)) := Grew.alloc (Grew.refl _) _;have aw1 := aw (w.alloc (.cells (uvC s l (.slice oa n c) t) 81)) (hT.later hG) (hE.later hG);clear aw hT hE;generalize w.alloc (.cells (uvC s l (.slice oa n c) t) 81) = w0 at *;refine aw1.mono ?_
 rintro e w1 ⟨rfl, hb⟩;replace f0 := zqc hb f0;replace hG := Grew.trans hG hb;clear hb aw1;have l0 := zqa f0
 by_cases hn : (40 : Int) < (n : Int)
 ·go_wp2
  go_ret;exact ⟨rfl, hG⟩
 go_wp2_with fail;refine (of19_any s l oa n c t P _ (by omega) (HP.out.later hG)).mono ?_
 rintro e w2 ⟨v, rfl, ⟨ob, d, rfl, hp⟩, hb⟩;have f1 : zqd (w2.alloc (.cells (uvC s l (.slice ob n d) t) 83)) w2.heap.size = some (.cells (uvC s l (.slice ob n d) t) 83) := zqg _ _ _ rfl;have HB : Hid (K32At (w2.alloc (.cells (uvC s l (.slice ob n d) t) 83)) ob n P) := hp.later (Grew.alloc (Grew.refl _) _);replace f0 := zqj (.cells (uvC s l (.slice ob n d) t) 83) (zqc hb f0);replace hG := Grew.alloc (Grew.trans hG hb) (.cells (uvC s l (.slice ob n d) t) 83);clear hb hp l0;go_wp2_with fail;generalize w2.alloc (.cells (uvC s l (.slice ob n d) t) 83) = w3 at *;generalize w2.heap.size = g1 at *;refine (rcheck19_any s l ob n d t _).mono ?_
 rintro e w4 ⟨rfl, hb⟩;replace f0 := zqc hb f0;replace f1 := zqc hb f1;replace HB := hid1 (HB.out.later hb);replace hG := Grew.trans hG hb;clear hb;have l0 := zqa f0;have l1 := zqa f1
 by_cases hd : 1 <= n /\ n <= 10
 ·rw [if_pos hd]
  go_wp2_with fail;have hZ := uB_size s l n P t;have hBz := uF_size s l n P t;have cW := fun (W : World) (hb : Below w.heap.size w W) => uwrite_any s l oa n c t P W hs hl (HP.out.later hb) GP.out gt hd.1 hd.2;have cY := fun (W : World) (hb : Below w.heap.size w W) => ubody_any s l oa n c t P W hs hl (HP.out.later hb) GP.out hd.1 hd.2;have cRT := fun (W : World) (h : K32At W ob n P) => rtext19_any s l ob n d t P W hs hl h (by omega);have cRB := fun (W : World) (h : K32At W ob n P) => rbody19_any s l ob n d t P W hs hl h (by omega);generalize uB s l n P t = Z at *;generalize catS (uF s l n P t) 6 = Y at *;clear hZ hBz;refine (cW _ hG).mono ?_
  rintro e w5 ⟨rfl, hb⟩;replace f0 := zqc hb f0;replace f1 := zqc hb f1;replace HB := hid1 (HB.out.later hb);replace hG := Grew.trans hG hb;clear hb l0 l1;have l0 := zqa f0;have l1 := zqa f1;clear cW;go_wp2_with fail;refine (cY _ hG).mono ?_
  rintro e w6 ⟨rfl, hb⟩;replace f0 := zqc hb f0;replace f1 := zqc hb f1;replace HB := hid1 (HB.out.later hb);replace hG := Grew.trans hG hb;clear hb l0 l1;have l0 := zqa f0;have l1 := zqa f1;clear cY;have HA : Hid (ErV w6 .nilIface 0) := .inl ⟨rfl, rfl⟩;have HC : Hid (ErV w6 .nilIface 0) := .inl ⟨rfl, rfl⟩;have cC := fun (W : World) => ucheck_any s l oa n c t W;rw [if_pos hd] at cC;have cF := fun (W : World) => ufits_any s l oa n c t N D W hl H1.out;have cG := fun (W : World) => rfits19_any s l ob n d t N D W hl H2.out;generalize fitE l N n D = F at *;go_wp2_with fail
  refine zqd8 (fun k => k == 12 || k == 27) (fun k => match k with | 12 => fun u => ESh u | 27 => fun u => ESh u | _ => fun _ => True) (fun k => match k with | 12 => fun u w => ErV w u 0 | 27 => fun u w => ErV w u F | _ => fun _ _ => True) (fun k => match k with | 12 => .nilIface | 27 => .nilIface | _ => undef) (fun i hi => ?_) zqb zqb ?_
  ·simp only [Bool.or_eq_true, beq_iff_eq] at hi
   rcases hi with rfl | rfl
   ·exact .inl rfl
   ·exact .inl rfl
  iterate 12 (first | refine zqs rfl ?_ | (refine zqn rfl ?_; apply Exists.intro))
  refine zqn rfl ⟨undef, ?_⟩
  iterate 14 (first | refine zqs rfl ?_ | (refine zqn rfl ?_; apply Exists.intro))
  refine zqn rfl ⟨undef, ?_⟩
  iterate 6 (first | refine zqs rfl ?_ | (refine zqn rfl ?_; apply Exists.intro))
  refine zqbn ?_
  intro γ gv hsv hinj hbase;obtain ⟨u1, e1⟩ : ∃ u1, gv 12 = u1 := ⟨_, rfl⟩
  obtain ⟨u2, e2⟩ : ∃ u2, gv 27 = u2 := ⟨_, rfl⟩
  (repeat (first | (refine zqt rfl ?_; ((first | go_big_quiet_skip | (go_big_quiet_want; go_big_quiet_op; go_big_quiet_on)); refine wpQuiet_nil ?_)) | ((first | refine zql rfl (fun _ => rfl) ?_ | (apply zq4; (focus rfl); (focus rfl); (focus rfl); (focus (intro W hC hF; (have hbW : Below w6.heap.size w6 W := by obtain ⟨mm, rfl⟩ := hC; exact zqm w6 mm); (have hGW : Below w.heap.size w W := Grew.trans hG hbW); go_big_quiet_want; go_big_quiet_op; (first | go_big_quiet_on | (apply Exists.intro; refine ⟨fun _ => ?_, ?_⟩; (focus (first | (exact Calls.of_more (zqfs _ (HE.out.later (Grew.more hGW _)) (HA.out.later (Grew.more hbW _)))) | (exact Calls.of_more (zqfs _ (HE.out.later (Grew.more hGW _)) (HC.out.later (Grew.more hbW _)))))); go_big_quiet_on)); exact wpQuiet_nil rfl)); (focus (first | exact fun _ => ⟨rfl, rfl⟩ | exact fun h => absurd h (by decide))))); ((first | go_big_quiet_skip | (go_big_quiet_want; go_big_quiet_op; go_big_quiet_on)); refine wpQuiet_nil ?_)) | refine zqk rfl (fun _ => rfl) ?_))
  refine zqah #[.agg (uvC s l (.slice oa n c) t)] (enters_of Tryz.func40 zqb rfl) rfl e1 rfl rfl rfl rfl (zqbo (zqem _ _)) (by first | kernel_rfl | simp [go_sem]) ?_ ?_
  ·intro W hC hF
   obtain ⟨mm, rfl⟩ := hC;refine (cC _).mono ?_
   rintro e w9 ⟨u, rfl, hu, hb9⟩;exact ⟨_, rfl, hu.shape, hu, hb9⟩
  ((first | go_big_quiet_skip | (go_big_quiet_want; go_big_quiet_op; go_big_quiet_on)); refine wpQuiet_nil ?_)
  (repeat (first | (refine zqt rfl ?_; ((first | go_big_quiet_skip | (go_big_quiet_want; go_big_quiet_op; go_big_quiet_on)); refine wpQuiet_nil ?_)) | ((first | refine zql rfl (fun _ => rfl) ?_ | (apply zq4; (focus rfl); (focus rfl); (focus rfl); (focus (intro W hC hF; (have hbW : Below w6.heap.size w6 W := by obtain ⟨mm, rfl⟩ := hC; exact zqm w6 mm); (have hGW : Below w.heap.size w W := Grew.trans hG hbW); (try (have hE0 : ErV W u1 0 := known hF (List.mem_cons_self ..) (by decide +kernel))); go_big_quiet_want; go_big_quiet_op; (first | go_big_quiet_on | (apply Exists.intro; refine ⟨fun _ => ?_, ?_⟩; (focus ((exact Calls.of_more (zqfs _ (HE.out.later (Grew.more hGW _)) (hE0.later (zqm W _)))))); go_big_quiet_on)); exact wpQuiet_nil rfl)); (focus (first | exact fun _ => ⟨rfl, rfl⟩ | exact fun h => absurd h (by decide))))); ((first | go_big_quiet_skip | (go_big_quiet_want; go_big_quiet_op; go_big_quiet_on)); refine wpQuiet_nil ?_)) | refine zqk rfl (fun _ => rfl) ?_))
  refine zqah #[.agg (uvC s l (.slice oa n c) t), .int .i64 N] (enters_of Tryz.func41 zqb rfl) rfl e2 rfl rfl rfl rfl (zqfl (zqem _ _) (zqem _ _) rfl rfl (zqbo (zqem _ _))) (by first | kernel_rfl | simp [go_sem]) ?_ ?_
  ·intro W hC hF
   obtain ⟨mm, rfl⟩ := hC;refine (cF _).mono ?_
   rintro e w9 ⟨u, rfl, hu, hb9⟩;exact ⟨_, rfl, hu.shape, hu, hb9⟩
  ((first | go_big_quiet_skip | (go_big_quiet_want; go_big_quiet_op; go_big_quiet_on)); refine wpQuiet_nil ?_)
  (repeat (first | (refine zqt rfl ?_; ((first | go_big_quiet_skip | (go_big_quiet_want; go_big_quiet_op; go_big_quiet_on)); refine wpQuiet_nil ?_)) | ((first | refine zql rfl (fun _ => rfl) ?_ | (apply zq4; (focus rfl); (focus rfl); (focus rfl); (focus (intro W hC hF; (have hbW : Below w6.heap.size w6 W := by obtain ⟨mm, rfl⟩ := hC; exact zqm w6 mm); (have hGW : Below w.heap.size w W := Grew.trans hG hbW); (try (have hE0 : ErV W u2 F := known hF (List.mem_cons_self ..) (by decide +kernel))); go_big_quiet_want; go_big_quiet_op; (first | go_big_quiet_on | (apply Exists.intro; refine ⟨fun _ => ?_, ?_⟩; (focus (first | (exact Calls.of_more (zqfs _ (HE.out.later (Grew.more hGW _)) (hE0.later (zqm W _)))) | (exact Calls.of_more (cG _)))); go_big_quiet_on)); exact wpQuiet_nil rfl)); (focus (first | exact fun _ => ⟨rfl, rfl⟩ | exact fun h => absurd h (by decide))))); ((first | go_big_quiet_skip | (go_big_quiet_want; go_big_quiet_op; go_big_quiet_on)); refine wpQuiet_nil ?_)) | refine zqk rfl (fun _ => rfl) ?_))
  (refine zqb1 ?_; rintro _ ⟨mq, rfl⟩ hF; simp only [List.forall_mem_cons] at hF; obtain ⟨-, -⟩ := hF)
  replace hG := Grew.more hG mq;replace f1 := zqp mq f1;replace HB := hid1 (HB.out.later (zqm w6 mq));clear hinj hbase hsv e1 e2 f0 l0 l1 cC cF cG HA HC;generalize more w6 mq = w7 at *;clear γ gv;have l1 := zqa f1;go_wp2_with fail;refine (cRT _ HB.out).mono ?_
  rintro e w8 ⟨rfl, hb⟩;replace f1 := zqc hb f1;replace HB := hid1 (HB.out.later hb);replace hG := Grew.trans hG hb;clear hb l1;have l1 := zqa f1;go_wp2_with fail;refine (cRB _ HB.out).mono ?_
  rintro e w9 ⟨rfl, hb⟩;replace hG := Grew.trans hG hb;go_wp2;go_ret;exact ⟨rfl, hG⟩
 ·rw [if_neg hd]
  go_wp2_with fail;refine (uwrite_err s l oa n c t _ hd).mono ?_
  rintro e w5 ⟨ua, rfl, hua, hb⟩;replace f0 := zqc hb f0;replace f1 := zqc hb f1;replace HB := hid1 (HB.out.later hb);replace hG := Grew.trans hG hb;clear hb l0 l1;have l0 := zqa f0;have l1 := zqa f1;have HA := hid1 hua
  rcases hua with ⟨h9, -⟩ | ⟨-, ta, xa, qa, rfl, -⟩
  case inl => exact absurd h9 (by decide)
  go_wp2_with fail;refine (ubody_err s l oa n c t _ hd).mono ?_
  rintro e w6 ⟨ub, rfl, hub, hb⟩;replace HA := hid1 (HA.out.later hb);replace f0 := zqc hb f0;replace f1 := zqc hb f1;replace HB := hid1 (HB.out.later hb);replace hG := Grew.trans hG hb;clear hb l0 l1;have l0 := zqa f0;have l1 := zqa f1;have HC := hid1 hub
  rcases hub with ⟨h9, -⟩ | ⟨-, tb, xb, qb, rfl, -⟩
  case inl => exact absurd h9 (by decide)
  have cC := fun (W : World) => ucheck_any s l oa n c t W;rw [if_neg hd] at cC;have cF := fun (W : World) => ufits_any s l oa n c t N D W hl H1.out;have cG := fun (W : World) => rfits19_any s l ob n d t N D W hl H2.out;generalize fitE l N n D = F at *;go_wp2_with fail;refine zqd8 (fun k => k == 12 || k == 27) (fun k => match k with | 12 => fun u => ESh u | 27 => fun u => ESh u | _ => fun _ => True) (fun k => match k with | 12 => fun u w => ErV w u 6 | 27 => fun u w => ErV w u F | _ => fun _ _ => True) (fun k => match k with | 12 => .nilIface | 27 => .nilIface | _ => undef) (fun i hi => ?_) zqb zqb ?_
  ·simp only [Bool.or_eq_true, beq_iff_eq] at hi
   rcases hi with rfl | rfl
   ·exact .inl rfl
   ·exact .inl rfl
  iterate 12 (first | refine zqs rfl ?_ | (refine zqn rfl ?_; apply Exists.intro))
  refine zqn rfl ⟨undef, ?_⟩
  iterate 14 (first | refine zqs rfl ?_ | (refine zqn rfl ?_; apply Exists.intro))
  refine zqn rfl ⟨undef, ?_⟩
  iterate 6 (first | refine zqs rfl ?_ | (refine zqn rfl ?_; apply Exists.intro))
  refine zqbn ?_
  intro γ gv hsv hinj hbase;obtain ⟨u1, e1⟩ : ∃ u1, gv 12 = u1 := ⟨_, rfl⟩
  obtain ⟨u2, e2⟩ : ∃ u2, gv 27 = u2 := ⟨_, rfl⟩
  (repeat (first | (refine zqt rfl ?_; ((first | go_big_quiet_skip | (go_big_quiet_want; go_big_quiet_op; go_big_quiet_on)); refine wpQuiet_nil ?_)) | ((first | refine zql rfl (fun _ => rfl) ?_ | (apply zq4; (focus rfl); (focus rfl); (focus rfl); (focus (intro W hC hF; (have hbW : Below w6.heap.size w6 W := by obtain ⟨mm, rfl⟩ := hC; exact zqm w6 mm); (have hGW : Below w.heap.size w W := Grew.trans hG hbW); go_big_quiet_want; go_big_quiet_op; (first | go_big_quiet_on | (apply Exists.intro; refine ⟨fun _ => ?_, ?_⟩; (focus (first | (exact Calls.of_more (zqfs _ (HE.out.later (Grew.more hGW _)) (HA.out.later (Grew.more hbW _)))) | (exact Calls.of_more (zqfs _ (HE.out.later (Grew.more hGW _)) (HC.out.later (Grew.more hbW _)))))); go_big_quiet_on)); exact wpQuiet_nil rfl)); (focus (first | exact fun _ => ⟨rfl, rfl⟩ | exact fun h => absurd h (by decide))))); ((first | go_big_quiet_skip | (go_big_quiet_want; go_big_quiet_op; go_big_quiet_on)); refine wpQuiet_nil ?_)) | refine zqk rfl (fun _ => rfl) ?_))
  refine zqah #[.agg (uvC s l (.slice oa n c) t)] (enters_of Tryz.func40 zqb rfl) rfl e1 rfl rfl rfl rfl (zqbo (zqem _ _)) (by first | kernel_rfl | simp [go_sem]) ?_ ?_
  ·intro W hC hF
   obtain ⟨mm, rfl⟩ := hC;refine (cC _).mono ?_
   rintro e w9 ⟨u, rfl, hu, hb9⟩;exact ⟨_, rfl, hu.shape, hu, hb9⟩
  ((first | go_big_quiet_skip | (go_big_quiet_want; go_big_quiet_op; go_big_quiet_on)); refine wpQuiet_nil ?_)
  (repeat (first | (refine zqt rfl ?_; ((first | go_big_quiet_skip | (go_big_quiet_want; go_big_quiet_op; go_big_quiet_on)); refine wpQuiet_nil ?_)) | ((first | refine zql rfl (fun _ => rfl) ?_ | (apply zq4; (focus rfl); (focus rfl); (focus rfl); (focus (intro W hC hF; (have hbW : Below w6.heap.size w6 W := by obtain ⟨mm, rfl⟩ := hC; exact zqm w6 mm); (have hGW : Below w.heap.size w W := Grew.trans hG hbW); (try (have hE0 : ErV W u1 6 := known hF (List.mem_cons_self ..) (by decide +kernel))); go_big_quiet_want; go_big_quiet_op; (first | go_big_quiet_on | (apply Exists.intro; refine ⟨fun _ => ?_, ?_⟩; (focus ((exact Calls.of_more (zqfs _ (HE.out.later (Grew.more hGW _)) (hE0.later (zqm W _)))))); go_big_quiet_on)); exact wpQuiet_nil rfl)); (focus (first | exact fun _ => ⟨rfl, rfl⟩ | exact fun h => absurd h (by decide))))); ((first | go_big_quiet_skip | (go_big_quiet_want; go_big_quiet_op; go_big_quiet_on)); refine wpQuiet_nil ?_)) | refine zqk rfl (fun _ => rfl) ?_))
  refine zqah #[.agg (uvC s l (.slice oa n c) t), .int .i64 N] (enters_of Tryz.func41 zqb rfl) rfl e2 rfl rfl rfl rfl (zqfl (zqem _ _) (zqem _ _) rfl rfl (zqbo (zqem _ _))) (by first | kernel_rfl | simp [go_sem]) ?_ ?_
  ·intro W hC hF
   obtain ⟨mm, rfl⟩ := hC;refine (cF _).mono ?_
   rintro e w9 ⟨u, rfl, hu, hb9⟩;exact ⟨_, rfl, hu.shape, hu, hb9⟩
  ((first | go_big_quiet_skip | (go_big_quiet_want; go_big_quiet_op; go_big_quiet_on)); refine wpQuiet_nil ?_)
  (repeat (first | (refine zqt rfl ?_; ((first | go_big_quiet_skip | (go_big_quiet_want; go_big_quiet_op; go_big_quiet_on)); refine wpQuiet_nil ?_)) | ((first | refine zql rfl (fun _ => rfl) ?_ | (apply zq4; (focus rfl); (focus rfl); (focus rfl); (focus (intro W hC hF; (have hbW : Below w6.heap.size w6 W := by obtain ⟨mm, rfl⟩ := hC; exact zqm w6 mm); (have hGW : Below w.heap.size w W := Grew.trans hG hbW); (try (have hE0 : ErV W u2 F := known hF (List.mem_cons_self ..) (by decide +kernel))); go_big_quiet_want; go_big_quiet_op; (first | go_big_quiet_on | (apply Exists.intro; refine ⟨fun _ => ?_, ?_⟩; (focus (first | (exact Calls.of_more (zqfs _ (HE.out.later (Grew.more hGW _)) (hE0.later (zqm W _)))) | (exact Calls.of_more (cG _)))); go_big_quiet_on)); exact wpQuiet_nil rfl)); (focus (first | exact fun _ => ⟨rfl, rfl⟩ | exact fun h => absurd h (by decide))))); ((first | go_big_quiet_skip | (go_big_quiet_want; go_big_quiet_op; go_big_quiet_on)); refine wpQuiet_nil ?_)) | refine zqk rfl (fun _ => rfl) ?_))
  (refine zqb1 ?_; rintro _ ⟨mq, rfl⟩ hF; simp only [List.forall_mem_cons] at hF; obtain ⟨-, -⟩ := hF)
  replace hG := Grew.more hG mq;replace f1 := zqp mq f1;replace HB := hid1 (HB.out.later (zqm w6 mq));clear hinj hbase hsv e1 e2 f0 l0 l1 cC cF cG HA HC;generalize more w6 mq = w7 at *;clear γ gv;have l1 := zqa f1;go_wp2;go_ret;exact ⟨rfl, hG⟩
theorem updateWrites_any (aw : ∀ (w : World), Tabs w -> EtAt w -> Calls Tryz.prog 35 #[] w (Rt w (.bool true))) (s l : Int) (oa : Option Addr) (n c : Nat) (t : Nat -> Int) (P : Nat -> Nat -> Int) (N : Int) (w : World) (hs : 0 <= s /\ s < 4294967296) (hl : 0 <= l /\ l < 65536) (hP : K32At w oa n P) (gP : ∀ j, j < n -> Bytes 32 (P j)) (gt : Bytes 32 t) (hT : Tabs w) (hE : EtAt w) :
  Calls Tryz.prog 7 #[.agg (uvC s l (.slice oa n c) t), .int .i64 N] w (Rt w (.bool true)) :=
 updateWrites_walk aw s l oa n c t P N _ w (fun W => zqj7 N l W (by omega) (by omega)) (fun W => zqw6 N l W) hs hl hP gP gt hT hE
end Go.Proofs.YtpefpiobcpdeoaaGreatDoor
namespace Go.Proofs.YtpefpiobcpdeoaaGreatDoor
open Go.ChangeShapes Go.WideShapes Go.ChangeAt Go.RowKit
open Go.ChangeMaps (open_string shut_string)
theorem updateWrites_lifted (os : Os) (started : os.Started) (H : Type) (enc : TypeId × Value -> H) :
  ReturnsInHanded {} Tryz.checked os 7 .any (fun w args => (Rows.updateWritesSpec.pre enc Tryz.prog Tryz.f7 [] false w args /\ laidMetH Tryz.prog Rows.updateWritesRow.laid w) /\ sizedMet enc Tryz.prog Tryz.f7 (OpenSpec.ofChange Rows.updateWritesSpec) false w args)
   (Rows.updateWritesSpec.post enc Tryz.prog Tryz.f7 false true false false) := by
 refine returnsInHanded_of_change_and (C := Tryz.checked) (X := fun w _ => laidMetH Tryz.prog Rows.updateWritesRow.laid w) (fun _ _ _ hh h => h.of_heap hh) own started zqb Tryz.func7
  (ChangeSpec.witness_shaped (enc := enc) (C := Tryz.checked) (os := os) (X := fun w _ => laidMetH Tryz.prog Rows.updateWritesRow.laid w) false (hwL os) #[.agg (#[Value.int .u32 0, Value.int .u16 0, Value.slice none 0 0] ++ Array.replicate 32 (Value.int .u8 0)), .int .i64 0] 8 (zq0o os)
   (World.shaped_of_ZipB zqb zqb) zqb zqb zqb
   (zqs9 os _)) ?_
 intro W base args ds gs before hval0 hW _ _ hL _;have hval : ∀ (j : Nat) t v, Tryz.f7.params[j]? = some t -> args[j]? = some v -> Value.okWide Tryz.prog W .any base t v := hval0;have hW' := hW;obtain ⟨p, q, hA0, hV, rfl, hfz, hnd⟩ := hW;have hA : DataW.TrodAll enc Tryz.prog W 0 (fun _ => true) true Tryz.f7.params.toList args.toList ds p := hA0;rw [Tryz.params7] at hA hval;obtain ⟨v0, vs0, d0, ds0, p0, q0, hargs, rfl, rfl, h0, r0⟩ := trodAll_cons hA;obtain ⟨v1, vs1, d1, ds1, p1, q1, rfl, rfl, rfl, h1, r1⟩ := trodAll_cons r0;obtain ⟨rfl, rfl, rfl⟩ := trodAll_nil r1;obtain rfl : args = #[v0, v1] := by cases args; simp_all
 obtain ⟨rfl, rfl⟩ := trodVars_none hV;have k0 := h0;have lt0 : ∀ x ∈ p0, x.block < W.heap.size := by obtain ⟨m, hm⟩ := k0; exact DataW.trod_lt m _ _ _ hm
 have k1 := h1;have lt1 : ∀ x ∈ p1, x.block < W.heap.size := by obtain ⟨m, hm⟩ := k1; exact DataW.trod_lt m _ _ _ hm
 obtain ⟨s0, l0, oa0, n0, c0, P0, t0, rfl, bs0, bl0, bp0, bt0, m0⟩ := open_upd (hval 0 81 v0 rfl rfl) h0;obtain ⟨a1, rfl, _, _, w1⟩ := open_int Tryz.underlying3 (hval 1 3 v1 rfl rfl) h1;clear hA0 hval0;obtain ⟨hT, hE⟩ := zqpg hL;refine (updateWrites_any (fun W h hE => awake19_any (fun W h hE => Awake18_any (fun W h hE => awake18_any (fun W h hE => Awake17_any (fun W h hE => zqii (fun W h hE => zqh8 (fun W h hE => zqic (fun W h hE => zqh0 (fun W h hE => zqhw (fun W h => zqie (fun W h => zqig (fun W h => zqih (fun W h => zqhx (fun W h => zqia aw12 W h) W h) W h) W h) W h) W h hE) W h hE) W h hE) W h hE) W h hE) W h hE) W h hE) W h hE) W h hE) s0 l0 oa0 n0 c0 t0 P0 a1 W bs0 bl0 m0 bp0 bt0 hT hE).mono fun e W' ⟨he, bel⟩ => ?_
 subst he;exact ⟨_, rfl, _, _, _, [], _, [], hW', trodAll_mk1 (shut_bool Tryz.underlying4 _), (trodAll_cons_mk (Below.trod laidOut zqb (of_decide_eq_true zqb) k0 bel lt0) (trodAll_cons_mk (Below.trod laidOut zqb (of_decide_eq_true zqb) k1 bel lt1) trodAll_mk0)), rfl, bel.frame _, fun h => by cases h⟩
theorem zqh2 : joinedFacts Tryz.prog 7 Tryz.f7 (Rows.updateWritesSpec) Rows.updateWritesRow = true := by
 first
 | (unfold joinedFacts; rw [may_enter, make_is, zqo6]; first | (rw [zq7n 7 (by decide)]; kernel_rfl) | kernel_rfl)
 | kernel_rfl
theorem updateWrites_said : Rows.UpdateWritesSaid :=
 OpenClaim.holds_of_wide 7 Tryz.f7 rfl rfl rfl rfl rfl rfl rfl ⟨rfl, rfl, rfl, rfl, rfl⟩ rfl rfl rfl rfl rfl zqb Tryz.func7 (by first | exact zqh2 | kernel_rfl)
  (of_decide_eq_true zqb) (by unfold Func.isWrapper; first | (rw [if_pos (by decide +kernel)]; kernel_rfl) | (rw [if_neg (by decide +kernel)]; exact ⟨rfl, rfl⟩))
  (fun os started H enc _ => updateWrites_lifted os started H enc)
theorem updateWrites_card : Rows.UpdateWritesCardSaid :=
 Claim7.holds_tied_plain_at .later [] _ _ _ _ updateWrites_said (fun _ h => by cases h) zqb (fun _ h => by cases h) updateWrites_row_tie rfl ⟨rfl, rfl⟩ zqb rfl
  (fun f fn hf hfn => by
   obtain rfl : f = 7 := Option.some.inj ((show Tryz.prog.funcNamed "sapwood/sapwoodlaw19.UpdateWrites" = some 7 by kernel_rfl).symm.trans hf) |>.symm
   obtain rfl : fn = Tryz.f7 := (Option.some.inj (Tryz.func7.symm.trans hfn)).symm;exact ⟨by kernel_rfl, fun j t ht => by
    rw [Tryz.params7] at ht;have hm : t ∈ [81, 3] := by simpa using Array.mem_of_getElem? ht
    have hall : ([81, 3].all fun u => !Tryz.prog.wantsStandIn u) = true := by kernel_rfl
    exact (show Tryz.prog.wantsStandIn t = false by simpa using List.all_eq_true.1 hall t hm)⟩)
  zqb
end Go.Proofs.YtpefpiobcpdeoaaGreatDoor
