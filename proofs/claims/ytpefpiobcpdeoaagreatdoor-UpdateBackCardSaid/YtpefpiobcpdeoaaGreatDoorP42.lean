/-
For every input the law UpdateBack of layer 19 returns true, and each argument reads afterwards as it read before; the listed tables of package sha and the listed handle of errors' type are tied to the program's text.
-/
import Derived.Test.YtpefpiobcpdeoaaGreatDoorU20
import Derived.Test.YtpefpiobcpdeoaaGreatDoorB17
import Derived.Test.YtpefpiobcpdeoaaGreatDoorOw
import Derived.Test.YtpefpiobcpdeoaaGreatDoorL13
import Derived.Test.YtpefpiobcpdeoaaGreatDoorV14
import Derived.Test.YtpefpiobcpdeoaaGreatDoorE15
import Derived.Test.YtpefpiobcpdeoaaGreatDoorU19
set_option linter.unusedVariables false
set_option linter.unusedSimpArgs false
set_option maxRecDepth 100000
set_option maxHeartbeats 4000000
namespace Go.Proofs.YtpefpiobcpdeoaaGreatDoor
open Go.RowKit Go.Extern
theorem uparse_good {W : ByteArray} {s l : Int} {n : Nat} {P : Nat -> Nat -> Int} {t : Nat -> Int} (hs : W.size <= 30000) (hp : ucE W = 0) (h1 : uSt W = s) (h2 : uLf W = l) (h3 : uN W = n) (hP : ∀ j, j < n -> ∀ i, i < 32 -> uPk W j i = P j i) (ht : ∀ i, i < 32 -> uTg W i = t i) (w : World) :
  Calls Tryz.prog 45 #[.string W] w fun e w' => ∃ oa c, e = .returned (.tuple #[.agg (uvC s l (.slice oa n c) t), .nilIface]) /\ K32At w' oa n P /\ Below w.heap.size w w' := by
 refine (uparse_any W w hs).mono ?_
 rintro e w' ⟨v, u, rfl, hB, hu, hb⟩;rw [hp, if_pos rfl, if_pos rfl, if_pos rfl, if_pos rfl, h1, h2, h3] at hB;obtain ⟨oa, c, rfl, hK⟩ := hB.congr hP ht
 rcases hu with ⟨-, rfl⟩ | ⟨h, -⟩
 ·exact ⟨oa, c, rfl, hK, hb⟩
 ·exact absurd hp h
theorem uparse_bad {W : ByteArray} {X : Int} (hs : W.size <= 30000) (hp : ucE W = X) (h0 : X ≠ 0) (w : World) :
  Calls Tryz.prog 45 #[.string W] w fun e w' => ∃ oa c t x, e = .returned (.tuple #[.agg (uvC 0 0 (.slice oa 0 c) zqe), .iface t x]) /\ ErV w' (.iface t x) X /\ Below w.heap.size w w' := by
 refine (uparse_any W w hs).mono ?_
 rintro e w' ⟨v, u, rfl, hB, hu, hb⟩;rw [hp, if_neg h0, if_neg h0, if_neg h0, if_neg h0] at hB;rw [hp] at hu;obtain ⟨oa, c, rfl, -⟩ := hB
 rcases hu with ⟨h, -⟩ | ⟨h, t, x, l, rfl, hc⟩
 ·exact absurd h h0
 ·exact ⟨oa, c, t, x, rfl, .inr ⟨h, t, x, l, rfl, hc⟩, hb⟩
theorem uB_long (s l : Int) (n : Nat) (P : Nat -> Nat -> Int) (t : Nat -> Int) (h1 : 1 <= n) (h2 : n <= 10) : ucE (uB s l n P t ++ ⟨#[120]⟩) = 2 :=
 uc_long (uB_zero s l n P t) (uB_one s l n P t) (uB_n s l n P t (by omega)) h1 h2 (uB_size s l n P t) ⟨#[120]⟩ (by decide)
theorem uB_lsz (s l : Int) (n : Nat) (P : Nat -> Nat -> Int) (t : Nat -> Int) (h2 : n <= 10) : (uB s l n P t ++ ⟨#[120]⟩).size <= 30000 := by
 have h : (⟨#[120]⟩ : ByteArray).size = 1 := rfl;rw [ByteArray.size_append, uB_size, h]
 omega
theorem updateBack_any (aw : ∀ (w : World), Tabs w -> EtAt w -> Calls Tryz.prog 35 #[] w (Rt w (.bool true))) (s l : Int) (oa : Option Addr) (n c : Nat) (t : Nat -> Int) (P : Nat -> Nat -> Int) (S : ByteArray) (q : Int) (w : World) (hs : 0 <= s /\ s < 4294967296) (hl : 0 <= l /\ l < 65536) (hP : K32At w oa n P) (gP : ∀ j, j < n -> Bytes 32 (P j)) (gt : Bytes 32 t) (hq0 : 0 <= q) (hq1 : q <= 65535) (hT : Tabs w) (hE : EtAt w) :
  Calls Tryz.prog 9 #[.agg (uvC s l (.slice oa n c) t), .string S, .int .u16 q] w (Rt w (.bool true)) := by
 have HE : Hid (EtAt w) := hE;have HP : Hid (K32At w oa n P) := hP;have GP := hid1 gP;clear hP gP
 go_enter Tryz.func9, Tryz.ntmps9
 go_wp2_with fail;have f0 : zqd (w.alloc (.cells (uvC s l (.slice oa n c) t) 81)) w.heap.size = some (.cells (uvC s l (.slice oa n c) t) 81) := zqg _ _ _ rfl;have hG : Below w.heap.size w (w.alloc (.cells (uvC s l (.slice oa n c) t) 81)) := Grew.alloc (Grew.refl _) _;have aw1 := aw (w.alloc (.cells (uvC s l (.slice oa n c) t) 81)) (hT.later hG) (hE.later hG);clear aw hT hE;generalize w.alloc (.cells (uvC s l (.slice oa n c) t) 81) = w0 at *;refine aw1.mono ?_
 rintro e w1 ⟨rfl, hb⟩;replace f0 := zqc hb f0;replace hG := Grew.trans hG hb;clear hb aw1;have l0 := zqa f0
 by_cases hn : (40 : Int) < (n : Int)
 ·go_wp2
  go_ret;exact ⟨rfl, hG⟩
 by_cases hbig : (1000 : Int) < (S.size : Int)
 ·go_wp2
  go_ret;exact ⟨rfl, hG⟩
 by_cases hd : 1 <= n /\ n <= 10
 ·have hWs := uB_size s l n P t
  have hWn := uB_n s l n P t (by omega);have hW0 := hid1 (uB_zero s l n P t);have hW1 := hid1 (uB_one s l n P t);have cW := fun (W : World) (hb : Below w.heap.size w W) => uwrite_any s l oa n c t P W hs hl (HP.out.later hb) GP.out gt hd.1 hd.2;have cG := fun (W : World) => uparse_good (W := uB s l n P t) (s := s) (l := l) (n := n) (P := P) (t := t) (by omega) (uB_uc s l n P t hd.1 hd.2) (uB_st s l n P t hs) (uB_lf s l n P t hl) hWn (fun j hj i hi => uB_pk s l n P t GP.out j i hj hi) (fun i hi => uB_tg s l n P t (by omega) gt i hi) W;have hX : 0 < (uB s l n P t).size := by omega
  obtain ⟨m, hm⟩ : ∃ m : Nat, q.tmod ((uB s l n P t).size : Int) = (m : Int) := ⟨(q.tmod ((uB s l n P t).size : Int)).toNat, by have := Int.tmod_nonneg ((uB s l n P t).size : Int) hq0; omega⟩
  have hml : m < (uB s l n P t).size := by have := Int.tmod_lt_of_pos q (show (0 : Int) < ((uB s l n P t).size : Int) by omega); omega
  have cS := fun (W : World) => uparse_bad (W := (uB s l n P t).extract 0 m) (by rw [ByteArray.size_extract]; omega) (uc_short hW0.out hW1.out hWn hd.1 hd.2 hWs m hml) (by decide) W;have cL := fun (W : World) => uparse_bad (X := 2) (uB_lsz s l n P t hd.2) (uB_long s l n P t hd.1 hd.2) (by decide) W;have hme : q % ((uB s l n P t).size : Int) = (m : Int) := by rw [<- hm, Int.tmod_eq_emod_of_nonneg hq0]
  have hqw : IntKind.i64.wrap q = q := wrap_small (by omega) (by omega);clear hWn hW0 hW1;generalize uB s l n P t = Z at *;have hz0 : ¬ ((Z.size : Int) = 0) := by omega
  have hm2 : (m : Int) <= (Z.size : Int) := by omega
  have hm3 : (0 : Int) <= (m : Int) := by omega
  have hz9 : ¬ (9223372036854775807 < Z.size + 1) := by omega
  clear hWs hX hml;go_wp2_with fail;refine (cW _ hG).mono ?_
  rintro e w2 ⟨rfl, hb⟩;replace f0 := zqc hb f0;replace hG := Grew.trans hG hb;clear hb cW;have l0 := zqa f0;go_wp2_with fail;refine (cG _).mono ?_
  rintro e w3 ⟨ob, d, rfl, hP1, hb⟩;have HB : Hid (K32At (w3.alloc (.cells (uvC s l (.slice ob n d) t) 81)) ob n P) := hP1.later (Grew.alloc (Grew.refl _) _);replace f0 := zqj (.cells (uvC s l (.slice ob n d) t) 81) (zqc hb f0);have f1 : zqd (w3.alloc (.cells (uvC s l (.slice ob n d) t) 81)) w3.heap.size = some (.cells (uvC s l (.slice ob n d) t) 81) := zqg _ _ _ rfl;replace hG := Grew.alloc (Grew.trans hG hb) (.cells (uvC s l (.slice ob n d) t) 81);clear hb hP1 cG;go_wp2_with fail;generalize w3.alloc (.cells (uvC s l (.slice ob n d) t) 81) = w4 at *;generalize w3.heap.size = g1 at *;refine (cS _).mono ?_
  rintro e w5 ⟨o2, c2, t2, x2, rfl, hE2, hb⟩;have HV : Hid (ErV (w5.alloc (.cells (uvC 0 0 (.slice o2 0 c2) zqe) 81)) (.iface t2 x2) 1) := hE2.later (Grew.alloc (Grew.refl _) _);replace HB : Hid (K32At (w5.alloc (.cells (uvC 0 0 (.slice o2 0 c2) zqe) 81)) ob n P) := (HB.out.later hb).later (Grew.alloc (Grew.refl _) _);replace f0 := zqj (.cells (uvC 0 0 (.slice o2 0 c2) zqe) 81) (zqc hb f0);replace f1 := zqj (.cells (uvC 0 0 (.slice o2 0 c2) zqe) 81) (zqc hb f1);replace hG := Grew.alloc (Grew.trans hG hb) (.cells (uvC 0 0 (.slice o2 0 c2) zqe) 81);clear hb cS hE2;have l1 := zqa f1;go_wp2_with fail;generalize w5.alloc (.cells (uvC 0 0 (.slice o2 0 c2) zqe) 81) = w6 at *;generalize w5.heap.size = g2 at *;refine (cL _).mono ?_
  rintro e w7 ⟨o3, c3, t3, x3, rfl, hE3, hb⟩;have HU : Hid (ErV (w7.alloc (.cells (uvC 0 0 (.slice o3 0 c3) zqe) 81)) (.iface t3 x3) 2) := hE3.later (Grew.alloc (Grew.refl _) _);replace HV : Hid (ErV (w7.alloc (.cells (uvC 0 0 (.slice o3 0 c3) zqe) 81)) (.iface t2 x2) 1) := (HV.out.later hb).later (Grew.alloc (Grew.refl _) _);replace HB : Hid (K32At (w7.alloc (.cells (uvC 0 0 (.slice o3 0 c3) zqe) 81)) ob n P) := (HB.out.later hb).later (Grew.alloc (Grew.refl _) _);replace f0 := zqj (.cells (uvC 0 0 (.slice o3 0 c3) zqe) 81) (zqc hb f0);replace f1 := zqj (.cells (uvC 0 0 (.slice o3 0 c3) zqe) 81) (zqc hb f1);replace hG := Grew.alloc (Grew.trans hG hb) (.cells (uvC 0 0 (.slice o3 0 c3) zqe) 81);clear hb cL hE3 l0 l1;go_wp2_with fail;generalize w7.alloc (.cells (uvC 0 0 (.slice o3 0 c3) zqe) 81) = w8 at *;generalize w7.heap.size = g3 at *
  have l0 := zqa f0;have l1 := zqa f1;have HA : Hid (K32At w8 oa n P) := HP.out.later hG;have cA := fun (W : World) (hb : Below w8.heap.size w8 W) => of19_any s l oa n c t P W (by omega) (HA.out.later hb);have cB := fun (W : World) (hb : Below w8.heap.size w8 W) => of19_any s l ob n d t P W (by omega) (HB.out.later hb)
  refine zqd8 (fun k => k == 4 || k == 6) (fun k => match k with | 4 => fun u => ∃ oa c, u = .agg (uvC s l (.slice oa n c) t) | 6 => fun u => ∃ oa c, u = .agg (uvC s l (.slice oa n c) t) | _ => fun _ => True) (fun k => match k with | 4 => fun u w => ∀ oa c, u = .agg (uvC s l (.slice oa n c) t) -> K32At w oa n P | 6 => fun u w => ∀ oa c, u = .agg (uvC s l (.slice oa n c) t) -> K32At w oa n P | _ => fun _ _ => True) (fun k => match k with | 4 => .agg (uvC s l (.slice none n 0) t) | 6 => .agg (uvC s l (.slice none n 0) t) | _ => undef) (fun i hi => ?_) zqb zqb ?_
  ·simp only [Bool.or_eq_true, beq_iff_eq] at hi
   rcases hi with rfl | rfl
   ·exact ⟨none, 0, rfl⟩
   ·exact ⟨none, 0, rfl⟩
  iterate 4 (first | refine zqs rfl ?_ | (refine zqn rfl ?_; apply Exists.intro))
  refine zqn rfl ⟨undef, ?_⟩
  (first | refine zqs rfl ?_ | (refine zqn rfl ?_; apply Exists.intro))
  refine zqn rfl ⟨undef, ?_⟩
  iterate 13 (first | refine zqs rfl ?_ | (refine zqn rfl ?_; apply Exists.intro))
  refine zqbn ?_
  intro γ gv hsv hinj hbase;obtain ⟨o5, c5, e5⟩ := hsv 4 rfl;obtain ⟨o6, c6, e6⟩ := hsv 6 rfl
  (repeat (first | (refine zqt rfl ?_; ((first | go_big_quiet_skip | (go_big_quiet_want; go_big_quiet_op; go_big_quiet_on)); refine wpQuiet_nil ?_)) | ((first | refine zql rfl (fun _ => rfl) ?_ | (apply zq4; (focus rfl); (focus rfl); (focus rfl); (focus (intro W hC hF; (have hbW : Below w8.heap.size w8 W := by obtain ⟨mm, rfl⟩ := hC; exact zqm w8 mm); go_big_quiet_want; go_big_quiet_op; (first | go_big_quiet_on | (apply Exists.intro; refine ⟨fun _ => ?_, ?_⟩; (focus ((fail))); go_big_quiet_on)); exact wpQuiet_nil rfl)); (focus (first | exact fun _ => ⟨rfl, rfl⟩ | exact fun h => absurd h (by decide))))); ((first | go_big_quiet_skip | (go_big_quiet_want; go_big_quiet_op; go_big_quiet_on)); refine wpQuiet_nil ?_)) | refine zqk rfl (fun _ => rfl) ?_))
  refine zqah #[.agg (uvC s l (.slice oa n c) t)] (enters_of Tryz.func36 zqb rfl) rfl e5 rfl rfl rfl rfl (zqbo (stab_up _ _ _ _ _ _)) (by first | kernel_rfl | simp [go_sem]) ?_ ?_
  ·intro W hC hF
   obtain ⟨mm, rfl⟩ := hC;refine (cA _ (zqm w8 mm)).mono ?_
   rintro e w9 ⟨v, rfl, ⟨o9, c9, rfl, hp9⟩, hb9⟩;exact ⟨_, rfl, ⟨_, _, rfl⟩, (fun oa2 c2 e2 => by rcases uvC_inj e2 with ⟨rfl, rfl⟩; exact hp9), hb9⟩
  ((first | go_big_quiet_skip | (go_big_quiet_want; go_big_quiet_op; go_big_quiet_on)); refine wpQuiet_nil ?_)
  (repeat (first | (refine zqt rfl ?_; ((first | go_big_quiet_skip | (go_big_quiet_want; go_big_quiet_op; go_big_quiet_on)); refine wpQuiet_nil ?_)) | ((first | refine zql rfl (fun _ => rfl) ?_ | (apply zq4; (focus rfl); (focus rfl); (focus rfl); (focus (intro W hC hF; (have hbW : Below w8.heap.size w8 W := by obtain ⟨mm, rfl⟩ := hC; exact zqm w8 mm); go_big_quiet_want; go_big_quiet_op; (first | go_big_quiet_on | (apply Exists.intro; refine ⟨fun _ => ?_, ?_⟩; (focus ((fail))); go_big_quiet_on)); exact wpQuiet_nil rfl)); (focus (first | exact fun _ => ⟨rfl, rfl⟩ | exact fun h => absurd h (by decide))))); ((first | go_big_quiet_skip | (go_big_quiet_want; go_big_quiet_op; go_big_quiet_on)); refine wpQuiet_nil ?_)) | refine zqk rfl (fun _ => rfl) ?_))
  refine zqah #[.agg (uvC s l (.slice ob n d) t)] (enters_of Tryz.func36 zqb rfl) rfl e6 rfl rfl rfl rfl (zqfl (stab_up _ _ _ _ _ _) (stab_up _ _ _ _ _ _) rfl rfl (zqbo (stab_up _ _ _ _ _ _))) (by first | kernel_rfl | simp [go_sem]) ?_ ?_
  ·intro W hC hF
   obtain ⟨mm, rfl⟩ := hC;refine (cB _ (zqm w8 mm)).mono ?_
   rintro e w9 ⟨v, rfl, ⟨o9, c9, rfl, hp9⟩, hb9⟩;exact ⟨_, rfl, ⟨_, _, rfl⟩, (fun oa2 c2 e2 => by rcases uvC_inj e2 with ⟨rfl, rfl⟩; exact hp9), hb9⟩
  ((first | go_big_quiet_skip | (go_big_quiet_want; go_big_quiet_op; go_big_quiet_on)); refine wpQuiet_nil ?_)
  (repeat (first | (refine zqt rfl ?_; ((first | go_big_quiet_skip | (go_big_quiet_want; go_big_quiet_op; go_big_quiet_on)); refine wpQuiet_nil ?_)) | ((first | refine zql rfl (fun _ => rfl) ?_ | (apply zq4; (focus rfl); (focus rfl); (focus rfl); (focus (intro W hC hF; (have hbW : Below w8.heap.size w8 W := by obtain ⟨mm, rfl⟩ := hC; exact zqm w8 mm); (try (have hP0 : ∀ oa c, (.agg (uvC s l (.slice o6 n c6) t) : Value) = .agg (uvC s l (.slice oa n c) t) -> K32At W oa n P := known hF (List.mem_cons_self ..) (by decide +kernel))); (try (have hP1 : ∀ oa c, (.agg (uvC s l (.slice o5 n c5) t) : Value) = .agg (uvC s l (.slice oa n c) t) -> K32At W oa n P := known hF (List.mem_cons_of_mem _ (List.mem_cons_self ..)) (by decide +kernel))); go_big_quiet_want; go_big_quiet_op; (first | go_big_quiet_on | (apply Exists.intro; refine ⟨fun _ => ?_, ?_⟩; (focus (first | (exact Calls.of_more (same19_any s l o5 o6 n c5 c6 t P _ (by omega) ((hP1 _ _ rfl).later (zqm W _)) ((hP0 _ _ rfl).later (zqm W _)))) | (exact Calls.of_more (zre3 _ (by decide) (HU.out.later (Grew.more hbW _)))) | (exact Calls.of_more (zre3 _ (by decide) (HV.out.later (Grew.more hbW _)))))); go_big_quiet_on)); exact wpQuiet_nil rfl)); (focus (first | exact fun _ => ⟨rfl, rfl⟩ | exact fun h => absurd h (by decide))))); ((first | go_big_quiet_skip | (go_big_quiet_want; go_big_quiet_op; go_big_quiet_on)); refine wpQuiet_nil ?_)) | refine zqk rfl (fun _ => rfl) ?_))
  (refine zqb1 ?_; rintro _ ⟨mq, rfl⟩ hF; simp only [List.forall_mem_cons] at hF; obtain ⟨-, -⟩ := hF)
  replace hG := Grew.more hG mq;clear hinj hbase hsv e5 e6 HA HB HU HV f0 f1 l0 l1 cA cB;generalize more w8 mq = w9 at *;clear γ gv
  by_cases hX : ucE S = 0
  ·obtain ⟨-, -, -, hb2, hb3, -⟩ := uc_ok hX
   have cP := fun (W : World) => uparse_good (W := S) (s := uSt S) (l := uLf S) (n := uN S) (P := uPk S) (t := uTg S) (by omega) hX rfl rfl rfl (fun _ _ _ _ => rfl) (fun _ _ => rfl) W;have cW := fun (W : World) (o : Option Addr) (cc : Nat) (hp : K32At W o (uN S) (uPk S)) => uwrite_any (uSt S) (uLf S) o (uN S) cc (uTg S) (uPk S) W (uSt_bd S) (uLf_bd S) hp (fun j _ => uPk_b S j) (uTg_b S) hb2 hb3;rw [uB_back hX] at cW;clear hb2 hb3 hX;generalize uSt S = s2 at *;generalize uLf S = l2 at *;generalize uN S = n2 at *;generalize uTg S = t2 at *;generalize uPk S = P2 at *;go_wp2_with fail;refine (cP _).mono ?_
   rintro e w10 ⟨o4, c4, rfl, hp, hb⟩;have HQ : Hid (K32At (w10.alloc (.cells (uvC s2 l2 (.slice o4 n2 c4) t2) 81)) o4 n2 P2) := hp.later (Grew.alloc (Grew.refl _) _);have f4 : zqd (w10.alloc (.cells (uvC s2 l2 (.slice o4 n2 c4) t2) 81)) w10.heap.size = some (.cells (uvC s2 l2 (.slice o4 n2 c4) t2) 81) := zqg _ _ _ rfl;replace hG := Grew.alloc (Grew.trans hG hb) (.cells (uvC s2 l2 (.slice o4 n2 c4) t2) 81);clear hb hp cP;go_wp2_with fail;generalize w10.alloc (.cells (uvC s2 l2 (.slice o4 n2 c4) t2) 81) = w11 at *;generalize w10.heap.size = g4 at *;refine (cW _ _ _ HQ.out).mono ?_
   rintro e w12 ⟨rfl, hb⟩;replace hG := Grew.trans hG hb;go_wp2;go_ret;exact ⟨rfl, hG⟩
  ·have cP := fun (W : World) => uparse_bad (W := S) (X := ucE S) (by omega) rfl hX W
   go_wp2_with fail;refine (cP _).mono ?_
   rintro e w10 ⟨o4, c4, t4, x4, rfl, -, hb⟩;have f4 : zqd (w10.alloc (.cells (uvC 0 0 (.slice o4 0 c4) zqe) 81)) w10.heap.size = some (.cells (uvC 0 0 (.slice o4 0 c4) zqe) 81) := zqg _ _ _ rfl;replace hG := Grew.alloc (Grew.trans hG hb) (.cells (uvC 0 0 (.slice o4 0 c4) zqe) 81);clear hb cP;go_wp2_with fail;generalize w10.alloc (.cells (uvC 0 0 (.slice o4 0 c4) zqe) 81) = w11 at *;generalize w10.heap.size = g4 at *;refine (of19_any 0 0 o4 0 c4 zqe P _ (by decide) (.inl rfl)).mono ?_
   rintro e w12 ⟨v, rfl, ⟨o7, c7, rfl, -⟩, hb⟩;replace hG := Grew.trans hG hb;clear hb;go_wp2_with fail;refine (same19_any 0 0 o7 none 0 c7 0 zqe P _ (by decide) (.inl rfl) (.inl rfl)).mono ?_
   rintro e w13 ⟨rfl, hb⟩;replace hG := Grew.trans hG hb;go_wp2;go_ret;exact ⟨rfl, hG⟩
 ·have cW := fun (W : World) => uwrite_err s l oa n c t W hd
  go_wp2_with fail;refine (cW _).mono ?_
  rintro e w9 ⟨u9, rfl, hu9, hb⟩;replace hG := Grew.trans hG hb;clear hb cW f0 l0
  rcases hu9 with ⟨h9, -⟩ | ⟨-, t9, x9, q9, rfl, -⟩
  case inl => exact absurd h9 (by decide)
  by_cases hX : ucE S = 0
  ·obtain ⟨-, -, -, hb2, hb3, -⟩ := uc_ok hX
   have cP := fun (W : World) => uparse_good (W := S) (s := uSt S) (l := uLf S) (n := uN S) (P := uPk S) (t := uTg S) (by omega) hX rfl rfl rfl (fun _ _ _ _ => rfl) (fun _ _ => rfl) W;have cW := fun (W : World) (o : Option Addr) (cc : Nat) (hp : K32At W o (uN S) (uPk S)) => uwrite_any (uSt S) (uLf S) o (uN S) cc (uTg S) (uPk S) W (uSt_bd S) (uLf_bd S) hp (fun j _ => uPk_b S j) (uTg_b S) hb2 hb3;rw [uB_back hX] at cW;clear hb2 hb3 hX;generalize uSt S = s2 at *;generalize uLf S = l2 at *;generalize uN S = n2 at *;generalize uTg S = t2 at *;generalize uPk S = P2 at *;go_wp2_with fail;refine (cP _).mono ?_
   rintro e w10 ⟨o4, c4, rfl, hp, hb⟩;have HQ : Hid (K32At (w10.alloc (.cells (uvC s2 l2 (.slice o4 n2 c4) t2) 81)) o4 n2 P2) := hp.later (Grew.alloc (Grew.refl _) _);have f4 : zqd (w10.alloc (.cells (uvC s2 l2 (.slice o4 n2 c4) t2) 81)) w10.heap.size = some (.cells (uvC s2 l2 (.slice o4 n2 c4) t2) 81) := zqg _ _ _ rfl;replace hG := Grew.alloc (Grew.trans hG hb) (.cells (uvC s2 l2 (.slice o4 n2 c4) t2) 81);clear hb hp cP;go_wp2_with fail;generalize w10.alloc (.cells (uvC s2 l2 (.slice o4 n2 c4) t2) 81) = w11 at *;generalize w10.heap.size = g4 at *;refine (cW _ _ _ HQ.out).mono ?_
   rintro e w12 ⟨rfl, hb⟩;replace hG := Grew.trans hG hb;go_wp2;go_ret;exact ⟨rfl, hG⟩
  ·have cP := fun (W : World) => uparse_bad (W := S) (X := ucE S) (by omega) rfl hX W
   go_wp2_with fail;refine (cP _).mono ?_
   rintro e w10 ⟨o4, c4, t4, x4, rfl, -, hb⟩;have f4 : zqd (w10.alloc (.cells (uvC 0 0 (.slice o4 0 c4) zqe) 81)) w10.heap.size = some (.cells (uvC 0 0 (.slice o4 0 c4) zqe) 81) := zqg _ _ _ rfl;replace hG := Grew.alloc (Grew.trans hG hb) (.cells (uvC 0 0 (.slice o4 0 c4) zqe) 81);clear hb cP;go_wp2_with fail;generalize w10.alloc (.cells (uvC 0 0 (.slice o4 0 c4) zqe) 81) = w11 at *;generalize w10.heap.size = g4 at *;refine (of19_any 0 0 o4 0 c4 zqe P _ (by decide) (.inl rfl)).mono ?_
   rintro e w12 ⟨v, rfl, ⟨o7, c7, rfl, -⟩, hb⟩;replace hG := Grew.trans hG hb;clear hb;go_wp2_with fail;refine (same19_any 0 0 o7 none 0 c7 0 zqe P _ (by decide) (.inl rfl) (.inl rfl)).mono ?_
   rintro e w13 ⟨rfl, hb⟩;replace hG := Grew.trans hG hb;go_wp2;go_ret;exact ⟨rfl, hG⟩
end Go.Proofs.YtpefpiobcpdeoaaGreatDoor
namespace Go.Proofs.YtpefpiobcpdeoaaGreatDoor
open Go.ChangeShapes Go.WideShapes Go.ChangeAt Go.RowKit
open Go.ChangeMaps (open_string shut_string)
theorem updateBack_lifted (os : Os) (started : os.Started) (H : Type) (enc : TypeId × Value -> H) :
  ReturnsInHanded {} Tryz.checked os 9 .any (fun w args => (Rows.updateBackSpec.pre enc Tryz.prog Tryz.f9 [] false w args /\ laidMetH Tryz.prog Rows.updateBackRow.laid w) /\ sizedMet enc Tryz.prog Tryz.f9 (OpenSpec.ofChange Rows.updateBackSpec) false w args)
   (Rows.updateBackSpec.post enc Tryz.prog Tryz.f9 false true false false) := by
 refine returnsInHanded_of_change_and (C := Tryz.checked) (X := fun w _ => laidMetH Tryz.prog Rows.updateBackRow.laid w) (fun _ _ _ hh h => h.of_heap hh) own started zqb Tryz.func9
  (ChangeSpec.witness_shaped (enc := enc) (C := Tryz.checked) (os := os) (X := fun w _ => laidMetH Tryz.prog Rows.updateBackRow.laid w) false (hwL os) #[.agg (#[Value.int .u32 0, Value.int .u16 0, Value.slice none 0 0] ++ Array.replicate 32 (Value.int .u8 0)), .string ⟨#[]⟩, .int .u16 0] 8 (zq0o os)
   (World.shaped_of_ZipB zqb zqb) zqb zqb zqb
   (zqs9 os _)) ?_
 intro W base args ds gs before hval0 hW _ _ hL _;have hval : ∀ (j : Nat) t v, Tryz.f9.params[j]? = some t -> args[j]? = some v -> Value.okWide Tryz.prog W .any base t v := hval0;have hW' := hW;obtain ⟨p, q, hA0, hV, rfl, hfz, hnd⟩ := hW;have hA : DataW.TrodAll enc Tryz.prog W 0 (fun _ => true) true Tryz.f9.params.toList args.toList ds p := hA0;rw [Tryz.params9] at hA hval;obtain ⟨v0, vs0, d0, ds0, p0, q0, hargs, rfl, rfl, h0, r0⟩ := trodAll_cons hA;obtain ⟨v1, vs1, d1, ds1, p1, q1, rfl, rfl, rfl, h1, r1⟩ := trodAll_cons r0;obtain ⟨v2, vs2, d2, ds2, p2, q2, rfl, rfl, rfl, h2, r2⟩ := trodAll_cons r1;obtain ⟨rfl, rfl, rfl⟩ := trodAll_nil r2;obtain rfl : args = #[v0, v1, v2] := by cases args; simp_all
 obtain ⟨rfl, rfl⟩ := trodVars_none hV;have k0 := h0;have lt0 : ∀ x ∈ p0, x.block < W.heap.size := by obtain ⟨m, hm⟩ := k0; exact DataW.trod_lt m _ _ _ hm
 have k1 := h1;have lt1 : ∀ x ∈ p1, x.block < W.heap.size := by obtain ⟨m, hm⟩ := k1; exact DataW.trod_lt m _ _ _ hm
 have k2 := h2;have lt2 : ∀ x ∈ p2, x.block < W.heap.size := by obtain ⟨m, hm⟩ := k2; exact DataW.trod_lt m _ _ _ hm
 obtain ⟨s0, l0, oa0, n0, c0, P0, t0, rfl, bs0, bl0, bp0, bt0, m0⟩ := open_upd (hval 0 81 v0 rfl rfl) h0;obtain ⟨a1, rfl, _, _, w1⟩ := open_string Tryz.underlying9 (hval 1 9 v1 rfl rfl) h1;obtain ⟨a2, rfl, _, _, w2⟩ := open_int Tryz.underlying26 (hval 2 26 v2 rfl rfl) h2;clear hA0 hval0;obtain ⟨hT, hE⟩ := zqpg hL
 refine (updateBack_any (fun W h hE => awake19_any (fun W h hE => Awake18_any (fun W h hE => awake18_any (fun W h hE => Awake17_any (fun W h hE => zqii (fun W h hE => zqh8 (fun W h hE => zqic (fun W h hE => zqh0 (fun W h hE => zqhw (fun W h => zqie (fun W h => zqig (fun W h => zqih (fun W h => zqhx (fun W h => zqia aw12 W h) W h) W h) W h) W h) W h hE) W h hE) W h hE) W h hE) W h hE) W h hE) W h hE) W h hE) W h hE) s0 l0 oa0 n0 c0 t0 P0 a1 a2 W bs0 bl0 m0 bp0 bt0 (bounds_u16 w2).1 (bounds_u16 w2).2 hT hE).mono fun e W' ⟨he, bel⟩ => ?_
 subst he;exact ⟨_, rfl, _, _, _, [], _, [], hW', trodAll_mk1 (shut_bool Tryz.underlying4 _), (trodAll_cons_mk (Below.trod laidOut zqb (of_decide_eq_true zqb) k0 bel lt0) (trodAll_cons_mk (Below.trod laidOut zqb (of_decide_eq_true zqb) k1 bel lt1) (trodAll_cons_mk (Below.trod laidOut zqb (of_decide_eq_true zqb) k2 bel lt2) trodAll_mk0))), rfl, bel.frame _, fun h => by cases h⟩
theorem zqkd : joinedFacts Tryz.prog 9 Tryz.f9 (Rows.updateBackSpec) Rows.updateBackRow = true := by
 first
 | (unfold joinedFacts; rw [may_enter, make_is, zqo6]; first | (rw [zq7n 9 (by decide)]; kernel_rfl) | kernel_rfl)
 | kernel_rfl
theorem updateBack_said : Rows.UpdateBackSaid :=
 OpenClaim.holds_of_wide 9 Tryz.f9 rfl rfl rfl rfl rfl rfl rfl ⟨rfl, rfl, rfl, rfl, rfl⟩ rfl rfl rfl rfl rfl zqb Tryz.func9 (by first | exact zqkd | kernel_rfl)
  (of_decide_eq_true zqb) (by unfold Func.isWrapper; first | (rw [if_pos (by decide +kernel)]; kernel_rfl) | (rw [if_neg (by decide +kernel)]; exact ⟨rfl, rfl⟩))
  (fun os started H enc _ => updateBack_lifted os started H enc)
theorem updateBack_card : Rows.UpdateBackCardSaid :=
 Claim7.holds_tied_plain_at .later [] _ _ _ _ updateBack_said (fun _ h => by cases h) zqb (fun _ h => by cases h) updateBack_row_tie rfl ⟨rfl, rfl⟩ zqb rfl
  (fun f fn hf hfn => by
   obtain rfl : f = 9 := Option.some.inj ((show Tryz.prog.funcNamed "sapwood/sapwoodlaw19.UpdateBack" = some 9 by kernel_rfl).symm.trans hf) |>.symm
   obtain rfl : fn = Tryz.f9 := (Option.some.inj (Tryz.func9.symm.trans hfn)).symm;exact ⟨by kernel_rfl, fun j t ht => by
    rw [Tryz.params9] at ht;have hm : t ∈ [81, 9, 26] := by simpa using Array.mem_of_getElem? ht
    have hall : ([81, 9, 26].all fun u => !Tryz.prog.wantsStandIn u) = true := by kernel_rfl
    exact (show Tryz.prog.wantsStandIn t = false by simpa using List.all_eq_true.1 hall t hm)⟩)
  zqb
end Go.Proofs.YtpefpiobcpdeoaaGreatDoor
