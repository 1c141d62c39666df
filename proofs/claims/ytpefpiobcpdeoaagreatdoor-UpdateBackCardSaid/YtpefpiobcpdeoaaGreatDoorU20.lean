/- U20 -/
import Derived.Test.YtpefpiobcpdeoaaGreatDoorU19
import Derived.Test.YtpefpiobcpdeoaaGreatDoorB17
import Derived.Test.YtpefpiobcpdeoaaGreatDoorC16
import Derived.Test.YtpefpiobcpdeoaaGreatDoorL13
import Derived.Test.YtpefpiobcpdeoaaGreatDoorQ13
import Derived.Test.YtpefpiobcpdeoaaGreatDoorQ11
import Derived.Test.YtpefpiobcpdeoaaGreatDoorR11
set_option linter.unusedVariables false
set_option linter.unusedSimpArgs false
set_option maxRecDepth 100000
set_option maxHeartbeats 4000000
namespace Go.Proofs.YtpefpiobcpdeoaaGreatDoor
open Go.RowKit Go.Extern
attribute [local go_sem high] zqfy
theorem same19_any (s l : Int) (oa ob : Option Addr) (n c d : Nat) (t : Nat -> Int) (P : Nat -> Nat -> Int) (w : World) (hn : n <= 1000) (hA : K32At w oa n P) (hB : K32At w ob n P) :
  Calls Tryz.prog 47 #[.agg (uvC s l (.slice oa n c) t), .agg (uvC s l (.slice ob n d) t)] w (Rt w (.bool true)) := by
 have HA : Hid (K32At w oa n P) := hA;have HB : Hid (K32At w ob n P) := hB;clear hA hB
 go_enter Tryz.func47, Tryz.ntmps47
 have hst := zqe3 32 t;go_wp2_with fail;have fa : zqd ((w.alloc (.cells (uvC s l (.slice oa n c) t) 83)).alloc (.cells (uvC s l (.slice ob n d) t) 83)) w.heap.size = some (.cells (uvC s l (.slice oa n c) t) 83) := zqj _ (zqg _ _ _ rfl);have fb : zqd ((w.alloc (.cells (uvC s l (.slice oa n c) t) 83)).alloc (.cells (uvC s l (.slice ob n d) t) 83)) (w.heap.size + 1) = some (.cells (uvC s l (.slice ob n d) t) 83) := zqg _ _ _ (by simp);have hG0 : Below w.heap.size w ((w.alloc (.cells (uvC s l (.slice oa n c) t) 83)).alloc (.cells (uvC s l (.slice ob n d) t) 83)) := Grew.alloc (Grew.alloc (Grew.refl _) _) _;have HA1 : Hid (K32At ((w.alloc (.cells (uvC s l (.slice oa n c) t) 83)).alloc (.cells (uvC s l (.slice ob n d) t) 83)) oa n P) := HA.out.later hG0
 have HB1 : Hid (K32At ((w.alloc (.cells (uvC s l (.slice oa n c) t) 83)).alloc (.cells (uvC s l (.slice ob n d) t) 83)) ob n P) := HB.out.later hG0;generalize (w.alloc (.cells (uvC s l (.slice oa n c) t) 83)).alloc (.cells (uvC s l (.slice ob n d) t) 83) = w1 at *;generalize w.heap.size + 1 = gb at *;have la0 := zqa fa;have lb0 := zqa fb
 go_loopw [37] (fun i wr => ∃ k : Nat, k <= n /\ i = .int .i64 k /\ (∃ m, wr = more w1 m)) (fun i _ => n - (intOf i).toNat)
 case atStart => exact ⟨0, by omega, rfl, ⟨⟨w1.drawn, #[]⟩, by simp [more]⟩⟩
 case round =>
  obtain ⟨i, hi, rfl, ⟨m, rfl⟩⟩ := hrel;have fa1 := zqp m fa;have fb1 := zqp m fb;have la := zqa fa1;have lb := zqa fb1
  by_cases hlt : i < n
  ·have hi1 : (i : Int) < (n : Int) := by omega
   have hi0 : (0 : Int) <= (i : Int) := by omega
   obtain ⟨ad, rfl⟩ := HA1.out.addr (by omega);obtain ⟨bd, rfl⟩ := HB1.out.addr (by omega);have l1 := fun q : More => HA1.out.loadB hlt (zqm w1 q);have l2 := fun q : More => HB1.out.loadB hlt (zqm w1 q);have hsm := zqe3 32 (P i);generalize P i = y at *;go_wp2_with fail
   ((first | (with_reducible refine zq8 zqb zqb ?_) | refine zq1 zqb zqb ?_); (repeat (first | go_big_quiet_skip | (go_big_quiet_want; go_big_quiet_op; go_big_quiet_on))); refine wpQuiet_nil ?_; rintro _ ⟨mq, rfl⟩)
   clear l1 l2 fa1 fb1 la lb;go_wp2
   go_roundw
   case rel => first | exact ⟨i + 1, by omega, by go_num, ⟨mq, rfl⟩⟩ | ((repeat' apply Exists.intro) <;> first | exact ⟨⟨i + 1, by omega, by go_num, ⟨mq, rfl⟩⟩, rfl⟩ | exact undef)
   case measure => (simp [intOf]; omega)
  ·obtain rfl : i = n := by omega
   have hi1 : ¬ ((i : Int) < (i : Int)) := by omega
   go_wp2;go_ret;exact ⟨rfl, Grew.more hG0 _⟩
def KSlF (B n : Nat) (u : Value) : Prop := ∃ oa c, u = .slice oa n c /\ ∀ ad, oa = some ad -> B <= ad.block
def UpAt (w : World) (v : Value) (s l : Int) (n : Nat) (P : Nat -> Nat -> Int) (t : Nat -> Int) : Prop := ∃ oa c, v = .agg (uvC s l (.slice oa n c) t) /\ K32At w oa n P
theorem UpAt.later {w w' : World} {v : Value} {s l : Int} {n : Nat} {P : Nat -> Nat -> Int} {t : Nat -> Int} (h : UpAt w v s l n P t) (hb : Below w.heap.size w w') : UpAt w' v s l n P t := by
 obtain ⟨oa, c, e, hp⟩ := h;exact ⟨oa, c, e, hp.later hb⟩
theorem of19_any (s l : Int) (oa : Option Addr) (n c : Nat) (t : Nat -> Int) (P : Nat -> Nat -> Int) (w : World) (hn : n <= 1000) (hP : K32At w oa n P) :
  Calls Tryz.prog 36 #[.agg (uvC s l (.slice oa n c) t)] w fun e w' => ∃ v, e = .returned (v) /\ UpAt w' v s l n P t /\ Below w.heap.size w w' := by
 have HP : Hid (K32At w oa n P) := hP;clear hP
 go_enter Tryz.func36, Tryz.ntmps36
 go_wp2_with fail;have fb : zqd ((w.alloc (.cells (uvC s l (.slice oa n c) t) 81)).alloc (.cells (uvC 0 0 (.slice none 0 0) zqe) 83)) w.heap.size = some (.cells (uvC s l (.slice oa n c) t) 81) := zqj _ (zqg _ _ _ rfl);have fr : zqd ((w.alloc (.cells (uvC s l (.slice oa n c) t) 81)).alloc (.cells (uvC 0 0 (.slice none 0 0) zqe) 83)) (w.heap.size + 1) = some (.cells (uvC 0 0 (.slice none 0 0) zqe) 83) := zqg _ _ _ (by simp);have hG : Below w.heap.size w ((w.alloc (.cells (uvC s l (.slice oa n c) t) 81)).alloc (.cells (uvC 0 0 (.slice none 0 0) zqe) 83)) := Grew.alloc (Grew.alloc (Grew.refl _) _) _;generalize (w.alloc (.cells (uvC s l (.slice oa n c) t) 81)).alloc (.cells (uvC 0 0 (.slice none 0 0) zqe) 83) = w1 at *;have hgr : w.heap.size <= w.heap.size + 1 := by omega
 generalize w.heap.size + 1 = gr at *;have lb := zqa fb;have lr := zqa fr;have cK := fun (W : World) (hb : Below w1.heap.size w1 W) => zqr6 oa n c P W hn ((HP.out.later hG).later hb);refine zqi2 (fun k => k == 6) (fun k => match k with | 6 => fun u => KSlF w1.heap.size n u | _ => fun _ => True) (fun k => match k with | 6 => fun u w => KAt n P u w | _ => fun _ _ => True) (fun k => match k with | 6 => .slice none n 0 | _ => undef) (fun i hi => ?_) 10 zqb zqb zqb zqb zqb ?_
 ·simp only [Bool.or_eq_true, beq_iff_eq] at hi
  subst hi;exact ⟨none, 0, rfl, fun _ h => by cases h⟩
 simp only [List.take_succ_cons, List.take_zero]
 iterate 6 (first | refine zqs rfl ?_ | (refine zqn rfl ?_; apply Exists.intro))
 refine zqn rfl ⟨undef, ?_⟩
 iterate 3 (first | refine zqs rfl ?_ | (refine zqn rfl ?_; apply Exists.intro))
 refine zqbn ?_
 intro γ gv hsv hinj hbase;obtain ⟨ob, d, e1, hob⟩ := hsv 6 rfl
 (repeat (first | (refine zqt rfl ?_; ((first | go_big_quiet_skip | (go_big_quiet_want; go_big_quiet_op; go_big_quiet_on)); refine wpQuiet_nil ?_)) | ((first | refine zql rfl (fun _ => rfl) ?_ | (apply zq4; (focus rfl); (focus rfl); (focus rfl); (focus (intro W hC hF; (skip); go_big_quiet_want; go_big_quiet_op; (first | go_big_quiet_on | (apply Exists.intro; refine ⟨fun _ => ?_, ?_⟩; (focus ((fail))); go_big_quiet_on)); exact wpQuiet_nil rfl)); (focus (first | exact fun _ => ⟨rfl, rfl⟩ | exact fun h => absurd h (by decide))))); ((first | go_big_quiet_skip | (go_big_quiet_want; go_big_quiet_op; go_big_quiet_on)); refine wpQuiet_nil ?_)) | refine zqk rfl (fun _ => rfl) ?_))
 refine zqah #[.slice oa n c] (enters_of Tryz.func74 zqb rfl) rfl e1 rfl rfl rfl rfl (zqbo (zqc7 _ _ _)) (by first | kernel_rfl | simp [go_sem]) ?_ ?_
 ·intro W hC hF
  obtain ⟨mm, rfl⟩ := hC;refine (cK _ (zqm w1 mm)).mono ?_
  rintro e w9 ⟨ob9, cb9, rfl, hK9, hB9, hb9⟩;exact ⟨_, rfl, ⟨_, _, rfl, fun ad e => Nat.le_trans (zqm w1 mm).size (hB9 ad e)⟩, (fun oa2 c2 e2 => by cases e2; exact hK9), hb9⟩
 ((first | go_big_quiet_skip | (go_big_quiet_want; go_big_quiet_op; go_big_quiet_on)); refine wpQuiet_nil ?_)
 (repeat (first | (refine zqt rfl ?_; ((first | go_big_quiet_skip | (go_big_quiet_want; go_big_quiet_op; go_big_quiet_on)); refine wpQuiet_nil ?_)) | ((first | refine zql rfl (fun _ => rfl) ?_ | (apply zq4; (focus rfl); (focus rfl); (focus rfl); (focus (intro W hC hF; (skip); go_big_quiet_want; go_big_quiet_op; (first | go_big_quiet_on | (apply Exists.intro; refine ⟨fun _ => ?_, ?_⟩; (focus ((fail))); go_big_quiet_on)); exact wpQuiet_nil rfl)); (focus (first | exact fun _ => ⟨rfl, rfl⟩ | exact fun h => absurd h (by decide))))); ((first | go_big_quiet_skip | (go_big_quiet_want; go_big_quiet_op; go_big_quiet_on)); refine wpQuiet_nil ?_)) | refine zqk rfl (fun _ => rfl) ?_))
 (refine zqge ?_; rintro _ ⟨mq, rfl⟩ hF; simp only [List.forall_mem_cons] at hF; obtain ⟨f6, -⟩ := hF)
 have hK6 := hid1 (f6 _ _ rfl);replace hG := Grew.more hG mq;replace fr := zqp mq fr;clear f6 hinj hbase hsv e1 lb cK fb;replace hob : Hid (∀ ad, ob = some ad -> ad.block = gr -> False) := fun ad e eb => by have := hob ad e; omega
 clear lr;generalize more w1 mq = w2 at *;clear γ gv;have lr := zqa fr
 (refine zqr (i := 10) (fuel := 0) zqb rfl ?_; intro K hK; go_simp; refine hK _ _ ?_; clear hK K)
 (refine wpAny_done zqb ?_ _)
 go_wp2;refine zqan rfl _ 83 _ (0, 0) _ rfl (zqw _ fr) Tryz.underlying83 rfl (by rw [uvC_size]; kernel_rfl) rfl ?_
 first | exact ⟨_, rfl, ⟨_, _, rfl, hK6.out.aside fr hob.out _⟩, Grew.setRow hG _ _ hgr⟩ | exact ⟨⟨_, rfl⟩, ⟨_, _, rfl, hK6.out.aside fr hob.out _⟩, Grew.setRow hG _ _ hgr⟩
end Go.Proofs.YtpefpiobcpdeoaaGreatDoor
namespace Go.Proofs.YtpefpiobcpdeoaaGreatDoor
open Go.RowKit Go.Extern
theorem uparse_walk (S S1 S2 S3 S4 S5 : ByteArray) (E0 E1 E2 E3 E4 E5 st lf X : Int) (n : Nat) (P : Nat -> Nat -> Int) (t : Nat -> Int) (w : World) (hE0 : E0 = if S.size < 9 then 1 else 0) (cH : ∀ (g : Nat) (W : World), RdAt W g S E0 -> Calls Tryz.prog 66 #[.pointer (some ⟨g, 0, none⟩), .int .u64 3] W fun e w' => e = .returned (.tuple #[]) /\ RdAt w' g S1 E1 /\ Oth g W w') (cN4 : ∀ (g : Nat) (W : World), RdAt W g S1 E1 -> Calls Tryz.prog 67 #[.pointer (some ⟨g, 0, none⟩), .int .i64 4] W fun e w' => e = .returned (.int .u64 st) /\ RdAt w' g S2 E2 /\ Oth g W w') (cN2 : ∀ (g : Nat) (W : World), RdAt W g S2 E2 -> Calls Tryz.prog 67 #[.pointer (some ⟨g, 0, none⟩), .int .i64 2] W fun e w' => e = .returned (.int .u64 lf) /\ RdAt w' g S3 E3 /\ Oth g W w') (cP : ∀ (g : Nat) (W : World), RdAt W g S3 E3 -> Calls Tryz.prog 99 #[.pointer (some ⟨g, 0, none⟩)] W fun e w' => ∃ oa c, e = .returned (.slice oa n c) /\ K32At w' oa n P /\ (∀ ad, oa = some ad -> W.heap.size <= ad.block) /\ RdAt w' g S4 E4 /\ Oth g W w') (cK : ∀ (g : Nat) (W : World), RdAt W g S4 E4 -> Calls Tryz.prog 91 #[.pointer (some ⟨g, 0, none⟩)] W fun e w' => e = .returned (.agg (ints .u8 32 t)) /\ RdAt w' g S5 E5 /\ Oth g W w') (hst : 0 <= st /\ st < 4294967296) (hlf : 0 <= lf /\ lf < 65536) (hX : X = enE S5 E5) :
  Calls Tryz.prog 45 #[.string S] w fun e w' => ∃ v u, e = .returned (.tuple #[v, u]) /\ UpAt w' v (if X = 0 then st else 0) (if X = 0 then lf else 0) (if X = 0 then n else 0) (P) (if X = 0 then t else zqe) /\ ErV w' u (X) /\ Below w.heap.size w w' := by
 have hsw : IntKind.u32.wrap st = st := by rw [IntKind.wrap_u32]; omega
 have hlw : IntKind.u16.wrap lf = lf := by rw [IntKind.wrap_u16]; omega
 replace hX := hid1 hX;replace hE0 := hid1 hE0
 go_enter Tryz.func45, Tryz.ntmps45
 go_wp2_with fail;refine (zqzf _ _).mono ?_
 rintro e w1 ⟨rfl, rfl⟩;have fr : zqd ((w.alloc (.cells (uvC 0 0 (.slice none 0 0) zqe) 81)).alloc (.cells #[.string S, .nilIface] 184)) w.heap.size = some (.cells (uvC 0 0 (.slice none 0 0) zqe) 81) := zqj _ (zqg _ _ _ rfl);have HR := hid1 (RdAt.over (w.alloc (.cells (uvC 0 0 (.slice none 0 0) zqe) 81)) S);have hG : Below w.heap.size w ((w.alloc (.cells (uvC 0 0 (.slice none 0 0) zqe) 81)).alloc (.cells #[.string S, .nilIface] 184)) := Grew.alloc (Grew.alloc (Grew.refl _) _) _;have hz : (w.alloc (.cells (uvC 0 0 (.slice none 0 0) zqe) 81)).heap.size = w.heap.size + 1 := by simp
 rw [hz] at HR;go_wp2_with fail;generalize (w.alloc (.cells (uvC 0 0 (.slice none 0 0) zqe) 81)).alloc (.cells #[.string S, .nilIface] 184) = w1 at *;have hne : w.heap.size ≠ w.heap.size + 1 := by omega
 have hgl : w.heap.size <= w.heap.size + 1 := by omega
 clear hz;generalize w.heap.size + 1 = g at *;refine (zq7v HR.out).mono ?_
 rintro e w1 ⟨rfl, rfl⟩;refine zra9 (S.size < 9) ?ga ?gb
 case' ga =>
  intro hs;have hsi : (S.size : Int) < 9 := by omega
  have q0 : E0 = 1 := by rw [hE0.out, if_pos hs]
  go_wp2_with fail;refine (zql4 _ HR.out (ErV.num _ 1 (by decide))).mono ?_
  rintro e w2 ⟨rfl, HR2, HO⟩;rw [if_pos rfl, <- q0] at HR2;replace HR := hid1 HR2;replace fr := HO.keep fr hne;replace hG := HO.below hG hgl;clear HR2 HO;go_wp2_with fail
 case' gb =>
  intro hs;have hsi : ¬ ((S.size : Int) < 9) := by omega
  have q0 : E0 = 0 := by rw [hE0.out, if_neg hs]
  rw [<- q0] at HR;obtain ⟨w2, rfl⟩ : ∃ x, x = w1 := ⟨_, rfl⟩
  go_wp2_with fail
 all_goals
  refine (cH _ _ HR.out).mono ?_
  rintro e w3 ⟨rfl, HR3, HO⟩;replace fr := HO.keep fr hne;replace hG := HO.below hG hgl;replace HR := hid1 HR3;clear HR3 HO;go_wp2_with fail;refine (cN4 _ _ HR.out).mono ?_
  rintro e w4 ⟨rfl, HR3, HO⟩;replace fr := HO.keep fr hne;replace hG := HO.below hG hgl;replace HR := hid1 HR3;clear HR3 HO;go_wp2_with fail;refine (cN2 _ _ HR.out).mono ?_
  rintro e w5 ⟨rfl, HR3, HO⟩;replace fr := HO.keep fr hne;replace hG := HO.below hG hgl;replace HR := hid1 HR3;clear HR3 HO;go_wp2_with fail;have hgw := zqa fr;refine (cP _ _ HR.out).mono ?_
  rintro e w6 ⟨oa, c, rfl, hP, hoa, HR3, HO⟩;have hob : Hid (∀ ad, oa = some ad -> ad.block ≠ w.heap.size) := fun ad e => by have := hoa ad e; omega
  have HP := hid1 hP;clear hoa hP hgw;replace fr := HO.keep fr hne;replace hG := HO.below hG hgl;replace HR := hid1 HR3;clear HR3 HO;go_wp2_with fail;refine (cK _ _ HR.out).mono ?_
  rintro e w7 ⟨rfl, HR3, HO⟩;replace HP := hid1 (HO.keys HR.out HP.out);replace fr := HO.keep fr hne;replace hG := HO.below hG hgl;replace HR := hid1 HR3;clear HR3 HO;go_wp2_with fail;have fb : zqd (w7.alloc (.cells (uvC st lf (.slice oa n c) t) 81)) w7.heap.size = some (.cells (uvC st lf (.slice oa n c) t) 81) := zqg _ _ _ rfl;replace fr := zqj (.cells (uvC st lf (.slice oa n c) t) 81) fr;replace hG := Grew.alloc hG (.cells (uvC st lf (.slice oa n c) t) 81);replace HR := hid1 (RdAt.later HR.out (Grew.alloc (Grew.refl w7) (.cells (uvC st lf (.slice oa n c) t) 81)));replace HP := hid1 (HP.out.later (Grew.alloc (Grew.refl w7) (.cells (uvC st lf (.slice oa n c) t) 81)));generalize w7.alloc (.cells (uvC st lf (.slice oa n c) t) 81) = w8 at *;generalize w7.heap.size = gb at *;refine (zref HR.out).mono ?_
  rintro e w9 ⟨u, rfl, hu, hb⟩;rw [<- hX.out] at hu;replace fr := zqc hb fr;replace fb := zqc hb fb;replace hG := Grew.trans hG hb;replace HP := hid1 (HP.out.later hb);have hfv := hid1 hu;clear hu hb HR;have lfb := zqa fb;have lfr := zqa fr
  by_cases hX0 : X = 0
  ·rw [hX0] at hfv
   rcases hfv with ⟨-, rfl⟩ | ⟨h0, -⟩
   ·have HP9 := hid1 (HP.out.aside fr (fun ad e => hob.out ad e) (uvC st lf (.slice oa n c) t))
    go_wp2;refine zqaw rfl _ 81 (uvC st lf (.slice oa n c) t) (0, 0) _ _ rfl rfl (zqw _ fr) Tryz.underlying81 rfl (by rw [uvC_size]; kernel_rfl) rfl ?_
    exact ⟨_, _, rfl, by first | exact ⟨oa, c, rfl, HP9.out⟩ | (rw [if_pos hX0, if_pos hX0, if_pos hX0, if_pos hX0]; exact ⟨oa, c, rfl, HP9.out⟩), .inl ⟨by first | rfl | exact hX0, rfl⟩, Grew.setRow hG _ _ (Nat.le_refl _)⟩
   ·exact absurd rfl h0
  ·obtain ⟨t', x, rfl, hw⟩ := hfv.out.wrap hX0
   go_wp2_with fail;refine (wrap_any _ _ _ _).mono ?_
   rintro e w10 ⟨rfl, rfl⟩;have hw9 := hid1 (hw ⟨#[117, 112, 100, 97, 116, 101]⟩);replace fr := zqj (.cells #[.string ⟨#[117, 112, 100, 97, 116, 101]⟩, .iface t' x] 190) fr;replace hG := Grew.alloc hG (.cells #[.string ⟨#[117, 112, 100, 97, 116, 101]⟩, .iface t' x] 190);clear hw lfb lfr;generalize (Value.iface 188 (.pointer (some ⟨w9.heap.size, 0, none⟩))) = fv at *;generalize w9.alloc (.cells #[.string ⟨#[117, 112, 100, 97, 116, 101]⟩, .iface t' x] 190) = w10 at *;have lfr := zqa fr;go_wp2;refine zqaw rfl _ 81 (uvC 0 0 (.slice none 0 0) zqe) (0, 0) _ _ rfl rfl (zqw _ fr) Tryz.underlying81 rfl (by rw [uvC_size]; kernel_rfl) rfl ?_
   exact ⟨_, _, rfl, by first | (rw [if_neg hX0, if_neg hX0, if_neg hX0, if_neg hX0]; exact ⟨none, 0, rfl, .inl rfl⟩) | exact ⟨none, 0, rfl, .inl rfl⟩, hw9.out.put fr (by decide) _, Grew.setRow hG _ _ (Nat.le_refl _)⟩
theorem publics_no {g : Nat} {S S1 : ByteArray} {E E1 : Int} {N : Nat} {w : World} (E3 : Int) (h3 : (if E1 = 0 then 6 else E1) = E3) (hS : tkS S E 1 = S1) (hE : tkE S E 1 = E1) (hV : beK (tkT S E 1) (tkT S E 1).size = (N : Int)) (hR : RdAt w g S E) (hN : ¬ (1 <= N /\ N <= 10)) (hb : N <= 255) :
  Calls Tryz.prog 99 #[.pointer (some ⟨g, 0, none⟩)] w fun e w' => e = .returned (.slice none 0 0) /\ RdAt w' g (S1) (E3) /\ Oth g w w' := by
 replace h3 := hid1 h3;have e2 : min (max (1 : Int) 0) 8 = 1 := by decide
 have cN := zqmw 1 hR;rw [e2, hS, hE, hV] at cN;clear hS hE hV e2
 go_enter Tryz.func99, Tryz.ntmps99
 go_wp2_with fail;refine cN.mono ?_
 rintro e w1 ⟨rfl, HR, HO⟩;replace HR := hid1 HR;clear cN hR;have hNw : IntKind.i64.wrap (N : Int) = (N : Int) := wrap_small (by omega) (by omega);have hc := fun W => counted_no (N : Int) W (by omega);go_wp2_with fail;refine (hc _).mono ?_
 rintro e w2 ⟨rfl, hb⟩;replace HR := hid1 (HR.out.later hb);replace HO := HO.later hb;go_wp2_with fail;refine (zql4 _ HR.out (ErV.num _ 6 (by decide))).mono ?_
 rintro e w3 ⟨rfl, HR2, HO2⟩;rw [h3.out] at HR2;go_wp2;go_ret;exact ⟨rfl, HR2, HO.trans HO2⟩
theorem publics_yes {g : Nat} {S S1 : ByteArray} {E E1 : Int} {N : Nat} {w : World} (hS : tkS S E 1 = S1) (hE : tkE S E 1 = E1) (hV : beK (tkT S E 1) (tkT S E 1).size = (N : Int)) (hR : RdAt w g S E) (hN : 1 <= N /\ N <= 10) (hz : S1.size <= 30000) :
  Calls Tryz.prog 99 #[.pointer (some ⟨g, 0, none⟩)] w fun e w' => ∃ oa c, e = .returned (.slice oa ((tkT S1 E1 (ksN S1 N)).size / 32) c) /\ K32At w' oa ((tkT S1 E1 (ksN S1 N)).size / 32) (fun i j => byteAt (tkT S1 E1 (ksN S1 N)) (32 * i + j)) /\ (∀ ad, oa = some ad -> w.heap.size <= ad.block) /\ RdAt w' g (tkS S1 E1 (ksN S1 N)) (tkE S1 E1 (ksN S1 N)) /\ Oth g w w' := by
 have e2 : min (max (1 : Int) 0) 8 = 1 := by decide
 have cN := zqmw 1 hR;rw [e2, hS, hE, hV] at cN;clear hS hE hV e2
 go_enter Tryz.func99, Tryz.ntmps99
 go_wp2_with fail;refine cN.mono ?_
 rintro e w1 ⟨rfl, HR, HO⟩;replace HR := hid1 HR;clear cN hR;have hNw : IntKind.i64.wrap (N : Int) = (N : Int) := wrap_small (by omega) (by omega);have hc := fun W => counted_yes (N : Int) W (by omega);go_wp2_with fail;refine (hc _).mono ?_
 rintro e w2 ⟨rfl, hb⟩;replace HR := hid1 (HR.out.later hb);replace HO := HO.later hb;have hsz := HO.size;have cK := zq3s (N : Int) HR.out hz;go_wp2_with fail;refine cK.mono ?_
 rintro e w3 ⟨oa, c, rfl, hK, hB, HR2, HO2⟩;replace hK := hid1 hK;replace HR2 := hid1 HR2;replace hB := hid1 hB;clear cK HR;go_wp2;go_ret;exact ⟨oa, c, rfl, hK.out, fun ad e => Nat.le_trans hsz (hB.out ad e), HR2.out, HO.trans HO2⟩
end Go.Proofs.YtpefpiobcpdeoaaGreatDoor
namespace Go.Proofs.YtpefpiobcpdeoaaGreatDoor
open Go.RowKit Go.Extern
theorem uvC_congr {s l : Int} {b : Value} {t t' : Nat -> Int} (h : ∀ i, i < 32 -> t i = t' i) : uvC s l b t = uvC s l b t' := by
 unfold uvC;rw [zqa6 h]
theorem UpAt.congr {w : World} {v : Value} {s l : Int} {n : Nat} {P P' : Nat -> Nat -> Int} {t t' : Nat -> Int} (h : UpAt w v s l n P t) (hP : ∀ j, j < n -> ∀ i, i < 32 -> P j i = P' j i) (ht : ∀ i, i < 32 -> t i = t' i) : UpAt w v s l n P' t' := by
 obtain ⟨oa, c, rfl, hp⟩ := h;exact ⟨oa, c, by rw [uvC_congr ht], hp.congr2 hP⟩
theorem UpAt.zero {w : World} {v : Value} {P P' : Nat -> Nat -> Int} {t : Nat -> Int} (h : UpAt w v 0 0 0 P t) : UpAt w v 0 0 0 P' t := by
 obtain ⟨oa, c, rfl, -⟩ := h;exact ⟨oa, c, rfl, .inl rfl⟩
theorem ksN_lo (S : ByteArray) (n : Nat) (h : 32 * n <= S.size) : ksN S (n : Int) = ((32 * n : Nat) : Int) := by unfold ksN; omega
theorem ksN_hi (S : ByteArray) (n : Nat) (h : S.size < 32 * n) : ∃ k : Nat, ksN S (n : Int) = (k : Int) /\ S.size < k := ⟨(S.size / 32 + 1) * 32, by unfold ksN; omega, by omega⟩
theorem en_bad (S : ByteArray) {E : Int} (h : E ≠ 0) : enE S E = E := by unfold enE; rw [if_neg (fun h2 => h h2.1)]
theorem tk_ext (S : ByteArray) (a k : Nat) (ha : a <= S.size) (h : S.size - a < k) : tkT (S.extract a S.size) 0 (k : Int) = ⟨#[]⟩ /\ tkS (S.extract a S.size) 0 (k : Int) = S.extract a S.size /\ tkE (S.extract a S.size) 0 (k : Int) = 1 := by
 have hs : (S.extract a S.size).size = S.size - a := by rw [ByteArray.size_extract]; omega
 obtain ⟨e1, e2⟩ := zq6o (S := S.extract a S.size) (E := 0) (n := (k : Int)) (.inr (by omega));exact ⟨e1, e2, zrd8 _ k (by omega)⟩
theorem uparse_any (S : ByteArray) (w : World) (hS : S.size <= 30000) :
  Calls Tryz.prog 45 #[.string S] w fun e w' => ∃ v u, e = .returned (.tuple #[v, u]) /\ UpAt w' v (if ucE S = 0 then uSt S else 0) (if ucE S = 0 then uLf S else 0) (if ucE S = 0 then uN S else 0) (uPk S) (if ucE S = 0 then uTg S else zqe) /\ ErV w' u (ucE S) /\ Below w.heap.size w w' := by
 have hbad : ∀ (E0 E1 : Int) (S1 : ByteArray), E0 = (if S.size < 9 then 1 else 0) -> E1 ≠ 0 -> tkS S E0 2 = S1 -> hd3 (hd2 (tkE S E0 2) (beK (tkT S E0 2) (tkT S E0 2).size)) (beK (tkT S E0 2) (tkT S E0 2).size) 3 = E1 -> ucE S = E1 ->
   Calls Tryz.prog 45 #[.string S] w fun e w' => ∃ v u, e = .returned (.tuple #[v, u]) /\ UpAt w' v (if ucE S = 0 then uSt S else 0) (if ucE S = 0 then uLf S else 0) (if ucE S = 0 then uN S else 0) (uPk S) (if ucE S = 0 then uTg S else zqe) /\ ErV w' u (ucE S) /\ Below w.heap.size w w' := fun E0 E1 S1 h0 h1 hs he hp => by
  obtain ⟨a1, a2, a3⟩ := zqma (S := S1) (E := E1) 4 h1;obtain ⟨c1, c2, c3⟩ := zqma (S := S1) (E := E1) 2 h1;obtain ⟨b1, b2, b3⟩ := zqma (S := S1) (E := E1) 1 h1;obtain ⟨k1, k2, k3⟩ := zqma (S := S1) (E := E1) 32 h1;have z4 : beK (⟨#[]⟩ : ByteArray) (⟨#[]⟩ : ByteArray).size = 0 := rfl;have := uparse_walk S S1 S1 S1 S1 S1 E0 E1 E1 E1 E1 E1 0 0 (ucE S) 0 (uPk S) _ w h0
   (fun g W hR => by have h := zqyd 3 hR; rw [hs, he] at h; exact h)
   (fun g W hR => by
    have h := zqmw 4 hR;rw [show min (max (4 : Int) 0) 8 = 4 by decide, a1, a2, a3, z4] at h;exact h)
   (fun g W hR => by
    have h := zqmw 2 hR;rw [show min (max (2 : Int) 0) 8 = 2 by decide, c1, c2, c3, z4] at h;exact h)
   (fun g W hR => (publics_no (N := 0) E1 (by rw [if_neg h1]) b2 b3 (by rw [b1]; rfl) hR (by omega) (by omega)).mono fun e w' ⟨e1, e2, e3⟩ => ⟨none, 0, e1, .inl rfl, fun ad h => (by cases h), e2, e3⟩)
   (fun g W hR => by
    have h := zqro hR;rw [k1, k2, k3] at h;exact h)
   ⟨by decide, by decide⟩ ⟨by decide, by decide⟩ (by rw [en_bad _ h1, hp])
  refine this.mono ?_
  rintro e w' ⟨v, u, he, hB, hu, hb⟩;refine ⟨v, u, he, ?_, hu, hb⟩;have hz : ¬ (ucE S = 0) := by rw [hp]; exact h1
  simp only [if_neg hz] at hB ⊢
  exact hB.zero
 by_cases c1 : S.size < 9
 ·obtain ⟨a1, a2, a3⟩ := zqma (S := S) (E := 1) 2 (by decide)
  refine hbad 1 1 S (by rw [if_pos c1]) (by decide) a2 ?_ (by unfold ucE; rw [if_pos c1])
  rw [a1, a3]
  rfl
 obtain ⟨a1, a2, a3⟩ := zqw7 S 0 2 (by omega);rw [zqty] at a1 a2 a3;have hb0 := zqc6 S 0;have hb1 := zqc6 S 1;have hb8 := zqc6 S 8;have hV := zq80 S (by omega);have q1 : (byteAt S 0 * 256 + byteAt S 1) / 256 = byteAt S 0 := by omega
 have q2 : (byteAt S 0 * 256 + byteAt S 1) % 256 = byteAt S 1 := by omega
 have hE0 : (0 : Int) = if S.size < 9 then 1 else 0 := by rw [if_neg c1]
 have hH : hd3 (hd2 (tkE S 0 2) (beK (tkT S 0 2) (tkT S 0 2).size)) (beK (tkT S 0 2) (tkT S 0 2).size) 3 = if byteAt S 0 = 1 then (if byteAt S 1 = 3 then 0 else 14) else 3 := by
  rw [show (2 : Int) = ((2 : Nat) : Int) from rfl, a1, a3, hV];unfold hd3 hd2;rw [q1, q2]
  by_cases h0 : byteAt S 0 = 1 <;> by_cases h1 : byteAt S 1 = 3 <;> simp [h0, h1]
 have hS1 : tkS S 0 2 = S.extract 2 S.size := by
  rw [show (2 : Int) = ((2 : Nat) : Int) from rfl, a2]
 by_cases c2 : byteAt S 0 = 1
 case neg =>
  refine hbad 0 3 _ hE0 (by decide) hS1 (by rw [hH, if_neg c2]) ?_
  unfold ucE; rw [if_neg c1, if_pos c2]
 by_cases c3 : byteAt S 1 = 3
 case neg =>
  refine hbad 0 14 _ hE0 (by decide) hS1 (by rw [hH, if_pos c2, if_neg c3]) ?_
  unfold ucE; rw [if_neg c1, if_neg (fun h => h c2), if_pos c3]
 rw [if_pos c2, if_pos c3] at hH;obtain ⟨b1, b2, b3⟩ := zqw7 S 2 4 (by omega);obtain ⟨d1, d2, d3⟩ := zqw7 S 6 2 (by omega);obtain ⟨f1, f2, f3⟩ := zqw7 S 8 1 (by omega);have hn8 : ((uN S : Nat) : Int) = byteAt S 8 := by unfold uN; omega
 obtain ⟨n, hn⟩ : ∃ n, uN S = n := ⟨_, rfl⟩
 rw [hn] at hn8;have cH : ∀ (g : Nat) (W : World), RdAt W g S 0 -> Calls Tryz.prog 66 #[.pointer (some ⟨g, 0, none⟩), .int .u64 3] W fun e w' => e = .returned (.tuple #[]) /\ RdAt w' g (S.extract 2 S.size) 0 /\ Oth g W w' := fun g W hR => by
  have h := zqyd 3 hR;rw [hS1, hH] at h;exact h
 have cN4 : ∀ (g : Nat) (W : World), RdAt W g (S.extract 2 S.size) 0 -> Calls Tryz.prog 67 #[.pointer (some ⟨g, 0, none⟩), .int .i64 4] W fun e w' => e = .returned (.int .u64 (uSt S)) /\ RdAt w' g (S.extract 6 S.size) 0 /\ Oth g W w' := fun g W hR => by
  have h := zqmw 4 hR;rw [show min (max (4 : Int) 0) 8 = ((4 : Nat) : Int) by decide, b1, b2, b3] at h;exact h
 have cN2 : ∀ (g : Nat) (W : World), RdAt W g (S.extract 6 S.size) 0 -> Calls Tryz.prog 67 #[.pointer (some ⟨g, 0, none⟩), .int .i64 2] W fun e w' => e = .returned (.int .u64 (uLf S)) /\ RdAt w' g (S.extract 8 S.size) 0 /\ Oth g W w' := fun g W hR => by
  have h := zqmw 2 hR;rw [show min (max (2 : Int) 0) 8 = ((2 : Nat) : Int) by decide, d1, d2, d3] at h;exact h
 have hPs : tkS (S.extract 8 S.size) 0 1 = S.extract 9 S.size := f2;have hPe : tkE (S.extract 8 S.size) 0 1 = 0 := f3;have hPv : beK (tkT (S.extract 8 S.size) 0 1) (tkT (S.extract 8 S.size) 0 1).size = (n : Int) := by
  rw [show (1 : Int) = ((1 : Nat) : Int) from rfl, f1, beK_byte S 8 (by omega)];exact hn8.symm
 have hs9 : (S.extract 9 S.size).size = S.size - 9 := by rw [ByteArray.size_extract]; omega
 have huc : ∀ x, (if n < 1 \/ 10 < n then (6 : Int) else if S.size < 41 + 32 * n then 1 else if 41 + 32 * n < S.size then 2 else 0) = x -> ucE S = x := fun x h => by
  unfold ucE;rw [if_neg c1, if_neg (fun h => h c2), if_neg (fun h => h c3), hn];exact h
 by_cases c4 : 1 <= n /\ n <= 10
 case neg =>
  have hp : ucE S = 6 := huc 6 (by rw [if_pos (by omega)]);obtain ⟨k1, k2, k3⟩ := zqma (S := S.extract 9 S.size) (E := 6) 32 (by decide);have := uparse_walk S _ _ _ (S.extract 9 S.size) (S.extract 9 S.size) 0 0 0 0 6 6 (uSt S) (uLf S) (ucE S) 0 (uPk S) _ w hE0 cH cN4 cN2
   (fun g W hR => (publics_no 6 (by rw [if_pos rfl]) hPs hPe hPv hR c4 (by omega)).mono fun e w' ⟨e1, e2, e3⟩ => ⟨none, 0, e1, .inl rfl, fun ad h => (by cases h), e2, e3⟩)
   (fun g W hR => by
    have h := zqro hR;rw [k1, k2, k3] at h;exact h)
   (uSt_bd S) (uLf_bd S) (by rw [en_bad _ (by decide), hp])
  refine this.mono ?_
  rintro e w' ⟨v, u, he, hB, hu, hb⟩;refine ⟨v, u, he, ?_, hu, hb⟩;have hz : ¬ (ucE S = 0) := by rw [hp]; decide
  simp only [if_neg hz] at hB ⊢
  exact hB.zero
 have cP := fun (g : Nat) (W : World) (hR : RdAt W g (S.extract 8 S.size) 0) => publics_yes hPs hPe hPv hR c4 (by omega)
 by_cases c5 : S.size < 9 + 32 * n
 ·have hp : ucE S = 1 := huc 1 (by rw [if_neg (by omega), if_pos (by omega)])
  obtain ⟨k, hk, hlt⟩ := ksN_hi (S.extract 9 S.size) n (by omega);obtain ⟨g1, g2, g3⟩ := tk_ext S 9 k (by omega) (by omega);rw [hk, g1, g2, g3] at cP;obtain ⟨k1, k2, k3⟩ := zqma (S := S.extract 9 S.size) (E := 1) 32 (by decide);have := uparse_walk S _ _ _ (S.extract 9 S.size) (S.extract 9 S.size) 0 0 0 0 1 1 (uSt S) (uLf S) (ucE S) _ _ _ w hE0 cH cN4 cN2 cP
   (fun g W hR => by
    have h := zqro hR;rw [k1, k2, k3] at h;exact h)
   (uSt_bd S) (uLf_bd S) (by rw [en_bad _ (by decide), hp])
  refine this.mono ?_
  rintro e w' ⟨v, u, he, hB, hu, hb⟩;refine ⟨v, u, he, ?_, hu, hb⟩;have hz : ¬ (ucE S = 0) := by rw [hp]; decide
  simp only [if_neg hz] at hB ⊢
  exact hB.zero
 obtain ⟨g1, g2, g3⟩ := zqw7 S 9 (32 * n) (by omega);have hT : (S.extract 9 (9 + 32 * n)).size / 32 = n := by rw [ByteArray.size_extract]; omega
 rw [ksN_lo (S.extract 9 S.size) n (by omega), g1, g2, g3, hT] at cP
 by_cases c6 : S.size < 41 + 32 * n
 ·have hp : ucE S = 1 := huc 1 (by rw [if_neg (by omega), if_pos (by omega)])
  obtain ⟨k1, k2, k3⟩ := tk_ext S (9 + 32 * n) 32 (by omega) (by omega);have k1' : tkT (S.extract (9 + 32 * n) S.size) 0 32 = ⟨#[]⟩ := k1;have k2' : tkS (S.extract (9 + 32 * n) S.size) 0 32 = S.extract (9 + 32 * n) S.size := k2;have k3' : tkE (S.extract (9 + 32 * n) S.size) 0 32 = 1 := k3;have := uparse_walk S _ _ _ _ (S.extract (9 + 32 * n) S.size) 0 0 0 0 0 1 (uSt S) (uLf S) (ucE S) _ _ _ w hE0 cH cN4 cN2 cP
   (fun g W hR => by
    have h := zqro hR;rw [k1', k2', k3'] at h;exact h)
   (uSt_bd S) (uLf_bd S) (by rw [en_bad _ (by decide), hp])
  refine this.mono ?_
  rintro e w' ⟨v, u, he, hB, hu, hb⟩;refine ⟨v, u, he, ?_, hu, hb⟩;have hz : ¬ (ucE S = 0) := by rw [hp]; decide
  simp only [if_neg hz] at hB ⊢
  exact hB.zero
 obtain ⟨k1, k2, k3⟩ := zqw7 S (9 + 32 * n) 32 (by omega);have k1' : tkT (S.extract (9 + 32 * n) S.size) 0 32 = S.extract (9 + 32 * n) (9 + 32 * n + 32) := k1;have k2' : tkS (S.extract (9 + 32 * n) S.size) 0 32 = S.extract (9 + 32 * n + 32) S.size := k2;have k3' : tkE (S.extract (9 + 32 * n) S.size) 0 32 = 0 := k3;have hsz : (S.extract (9 + 32 * n + 32) S.size).size = S.size - (9 + 32 * n + 32) := by rw [ByteArray.size_extract]; omega
 have hX : ucE S = enE (S.extract (9 + 32 * n + 32) S.size) 0 := by
  by_cases c7 : 41 + 32 * n < S.size
  ·rw [huc 2 (by rw [if_neg (by omega), if_neg (by omega), if_pos c7])]
   unfold enE;rw [if_pos ⟨rfl, by rw [hsz]; omega⟩]
  ·rw [huc 0 (by rw [if_neg (by omega), if_neg (by omega), if_neg c7])]
   unfold enE;rw [if_neg (fun h => h.2 (by rw [hsz]; omega))]
 have := uparse_walk S _ _ _ _ _ 0 0 0 0 0 0 (uSt S) (uLf S) (ucE S) _ _ _ w hE0 cH cN4 cN2 cP
  (fun g W hR => by
   have h := zqro hR;rw [k1', k2', k3'] at h;exact h)
  (uSt_bd S) (uLf_bd S) hX
 refine this.mono ?_
 rintro e w' ⟨v, u, he, hB, hu, hb⟩;refine ⟨v, u, he, ?_, hu, hb⟩;rw [hn]
 by_cases h0 : ucE S = 0
 ·simp only [if_pos h0] at hB ⊢
  refine hB.congr (fun j hj i hi => ?_) (fun i hi => ?_)
  ·show byteAt (S.extract 9 (9 + 32 * n)) (32 * j + i) = uPk S j i
   unfold uPk;rw [zqa1 _ _ _ _ (by omega) (by omega), Nat.add_assoc]
  ·unfold uTg putT
   rw [hn, if_pos ⟨Nat.zero_le _, by rw [ByteArray.size_extract]; omega⟩, Nat.sub_zero, zqa1 _ _ _ _ (by omega) (by omega)]
 ·simp only [if_neg h0] at hB ⊢
  exact hB.zero
end Go.Proofs.YtpefpiobcpdeoaaGreatDoor
namespace Go.Proofs.YtpefpiobcpdeoaaGreatDoor
open Go.RowKit Go.Extern
attribute [local go_sem high] zqfy
end Go.Proofs.YtpefpiobcpdeoaaGreatDoor
namespace Go.Proofs.YtpefpiobcpdeoaaGreatDoor
open Go.RowKit Go.Extern
end Go.Proofs.YtpefpiobcpdeoaaGreatDoor
namespace Go.Proofs.YtpefpiobcpdeoaaGreatDoor
open Go.RowKit Go.Extern
@[go_sem high] theorem make1k (w : World) : (Instr.makeSlice 45 (.int .i64 1) (.int .i64 1)).run Tryz.prog w = .ok (.slice (some ⟨w.heap.size, 0, none⟩) 1 1) (w.alloc (.cells (ints .u8 32 zqe) 44)) := by kernel_rfl
theorem Awake18_any (aw : ∀ (w : World), Tabs w -> EtAt w -> Calls Tryz.prog 18 #[] w (Rt w (.bool true))) (w : World) (hT : Tabs w) (hE : EtAt w) :
  Calls Tryz.prog 95 #[] w (Rt w (.bool true)) := by
 go_enter Tryz.func95, Tryz.ntmps95
 go_wp2_with fail;refine (aw _ hT hE).mono ?_
 rintro e w2 ⟨rfl, hb⟩;go_wp2;go_ret;exact ⟨rfl, hb⟩
theorem awake19_any (aw : ∀ (w : World), Tabs w -> EtAt w -> Calls Tryz.prog 95 #[] w (Rt w (.bool true))) (w : World) (hT : Tabs w) (hE : EtAt w) :
  Calls Tryz.prog 35 #[] w (Rt w (.bool true)) := by
 have hz := uB_size 0 0 1 (fun _ => zqe) zqe;have cB := fun (g : Nat) (W : World) (h : K32At W (some ⟨g, 0, none⟩) 1 (fun _ => zqe)) => uwrite_any 0 0 (some ⟨g, 0, none⟩) 1 1 zqe (fun _ => zqe) W (by decide) (by decide) h (fun _ _ => b_nought) b_nought (by decide) (by decide);generalize uB 0 0 1 (fun _ => zqe) zqe = Z at *
 go_enter Tryz.func35, Tryz.ntmps35
 have hK : K32At (w.alloc (.cells (ints .u8 32 zqe) 44)) (some ⟨w.heap.size, 0, none⟩) 1 (fun _ => zqe) := k32_new (zqg _ _ _ rfl) (by decide);have hG : Below w.heap.size w (w.alloc (.cells (ints .u8 32 zqe) 44)) := Grew.alloc (Grew.refl _) _;go_wp2_with fail;refine (cB _ _ hK).mono ?_
 rintro e w1 ⟨rfl, hb⟩;replace hG := Grew.trans hG hb;go_wp2_with fail;refine (aw _ (hT.later hG) (hE.later hG)).mono ?_
 rintro e w2 ⟨rfl, hb⟩;replace hG := Grew.trans hG hb;have hz2 : (Z.size : Int) = 73 := by omega
 go_wp2;go_ret;exact ⟨rfl, hG⟩
theorem uvC_inj {s l : Int} {t : Nat -> Int} {n c c' : Nat} {o o' : Option Addr} (h : (Value.agg (uvC s l (.slice o n c) t)) = .agg (uvC s l (.slice o' n c') t)) : o = o' /\ c = c' := by
 have h1 := congrArg (fun v => match v with | .agg cs => cs[2]? | _ => none) h
 simp only [uvC_2] at h1
 cases h1
 exact ⟨rfl, rfl⟩
theorem stab_up (s l : Int) (n : Nat) (P : Nat -> Nat -> Int) (t : Nat -> Int) (u : Value) : Stab (fun w => ∀ oa c, u = .agg (uvC s l (.slice oa n c) t) -> K32At w oa n P) none := fun w w' h e oa c hu => (h oa c hu).later e
end Go.Proofs.YtpefpiobcpdeoaaGreatDoor
namespace Go.Proofs.YtpefpiobcpdeoaaGreatDoor
open Go.ChangeShapes Go.WideShapes Go.ChangeAt Go.RowKit
theorem one_of {α : Type} (l : List α) (k : Nat) (h : k < l.length) : (l.drop k).take 1 = [l[k]] := by
 rw [List.drop_eq_getElem_cons h]
 rfl
theorem k32_of_trod {H : Type} {enc : TypeId × Value -> H} {W : World} {base : Nat} {sp : Nat -> Bool} {held : Bool} {fuel : Nat} {u : Value} {x : DataW H × List MemPlace}
  (h : DataW.trod enc Tryz.prog W base sp held fuel 45 [u] = some x) : ∃ (oa : Option Addr) (n c : Nat) (F : Nat -> Nat -> Int), u = .slice oa n c /\ (∀ i, i < n -> Bytes 32 (F i)) /\ K32At W oa n F := by
 obtain ⟨hsl, hd⟩ := zqpn Tryz.underlying45 h;obtain ⟨oa, n, c, F, hv, hm, hw, hF⟩ := zqyp (n := 32) (k := .u8) Tryz.underlying45 Tryz.underlying44 Tryz.underlying5 zqb zqb (Nat.zero_lt_succ 31) hsl hd;refine ⟨oa, n, c, F, hv, fun i hi j hj => bounds_u8 (hw i hi j hj), ?_⟩
 rcases hF with h | ⟨a, ho, hc⟩
 ·exact .inl h
 ·refine .inr ⟨a, ho, fun w' hb j hj i hi => ?_⟩
  have h1 := hc j hj i hi;rw [hb.cell (cell_lt h1)];exact h1
theorem uvC_k (s l : Int) (b : Value) (t : Nat -> Int) (q : Nat) (h : q < 32) : (uvC s l b t)[3 + q]? = some (.int .u8 (t q)) := by
 unfold uvC;rw [Array.getElem?_append_right (by simp), show 3 + q - (#[Value.int .u32 s, Value.int .u16 l, b] : Array Value).size = q by simp, zqat _ _ _ _ h]
theorem open_upd {H : Type} {enc : TypeId × Value -> H} {W : World} {base : Nat} {sp : Nat -> Bool} {held : Bool} {r : Reach} {b0 : Nat} {v : Value} {d : DataW H} {ps : List MemPlace}
  (hval : Value.okWide Tryz.prog W r b0 81 v) (hd : DataW.Trod enc Tryz.prog W base sp held 81 v d ps) :
  ∃ (s l : Int) (oa : Option Addr) (n c : Nat) (P : Nat -> Nat -> Int) (t : Nat -> Int), v = .agg (uvC s l (.slice oa n c) t) /\ (0 <= s /\ s < 4294967296) /\ (0 <= l /\ l < 65536) /\ (∀ j, j < n -> Bytes 32 (P j)) /\ Bytes 32 t /\ K32At W oa n P := by
 unfold Value.okWide at hval;rw [Tryz.underlying81] at hval;obtain ⟨cs, rfl, hsz, _⟩ := hval;rw [show Tryz.prog.cellsOf 81 = 35 by kernel_rfl] at hsz;obtain ⟨fuel, hf⟩ := hd;have hlen : cs.toList.length = 35 := by simpa using hsz
 have hc0 : (Value.agg cs).cells.toList = cs.toList := rfl;rw [hc0] at hf;obtain ⟨xs, n', _, _, _, hxl, hel⟩ := DataW.trod_struct Tryz.underlying81 hf;obtain ⟨y0, y1, y2, y3, rfl⟩ : ∃ y0 y1 y2 y3, xs = [y0, y1, y2, y3] := by
  match xs, hxl with
  | [y0, y1, y2, y3], _ => exact ⟨y0, y1, y2, y3, rfl⟩
 have c0 : Tryz.prog.cellsOf 22 = 1 := by kernel_rfl
 have c1 : Tryz.prog.cellsOf 26 = 1 := by kernel_rfl
 have c2 : Tryz.prog.cellsOf 45 = 1 := by kernel_rfl
 have c3 : Tryz.prog.cellsOf 44 = 32 := by kernel_rfl
 have F0 : DataW.trod enc Tryz.prog W base sp held n' 22 ((cs.toList.drop 0).take (Tryz.prog.cellsOf 22)) = some y0 := hel 0 _ rfl;have F1 : DataW.trod enc Tryz.prog W base sp held n' 26 ((cs.toList.drop 1).take (Tryz.prog.cellsOf 26)) = some y1 := hel 1 _ rfl;have F2 : DataW.trod enc Tryz.prog W base sp held n' 45 ((cs.toList.drop 2).take (Tryz.prog.cellsOf 45)) = some y2 := hel 2 _ rfl;have F3 : DataW.trod enc Tryz.prog W base sp held n' 44 ((cs.toList.drop 3).take (Tryz.prog.cellsOf 44)) = some y3 := hel 3 _ rfl;rw [c0, one_of _ 0 (by omega)] at F0;rw [c1, one_of _ 1 (by omega)] at F1;rw [c2, one_of _ 2 (by omega)] at F2;rw [c3] at F3;obtain ⟨s, es, -, ws⟩ := DataW.trod_int Tryz.underlying22 F0;obtain ⟨l, el, -, wl⟩ := DataW.trod_int Tryz.underlying26 F1;obtain ⟨oa, n, c, P, ep, hP, hK⟩ := k32_of_trod F2
 obtain ⟨t, ht⟩ := zqhc (n := 32) (k := .u8) Tryz.underlying44 Tryz.underlying5 zqb (by simp [hsz]) F3;have e0 : cs[0]? = some (.int .u32 s) := by rw [<- Array.getElem?_toList, List.getElem?_eq_getElem (by omega)]; exact congrArg some (List.cons.inj es).1
 have e1 : cs[1]? = some (.int .u16 l) := by rw [<- Array.getElem?_toList, List.getElem?_eq_getElem (by omega)]; exact congrArg some (List.cons.inj el).1
 have e2 : cs[2]? = some (.slice oa n c) := by rw [<- Array.getElem?_toList, List.getElem?_eq_getElem (by omega)]; exact congrArg some ep
 refine ⟨s, l, oa, n, c, P, t, ?_, zrdl ws, by have := bounds_u16 wl; omega, hP, fun i hi => bounds_u8 (ht i hi).2, hK⟩
 congr 1
 apply Array.ext_getElem?
 intro i
 rcases (by omega : i = 0 \/ i = 1 \/ i = 2 \/ 3 <= i) with rfl | rfl | rfl | h3
 ·rw [e0, uvC_0]
 ·rw [e1, uvC_1]
 ·rw [e2, uvC_2]
 ·obtain ⟨q, rfl⟩ : ∃ q, i = 3 + q := ⟨i - 3, by omega⟩
  by_cases hq : q < 32
  ·rw [uvC_k _ _ _ _ _ hq]
   have h2 := (ht q hq).1;rw [List.getElem?_take, if_pos hq, List.getElem?_drop] at h2;rw [<- Array.getElem?_toList];exact h2
  ·rw [Array.getElem?_eq_none (by omega), Array.getElem?_eq_none (by rw [uvC_size]; omega)]
end Go.Proofs.YtpefpiobcpdeoaaGreatDoor
