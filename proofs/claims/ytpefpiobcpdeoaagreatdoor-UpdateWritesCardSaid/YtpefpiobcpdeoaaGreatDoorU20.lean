/- U20 -/
import Derived.Test.YtpefpiobcpdeoaaGreatDoorU19
import Derived.Test.YtpefpiobcpdeoaaGreatDoorB17
import Derived.Test.YtpefpiobcpdeoaaGreatDoorC16
import Derived.Test.YtpefpiobcpdeoaaGreatDoorL13
import Derived.Test.YtpefpiobcpdeoaaGreatDoorQ13
import Derived.Test.YtpefpiobcpdeoaaGreatDoorQ11
import Derived.Test.YtpefpiobcpdeoaaGreatDoorR11
set_option linter.unusedVariables false
set_option linter.unusedSimpArgs false
set_option maxRecDepth 100000
set_option maxHeartbeats 4000000
namespace Go.Proofs.YtpefpiobcpdeoaaGreatDoor
open Go.RowKit Go.Extern
attribute [local go_sem high] zqfy
theorem k32_oneR {W : World} {g : Nat} {y : Nat -> Int} (h : Full g (ints .u8 32 y) 43 W) : K32At W (some ⟨g, 0, none⟩) 1 (fun _ => y) := zqf3 (n := 1) h (by decide) (fun j hj i hi => by
 obtain rfl : j = 0 := by omega
 rw [Nat.zero_mul, Nat.zero_add])
theorem rcheck19_any (s l : Int) (oa : Option Addr) (n c : Nat) (t : Nat -> Int) (w : World) :
  Calls Tryz.prog 37 #[.agg (uvC s l (.slice oa n c) t)] w (Rt w (.int .i64 (if 1 <= n /\ n <= 10 then 0 else 6))) := by
 go_enter Tryz.func37, Tryz.ntmps37
 have hG : Below w.heap.size w (w.alloc (.cells (uvC s l (.slice oa n c) t) 83)) := Grew.alloc (Grew.refl _) _
 by_cases h1 : 1 <= n
 ·have i1 : ¬ ((n : Int) < 1) := by omega
  by_cases h2 : n <= 10
  ·have i2 : ¬ ((10 : Int) < (n : Int)) := by omega
   rw [if_pos ⟨h1, h2⟩];go_wp2;go_ret;exact ⟨rfl, hG⟩
  ·have i2 : (10 : Int) < (n : Int) := by omega
   rw [if_neg (fun h => h2 h.2)];go_wp2;go_ret;exact ⟨rfl, hG⟩
 ·have i1 : (n : Int) < 1 := by omega
  rw [if_neg (fun h => h1 h.1)];go_wp2;go_ret;exact ⟨rfl, hG⟩
theorem rbody19_any (s l : Int) (oa : Option Addr) (n c : Nat) (t : Nat -> Int) (P : Nat -> Nat -> Int) (w : World) (hs : 0 <= s /\ s < 4294967296) (hl : 0 <= l /\ l < 65536) (hP : K32At w oa n P) (h2 : n <= 100) :
  Calls Tryz.prog 44 #[.agg (uvC s l (.slice oa n c) t)] w (Rt w (.string (catS (uF s l n P t) 6))) := by
 have HP : Hid (K32At w oa n P) := hP;clear hP;have hw1 : IntKind.u64.wrap s = s := by rw [IntKind.wrap_u64]; omega
 have hw2 : IntKind.u64.wrap l = l := by rw [IntKind.wrap_u64]; omega
 have hw3 : IntKind.u64.wrap (n : Int) = (n : Int) := by rw [IntKind.wrap_u64]; omega
 have eT : catS (uF s l n P t) 6 = numB 1 1 ++ numB 1 3 ++ numB 4 s ++ numB 2 l ++ numB 1 (n : Int) ++ zqbk P n := by
  show ByteArray.empty ++ numB 1 1 ++ numB 1 3 ++ numB 4 s ++ numB 2 l ++ numB 1 (n : Int) ++ zqbk P n = _
  rw [ByteArray.empty_append]
 have c1 : ∀ W : World, Calls Tryz.prog 82 #[.int .i64 1, .int .u64 1] W (Rt W (.string (numB 1 1))) := fun W => zqjl 1 1 W (by decide) (by decide);have c2 : ∀ W : World, Calls Tryz.prog 82 #[.int .i64 1, .int .u64 3] W (Rt W (.string (numB 1 3))) := fun W => zqjl 1 3 W (by decide) (by decide);have c3 : ∀ W : World, Calls Tryz.prog 82 #[.int .i64 4, .int .u64 s] W (Rt W (.string (numB 4 s))) := fun W => zqjl 4 s W (by omega) (by omega);have c4 : ∀ W : World, Calls Tryz.prog 82 #[.int .i64 2, .int .u64 l] W (Rt W (.string (numB 2 l))) := fun W => zqjl 2 l W (by omega) (by omega);have c5 : ∀ W : World, Calls Tryz.prog 82 #[.int .i64 1, .int .u64 (n : Int)] W (Rt W (.string (numB 1 (n : Int)))) := fun W => zqjl 1 (n : Int) W (by omega) (by omega);have z1 := zqar 1 1;have z2 := zqar 1 3;have z3 := zqar 4 s;have z4 := zqar 2 l
 have z5 := zqar 1 (n : Int);have z6 := zqbl P n;rw [eT]
 go_enter Tryz.func44, Tryz.ntmps44
 go_wp2_with fail;have fb : zqd (w.alloc (.cells (uvC s l (.slice oa n c) t) 83)) w.heap.size = some (.cells (uvC s l (.slice oa n c) t) 83) := zqg _ _ _ rfl;have hG : Below w.heap.size w (w.alloc (.cells (uvC s l (.slice oa n c) t) 83)) := Grew.alloc (Grew.refl _) _;generalize w.alloc (.cells (uvC s l (.slice oa n c) t) 83) = w1 at *;have lb := zqa fb;have c6 := fun (W : World) (hb : Below w1.heap.size w1 W) => zqob P oa n c W ((HP.out.later hG).later hb) (by omega);clear eT;generalize hA1 : numB 1 1 = A1 at *;generalize hA2 : numB 1 3 = A2 at *;generalize hA3 : numB 4 s = A3 at *;generalize hA4 : numB 2 l = A4 at *;generalize hA5 : numB 1 (n : Int) = A5 at *;generalize hA6 : zqbk P n = A6 at *;have q1 : zqe7 A1 A2 := by unfold zqe7; omega
 have q2 : zqe7 (A1 ++ A2) A3 := by unfold zqe7; simp only [ByteArray.size_append]; omega
 have q3 : zqe7 (A1 ++ A2 ++ A3) A4 := by unfold zqe7; simp only [ByteArray.size_append]; omega
 have q4 : zqe7 (A1 ++ A2 ++ A3 ++ A4) A5 := by unfold zqe7; simp only [ByteArray.size_append]; omega
 have q5 : zqe7 (A1 ++ A2 ++ A3 ++ A4 ++ A5) A6 := by unfold zqe7; simp only [ByteArray.size_append]; omega
 clear z1 z2 z3 z4 z5 z6
 ((first | (with_reducible refine zq8 zqb zqb ?_) | refine zq1 zqb zqb ?_); (repeat (first | go_big_quiet_skip | (go_big_quiet_want; go_big_quiet_op; first | go_big_quiet_on | (apply Exists.intro; refine ⟨fun _ => ?_, ?_⟩; (focus (first | (with_reducible exact Calls.of_more (c1 _)) | (with_reducible exact Calls.of_more (c2 _)) | (with_reducible exact Calls.of_more (c3 _)) | (with_reducible exact Calls.of_more (c4 _)) | (with_reducible exact Calls.of_more (c5 _)) | (exact Calls.of_more (c6 _ (zqm _ _))))); go_big_quiet_on)))); refine wpQuiet_nil ?_; rintro _ ⟨mq, rfl⟩)
 go_wp2;go_ret;exact ⟨by subst hA1 hA2 hA3 hA4 hA5 hA6; rfl, Grew.more hG _⟩
theorem rtext19_any (s l : Int) (oa : Option Addr) (n c : Nat) (t : Nat -> Int) (P : Nat -> Nat -> Int) (w : World) (hs : 0 <= s /\ s < 4294967296) (hl : 0 <= l /\ l < 65536) (hP : K32At w oa n P) (h2 : n <= 100) :
  Calls Tryz.prog 43 #[.agg (uvC s l (.slice oa n c) t)] w (Rt w (.string (uB s l n P t))) := by
 have HP : Hid (K32At w oa n P) := hP;clear hP;have hz := uF_size s l n P t;have hz2 : (zqbk (fun _ => t) 1).size = 32 * 1 := zqbl _ _;have eT : uB s l n P t = catS (uF s l n P t) 6 ++ zqbk (fun _ => t) 1 := rfl;rw [eT];clear eT
 go_enter Tryz.func43, Tryz.ntmps43
 go_wp2_with fail;have fb : zqd (w.alloc (.cells (uvC s l (.slice oa n c) t) 83)) w.heap.size = some (.cells (uvC s l (.slice oa n c) t) 83) := zqg _ _ _ rfl;have hG : Below w.heap.size w (w.alloc (.cells (uvC s l (.slice oa n c) t) 83)) := Grew.alloc (Grew.refl _) _;generalize w.alloc (.cells (uvC s l (.slice oa n c) t) 83) = w1 at *;have lb := zqa fb;have cB := fun (W : World) (hb : Below w1.heap.size w1 W) => rbody19_any s l oa n c t P W hs hl ((HP.out.later hG).later hb) h2;generalize hBB : catS (uF s l n P t) 6 = B at *;have cK : ∀ (g : Nat) (W : World), Full g (ints .u8 32 t) 43 W -> Calls Tryz.prog 83 #[.slice (some ⟨g, 0, none⟩) 1 1] W (Rt W (.string (zqbk (fun _ => t) 1))) := fun g W h => zqob (fun _ => t) (some ⟨g, 0, none⟩) 1 1 W (k32_oneR h) (by decide);generalize hKK : zqbk (fun _ => t) 1 = K1 at *;have q1 : zqe7 B K1 := by unfold zqe7; omega
 (refine zqg2 zqb zqb ?_; (repeat (first | refine zqs rfl ?_ | (refine zqn rfl ?_; apply Exists.intro))); refine zqbn ?_; intro γ hinj hbase; (repeat (first | (refine zqt rfl ?_; ((first | go_big_quiet_skip | (go_big_quiet_want; go_big_quiet_op; go_big_quiet_on)); refine wpQuiet_nil ?_)) | ((first | refine zql rfl (fun _ => rfl) ?_ | ((try simp only [Nat.zero_add, Nat.reduceAdd]); apply zqdp zq2; (focus rfl); (focus (first | exact zqag _ | exact zqaj _ _ | exact zqae _ | rfl)); (focus (exact zq9))) | ((try simp only [Nat.zero_add, Nat.reduceAdd]); apply zqbs _ _ zq2; (focus rfl); (focus (intro W; (first | exact zqcd _ | exact zqbt _ | exact zero_num _ | exact zqbx _ | exact zqbd _ | exact zqbc _))); (focus (first | exact zqbe _ _ _ | exact zqbw _ _ | rfl)); (focus (exact zq9))) | ((try simp only [Nat.zero_add, Nat.reduceAdd]); apply zqbq zq2; (focus rfl); (focus (intro W; simp only [List.map_toArray, List.map_cons, List.map_nil]; first | (with_reducible exact zqm9 _ W) | exact zqm9 _ W)); (focus (exact zq9))) | (apply zq4; (focus rfl); (focus rfl); (focus rfl); (focus (intro W hC hF; (have hbW : Below w1.heap.size w1 W := by obtain ⟨mm, rfl⟩ := hC; exact zqm w1 mm); (try (have hE1 : Full (γ 4) (ints .u8 32 t) 43 W := known hF (List.mem_cons_self ..) (by decide +kernel))); go_big_quiet_want; go_big_quiet_op; (first | go_big_quiet_on | (apply Exists.intro; refine ⟨fun _ => ?_, ?_⟩; (focus (first | (exact Calls.of_more (cB _ (Grew.more hbW _))) | (exact Calls.of_more (cK _ _ (zqp _ hE1))))); go_big_quiet_on)); exact wpQuiet_nil rfl)); (focus (first | exact fun _ => ⟨rfl, rfl⟩ | exact fun h => absurd h (by decide))))); ((first | go_big_quiet_skip | (go_big_quiet_want; go_big_quiet_op; go_big_quiet_on)); refine wpQuiet_nil ?_)) | refine zqk rfl (fun _ => rfl) ?_ | ((try simp only [Nat.zero_add, Nat.reduceAdd]); apply zqbu (zqbf (hbase _)); (focus rfl); (focus rfl); (focus rfl); (focus (first | exact zqag _ | exact zqaj _ _ | exact zqae _ | rfl)); rotate_left 3; (focus (exact zqd5)); rotate_right 3; (focus kernel_rfl); (focus (first | exact zqi _ _ _ | rfl)); (focus (first | exact zqa9 _ _ _ | exact zqb0 _ _ _ _ | kernel_rfl)); (focus (decide +kernel)); (focus (exact zq9))))))
 (refine zqb1 ?_; rintro _ ⟨mq, rfl⟩ hF; simp only [List.forall_mem_cons] at hF; obtain ⟨-, -⟩ := hF)
 go_wp2;go_ret;exact ⟨by subst hBB hKK; rfl, Grew.more hG _⟩
def KSlF (B n : Nat) (u : Value) : Prop := ∃ oa c, u = .slice oa n c /\ ∀ ad, oa = some ad -> B <= ad.block
def UpAt (w : World) (v : Value) (s l : Int) (n : Nat) (P : Nat -> Nat -> Int) (t : Nat -> Int) : Prop := ∃ oa c, v = .agg (uvC s l (.slice oa n c) t) /\ K32At w oa n P
theorem UpAt.later {w w' : World} {v : Value} {s l : Int} {n : Nat} {P : Nat -> Nat -> Int} {t : Nat -> Int} (h : UpAt w v s l n P t) (hb : Below w.heap.size w w') : UpAt w' v s l n P t := by
 obtain ⟨oa, c, e, hp⟩ := h;exact ⟨oa, c, e, hp.later hb⟩
theorem of19_any (s l : Int) (oa : Option Addr) (n c : Nat) (t : Nat -> Int) (P : Nat -> Nat -> Int) (w : World) (hn : n <= 1000) (hP : K32At w oa n P) :
  Calls Tryz.prog 36 #[.agg (uvC s l (.slice oa n c) t)] w fun e w' => ∃ v, e = .returned (v) /\ UpAt w' v s l n P t /\ Below w.heap.size w w' := by
 have HP : Hid (K32At w oa n P) := hP;clear hP
 go_enter Tryz.func36, Tryz.ntmps36
 go_wp2_with fail;have fb : zqd ((w.alloc (.cells (uvC s l (.slice oa n c) t) 81)).alloc (.cells (uvC 0 0 (.slice none 0 0) zqe) 83)) w.heap.size = some (.cells (uvC s l (.slice oa n c) t) 81) := zqj _ (zqg _ _ _ rfl);have fr : zqd ((w.alloc (.cells (uvC s l (.slice oa n c) t) 81)).alloc (.cells (uvC 0 0 (.slice none 0 0) zqe) 83)) (w.heap.size + 1) = some (.cells (uvC 0 0 (.slice none 0 0) zqe) 83) := zqg _ _ _ (by simp);have hG : Below w.heap.size w ((w.alloc (.cells (uvC s l (.slice oa n c) t) 81)).alloc (.cells (uvC 0 0 (.slice none 0 0) zqe) 83)) := Grew.alloc (Grew.alloc (Grew.refl _) _) _;generalize (w.alloc (.cells (uvC s l (.slice oa n c) t) 81)).alloc (.cells (uvC 0 0 (.slice none 0 0) zqe) 83) = w1 at *;have hgr : w.heap.size <= w.heap.size + 1 := by omega
 generalize w.heap.size + 1 = gr at *;have lb := zqa fb;have lr := zqa fr;have cK := fun (W : World) (hb : Below w1.heap.size w1 W) => zqr6 oa n c P W hn ((HP.out.later hG).later hb);refine zqi2 (fun k => k == 6) (fun k => match k with | 6 => fun u => KSlF w1.heap.size n u | _ => fun _ => True) (fun k => match k with | 6 => fun u w => KAt n P u w | _ => fun _ _ => True) (fun k => match k with | 6 => .slice none n 0 | _ => undef) (fun i hi => ?_) 10 zqb zqb zqb zqb zqb ?_
 ·simp only [Bool.or_eq_true, beq_iff_eq] at hi
  subst hi;exact ⟨none, 0, rfl, fun _ h => by cases h⟩
 simp only [List.take_succ_cons, List.take_zero]
 iterate 6 (first | refine zqs rfl ?_ | (refine zqn rfl ?_; apply Exists.intro))
 refine zqn rfl ⟨undef, ?_⟩
 iterate 3 (first | refine zqs rfl ?_ | (refine zqn rfl ?_; apply Exists.intro))
 refine zqbn ?_
 intro γ gv hsv hinj hbase;obtain ⟨ob, d, e1, hob⟩ := hsv 6 rfl
 (repeat (first | (refine zqt rfl ?_; ((first | go_big_quiet_skip | (go_big_quiet_want; go_big_quiet_op; go_big_quiet_on)); refine wpQuiet_nil ?_)) | ((first | refine zql rfl (fun _ => rfl) ?_ | (apply zq4; (focus rfl); (focus rfl); (focus rfl); (focus (intro W hC hF; (skip); go_big_quiet_want; go_big_quiet_op; (first | go_big_quiet_on | (apply Exists.intro; refine ⟨fun _ => ?_, ?_⟩; (focus ((fail))); go_big_quiet_on)); exact wpQuiet_nil rfl)); (focus (first | exact fun _ => ⟨rfl, rfl⟩ | exact fun h => absurd h (by decide))))); ((first | go_big_quiet_skip | (go_big_quiet_want; go_big_quiet_op; go_big_quiet_on)); refine wpQuiet_nil ?_)) | refine zqk rfl (fun _ => rfl) ?_))
 refine zqah #[.slice oa n c] (enters_of Tryz.func74 zqb rfl) rfl e1 rfl rfl rfl rfl (zqbo (zqc7 _ _ _)) (by first | kernel_rfl | simp [go_sem]) ?_ ?_
 ·intro W hC hF
  obtain ⟨mm, rfl⟩ := hC;refine (cK _ (zqm w1 mm)).mono ?_
  rintro e w9 ⟨ob9, cb9, rfl, hK9, hB9, hb9⟩;exact ⟨_, rfl, ⟨_, _, rfl, fun ad e => Nat.le_trans (zqm w1 mm).size (hB9 ad e)⟩, (fun oa2 c2 e2 => by cases e2; exact hK9), hb9⟩
 ((first | go_big_quiet_skip | (go_big_quiet_want; go_big_quiet_op; go_big_quiet_on)); refine wpQuiet_nil ?_)
 (repeat (first | (refine zqt rfl ?_; ((first | go_big_quiet_skip | (go_big_quiet_want; go_big_quiet_op; go_big_quiet_on)); refine wpQuiet_nil ?_)) | ((first | refine zql rfl (fun _ => rfl) ?_ | (apply zq4; (focus rfl); (focus rfl); (focus rfl); (focus (intro W hC hF; (skip); go_big_quiet_want; go_big_quiet_op; (first | go_big_quiet_on | (apply Exists.intro; refine ⟨fun _ => ?_, ?_⟩; (focus ((fail))); go_big_quiet_on)); exact wpQuiet_nil rfl)); (focus (first | exact fun _ => ⟨rfl, rfl⟩ | exact fun h => absurd h (by decide))))); ((first | go_big_quiet_skip | (go_big_quiet_want; go_big_quiet_op; go_big_quiet_on)); refine wpQuiet_nil ?_)) | refine zqk rfl (fun _ => rfl) ?_))
 (refine zqge ?_; rintro _ ⟨mq, rfl⟩ hF; simp only [List.forall_mem_cons] at hF; obtain ⟨f6, -⟩ := hF)
 have hK6 := hid1 (f6 _ _ rfl);replace hG := Grew.more hG mq;replace fr := zqp mq fr;clear f6 hinj hbase hsv e1 lb cK fb;replace hob : Hid (∀ ad, ob = some ad -> ad.block = gr -> False) := fun ad e eb => by have := hob ad e; omega
 clear lr;generalize more w1 mq = w2 at *;clear γ gv;have lr := zqa fr
 (refine zqr (i := 10) (fuel := 0) zqb rfl ?_; intro K hK; go_simp; refine hK _ _ ?_; clear hK K)
 (refine wpAny_done zqb ?_ _)
 go_wp2;refine zqan rfl _ 83 _ (0, 0) _ rfl (zqw _ fr) Tryz.underlying83 rfl (by rw [uvC_size]; kernel_rfl) rfl ?_
 first | exact ⟨_, rfl, ⟨_, _, rfl, hK6.out.aside fr hob.out _⟩, Grew.setRow hG _ _ hgr⟩ | exact ⟨⟨_, rfl⟩, ⟨_, _, rfl, hK6.out.aside fr hob.out _⟩, Grew.setRow hG _ _ hgr⟩
end Go.Proofs.YtpefpiobcpdeoaaGreatDoor
namespace Go.Proofs.YtpefpiobcpdeoaaGreatDoor
open Go.RowKit Go.Extern
end Go.Proofs.YtpefpiobcpdeoaaGreatDoor
namespace Go.Proofs.YtpefpiobcpdeoaaGreatDoor
open Go.RowKit Go.Extern
theorem uvC_congr {s l : Int} {b : Value} {t t' : Nat -> Int} (h : ∀ i, i < 32 -> t i = t' i) : uvC s l b t = uvC s l b t' := by
 unfold uvC;rw [zqa6 h]
theorem UpAt.congr {w : World} {v : Value} {s l : Int} {n : Nat} {P P' : Nat -> Nat -> Int} {t t' : Nat -> Int} (h : UpAt w v s l n P t) (hP : ∀ j, j < n -> ∀ i, i < 32 -> P j i = P' j i) (ht : ∀ i, i < 32 -> t i = t' i) : UpAt w v s l n P' t' := by
 obtain ⟨oa, c, rfl, hp⟩ := h;exact ⟨oa, c, by rw [uvC_congr ht], hp.congr2 hP⟩
end Go.Proofs.YtpefpiobcpdeoaaGreatDoor
namespace Go.Proofs.YtpefpiobcpdeoaaGreatDoor
open Go.RowKit Go.Extern
attribute [local go_sem high] zqfy
end Go.Proofs.YtpefpiobcpdeoaaGreatDoor
namespace Go.Proofs.YtpefpiobcpdeoaaGreatDoor
open Go.RowKit Go.Extern
def fitE (l N : Int) (n : Nat) (D : Int) : Int := if N < 2 \/ 1024 < N then 4 else if N <= l then 5 else if (n : Int) ≠ D then 6 else 0
theorem fitE_a {l N : Int} {n : Nat} {D : Int} (h : N < 2) : fitE l N n D = 4 := by unfold fitE; rw [if_pos (.inl h)]
theorem fitE_b {l N : Int} {n : Nat} {D : Int} (h : 1024 < N) : fitE l N n D = 4 := by unfold fitE; rw [if_pos (.inr h)]
theorem fitE_c {l N : Int} {n : Nat} {D : Int} (h1 : ¬ (N < 2)) (h2 : ¬ (1024 < N)) (h : N <= l) : fitE l N n D = 5 := by unfold fitE; rw [if_neg (by omega), if_pos h]
theorem fitE_d {l N : Int} {n : Nat} {D : Int} (h1 : ¬ (N < 2)) (h2 : ¬ (1024 < N)) (h3 : ¬ (N <= l)) (h : ¬ ((n : Int) = D)) : fitE l N n D = 6 := by unfold fitE; rw [if_neg (by omega), if_neg h3, if_pos h]
theorem fitE_e {l N : Int} {n : Nat} {D : Int} (h1 : ¬ (N < 2)) (h2 : ¬ (1024 < N)) (h3 : ¬ (N <= l)) (h : (n : Int) = D) : fitE l N n D = 0 := by unfold fitE; rw [if_neg (by omega), if_neg h3, if_neg (fun h4 => h4 h)]
theorem ufits_any (s l : Int) (oa : Option Addr) (n c : Nat) (t : Nat -> Int) (N D : Int) (w : World) (hl : 0 <= l /\ l < 65536) (cD : ∀ W : World, Calls Tryz.prog 97 #[.int .i64 N, .int .i64 l] W (Rt W (.int .i64 D))) :
  Calls Tryz.prog 41 #[.agg (uvC s l (.slice oa n c) t), .int .i64 N] w fun e w' => ∃ u, e = .returned (u) /\ ErV w' u (fitE l N n D) /\ Below w.heap.size w w' := by
 have hlw : IntKind.i64.wrap l = l := wrap_small (by omega) (by omega)
 go_enter Tryz.func41, Tryz.ntmps41
 have hG : Below w.heap.size w (w.alloc (.cells (uvC s l (.slice oa n c) t) 81)) := Grew.alloc (Grew.refl _) _
 by_cases h1 : N < 2
 ·rw [fitE_a h1]
  go_wp2_with fail;generalize w.alloc (.cells (uvC s l (.slice oa n c) t) 81) = w1 at *;refine (wrap_any _ _ _ _).mono ?_
  rintro e w3 ⟨rfl, rfl⟩;go_wp2;go_ret;exact ⟨_, rfl, zqd4 _ 4 (by decide), Grew.alloc hG _⟩
 by_cases h2 : 1024 < N
 ·rw [fitE_b h2]
  go_wp2_with fail;generalize w.alloc (.cells (uvC s l (.slice oa n c) t) 81) = w1 at *;refine (wrap_any _ _ _ _).mono ?_
  rintro e w3 ⟨rfl, rfl⟩;go_wp2;go_ret;exact ⟨_, rfl, zqd4 _ 4 (by decide), Grew.alloc hG _⟩
 by_cases h3 : N <= l
 ·rw [fitE_c h1 h2 h3]
  go_wp2_with fail;generalize w.alloc (.cells (uvC s l (.slice oa n c) t) 81) = w1 at *;refine (wrap_any _ _ _ _).mono ?_
  rintro e w3 ⟨rfl, rfl⟩;go_wp2;go_ret;exact ⟨_, rfl, zqd4 _ 5 (by decide), Grew.alloc hG _⟩
 by_cases h4 : (n : Int) = D
 ·rw [fitE_e h1 h2 h3 h4]
  go_wp2_with fail;have fb : zqd (w.alloc (.cells (uvC s l (.slice oa n c) t) 81)) w.heap.size = some (.cells (uvC s l (.slice oa n c) t) 81) := zqg _ _ _ rfl;generalize w.alloc (.cells (uvC s l (.slice oa n c) t) 81) = w1 at *;have lb := zqa fb
  ((first | (with_reducible refine zq8 zqb zqb ?_) | refine zq1 zqb zqb ?_); (repeat (first | go_big_quiet_skip | (go_big_quiet_want; go_big_quiet_op; first | go_big_quiet_on | (apply Exists.intro; refine ⟨fun _ => ?_, ?_⟩; (focus (exact Calls.of_more (cD _))); go_big_quiet_on)))); refine wpQuiet_nil ?_; rintro _ ⟨mq, rfl⟩)
  replace hG := Grew.more hG mq;generalize more w1 mq = w2 at *;go_wp2;go_ret;exact ⟨_, rfl, .inl ⟨rfl, rfl⟩, hG⟩
 ·rw [fitE_d h1 h2 h3 h4]
  have h5 : ((n : Int) == D) = false := by simp [h4]
  go_wp2_with fail;have fb : zqd (w.alloc (.cells (uvC s l (.slice oa n c) t) 81)) w.heap.size = some (.cells (uvC s l (.slice oa n c) t) 81) := zqg _ _ _ rfl;generalize w.alloc (.cells (uvC s l (.slice oa n c) t) 81) = w1 at *;have lb := zqa fb
  ((first | (with_reducible refine zq8 zqb zqb ?_) | refine zq1 zqb zqb ?_); (repeat (first | go_big_quiet_skip | (go_big_quiet_want; go_big_quiet_op; first | go_big_quiet_on | (apply Exists.intro; refine ⟨fun _ => ?_, ?_⟩; (focus (exact Calls.of_more (cD _))); go_big_quiet_on)))); refine wpQuiet_nil ?_; rintro _ ⟨mq, rfl⟩)
  replace hG := Grew.more hG mq;generalize more w1 mq = w2 at *;go_wp2_with fail;refine (wrap_any _ _ _ _).mono ?_
  rintro e w3 ⟨rfl, rfl⟩;go_wp2;go_ret;exact ⟨_, rfl, zqd4 _ 6 (by decide), Grew.alloc hG _⟩
theorem rfits19_any (s l : Int) (oa : Option Addr) (n c : Nat) (t : Nat -> Int) (N D : Int) (w : World) (hl : 0 <= l /\ l < 65536) (cD : ∀ W : World, Calls Tryz.prog 98 #[.int .i64 N, .int .i64 l] W (Rt W (.int .i64 D))) :
  Calls Tryz.prog 42 #[.agg (uvC s l (.slice oa n c) t), .int .i64 N] w (Rt w (.int .i64 (fitE l N n D))) := by
 have hlw : IntKind.i64.wrap l = l := wrap_small (by omega) (by omega)
 go_enter Tryz.func42, Tryz.ntmps42
 have hG : Below w.heap.size w (w.alloc (.cells (uvC s l (.slice oa n c) t) 83)) := Grew.alloc (Grew.refl _) _
 by_cases h1 : N < 2
 ·rw [fitE_a h1]
  go_wp2;go_ret;exact ⟨rfl, hG⟩
 by_cases h2 : 1024 < N
 ·rw [fitE_b h2]
  go_wp2;go_ret;exact ⟨rfl, hG⟩
 by_cases h3 : N <= l
 ·rw [fitE_c h1 h2 h3]
  go_wp2;go_ret;exact ⟨rfl, hG⟩
 by_cases h4 : (n : Int) = D
 ·rw [fitE_e h1 h2 h3 h4]
  go_wp2_with fail;have fb : zqd (w.alloc (.cells (uvC s l (.slice oa n c) t) 83)) w.heap.size = some (.cells (uvC s l (.slice oa n c) t) 83) := zqg _ _ _ rfl;generalize w.alloc (.cells (uvC s l (.slice oa n c) t) 83) = w1 at *;have lb := zqa fb
  ((first | (with_reducible refine zq8 zqb zqb ?_) | refine zq1 zqb zqb ?_); (repeat (first | go_big_quiet_skip | (go_big_quiet_want; go_big_quiet_op; first | go_big_quiet_on | (apply Exists.intro; refine ⟨fun _ => ?_, ?_⟩; (focus (exact Calls.of_more (cD _))); go_big_quiet_on)))); refine wpQuiet_nil ?_; rintro _ ⟨mq, rfl⟩)
  replace hG := Grew.more hG mq;generalize more w1 mq = w2 at *;go_wp2;go_ret;exact ⟨rfl, hG⟩
 ·rw [fitE_d h1 h2 h3 h4]
  have h5 : ((n : Int) == D) = false := by simp [h4]
  go_wp2_with fail;have fb : zqd (w.alloc (.cells (uvC s l (.slice oa n c) t) 83)) w.heap.size = some (.cells (uvC s l (.slice oa n c) t) 83) := zqg _ _ _ rfl;generalize w.alloc (.cells (uvC s l (.slice oa n c) t) 83) = w1 at *;have lb := zqa fb
  ((first | (with_reducible refine zq8 zqb zqb ?_) | refine zq1 zqb zqb ?_); (repeat (first | go_big_quiet_skip | (go_big_quiet_want; go_big_quiet_op; first | go_big_quiet_on | (apply Exists.intro; refine ⟨fun _ => ?_, ?_⟩; (focus (exact Calls.of_more (cD _))); go_big_quiet_on)))); refine wpQuiet_nil ?_; rintro _ ⟨mq, rfl⟩)
  replace hG := Grew.more hG mq;generalize more w1 mq = w2 at *;go_wp2;go_ret;exact ⟨rfl, hG⟩
end Go.Proofs.YtpefpiobcpdeoaaGreatDoor
namespace Go.Proofs.YtpefpiobcpdeoaaGreatDoor
open Go.RowKit Go.Extern
@[go_sem high] theorem make1k (w : World) : (Instr.makeSlice 45 (.int .i64 1) (.int .i64 1)).run Tryz.prog w = .ok (.slice (some ⟨w.heap.size, 0, none⟩) 1 1) (w.alloc (.cells (ints .u8 32 zqe) 44)) := by kernel_rfl
theorem Awake18_any (aw : ∀ (w : World), Tabs w -> EtAt w -> Calls Tryz.prog 18 #[] w (Rt w (.bool true))) (w : World) (hT : Tabs w) (hE : EtAt w) :
  Calls Tryz.prog 95 #[] w (Rt w (.bool true)) := by
 go_enter Tryz.func95, Tryz.ntmps95
 go_wp2_with fail;refine (aw _ hT hE).mono ?_
 rintro e w2 ⟨rfl, hb⟩;go_wp2;go_ret;exact ⟨rfl, hb⟩
theorem awake19_any (aw : ∀ (w : World), Tabs w -> EtAt w -> Calls Tryz.prog 95 #[] w (Rt w (.bool true))) (w : World) (hT : Tabs w) (hE : EtAt w) :
  Calls Tryz.prog 35 #[] w (Rt w (.bool true)) := by
 have hz := uB_size 0 0 1 (fun _ => zqe) zqe;have cB := fun (g : Nat) (W : World) (h : K32At W (some ⟨g, 0, none⟩) 1 (fun _ => zqe)) => uwrite_any 0 0 (some ⟨g, 0, none⟩) 1 1 zqe (fun _ => zqe) W (by decide) (by decide) h (fun _ _ => b_nought) b_nought (by decide) (by decide);generalize uB 0 0 1 (fun _ => zqe) zqe = Z at *
 go_enter Tryz.func35, Tryz.ntmps35
 have hK : K32At (w.alloc (.cells (ints .u8 32 zqe) 44)) (some ⟨w.heap.size, 0, none⟩) 1 (fun _ => zqe) := k32_new (zqg _ _ _ rfl) (by decide);have hG : Below w.heap.size w (w.alloc (.cells (ints .u8 32 zqe) 44)) := Grew.alloc (Grew.refl _) _;go_wp2_with fail;refine (cB _ _ hK).mono ?_
 rintro e w1 ⟨rfl, hb⟩;replace hG := Grew.trans hG hb;go_wp2_with fail;refine (aw _ (hT.later hG) (hE.later hG)).mono ?_
 rintro e w2 ⟨rfl, hb⟩;replace hG := Grew.trans hG hb;have hz2 : (Z.size : Int) = 73 := by omega
 go_wp2;go_ret;exact ⟨rfl, hG⟩
end Go.Proofs.YtpefpiobcpdeoaaGreatDoor
namespace Go.Proofs.YtpefpiobcpdeoaaGreatDoor
open Go.ChangeShapes Go.WideShapes Go.ChangeAt Go.RowKit
theorem one_of {α : Type} (l : List α) (k : Nat) (h : k < l.length) : (l.drop k).take 1 = [l[k]] := by
 rw [List.drop_eq_getElem_cons h]
 rfl
theorem k32_of_trod {H : Type} {enc : TypeId × Value -> H} {W : World} {base : Nat} {sp : Nat -> Bool} {held : Bool} {fuel : Nat} {u : Value} {x : DataW H × List MemPlace}
  (h : DataW.trod enc Tryz.prog W base sp held fuel 45 [u] = some x) : ∃ (oa : Option Addr) (n c : Nat) (F : Nat -> Nat -> Int), u = .slice oa n c /\ (∀ i, i < n -> Bytes 32 (F i)) /\ K32At W oa n F := by
 obtain ⟨hsl, hd⟩ := zqpn Tryz.underlying45 h;obtain ⟨oa, n, c, F, hv, hm, hw, hF⟩ := zqyp (n := 32) (k := .u8) Tryz.underlying45 Tryz.underlying44 Tryz.underlying5 zqb zqb (Nat.zero_lt_succ 31) hsl hd;refine ⟨oa, n, c, F, hv, fun i hi j hj => bounds_u8 (hw i hi j hj), ?_⟩
 rcases hF with h | ⟨a, ho, hc⟩
 ·exact .inl h
 ·refine .inr ⟨a, ho, fun w' hb j hj i hi => ?_⟩
  have h1 := hc j hj i hi;rw [hb.cell (cell_lt h1)];exact h1
theorem uvC_k (s l : Int) (b : Value) (t : Nat -> Int) (q : Nat) (h : q < 32) : (uvC s l b t)[3 + q]? = some (.int .u8 (t q)) := by
 unfold uvC;rw [Array.getElem?_append_right (by simp), show 3 + q - (#[Value.int .u32 s, Value.int .u16 l, b] : Array Value).size = q by simp, zqat _ _ _ _ h]
theorem open_upd {H : Type} {enc : TypeId × Value -> H} {W : World} {base : Nat} {sp : Nat -> Bool} {held : Bool} {r : Reach} {b0 : Nat} {v : Value} {d : DataW H} {ps : List MemPlace}
  (hval : Value.okWide Tryz.prog W r b0 81 v) (hd : DataW.Trod enc Tryz.prog W base sp held 81 v d ps) :
  ∃ (s l : Int) (oa : Option Addr) (n c : Nat) (P : Nat -> Nat -> Int) (t : Nat -> Int), v = .agg (uvC s l (.slice oa n c) t) /\ (0 <= s /\ s < 4294967296) /\ (0 <= l /\ l < 65536) /\ (∀ j, j < n -> Bytes 32 (P j)) /\ Bytes 32 t /\ K32At W oa n P := by
 unfold Value.okWide at hval;rw [Tryz.underlying81] at hval;obtain ⟨cs, rfl, hsz, _⟩ := hval;rw [show Tryz.prog.cellsOf 81 = 35 by kernel_rfl] at hsz;obtain ⟨fuel, hf⟩ := hd;have hlen : cs.toList.length = 35 := by simpa using hsz
 have hc0 : (Value.agg cs).cells.toList = cs.toList := rfl;rw [hc0] at hf;obtain ⟨xs, n', _, _, _, hxl, hel⟩ := DataW.trod_struct Tryz.underlying81 hf;obtain ⟨y0, y1, y2, y3, rfl⟩ : ∃ y0 y1 y2 y3, xs = [y0, y1, y2, y3] := by
  match xs, hxl with
  | [y0, y1, y2, y3], _ => exact ⟨y0, y1, y2, y3, rfl⟩
 have c0 : Tryz.prog.cellsOf 22 = 1 := by kernel_rfl
 have c1 : Tryz.prog.cellsOf 26 = 1 := by kernel_rfl
 have c2 : Tryz.prog.cellsOf 45 = 1 := by kernel_rfl
 have c3 : Tryz.prog.cellsOf 44 = 32 := by kernel_rfl
 have F0 : DataW.trod enc Tryz.prog W base sp held n' 22 ((cs.toList.drop 0).take (Tryz.prog.cellsOf 22)) = some y0 := hel 0 _ rfl;have F1 : DataW.trod enc Tryz.prog W base sp held n' 26 ((cs.toList.drop 1).take (Tryz.prog.cellsOf 26)) = some y1 := hel 1 _ rfl;have F2 : DataW.trod enc Tryz.prog W base sp held n' 45 ((cs.toList.drop 2).take (Tryz.prog.cellsOf 45)) = some y2 := hel 2 _ rfl;have F3 : DataW.trod enc Tryz.prog W base sp held n' 44 ((cs.toList.drop 3).take (Tryz.prog.cellsOf 44)) = some y3 := hel 3 _ rfl;rw [c0, one_of _ 0 (by omega)] at F0;rw [c1, one_of _ 1 (by omega)] at F1;rw [c2, one_of _ 2 (by omega)] at F2;rw [c3] at F3;obtain ⟨s, es, -, ws⟩ := DataW.trod_int Tryz.underlying22 F0;obtain ⟨l, el, -, wl⟩ := DataW.trod_int Tryz.underlying26 F1;obtain ⟨oa, n, c, P, ep, hP, hK⟩ := k32_of_trod F2
 obtain ⟨t, ht⟩ := zqhc (n := 32) (k := .u8) Tryz.underlying44 Tryz.underlying5 zqb (by simp [hsz]) F3;have e0 : cs[0]? = some (.int .u32 s) := by rw [<- Array.getElem?_toList, List.getElem?_eq_getElem (by omega)]; exact congrArg some (List.cons.inj es).1
 have e1 : cs[1]? = some (.int .u16 l) := by rw [<- Array.getElem?_toList, List.getElem?_eq_getElem (by omega)]; exact congrArg some (List.cons.inj el).1
 have e2 : cs[2]? = some (.slice oa n c) := by rw [<- Array.getElem?_toList, List.getElem?_eq_getElem (by omega)]; exact congrArg some ep
 refine ⟨s, l, oa, n, c, P, t, ?_, zrdl ws, by have := bounds_u16 wl; omega, hP, fun i hi => bounds_u8 (ht i hi).2, hK⟩
 congr 1
 apply Array.ext_getElem?
 intro i
 rcases (by omega : i = 0 \/ i = 1 \/ i = 2 \/ 3 <= i) with rfl | rfl | rfl | h3
 ·rw [e0, uvC_0]
 ·rw [e1, uvC_1]
 ·rw [e2, uvC_2]
 ·obtain ⟨q, rfl⟩ : ∃ q, i = 3 + q := ⟨i - 3, by omega⟩
  by_cases hq : q < 32
  ·rw [uvC_k _ _ _ _ _ hq]
   have h2 := (ht q hq).1;rw [List.getElem?_take, if_pos hq, List.getElem?_drop] at h2;rw [<- Array.getElem?_toList];exact h2
  ·rw [Array.getElem?_eq_none (by omega), Array.getElem?_eq_none (by rw [uvC_size]; omega)]
end Go.Proofs.YtpefpiobcpdeoaaGreatDoor
