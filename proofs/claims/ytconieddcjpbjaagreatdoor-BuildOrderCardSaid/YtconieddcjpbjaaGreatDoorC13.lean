/- C13 -/
import Derived.Test.YtconieddcjpbjaaGreatDoorL13
import Derived.Test.YtconieddcjpbjaaGreatDoorR12
import Derived.Test.YtconieddcjpbjaaGreatDoorTrk
set_option maxRecDepth 100000
set_option maxHeartbeats 4000000
namespace Go.Proofs.YtconieddcjpbjaaGreatDoor
open Go.RowKit
set_option linter.unusedVariables false
set_option linter.unusedSimpArgs false
attribute [local irreducible] nodeF zqce oneF macF shaF strOf keyV shV pubV upF upOK pubF
theorem zqov (ad : Addr) (n c m q J : Nat) (la : Int) (F F1 PR PR1 PU PU1 : Nat → Nat → Int) (s R1 : Nat → Int) (w : World) (hT : Tabs w) (hK0 : K32At w (some ad) n F) (h2 : 2 ≤ n) (h12 : n ≤ 12) (hq : q ≤ 1000) (hJ : J < n) (hla : la.tmod (n : Int) = (J : Int)) (hl0 : 0 ≤ la) (hl1 : la ≤ 255) (hF1 : updR F J s = F1)
  (aw : ∀ W : World, Tabs W → Calls Tryz.prog 8 #[] W fun e w' => e = .returned (.bool true) ∧ Below W.heap.size W w')
  (cMk : ∀ (W : World), K32At W (some ad) n F → Tabs W → Calls Tryz.prog 9 #[.slice (some ad) n c] W fun e w' => ∃ g c2, e = .returned (.tuple #[.agg #[.slice (some ⟨g, 0, none⟩) m c2], .bool true]) ∧ Row64 w' g m PR ∧ Below W.heap.size W w')
  (cMk1 : ∀ (o : Option Addr) (cc : Nat) (W : World), K32At W o n F1 → Tabs W → Calls Tryz.prog 9 #[.slice o n cc] W fun e w' => ∃ g c2, e = .returned (.tuple #[.agg #[.slice (some ⟨g, 0, none⟩) m c2], .bool true]) ∧ Row64 w' g m PR1 ∧ Below W.heap.size W w')
  (cPu : ∀ (g c2 : Nat) (W : World), Row64 W g m PR → Calls Tryz.prog 12 #[.agg #[.slice (some ⟨g, 0, none⟩) m c2]] W (zqde W q PU))
  (cPu1 : ∀ (g c2 : Nat) (W : World), Row64 W g m PR1 → Calls Tryz.prog 12 #[.agg #[.slice (some ⟨g, 0, none⟩) m c2]] W (zqde W q PU1))
  (cRt1 : ∀ (g c2 : Nat) (W : World), Row64 W g m PR1 → Calls Tryz.prog 11 #[.agg #[.slice (some ⟨g, 0, none⟩) m c2]] W fun e w' => e = .returned (.agg (ints .u8 32 R1)) ∧ Below W.heap.size W w')
  (cRe : ∀ (g c2 : Nat) (W : World), Row64 W g m PR → Tabs W → Calls Tryz.prog 23 #[.agg #[.slice (some ⟨g, 0, none⟩) m c2], .int .i64 (J : Int), .agg (ints .u8 32 s)] W fun e w' => ∃ g2 c3, e = .returned (.tuple #[.agg #[.slice (some ⟨g2, 0, none⟩) m c3], .bool true]) ∧ Row64 w' g2 m PR1 ∧ Below W.heap.size W w')
  (cCp : Hid (∀ (i : Nat), i < n → ∃ (d : Nat) (Z S : Nat → Nat → Int), d ≤ 10 ∧ S d = R1 ∧ (∀ (g c2 : Nat) (W : World), Row64 W g m PR1 → Calls Tryz.prog 21 #[.agg #[.slice (some ⟨g, 0, none⟩) m c2], .int .i64 (i : Int)] W (zqde W d Z)) ∧ (∀ (o : Option Addr) (cc : Nat) (W : World), K32At W o d Z → Tabs W → Calls Tryz.prog 26 #[.agg (ints .u8 32 (F1 i)), .slice o d cc] W fun e w' => ∃ oa c, e = .returned (.tuple #[.slice oa (d + 1) c, .bool true]) ∧ d + 1 ≤ c ∧ K32At w' oa (d + 1) S ∧ Below W.heap.size W w'))) :
  Calls Tryz.prog 4 #[.slice (some ad) n c, .int .u8 la, .agg (ints .u8 32 s)] w fun e w' => e = .returned (.bool true) ∧ Below w.heap.size w w' := by
 have hTT : Hid (Tabs w) := hT
 have HK : Hid (K32At w (some ad) n F) := hK0
 clear hT hK0
 have hn2 : ¬ ((n : Int) < 2) := by omega
 have hn12 : ¬ ((12 : Int) < (n : Int)) := by omega
 have hn0 : ¬ ((n : Int) = 0) := by omega
 have hsm := zqb6 32 R1
 have hj3 : (J : Int) < (n : Int) := by omega
 have hj4 : (0 : Int) ≤ (J : Int) := by omega
 have hG := Grew.refl w
 have fs : True := trivial
 go_enter Tryz.func4, Tryz.ntmps4
 go_wp2_with fail
 replace fs : objAt (w.alloc (.cells (ints .u8 32 (s)) 24)) (w.heap.size) = some (.cells (ints .u8 32 (s)) 24) := by exact zqc
 replace hG : Below w.heap.size w (w.alloc (.cells (ints .u8 32 (s)) 24)) := by exact zqe
 generalize w.alloc (.cells (ints .u8 32 (s)) 24) = w1 at *
 have lfs := zqa fs
 go_wp2_with fail
 refine (aw _ (hTT.out.later hG)).mono ?_
 rintro e w2 ⟨rfl, hb⟩
 replace fs := zqb hb fs
 replace lfs := zqa fs
 replace hG := Grew.trans hG hb
 clear hb
 go_wp2_with fail
 refine (cMk _ (HK.out.later hG) (hTT.out.later hG)).mono ?_
 rintro e w3 ⟨g, c2, rfl, hR, hb⟩
 replace fs := zqb hb fs
 replace lfs := zqa fs
 replace hG := Grew.trans hG hb
 have HR : Hid (Row64 w3 g m PR) := hR
 clear hb hR cMk aw
 go_wp2_with fail
 have hb : Below w3.heap.size w3 (w3.alloc (.cells #[.slice (some ⟨g, 0, none⟩) m c2] 30)) := Grew.alloc (Grew.refl _) _
 have ft : objAt (w3.alloc (.cells #[.slice (some ⟨g, 0, none⟩) m c2] 30)) w3.heap.size = some (.cells #[.slice (some ⟨g, 0, none⟩) m c2] 30) := zqh _ _ _ rfl
 replace fs := zqb hb fs
 replace HR := hid1 (HR.out.later hb)
 replace lfs := zqa fs
 replace hG := Grew.trans hG hb
 clear hb
 generalize w3.alloc (.cells #[.slice (some ⟨g, 0, none⟩) m c2] 30) = w4 at *
 generalize w3.heap.size = gt at *
 have lft := zqa ft
 go_wp2_with fail
 refine (cPu g c2 _ HR.out).mono ?_
 rintro e w5 ⟨oW, kW, rfl, hA, hb⟩
 replace fs := zqb hb fs
 replace ft := zqb hb ft
 replace HR := hid1 (HR.out.later hb)
 replace lfs := zqa fs
 replace lft := zqa ft
 replace hG := Grew.trans hG hb
 have HW : Hid (K32At w5 oW q PU) := hA
 clear hb hA
 go_wp2_with fail
 refine (cRe g c2 _ HR.out (hTT.out.later hG)).mono ?_
 rintro e w6 ⟨g2, c3, rfl, hR2, hb⟩
 replace fs := zqb hb fs
 replace ft := zqb hb ft
 replace HR := hid1 (HR.out.later hb)
 replace HW := hid1 (HW.out.later hb)
 replace lfs := zqa fs
 replace lft := zqa ft
 replace hG := Grew.trans hG hb
 have HU : Hid (Row64 w6 g2 m PR1) := hR2
 clear hb hR2 cRe
 go_wp2_with fail
 have hb : Below w6.heap.size w6 (w6.alloc (.cells #[.slice (some ⟨g2, 0, none⟩) m c3] 30)) := Grew.alloc (Grew.refl _) _
 have fu : objAt (w6.alloc (.cells #[.slice (some ⟨g2, 0, none⟩) m c3] 30)) w6.heap.size = some (.cells #[.slice (some ⟨g2, 0, none⟩) m c3] 30) := zqh _ _ _ rfl
 replace fs := zqb hb fs
 replace ft := zqb hb ft
 replace HR := hid1 (HR.out.later hb)
 replace HW := hid1 (HW.out.later hb)
 replace HU := hid1 (HU.out.later hb)
 replace lfs := zqa fs
 replace lft := zqa ft
 replace hG := Grew.trans hG hb
 clear hb
 generalize w6.alloc (.cells #[.slice (some ⟨g2, 0, none⟩) m c3] 30) = w7 at *
 generalize w6.heap.size = gu at *
 have lfu := zqa fu
 go_wp2_with fail
 refine (cloneK_any ad n c F _ (by omega) (by omega) (HK.out.later hG)).mono ?_
 rintro e w20 ⟨gd, cd, rfl, -, hgd, hD, hb⟩
 have fs2 : objAt w20 (w.heap.size) = some (.cells (ints .u8 32 (s)) 24) := zqb hb fs
 have lfs2 := zqa fs2
 obtain ⟨cs, hst, hD1⟩ := Row32.store (by kernel_rfl) hD hJ s
 rw [hF1] at hD1
 have HD1 : Hid (Row32 24 (w20.setRow gd cs) gd n F1) := hD1
 clear hD hD1
 go_wp2_with fail
 have hb2 : Below w7.heap.size w7 (w20.setRow gd cs) := Grew.setRow hb _ _ hgd
 clear fs2 lfs2 hst hb
 replace fs := zqb hb2 fs
 replace ft := zqb hb2 ft
 replace fu := zqb hb2 fu
 replace HR := hid1 (HR.out.later hb2)
 replace HW := hid1 (HW.out.later hb2)
 replace HU := hid1 (HU.out.later hb2)
 replace lfs := zqa fs
 replace lft := zqa ft
 replace lfu := zqa fu
 replace hG := Grew.trans hG hb2
 clear hb2 hgd
 generalize w20.setRow gd cs = w21 at *
 refine (cMk1 _ _ _ HD1.out.k32 (hTT.out.later hG)).mono ?_
 rintro e w8 ⟨g4, c4, rfl, hR4, hb⟩
 replace fs := zqb hb fs
 replace ft := zqb hb ft
 replace fu := zqb hb fu
 replace HR := hid1 (HR.out.later hb)
 replace HW := hid1 (HW.out.later hb)
 replace HU := hid1 (HU.out.later hb)
 replace HD1 := hid1 (HD1.out.later hb)
 replace lfs := zqa fs
 replace lft := zqa ft
 replace lfu := zqa fu
 replace hG := Grew.trans hG hb
 have HV : Hid (Row64 w8 g4 m PR1) := hR4
 clear hb hR4 cMk1
 go_wp2_with fail
 have hb : Below w8.heap.size w8 (w8.alloc (.cells #[.slice (some ⟨g4, 0, none⟩) m c4] 30)) := Grew.alloc (Grew.refl _) _
 have fv : objAt (w8.alloc (.cells #[.slice (some ⟨g4, 0, none⟩) m c4] 30)) w8.heap.size = some (.cells #[.slice (some ⟨g4, 0, none⟩) m c4] 30) := zqh _ _ _ rfl
 replace fs := zqb hb fs
 replace ft := zqb hb ft
 replace fu := zqb hb fu
 replace HR := hid1 (HR.out.later hb)
 replace HW := hid1 (HW.out.later hb)
 replace HU := hid1 (HU.out.later hb)
 replace HD1 := hid1 (HD1.out.later hb)
 replace HV := hid1 (HV.out.later hb)
 replace lfs := zqa fs
 replace lft := zqa ft
 replace lfu := zqa fu
 replace hG := Grew.trans hG hb
 clear hb
 generalize w8.alloc (.cells #[.slice (some ⟨g4, 0, none⟩) m c4] 30) = w9 at *
 generalize w8.heap.size = gv at *
 have lfv := zqa fv
 go_wp2_with fail
 refine zqhk (fun k => k == 12 || k == 14 || k == 27) (fun k => match k with | 12 => fun u => KSl q u | 14 => fun u => KSl q u | 27 => fun u => KSl q u | _ => fun _ => True) (fun k => match k with | 12 => fun u w => KAt q PU1 u w | 14 => fun u w => KAt q PU1 u w | 27 => fun u w => KAt q PU u w | _ => fun _ _ => True) (fun k => match k with | 12 => .slice none q 0 | 14 => .slice none q 0 | 27 => .slice none q 0 | _ => undef) (fun i hi => ?_) (by kernel_rfl) (by kernel_rfl) ?_
 ·simp only [Bool.or_eq_true, beq_iff_eq] at hi
  rcases hi with (rfl | rfl) | rfl
  ·exact ⟨none, 0, rfl⟩
  ·exact ⟨none, 0, rfl⟩
  ·exact ⟨none, 0, rfl⟩
 (first | refine zqn rfl ?_ | (refine zql rfl ?_; apply Exists.intro))
 (first | refine zqn rfl ?_ | (refine zql rfl ?_; apply Exists.intro))
 (first | refine zqn rfl ?_ | (refine zql rfl ?_; apply Exists.intro))
 (first | refine zqn rfl ?_ | (refine zql rfl ?_; apply Exists.intro))
 (first | refine zqn rfl ?_ | (refine zql rfl ?_; apply Exists.intro))
 (first | refine zqn rfl ?_ | (refine zql rfl ?_; apply Exists.intro))
 (first | refine zqn rfl ?_ | (refine zql rfl ?_; apply Exists.intro))
 (first | refine zqn rfl ?_ | (refine zql rfl ?_; apply Exists.intro))
 (first | refine zqn rfl ?_ | (refine zql rfl ?_; apply Exists.intro))
 (first | refine zqn rfl ?_ | (refine zql rfl ?_; apply Exists.intro))
 (first | refine zqn rfl ?_ | (refine zql rfl ?_; apply Exists.intro))
 (first | refine zqn rfl ?_ | (refine zql rfl ?_; apply Exists.intro))
 refine zql rfl ⟨undef, ?_⟩
 (first | refine zqn rfl ?_ | (refine zql rfl ?_; apply Exists.intro))
 refine zql rfl ⟨undef, ?_⟩
 (first | refine zqn rfl ?_ | (refine zql rfl ?_; apply Exists.intro))
 (first | refine zqn rfl ?_ | (refine zql rfl ?_; apply Exists.intro))
 (first | refine zqn rfl ?_ | (refine zql rfl ?_; apply Exists.intro))
 (first | refine zqn rfl ?_ | (refine zql rfl ?_; apply Exists.intro))
 (first | refine zqn rfl ?_ | (refine zql rfl ?_; apply Exists.intro))
 (first | refine zqn rfl ?_ | (refine zql rfl ?_; apply Exists.intro))
 (first | refine zqn rfl ?_ | (refine zql rfl ?_; apply Exists.intro))
 (first | refine zqn rfl ?_ | (refine zql rfl ?_; apply Exists.intro))
 (first | refine zqn rfl ?_ | (refine zql rfl ?_; apply Exists.intro))
 (first | refine zqn rfl ?_ | (refine zql rfl ?_; apply Exists.intro))
 (first | refine zqn rfl ?_ | (refine zql rfl ?_; apply Exists.intro))
 (first | refine zqn rfl ?_ | (refine zql rfl ?_; apply Exists.intro))
 refine zql rfl ⟨undef, ?_⟩
 (first | refine zqn rfl ?_ | (refine zql rfl ?_; apply Exists.intro))
 (first | refine zqn rfl ?_ | (refine zql rfl ?_; apply Exists.intro))
 (first | refine zqn rfl ?_ | (refine zql rfl ?_; apply Exists.intro))
 (first | refine zqn rfl ?_ | (refine zql rfl ?_; apply Exists.intro))
 refine zqbp ?_
 intro γ gv hsv hinj hbase
 obtain ⟨o1, k1, e1⟩ := hsv 12 rfl
 obtain ⟨o2, k2, e2⟩ := hsv 14 rfl
 obtain ⟨o3, k3, e3⟩ := hsv 27 rfl
 (repeat (first | (refine zqab rfl ?_; ((first | go_big_quiet_skip | (go_big_quiet_want; go_big_quiet_op; go_big_quiet_on)); refine wpQuiet_nil ?_)) | ((first | refine zqv rfl (fun _ => rfl) ?_ | ((try simp only [Nat.zero_add, Nat.reduceAdd]); apply zqaw zqi; (focus rfl); (focus (first | exact zqq _ | exact zqr _ _ | exact zqo _ | rfl)); (focus (exact zqm))) | ((try simp only [Nat.zero_add, Nat.reduceAdd]); apply zqac _ _ zqi; (focus rfl); (focus (intro W; (first | exact zqam _ | exact zqag _ | exact zqan _ | exact zqaf _ | exact zq3 _ | exact zq2 _))); (focus (first | exact zq1 _ _ _ | exact zqad _ _ | rfl)); (focus (exact zqm))) | ((try simp only [Nat.zero_add, Nat.reduceAdd]); apply zqah zqi; (focus rfl); (focus (intro W; simp only [List.map_toArray, List.map_cons, List.map_nil]; first | fail)); (focus (exact zqm))) | (apply zqao; (focus rfl); (focus rfl); (focus rfl); (focus (intro W hC hF; (have hbW : Below w9.heap.size w9 W := by obtain ⟨mm, rfl⟩ := hC; exact zqj w9 mm); (try (have hE0 : K32At W o1 q PU1 := known hF (List.mem_cons_of_mem _ (List.mem_cons_self ..)) (by decide +kernel) o1 k1 rfl)); (try (have hE1 : K32At W o2 q PU1 := known hF (List.mem_cons_self ..) (by decide +kernel) o2 k2 rfl)); (try (have hE2 : K32At W o3 q PU := known hF (List.mem_cons_self ..) (by decide +kernel) o3 k3 rfl)); go_big_quiet_want; go_big_quiet_op; (first | go_big_quiet_on | (apply Exists.intro; refine ⟨fun _ => ?_, ?_⟩; (focus (first | (with_reducible exact Calls.of_more (cRt1 _ _ _ (HU.out.later (Grew.more hbW _)))) | (with_reducible exact Calls.of_more (cRt1 _ _ _ (HV.out.later (Grew.more hbW _)))) | (exact Calls.of_more (zqax _ _ q _ _ PU1 _ (by omega) (hE0.later (zqj W _)) (hE1.later (zqj W _)))) | (exact Calls.of_more (zqax _ _ q _ _ PU _ (by omega) (hE2.later (zqj W _)) (HW.out.later (Grew.more hbW _)))))); go_big_quiet_on)); exact wpQuiet_nil rfl)); (focus (first | exact fun _ => ⟨rfl, rfl⟩ | exact fun h => absurd h (by decide))))); ((first | go_big_quiet_skip | (go_big_quiet_want; go_big_quiet_op; go_big_quiet_on)); refine wpQuiet_nil ?_)) | refine zqu rfl (fun _ => rfl) ?_ | ((try simp only [Nat.zero_add, Nat.reduceAdd]); apply zqae (zq4 (hbase _)); (focus rfl); (focus rfl); (focus rfl); (focus (first | exact zqq _ | exact zqr _ _ | exact zqo _ | rfl)); rotate_left 3; (focus (exact zqbi)); rotate_right 3; (focus kernel_rfl); (focus (first | exact zqf _ _ _ | rfl)); (focus (first | exact zq6 _ _ _ | exact zqaj _ _ _ _ | kernel_rfl)); (focus (decide +kernel)); (focus (exact zqm)))))
 refine rel_callv #[.agg #[.slice (some ⟨g2, 0, none⟩) m c3]] (enters_of Tryz.func12 (by kernel_rfl) rfl) rfl e1 rfl rfl rfl rfl (zqbo (stab_kat _ _ _)) (by first | kernel_rfl | simp [go_sem]) ?_ ?_
 ·intro W hC hF
  obtain ⟨mm, rfl⟩ := hC
  refine (cPu1 _ _ _ (HU.out.later (zqj _ mm))).mono ?_
  rintro e w9 ⟨oa, cc, rfl, hK, hb9⟩
  exact ⟨_, rfl, ⟨oa, cc, rfl⟩, fun oa2 c2 e2 => by cases e2; exact hK, hb9⟩
 ((first | go_big_quiet_skip | (go_big_quiet_want; go_big_quiet_op; go_big_quiet_on)); refine wpQuiet_nil ?_)
 (repeat (first | (refine zqab rfl ?_; ((first | go_big_quiet_skip | (go_big_quiet_want; go_big_quiet_op; go_big_quiet_on)); refine wpQuiet_nil ?_)) | ((first | refine zqv rfl (fun _ => rfl) ?_ | ((try simp only [Nat.zero_add, Nat.reduceAdd]); apply zqaw zqi; (focus rfl); (focus (first | exact zqq _ | exact zqr _ _ | exact zqo _ | rfl)); (focus (exact zqm))) | ((try simp only [Nat.zero_add, Nat.reduceAdd]); apply zqac _ _ zqi; (focus rfl); (focus (intro W; (first | exact zqam _ | exact zqag _ | exact zqan _ | exact zqaf _ | exact zq3 _ | exact zq2 _))); (focus (first | exact zq1 _ _ _ | exact zqad _ _ | rfl)); (focus (exact zqm))) | ((try simp only [Nat.zero_add, Nat.reduceAdd]); apply zqah zqi; (focus rfl); (focus (intro W; simp only [List.map_toArray, List.map_cons, List.map_nil]; first | fail)); (focus (exact zqm))) | (apply zqao; (focus rfl); (focus rfl); (focus rfl); (focus (intro W hC hF; (have hbW : Below w9.heap.size w9 W := by obtain ⟨mm, rfl⟩ := hC; exact zqj w9 mm); (try (have hE0 : K32At W o1 q PU1 := known hF (List.mem_cons_of_mem _ (List.mem_cons_self ..)) (by decide +kernel) o1 k1 rfl)); (try (have hE1 : K32At W o2 q PU1 := known hF (List.mem_cons_self ..) (by decide +kernel) o2 k2 rfl)); (try (have hE2 : K32At W o3 q PU := known hF (List.mem_cons_self ..) (by decide +kernel) o3 k3 rfl)); go_big_quiet_want; go_big_quiet_op; (first | go_big_quiet_on | (apply Exists.intro; refine ⟨fun _ => ?_, ?_⟩; (focus (first | (with_reducible exact Calls.of_more (cRt1 _ _ _ (HU.out.later (Grew.more hbW _)))) | (with_reducible exact Calls.of_more (cRt1 _ _ _ (HV.out.later (Grew.more hbW _)))) | (exact Calls.of_more (zqax _ _ q _ _ PU1 _ (by omega) (hE0.later (zqj W _)) (hE1.later (zqj W _)))) | (exact Calls.of_more (zqax _ _ q _ _ PU _ (by omega) (hE2.later (zqj W _)) (HW.out.later (Grew.more hbW _)))))); go_big_quiet_on)); exact wpQuiet_nil rfl)); (focus (first | exact fun _ => ⟨rfl, rfl⟩ | exact fun h => absurd h (by decide))))); ((first | go_big_quiet_skip | (go_big_quiet_want; go_big_quiet_op; go_big_quiet_on)); refine wpQuiet_nil ?_)) | refine zqu rfl (fun _ => rfl) ?_ | ((try simp only [Nat.zero_add, Nat.reduceAdd]); apply zqae (zq4 (hbase _)); (focus rfl); (focus rfl); (focus rfl); (focus (first | exact zqq _ | exact zqr _ _ | exact zqo _ | rfl)); rotate_left 3; (focus (exact zqbi)); rotate_right 3; (focus kernel_rfl); (focus (first | exact zqf _ _ _ | rfl)); (focus (first | exact zq6 _ _ _ | exact zqaj _ _ _ _ | kernel_rfl)); (focus (decide +kernel)); (focus (exact zqm)))))
 refine rel_callv #[.agg #[.slice (some ⟨g4, 0, none⟩) m c4]] (enters_of Tryz.func12 (by kernel_rfl) rfl) rfl e2 rfl rfl rfl rfl (fits_one (stab_kat _ _ _) (stab_kat _ _ _) rfl rfl (zqbo (stab_kat _ _ _))) (by first | kernel_rfl | simp [go_sem]) ?_ ?_
 ·intro W hC hF
  obtain ⟨mm, rfl⟩ := hC
  refine (cPu1 _ _ _ (HV.out.later (zqj _ mm))).mono ?_
  rintro e w9 ⟨oa, cc, rfl, hK, hb9⟩
  exact ⟨_, rfl, ⟨oa, cc, rfl⟩, fun oa2 c2 e2 => by cases e2; exact hK, hb9⟩
 ((first | go_big_quiet_skip | (go_big_quiet_want; go_big_quiet_op; go_big_quiet_on)); refine wpQuiet_nil ?_)
 (repeat (first | (refine zqab rfl ?_; ((first | go_big_quiet_skip | (go_big_quiet_want; go_big_quiet_op; go_big_quiet_on)); refine wpQuiet_nil ?_)) | ((first | refine zqv rfl (fun _ => rfl) ?_ | ((try simp only [Nat.zero_add, Nat.reduceAdd]); apply zqaw zqi; (focus rfl); (focus (first | exact zqq _ | exact zqr _ _ | exact zqo _ | rfl)); (focus (exact zqm))) | ((try simp only [Nat.zero_add, Nat.reduceAdd]); apply zqac _ _ zqi; (focus rfl); (focus (intro W; (first | exact zqam _ | exact zqag _ | exact zqan _ | exact zqaf _ | exact zq3 _ | exact zq2 _))); (focus (first | exact zq1 _ _ _ | exact zqad _ _ | rfl)); (focus (exact zqm))) | ((try simp only [Nat.zero_add, Nat.reduceAdd]); apply zqah zqi; (focus rfl); (focus (intro W; simp only [List.map_toArray, List.map_cons, List.map_nil]; first | fail)); (focus (exact zqm))) | (apply zqao; (focus rfl); (focus rfl); (focus rfl); (focus (intro W hC hF; (have hbW : Below w9.heap.size w9 W := by obtain ⟨mm, rfl⟩ := hC; exact zqj w9 mm); (try (have hE0 : K32At W o1 q PU1 := known hF (List.mem_cons_of_mem _ (List.mem_cons_self ..)) (by decide +kernel) o1 k1 rfl)); (try (have hE1 : K32At W o2 q PU1 := known hF (List.mem_cons_self ..) (by decide +kernel) o2 k2 rfl)); (try (have hE2 : K32At W o3 q PU := known hF (List.mem_cons_self ..) (by decide +kernel) o3 k3 rfl)); go_big_quiet_want; go_big_quiet_op; (first | go_big_quiet_on | (apply Exists.intro; refine ⟨fun _ => ?_, ?_⟩; (focus (first | (with_reducible exact Calls.of_more (cRt1 _ _ _ (HU.out.later (Grew.more hbW _)))) | (with_reducible exact Calls.of_more (cRt1 _ _ _ (HV.out.later (Grew.more hbW _)))) | (exact Calls.of_more (zqax _ _ q _ _ PU1 _ (by omega) (hE0.later (zqj W _)) (hE1.later (zqj W _)))) | (exact Calls.of_more (zqax _ _ q _ _ PU _ (by omega) (hE2.later (zqj W _)) (HW.out.later (Grew.more hbW _)))))); go_big_quiet_on)); exact wpQuiet_nil rfl)); (focus (first | exact fun _ => ⟨rfl, rfl⟩ | exact fun h => absurd h (by decide))))); ((first | go_big_quiet_skip | (go_big_quiet_want; go_big_quiet_op; go_big_quiet_on)); refine wpQuiet_nil ?_)) | refine zqu rfl (fun _ => rfl) ?_ | ((try simp only [Nat.zero_add, Nat.reduceAdd]); apply zqae (zq4 (hbase _)); (focus rfl); (focus rfl); (focus rfl); (focus (first | exact zqq _ | exact zqr _ _ | exact zqo _ | rfl)); rotate_left 3; (focus (exact zqbi)); rotate_right 3; (focus kernel_rfl); (focus (first | exact zqf _ _ _ | rfl)); (focus (first | exact zq6 _ _ _ | exact zqaj _ _ _ _ | kernel_rfl)); (focus (decide +kernel)); (focus (exact zqm)))))
 refine rel_callv #[.agg #[.slice (some ⟨g, 0, none⟩) m c2]] (enters_of Tryz.func12 (by kernel_rfl) rfl) rfl e3 rfl rfl rfl rfl (fits_one (stab_kat _ _ _) (stab_kat _ _ _) rfl rfl (fits_one (stab_kat _ _ _) (stab_kat _ _ _) rfl rfl (zqbo (stab_kat _ _ _)))) (by first | kernel_rfl | simp [go_sem]) ?_ ?_
 ·intro W hC hF
  obtain ⟨mm, rfl⟩ := hC
  refine (cPu _ _ _ (HR.out.later (zqj _ mm))).mono ?_
  rintro e w9 ⟨oa, cc, rfl, hK, hb9⟩
  exact ⟨_, rfl, ⟨oa, cc, rfl⟩, fun oa2 c2 e2 => by cases e2; exact hK, hb9⟩
 ((first | go_big_quiet_skip | (go_big_quiet_want; go_big_quiet_op; go_big_quiet_on)); refine wpQuiet_nil ?_)
 (repeat (first | (refine zqab rfl ?_; ((first | go_big_quiet_skip | (go_big_quiet_want; go_big_quiet_op; go_big_quiet_on)); refine wpQuiet_nil ?_)) | ((first | refine zqv rfl (fun _ => rfl) ?_ | ((try simp only [Nat.zero_add, Nat.reduceAdd]); apply zqaw zqi; (focus rfl); (focus (first | exact zqq _ | exact zqr _ _ | exact zqo _ | rfl)); (focus (exact zqm))) | ((try simp only [Nat.zero_add, Nat.reduceAdd]); apply zqac _ _ zqi; (focus rfl); (focus (intro W; (first | exact zqam _ | exact zqag _ | exact zqan _ | exact zqaf _ | exact zq3 _ | exact zq2 _))); (focus (first | exact zq1 _ _ _ | exact zqad _ _ | rfl)); (focus (exact zqm))) | ((try simp only [Nat.zero_add, Nat.reduceAdd]); apply zqah zqi; (focus rfl); (focus (intro W; simp only [List.map_toArray, List.map_cons, List.map_nil]; first | fail)); (focus (exact zqm))) | (apply zqao; (focus rfl); (focus rfl); (focus rfl); (focus (intro W hC hF; (have hbW : Below w9.heap.size w9 W := by obtain ⟨mm, rfl⟩ := hC; exact zqj w9 mm); (try (have hE0 : K32At W o1 q PU1 := known hF (List.mem_cons_of_mem _ (List.mem_cons_self ..)) (by decide +kernel) o1 k1 rfl)); (try (have hE1 : K32At W o2 q PU1 := known hF (List.mem_cons_self ..) (by decide +kernel) o2 k2 rfl)); (try (have hE2 : K32At W o3 q PU := known hF (List.mem_cons_self ..) (by decide +kernel) o3 k3 rfl)); go_big_quiet_want; go_big_quiet_op; (first | go_big_quiet_on | (apply Exists.intro; refine ⟨fun _ => ?_, ?_⟩; (focus (first | (with_reducible exact Calls.of_more (cRt1 _ _ _ (HU.out.later (Grew.more hbW _)))) | (with_reducible exact Calls.of_more (cRt1 _ _ _ (HV.out.later (Grew.more hbW _)))) | (exact Calls.of_more (zqax _ _ q _ _ PU1 _ (by omega) (hE0.later (zqj W _)) (hE1.later (zqj W _)))) | (exact Calls.of_more (zqax _ _ q _ _ PU _ (by omega) (hE2.later (zqj W _)) (HW.out.later (Grew.more hbW _)))))); go_big_quiet_on)); exact wpQuiet_nil rfl)); (focus (first | exact fun _ => ⟨rfl, rfl⟩ | exact fun h => absurd h (by decide))))); ((first | go_big_quiet_skip | (go_big_quiet_want; go_big_quiet_op; go_big_quiet_on)); refine wpQuiet_nil ?_)) | refine zqu rfl (fun _ => rfl) ?_ | ((try simp only [Nat.zero_add, Nat.reduceAdd]); apply zqae (zq4 (hbase _)); (focus rfl); (focus rfl); (focus rfl); (focus (first | exact zqq _ | exact zqr _ _ | exact zqo _ | rfl)); rotate_left 3; (focus (exact zqbi)); rotate_right 3; (focus kernel_rfl); (focus (first | exact zqf _ _ _ | rfl)); (focus (first | exact zq6 _ _ _ | exact zqaj _ _ _ _ | kernel_rfl)); (focus (decide +kernel)); (focus (exact zqm)))))
 (refine zqbs ?_; rintro _ ⟨mq, rfl⟩ hF; simp only [List.forall_mem_cons] at hF; obtain ⟨-, -⟩ := hF)
 clear hinj hbase hsv e1 e2 e3 HW HR HV ft lft fv lfv
 have hb : Below w9.heap.size w9 (more w9 mq) := zqj _ mq
 replace fs := zqb hb fs
 replace fu := zqb hb fu
 replace HU := hid1 (HU.out.later hb)
 replace HD1 := hid1 (HD1.out.later hb)
 replace lfs := zqa fs
 replace lfu := zqa fu
 replace hG := Grew.trans hG hb
 clear hb cPu cPu1
 generalize more w9 mq = w30 at *
 clear γ gv
 go_wp2_with fail
 go_loopw [94, 17, 18, 19, 20] (fun i _ _ _ _ wr => ∃ k : Nat, k ≤ n ∧ i = .int .i64 k ∧ Below w30.heap.size w30 wr) (fun i _ _ _ _ _ => n - (intOf i).toNat)
 case atStart => exact ⟨0, by omega, rfl, Grew.refl _⟩
 case round =>
  obtain ⟨k, hk, rfl, hM⟩ := hrel
  by_cases hlt : k < n
  ·obtain ⟨d, Z, S, hd10, hS, cC, cL⟩ := cCp.out k hlt
   have l1 := HD1.out.k32.loadK hlt hM
   rw [show (⟨gd, 0, none⟩ : Addr).add (k * 32) = ⟨gd, k * 32, none⟩ by rw [add_lit0, Nat.zero_add]] at l1
   have hi1 : (k : Int) < (n : Int) := by omega
   have hi0 : (0 : Int) ≤ (k : Int) := by omega
   clear cCp
   go_wp2_with fail
   have hb : Below wr.heap.size wr (wr.alloc (.cells (ints .u8 32 (F1 k)) 24)) := Grew.alloc (Grew.refl _) _
   have fx : objAt (wr.alloc (.cells (ints .u8 32 (F1 k)) 24)) wr.heap.size = some (.cells (ints .u8 32 (F1 k)) 24) := zqh _ _ _ rfl
   replace fu : objAt (wr.alloc (.cells (ints .u8 32 (F1 k)) 24)) (gu) = some (.cells #[.slice (some ⟨g2, 0, none⟩) m c3] 30) := zqb hb (zqb hM fu)
   replace HU : Hid (Row64 (wr.alloc (.cells (ints .u8 32 (F1 k)) 24)) g2 m PR1) := (HU.out.later hM).later hb
   replace hG : Below w.heap.size w (wr.alloc (.cells (ints .u8 32 (F1 k)) 24)) := Grew.trans (Grew.trans hG hM) hb
   replace hM : Below w30.heap.size w30 (wr.alloc (.cells (ints .u8 32 (F1 k)) 24)) := Grew.trans hM hb
   clear l1 hb lfu fs lfs
   generalize wr.alloc (.cells (ints .u8 32 (F1 k)) 24) = w40 at *
   generalize wr.heap.size = gx at *
   have lfx := zqa fx
   have lfu := zqa fu
   go_wp2_with fail
   refine zqhk (fun k => k == 3 || k == 4) (fun k => match k with | 3 => fun u => KSl d u | 4 => fun u => KOkS (d + 1) u | _ => fun _ => True) (fun k => match k with | 3 => fun u w => KAt d Z u w | 4 => fun u w => KOkAt (d + 1) S u w | _ => fun _ _ => True) (fun k => match k with | 3 => .slice none d 0 | 4 => .tuple #[.slice none (d + 1) 0, .bool true] | _ => undef) (fun i hi => ?_) (by kernel_rfl) (by kernel_rfl) ?_
   ·simp only [Bool.or_eq_true, beq_iff_eq] at hi
    rcases hi with rfl | rfl
    ·exact ⟨none, 0, rfl⟩
    ·exact ⟨none, 0, rfl⟩
   (first | refine zqn rfl ?_ | (refine zql rfl ?_; apply Exists.intro))
   (first | refine zqn rfl ?_ | (refine zql rfl ?_; apply Exists.intro))
   (first | refine zqn rfl ?_ | (refine zql rfl ?_; apply Exists.intro))
   refine zql rfl ⟨undef, ?_⟩
   refine zql rfl ⟨undef, ?_⟩
   (first | refine zqn rfl ?_ | (refine zql rfl ?_; apply Exists.intro))
   (first | refine zqn rfl ?_ | (refine zql rfl ?_; apply Exists.intro))
   (first | refine zqn rfl ?_ | (refine zql rfl ?_; apply Exists.intro))
   (first | refine zqn rfl ?_ | (refine zql rfl ?_; apply Exists.intro))
   (first | refine zqn rfl ?_ | (refine zql rfl ?_; apply Exists.intro))
   refine zqbp ?_
   intro γ gv hsv hinj hbase
   obtain ⟨o3, k3, e3⟩ := hsv 3 rfl
   obtain ⟨o4, k4, e4⟩ := hsv 4 rfl
   (repeat (first | (refine zqab rfl ?_; ((first | go_big_quiet_skip | (go_big_quiet_want; go_big_quiet_op; go_big_quiet_on)); refine wpQuiet_nil ?_)) | ((first | refine zqv rfl (fun _ => rfl) ?_ | ((try simp only [Nat.zero_add, Nat.reduceAdd]); apply zqaw zqi; (focus rfl); (focus (first | exact zqq _ | exact zqr _ _ | exact zqo _ | rfl)); (focus (exact zqm))) | ((try simp only [Nat.zero_add, Nat.reduceAdd]); apply zqac _ _ zqi; (focus rfl); (focus (intro W; (first | exact zqam _ | exact zqag _ | exact zqan _ | exact zqaf _ | exact zq3 _ | exact zq2 _))); (focus (first | exact zq1 _ _ _ | exact zqad _ _ | rfl)); (focus (exact zqm))) | ((try simp only [Nat.zero_add, Nat.reduceAdd]); apply zqah zqi; (focus rfl); (focus (intro W; simp only [List.map_toArray, List.map_cons, List.map_nil]; first | fail)); (focus (exact zqm))) | (apply zqao; (focus rfl); (focus rfl); (focus rfl); (focus (intro W hC hF; go_big_quiet_want; go_big_quiet_op; (first | go_big_quiet_on | (apply Exists.intro; refine ⟨fun _ => ?_, ?_⟩; (focus (fail)); go_big_quiet_on)); exact wpQuiet_nil rfl)); (focus (first | exact fun _ => ⟨rfl, rfl⟩ | exact fun h => absurd h (by decide))))); ((first | go_big_quiet_skip | (go_big_quiet_want; go_big_quiet_op; go_big_quiet_on)); refine wpQuiet_nil ?_)) | refine zqu rfl (fun _ => rfl) ?_ | ((try simp only [Nat.zero_add, Nat.reduceAdd]); apply zqae (zq4 (hbase _)); (focus rfl); (focus rfl); (focus rfl); (focus (first | exact zqq _ | exact zqr _ _ | exact zqo _ | rfl)); rotate_left 3; (focus (exact zqbi)); rotate_right 3; (focus kernel_rfl); (focus (first | exact zqf _ _ _ | rfl)); (focus (first | exact zq6 _ _ _ | exact zqaj _ _ _ _ | kernel_rfl)); (focus (decide +kernel)); (focus (exact zqm)))))
   refine rel_callv #[.agg #[.slice (some ⟨g2, 0, none⟩) m c3], .int .i64 (k : Int)] (enters_of Tryz.func21 (by kernel_rfl) rfl) rfl e3 rfl rfl rfl rfl (zqbo (stab_kat _ _ _)) (by first | kernel_rfl | simp [go_sem]) ?_ ?_
   ·intro W hC hF
    obtain ⟨mm, rfl⟩ := hC
    refine (cC _ _ _ (HU.out.later (zqj _ mm))).mono ?_
    rintro e w9 ⟨oa, cc, rfl, hK, hb9⟩
    exact ⟨_, rfl, ⟨oa, cc, rfl⟩, fun oa2 c2 e2 => by cases e2; exact hK, hb9⟩
   ((first | go_big_quiet_skip | (go_big_quiet_want; go_big_quiet_op; go_big_quiet_on)); refine wpQuiet_nil ?_)
   (repeat (first | (refine zqab rfl ?_; ((first | go_big_quiet_skip | (go_big_quiet_want; go_big_quiet_op; go_big_quiet_on)); refine wpQuiet_nil ?_)) | ((first | refine zqv rfl (fun _ => rfl) ?_ | ((try simp only [Nat.zero_add, Nat.reduceAdd]); apply zqaw zqi; (focus rfl); (focus (first | exact zqq _ | exact zqr _ _ | exact zqo _ | rfl)); (focus (exact zqm))) | ((try simp only [Nat.zero_add, Nat.reduceAdd]); apply zqac _ _ zqi; (focus rfl); (focus (intro W; (first | exact zqam _ | exact zqag _ | exact zqan _ | exact zqaf _ | exact zq3 _ | exact zq2 _))); (focus (first | exact zq1 _ _ _ | exact zqad _ _ | rfl)); (focus (exact zqm))) | ((try simp only [Nat.zero_add, Nat.reduceAdd]); apply zqah zqi; (focus rfl); (focus (intro W; simp only [List.map_toArray, List.map_cons, List.map_nil]; first | fail)); (focus (exact zqm))) | (apply zqao; (focus rfl); (focus rfl); (focus rfl); (focus (intro W hC hF; go_big_quiet_want; go_big_quiet_op; (first | go_big_quiet_on | (apply Exists.intro; refine ⟨fun _ => ?_, ?_⟩; (focus (fail)); go_big_quiet_on)); exact wpQuiet_nil rfl)); (focus (first | exact fun _ => ⟨rfl, rfl⟩ | exact fun h => absurd h (by decide))))); ((first | go_big_quiet_skip | (go_big_quiet_want; go_big_quiet_op; go_big_quiet_on)); refine wpQuiet_nil ?_)) | refine zqu rfl (fun _ => rfl) ?_ | ((try simp only [Nat.zero_add, Nat.reduceAdd]); apply zqae (zq4 (hbase _)); (focus rfl); (focus rfl); (focus rfl); (focus (first | exact zqq _ | exact zqr _ _ | exact zqo _ | rfl)); rotate_left 3; (focus (exact zqbi)); rotate_right 3; (focus kernel_rfl); (focus (first | exact zqf _ _ _ | rfl)); (focus (first | exact zq6 _ _ _ | exact zqaj _ _ _ _ | kernel_rfl)); (focus (decide +kernel)); (focus (exact zqm)))))
   refine rel_callv #[.agg (ints .u8 32 (F1 k)), .slice o3 d k3] (enters_of Tryz.func26 (by kernel_rfl) rfl) rfl e4 rfl rfl rfl rfl (fits_one (stab_kokat _ _ _) (stab_kat _ _ _) rfl rfl (zqbo (stab_kokat _ _ _))) (by first | kernel_rfl | simp [go_sem]) ?_ ?_
   ·intro W hC hF
    obtain ⟨mm, rfl⟩ := hC
    have hK3 : K32At (more w40 mm) o3 d Z := known hF (List.mem_cons_self ..) (by decide +kernel) o3 k3 rfl
    refine (cL o3 k3 _ hK3 (hTT.out.later (Grew.more hG mm))).mono ?_
    rintro e w9 ⟨oa, cc, rfl, _, hK, hb9⟩
    exact ⟨_, rfl, ⟨oa, cc, rfl⟩, fun oa2 c2 e2 => by cases e2; exact hK, hb9⟩
   ((first | go_big_quiet_skip | (go_big_quiet_want; go_big_quiet_op; go_big_quiet_on)); refine wpQuiet_nil ?_)
   (repeat (first | (refine zqab rfl ?_; ((first | go_big_quiet_skip | (go_big_quiet_want; go_big_quiet_op; go_big_quiet_on)); refine wpQuiet_nil ?_)) | ((first | refine zqv rfl (fun _ => rfl) ?_ | ((try simp only [Nat.zero_add, Nat.reduceAdd]); apply zqaw zqi; (focus rfl); (focus (first | exact zqq _ | exact zqr _ _ | exact zqo _ | rfl)); (focus (exact zqm))) | ((try simp only [Nat.zero_add, Nat.reduceAdd]); apply zqac _ _ zqi; (focus rfl); (focus (intro W; (first | exact zqam _ | exact zqag _ | exact zqan _ | exact zqaf _ | exact zq3 _ | exact zq2 _))); (focus (first | exact zq1 _ _ _ | exact zqad _ _ | rfl)); (focus (exact zqm))) | ((try simp only [Nat.zero_add, Nat.reduceAdd]); apply zqah zqi; (focus rfl); (focus (intro W; simp only [List.map_toArray, List.map_cons, List.map_nil]; first | fail)); (focus (exact zqm))) | (apply zqao; (focus rfl); (focus rfl); (focus rfl); (focus (intro W hC hF; go_big_quiet_want; go_big_quiet_op; (first | go_big_quiet_on | (apply Exists.intro; refine ⟨fun _ => ?_, ?_⟩; (focus (fail)); go_big_quiet_on)); exact wpQuiet_nil rfl)); (focus (first | exact fun _ => ⟨rfl, rfl⟩ | exact fun h => absurd h (by decide))))); ((first | go_big_quiet_skip | (go_big_quiet_want; go_big_quiet_op; go_big_quiet_on)); refine wpQuiet_nil ?_)) | refine zqu rfl (fun _ => rfl) ?_ | ((try simp only [Nat.zero_add, Nat.reduceAdd]); apply zqae (zq4 (hbase _)); (focus rfl); (focus rfl); (focus rfl); (focus (first | exact zqq _ | exact zqr _ _ | exact zqo _ | rfl)); rotate_left 3; (focus (exact zqbi)); rotate_right 3; (focus kernel_rfl); (focus (first | exact zqf _ _ _ | rfl)); (focus (first | exact zq6 _ _ _ | exact zqaj _ _ _ _ | kernel_rfl)); (focus (decide +kernel)); (focus (exact zqm)))))
   (refine zqbs ?_; rintro _ ⟨mq, rfl⟩ hF; simp only [List.forall_mem_cons] at hF; obtain ⟨f4, f3, -⟩ := hF)
   have HK4 : Hid (K32At (more w40 mq) o4 (d + 1) S) := f4 o4 k4 rfl
   replace fu := zqk mq fu
   replace HU : Hid (Row64 (more w40 mq) g2 m PR1) := HU.out.later (zqj _ mq)
   replace hM : Below w30.heap.size w30 (more w40 mq) := Grew.more hM mq
   clear f3 f4 hinj hbase hsv e3 e4 lfu fx lfx cC cL hG
   generalize more w40 mq = w41 at *
   clear γ gv
   have lfu := zqa fu
   obtain ⟨a4, rfl⟩ := HK4.out.addr (by omega)
   have l2 := fun q : More => HK4.out.loadK (show d < d + 1 by omega) (zqj w41 q)
   rw [hS] at l2
   have hd1 : (d : Int) < (d : Int) + 1 := by omega
   have hd0 : (0 : Int) ≤ (d : Int) := by omega
   have hd9 : (d : Int) ≤ 10 := by omega
   have cS := fun x : More => cRt1 g2 c3 (more w41 x) (HU.out.later (zqj _ x))
   go_wp2_with fail
   ((first | (with_reducible refine zqw (by kernel_rfl) (by kernel_rfl) ?_) | refine zqs (by kernel_rfl) (by kernel_rfl) ?_); (repeat (first | go_big_quiet_skip | (go_big_quiet_want; go_big_quiet_op; first | go_big_quiet_on | (apply Exists.intro; refine ⟨fun _ => ?_, ?_⟩; (focus ((with_reducible exact Calls.of_more (cS _)))); go_big_quiet_on)))); refine wpQuiet_nil ?_; rintro _ ⟨mq, rfl⟩)
   have hM2 : Below w30.heap.size w30 (more w41 mq) := Grew.more hM mq
   clear l2 cS fu lfu
   generalize more w41 mq = w42 at *
   go_wp2
   go_roundw
   case rel => first | exact ⟨k + 1, by omega, by go_num, hM2⟩ | ((repeat' apply Exists.intro) <;> first | exact ⟨⟨k + 1, by omega, by go_num, hM2⟩, rfl⟩ | exact undef)
   case measure => (simp [intOf] <;> omega)
  ·obtain rfl : k = n := by omega
   go_wp2
   go_ret
   exact ⟨rfl, Grew.trans hG hM⟩
end Go.Proofs.YtconieddcjpbjaaGreatDoor
namespace Go.Proofs.YtconieddcjpbjaaGreatDoor
open Go.RowKit
set_option linter.unusedVariables false
set_option linter.unusedSimpArgs false
theorem zero_tree (w : World) : (zeroValue 30).run Tryz.prog w = .ok (.agg #[.slice none 0 0]) w := by kernel_rfl
def TrS (m : Nat) (u : Value) : Prop := ∃ g c, u = .tuple #[.agg #[.slice (some ⟨g, 0, none⟩) m c], .bool true]
def TrAt (m : Nat) (F : Nat → Nat → Int) (u : Value) (w : World) : Prop := ∀ g c, u = .tuple #[.agg #[.slice (some ⟨g, 0, none⟩) m c], .bool true] → Row64 w g m F
theorem stab_tr (m : Nat) (F : Nat → Nat → Int) (u : Value) : Stab (TrAt m F u) none := fun w w' h e g c hu => (h g c hu).later e
theorem row_tree {W : World} {b g m : Nat} {F : Nat → Nat → Int} {cs : Array Value} {fr : Nat × Nat} (hb : objAt W b = some (.cells cs 30 fr)) (h : Row64 W g m F) : ¬ (g = b) := fun e => by
 obtain ⟨cur, h2, _⟩ := h
 rw [e, hb] at h2
 cases h2
theorem stab_tr_at (m : Nat) (F : Nat → Nat → Int) (u : Value) (g' : Nat) : Stab (TrAt m F u) (some (g', 30)) := fun w w' h ⟨old, cs', t', h1, ⟨_, h2⟩, e⟩ g c hu => by
 subst e
 subst h2
 exact (h g c hu).by (zqal _ _ _ _ (row_tree h1 (h g c hu)))
attribute [local irreducible] nodeF zqce oneF macF shaF strOf keyV shV pubV upF upOK pubF
theorem order13_core (ad : Addr) (n c m q I K : Nat) (la lb : Int) (F PR PA PB PC PU PUB : Nat → Nat → Int) (s t R0 R1 : Nat → Int) (w : World) (hT : Tabs w) (hK0 : K32At w (some ad) n F) (h2 : 2 ≤ n) (h12 : n ≤ 12) (hq : q ≤ 1000) (hI : I < n) (hK : K < n) (hIK : I ≠ K) (hla : la.tmod (n : Int) = (I : Int)) (hlb : lb.tmod (n : Int) = (K : Int)) (hl0 : 0 ≤ la) (hl1 : la ≤ 255) (hm0 : 0 ≤ lb) (hm1 : lb ≤ 255)
  (aw : ∀ W : World, Tabs W → Calls Tryz.prog 8 #[] W fun e w' => e = .returned (.bool true) ∧ Below W.heap.size W w')
  (cMk : ∀ (W : World), K32At W (some ad) n F → Tabs W → Calls Tryz.prog 9 #[.slice (some ad) n c] W fun e w' => ∃ g c2, e = .returned (.tuple #[.agg #[.slice (some ⟨g, 0, none⟩) m c2], .bool true]) ∧ Row64 w' g m PR ∧ Below W.heap.size W w')
  (cR1 : ∀ (g c2 : Nat) (W : World), Row64 W g m PR → Tabs W → Calls Tryz.prog 23 #[.agg #[.slice (some ⟨g, 0, none⟩) m c2], .int .i64 (I : Int), .agg (ints .u8 32 s)] W fun e w' => ∃ g2 c3, e = .returned (.tuple #[.agg #[.slice (some ⟨g2, 0, none⟩) m c3], .bool true]) ∧ Row64 w' g2 m PA ∧ Below W.heap.size W w')
  (cR2 : ∀ (g c2 : Nat) (W : World), Row64 W g m PA → Tabs W → Calls Tryz.prog 23 #[.agg #[.slice (some ⟨g, 0, none⟩) m c2], .int .i64 (K : Int), .agg (ints .u8 32 t)] W fun e w' => ∃ g2 c3, e = .returned (.tuple #[.agg #[.slice (some ⟨g2, 0, none⟩) m c3], .bool true]) ∧ Row64 w' g2 m PB ∧ Below W.heap.size W w')
  (cR3 : ∀ (g c2 : Nat) (W : World), Row64 W g m PR → Tabs W → Calls Tryz.prog 23 #[.agg #[.slice (some ⟨g, 0, none⟩) m c2], .int .i64 (K : Int), .agg (ints .u8 32 t)] W fun e w' => ∃ g2 c3, e = .returned (.tuple #[.agg #[.slice (some ⟨g2, 0, none⟩) m c3], .bool true]) ∧ Row64 w' g2 m PC ∧ Below W.heap.size W w')
  (cR4 : ∀ (g c2 : Nat) (W : World), Row64 W g m PC → Tabs W → Calls Tryz.prog 23 #[.agg #[.slice (some ⟨g, 0, none⟩) m c2], .int .i64 (I : Int), .agg (ints .u8 32 s)] W fun e w' => ∃ g2 c3, e = .returned (.tuple #[.agg #[.slice (some ⟨g2, 0, none⟩) m c3], .bool true]) ∧ Row64 w' g2 m PB ∧ Below W.heap.size W w')
  (cR5 : ∀ (g c2 : Nat) (W : World), Row64 W g m PR → Tabs W → Calls Tryz.prog 23 #[.agg #[.slice (some ⟨g, 0, none⟩) m c2], .int .i64 (I : Int), .agg (ints .u8 32 (F I))] W fun e w' => ∃ g2 c3, e = .returned (.tuple #[.agg #[.slice (some ⟨g2, 0, none⟩) m c3], .bool true]) ∧ Row64 w' g2 m PR ∧ Below W.heap.size W w')
  (cPu : ∀ (g c2 : Nat) (W : World), Row64 W g m PR → Calls Tryz.prog 12 #[.agg #[.slice (some ⟨g, 0, none⟩) m c2]] W (zqde W q PU))
  (cPuB : ∀ (g c2 : Nat) (W : World), Row64 W g m PB → Calls Tryz.prog 12 #[.agg #[.slice (some ⟨g, 0, none⟩) m c2]] W (zqde W q PUB))
  (cRt : ∀ (g c2 : Nat) (W : World), Row64 W g m PR → Calls Tryz.prog 11 #[.agg #[.slice (some ⟨g, 0, none⟩) m c2]] W fun e w' => e = .returned (.agg (ints .u8 32 R0)) ∧ Below W.heap.size W w')
  (cRtB : ∀ (g c2 : Nat) (W : World), Row64 W g m PB → Calls Tryz.prog 11 #[.agg #[.slice (some ⟨g, 0, none⟩) m c2]] W fun e w' => e = .returned (.agg (ints .u8 32 R1)) ∧ Below W.heap.size W w') :
  Calls Tryz.prog 5 #[.slice (some ad) n c, .int .u8 la, .int .u8 lb, .agg (ints .u8 32 s), .agg (ints .u8 32 t)] w fun e w' => e = .returned (.bool true) ∧ Below w.heap.size w w' := by
 have hTT : Hid (Tabs w) := hT
 have HK : Hid (K32At w (some ad) n F) := hK0
 clear hT hK0
 have hn2 : ¬ ((n : Int) < 2) := by omega
 have hn12 : ¬ ((12 : Int) < (n : Int)) := by omega
 have hn0 : ¬ ((n : Int) = 0) := by omega
 have hsm0 := zqb6 32 R0
 have hsm1 := zqb6 32 R1
 have hi3 : (I : Int) < (n : Int) := by omega
 have hi4 : (0 : Int) ≤ (I : Int) := by omega
 have hk3 : (K : Int) < (n : Int) := by omega
 have hk4 : (0 : Int) ≤ (K : Int) := by omega
 have hik : ¬ ((I : Int) = (K : Int)) := by omega
 have hd2 : decide ((n : Int) < 2) = false := decide_eq_false hn2
 have hd12 : decide ((12 : Int) < (n : Int)) = false := decide_eq_false hn12
 have hdk : decide ((I : Int) = (K : Int)) = false := decide_eq_false hik
 have hG := Grew.refl w
 have fs : True := trivial
 have ft : True := trivial
 go_enter Tryz.func5, Tryz.ntmps5
 go_wp2_with fail
 replace fs : objAt ((w.alloc (.cells (ints .u8 32 (s)) 24)).alloc (.cells (ints .u8 32 (t)) 24)) (w.heap.size) = some (.cells (ints .u8 32 (s)) 24) := by exact zqc
 replace ft : objAt ((w.alloc (.cells (ints .u8 32 (s)) 24)).alloc (.cells (ints .u8 32 (t)) 24)) (w.heap.size + 1) = some (.cells (ints .u8 32 (t)) 24) := by exact zqc
 replace hG : Below w.heap.size w ((w.alloc (.cells (ints .u8 32 (s)) 24)).alloc (.cells (ints .u8 32 (t)) 24)) := by exact zqe
 generalize (w.alloc (.cells (ints .u8 32 (s)) 24)).alloc (.cells (ints .u8 32 (t)) 24) = w1 at *
 have lfs := zqa fs
 have lft := zqa ft
 have nst : ¬ (w.heap.size = w.heap.size + 1) := by omega
 go_wp2_with fail
 refine (aw _ (hTT.out.later hG)).mono ?_
 rintro e w2 ⟨rfl, hb⟩
 replace fs := zqb hb fs
 replace ft := zqb hb ft
 replace lfs := zqa fs
 replace lft := zqa ft
 replace hG := Grew.trans hG hb
 clear hb
 go_wp2_with fail
 ((first | (with_reducible refine zqw (by kernel_rfl) (by kernel_rfl) ?_) | refine zqs (by kernel_rfl) (by kernel_rfl) ?_); (repeat (first | go_big_quiet_skip | (go_big_quiet_want; go_big_quiet_op; first | go_big_quiet_on | (apply Exists.intro; refine ⟨fun _ => ?_, ?_⟩; (focus (fail)); go_big_quiet_on)))); refine wpQuiet_nil ?_; rintro _ ⟨mq, rfl⟩)
 have hb : Below w2.heap.size w2 (more w2 mq) := zqj _ mq
 replace fs := zqb hb fs
 replace ft := zqb hb ft
 replace lfs := zqa fs
 replace lft := zqa ft
 replace hG := Grew.trans hG hb
 clear hb
 generalize more w2 mq = w3 at *
 go_wp2_with fail
 ((first | (with_reducible refine zqw (by kernel_rfl) (by kernel_rfl) ?_) | refine zqs (by kernel_rfl) (by kernel_rfl) ?_); (repeat (first | go_big_quiet_skip | (go_big_quiet_want; go_big_quiet_op; first | go_big_quiet_on | (apply Exists.intro; refine ⟨fun _ => ?_, ?_⟩; (focus (fail)); go_big_quiet_on)))); refine wpQuiet_nil ?_; rintro _ ⟨mq, rfl⟩)
 have hb : Below w3.heap.size w3 (more w3 mq) := zqj _ mq
 replace fs := zqb hb fs
 replace ft := zqb hb ft
 replace lfs := zqa fs
 replace lft := zqa ft
 replace hG := Grew.trans hG hb
 clear hb
 generalize more w3 mq = w4 at *
 go_wp2_with fail
 refine (cMk _ (HK.out.later hG) (hTT.out.later hG)).mono ?_
 rintro e w5 ⟨g, c2, rfl, hR, hb⟩
 replace fs := zqb hb fs
 replace ft := zqb hb ft
 replace lfs := zqa fs
 replace lft := zqa ft
 replace hG := Grew.trans hG hb
 have HR : Hid (Row64 w5 g m PR) := hR
 clear hb hR cMk aw
 go_wp2_with fail
 have nsx : ¬ (w.heap.size = w5.heap.size) := by have := lfs; omega
 have ntx : ¬ (w.heap.size + 1 = w5.heap.size) := by have := lft; omega
 have hzx := hG.size
 have hb : Below w5.heap.size w5 (w5.alloc (.cells #[.slice (some ⟨g, 0, none⟩) m c2] 30)) := Grew.alloc (Grew.refl _) _
 have fx : objAt (w5.alloc (.cells #[.slice (some ⟨g, 0, none⟩) m c2] 30)) w5.heap.size = some (.cells #[.slice (some ⟨g, 0, none⟩) m c2] 30) := zqh _ _ _ rfl
 replace fs := zqb hb fs
 replace ft := zqb hb ft
 replace HR := hid1 (HR.out.later hb)
 replace lfs := zqa fs
 replace lft := zqa ft
 replace hG := Grew.trans hG hb
 clear hb
 generalize w5.alloc (.cells #[.slice (some ⟨g, 0, none⟩) m c2] 30) = w6 at *
 generalize w5.heap.size = gx at *
 have lfx := zqa fx
 go_wp2_with fail
 refine (cR1 _ _ _ HR.out (hTT.out.later hG)).mono ?_
 rintro e w7 ⟨g1, c3, rfl, hRb, hb⟩
 replace fs := zqb hb fs
 replace ft := zqb hb ft
 replace fx := zqb hb fx
 replace HR := hid1 (HR.out.later hb)
 replace lfs := zqa fs
 replace lft := zqa ft
 replace lfx := zqa fx
 replace hG := Grew.trans hG hb
 have HA : Hid (Row64 w7 g1 m PA) := hRb
 clear hb hRb cR1
 go_wp2_with fail
 have nsp : ¬ (w.heap.size = w7.heap.size) := by have := lfs; omega
 have ntp : ¬ (w.heap.size + 1 = w7.heap.size) := by have := lft; omega
 have nxp : ¬ (gx = w7.heap.size) := by have := lfx; omega
 have hzp := hG.size
 have hb : Below w7.heap.size w7 (w7.alloc (.cells #[.slice (some ⟨g1, 0, none⟩) m c3] 30)) := Grew.alloc (Grew.refl _) _
 have fp : objAt (w7.alloc (.cells #[.slice (some ⟨g1, 0, none⟩) m c3] 30)) w7.heap.size = some (.cells #[.slice (some ⟨g1, 0, none⟩) m c3] 30) := zqh _ _ _ rfl
 replace fs := zqb hb fs
 replace ft := zqb hb ft
 replace fx := zqb hb fx
 replace HR := hid1 (HR.out.later hb)
 replace HA := hid1 (HA.out.later hb)
 replace lfs := zqa fs
 replace lft := zqa ft
 replace lfx := zqa fx
 replace hG := Grew.trans hG hb
 clear hb
 generalize w7.alloc (.cells #[.slice (some ⟨g1, 0, none⟩) m c3] 30) = w8 at *
 generalize w7.heap.size = gp at *
 have lfp := zqa fp
 go_wp2_with fail
 refine (cR2 _ _ _ HA.out (hTT.out.later hG)).mono ?_
 rintro e w9 ⟨g2, c4, rfl, hRb, hb⟩
 replace fs := zqb hb fs
 replace ft := zqb hb ft
 replace fx := zqb hb fx
 replace fp := zqb hb fp
 replace HR := hid1 (HR.out.later hb)
 replace HA := hid1 (HA.out.later hb)
 replace lfs := zqa fs
 replace lft := zqa ft
 replace lfx := zqa fx
 replace lfp := zqa fp
 replace hG := Grew.trans hG hb
 have HP : Hid (Row64 w9 g2 m PB) := hRb
 clear hb hRb cR2 HA
 go_wp2_with fail
 replace HR : Hid (Row64 (w9.setRow gp #[.slice (some ⟨g2, 0, none⟩) m c4]) g m PR) := HR.out.by (zqal _ _ _ _ (row_tree fp HR.out))
 replace HP : Hid (Row64 (w9.setRow gp #[.slice (some ⟨g2, 0, none⟩) m c4]) g2 m PB) := HP.out.by (zqal _ _ _ _ (row_tree fp HP.out))
 have es : objAt (w9.setRow gp #[.slice (some ⟨g2, 0, none⟩) m c4]) (w.heap.size) = some (.cells (ints .u8 32 (s)) 24) := zqg _ _ fs (by first | assumption | omega)
 have et : objAt (w9.setRow gp #[.slice (some ⟨g2, 0, none⟩) m c4]) (w.heap.size + 1) = some (.cells (ints .u8 32 (t)) 24) := zqg _ _ ft (by first | assumption | omega)
 have ex : objAt (w9.setRow gp #[.slice (some ⟨g2, 0, none⟩) m c4]) (gx) = some (.cells #[.slice (some ⟨g, 0, none⟩) m c2] 30) := zqg _ _ fx (by first | assumption | omega)
 have ep : objAt (w9.setRow gp #[.slice (some ⟨g2, 0, none⟩) m c4]) (gp) = some (.cells #[.slice (some ⟨g2, 0, none⟩) m c4] 30) := zqt _ fp
 replace hG : Below w.heap.size w (w9.setRow gp #[.slice (some ⟨g2, 0, none⟩) m c4]) := Grew.setRow hG _ _ hzp
 clear fs lfs ft lft fx lfx fp lfp
 generalize w9.setRow gp #[.slice (some ⟨g2, 0, none⟩) m c4] = w10 at *
 have fs := es
 have ft := et
 have fx := ex
 have fp := ep
 clear es et ex ep
 have lfs := zqa fs
 have lft := zqa ft
 have lfx := zqa fx
 have lfp := zqa fp
 go_wp2_with fail
 refine (cR3 _ _ _ HR.out (hTT.out.later hG)).mono ?_
 rintro e w11 ⟨g3, c5, rfl, hRb, hb⟩
 replace fs := zqb hb fs
 replace ft := zqb hb ft
 replace fx := zqb hb fx
 replace fp := zqb hb fp
 replace HR := hid1 (HR.out.later hb)
 replace HP := hid1 (HP.out.later hb)
 replace lfs := zqa fs
 replace lft := zqa ft
 replace lfx := zqa fx
 replace lfp := zqa fp
 replace hG := Grew.trans hG hb
 have HC : Hid (Row64 w11 g3 m PC) := hRb
 clear hb hRb cR3
 go_wp2_with fail
 have nsq : ¬ (w.heap.size = w11.heap.size) := by have := lfs; omega
 have ntq : ¬ (w.heap.size + 1 = w11.heap.size) := by have := lft; omega
 have nxq : ¬ (gx = w11.heap.size) := by have := lfx; omega
 have npq : ¬ (gp = w11.heap.size) := by have := lfp; omega
 have hzq := hG.size
 have hb : Below w11.heap.size w11 (w11.alloc (.cells #[.slice (some ⟨g3, 0, none⟩) m c5] 30)) := Grew.alloc (Grew.refl _) _
 have fq : objAt (w11.alloc (.cells #[.slice (some ⟨g3, 0, none⟩) m c5] 30)) w11.heap.size = some (.cells #[.slice (some ⟨g3, 0, none⟩) m c5] 30) := zqh _ _ _ rfl
 replace fs := zqb hb fs
 replace ft := zqb hb ft
 replace fx := zqb hb fx
 replace fp := zqb hb fp
 replace HR := hid1 (HR.out.later hb)
 replace HP := hid1 (HP.out.later hb)
 replace HC := hid1 (HC.out.later hb)
 replace lfs := zqa fs
 replace lft := zqa ft
 replace lfx := zqa fx
 replace lfp := zqa fp
 replace hG := Grew.trans hG hb
 clear hb
 generalize w11.alloc (.cells #[.slice (some ⟨g3, 0, none⟩) m c5] 30) = w12 at *
 generalize w11.heap.size = gq at *
 have lfq := zqa fq
 go_wp2_with fail
 refine (cR4 _ _ _ HC.out (hTT.out.later hG)).mono ?_
 rintro e w13 ⟨g4, c6, rfl, hRb, hb⟩
 replace fs := zqb hb fs
 replace ft := zqb hb ft
 replace fx := zqb hb fx
 replace fp := zqb hb fp
 replace fq := zqb hb fq
 replace HR := hid1 (HR.out.later hb)
 replace HP := hid1 (HP.out.later hb)
 replace HC := hid1 (HC.out.later hb)
 replace lfs := zqa fs
 replace lft := zqa ft
 replace lfx := zqa fx
 replace lfp := zqa fp
 replace lfq := zqa fq
 replace hG := Grew.trans hG hb
 have HQ : Hid (Row64 w13 g4 m PB) := hRb
 clear hb hRb cR4 HC
 go_wp2_with fail
 replace HR : Hid (Row64 (w13.setRow gq #[.slice (some ⟨g4, 0, none⟩) m c6]) g m PR) := HR.out.by (zqal _ _ _ _ (row_tree fq HR.out))
 replace HP : Hid (Row64 (w13.setRow gq #[.slice (some ⟨g4, 0, none⟩) m c6]) g2 m PB) := HP.out.by (zqal _ _ _ _ (row_tree fq HP.out))
 replace HQ : Hid (Row64 (w13.setRow gq #[.slice (some ⟨g4, 0, none⟩) m c6]) g4 m PB) := HQ.out.by (zqal _ _ _ _ (row_tree fq HQ.out))
 have es : objAt (w13.setRow gq #[.slice (some ⟨g4, 0, none⟩) m c6]) (w.heap.size) = some (.cells (ints .u8 32 (s)) 24) := zqg _ _ fs (by first | assumption | omega)
 have et : objAt (w13.setRow gq #[.slice (some ⟨g4, 0, none⟩) m c6]) (w.heap.size + 1) = some (.cells (ints .u8 32 (t)) 24) := zqg _ _ ft (by first | assumption | omega)
 have ex : objAt (w13.setRow gq #[.slice (some ⟨g4, 0, none⟩) m c6]) (gx) = some (.cells #[.slice (some ⟨g, 0, none⟩) m c2] 30) := zqg _ _ fx (by first | assumption | omega)
 have ep : objAt (w13.setRow gq #[.slice (some ⟨g4, 0, none⟩) m c6]) (gp) = some (.cells #[.slice (some ⟨g2, 0, none⟩) m c4] 30) := zqg _ _ fp (by first | assumption | omega)
 have eq : objAt (w13.setRow gq #[.slice (some ⟨g4, 0, none⟩) m c6]) (gq) = some (.cells #[.slice (some ⟨g4, 0, none⟩) m c6] 30) := zqt _ fq
 replace hG : Below w.heap.size w (w13.setRow gq #[.slice (some ⟨g4, 0, none⟩) m c6]) := Grew.setRow hG _ _ hzq
 clear fs lfs ft lft fx lfx fp lfp fq lfq
 generalize w13.setRow gq #[.slice (some ⟨g4, 0, none⟩) m c6] = w14 at *
 have fs := es
 have ft := et
 have fx := ex
 have fp := ep
 have fq := eq
 clear es et ex ep eq
 have lfs := zqa fs
 have lft := zqa ft
 have lfx := zqa fx
 have lfp := zqa fp
 have lfq := zqa fq
 have l1 := fun y : More => (HK.out.later hG).loadK hI (zqj w14 y)
 go_wp2_with fail
 refine zqhk (fun k => k == 6) (fun k => match k with | 6 => fun u => TrS m u | _ => fun _ => True) (fun k => match k with | 6 => fun u w => TrAt m PR u w | _ => fun _ _ => True) (fun k => match k with | 6 => .tuple #[.agg #[.slice (some ⟨0, 0, none⟩) m 0], .bool true] | _ => undef) (fun i hi => ?_) (by kernel_rfl) (by kernel_rfl) ?_
 ·simp only [Bool.or_eq_true, beq_iff_eq] at hi
  subst hi
  exact ⟨0, 0, rfl⟩
 (first | refine zqn rfl ?_ | (refine zql rfl ?_; apply Exists.intro))
 (first | refine zqn rfl ?_ | (refine zql rfl ?_; apply Exists.intro))
 (first | refine zqn rfl ?_ | (refine zql rfl ?_; apply Exists.intro))
 (first | refine zqn rfl ?_ | (refine zql rfl ?_; apply Exists.intro))
 (first | refine zqn rfl ?_ | (refine zql rfl ?_; apply Exists.intro))
 (first | refine zqn rfl ?_ | (refine zql rfl ?_; apply Exists.intro))
 refine zql rfl ⟨undef, ?_⟩
 (first | refine zqn rfl ?_ | (refine zql rfl ?_; apply Exists.intro))
 (first | refine zqn rfl ?_ | (refine zql rfl ?_; apply Exists.intro))
 (first | refine zqn rfl ?_ | (refine zql rfl ?_; apply Exists.intro))
 (first | refine zqn rfl ?_ | (refine zql rfl ?_; apply Exists.intro))
 (first | refine zqn rfl ?_ | (refine zql rfl ?_; apply Exists.intro))
 (first | refine zqn rfl ?_ | (refine zql rfl ?_; apply Exists.intro))
 refine zqbp ?_
 intro γ gv hsv hinj hbase
 obtain ⟨g5, c7, e5⟩ := hsv 6 rfl
 (repeat (first | (refine zqab rfl ?_; ((first | go_big_quiet_skip | (go_big_quiet_want; go_big_quiet_op; go_big_quiet_on)); refine wpQuiet_nil ?_)) | ((first | refine zqv rfl (fun _ => rfl) ?_ | ((try simp only [Nat.zero_add, Nat.reduceAdd]); apply zqaw zqi; (focus rfl); (focus (first | exact zqq _ | exact zqr _ _ | exact zqo _ | rfl)); (focus (exact zqm))) | ((try simp only [Nat.zero_add, Nat.reduceAdd]); apply zqac _ _ zqi; (focus rfl); (focus (intro W; (first | exact zqam _ | exact zqag _ | exact zqan _ | exact zqaf _ | exact zq3 _ | exact zq2 _))); (focus (first | exact zq1 _ _ _ | exact zqad _ _ | rfl)); (focus (exact zqm))) | ((try simp only [Nat.zero_add, Nat.reduceAdd]); apply zqah zqi; (focus rfl); (focus (intro W; simp only [List.map_toArray, List.map_cons, List.map_nil]; first | fail)); (focus (exact zqm))) | (apply zqao; (focus rfl); (focus rfl); (focus rfl); (focus (intro W hC hF; go_big_quiet_want; go_big_quiet_op; (first | go_big_quiet_on | (apply Exists.intro; refine ⟨fun _ => ?_, ?_⟩; (focus (fail)); go_big_quiet_on)); exact wpQuiet_nil rfl)); (focus (first | exact fun _ => ⟨rfl, rfl⟩ | exact fun h => absurd h (by decide))))); ((first | go_big_quiet_skip | (go_big_quiet_want; go_big_quiet_op; go_big_quiet_on)); refine wpQuiet_nil ?_)) | refine zqu rfl (fun _ => rfl) ?_ | ((try simp only [Nat.zero_add, Nat.reduceAdd]); apply zqae (zq4 (hbase _)); (focus rfl); (focus rfl); (focus rfl); (focus (first | exact zqq _ | exact zqr _ _ | exact zqo _ | rfl)); rotate_left 3; (focus (exact zqbi)); rotate_right 3; (focus kernel_rfl); (focus (first | exact zqf _ _ _ | rfl)); (focus (first | exact zq6 _ _ _ | exact zqaj _ _ _ _ | kernel_rfl)); (focus (decide +kernel)); (focus (exact zqm)))))
 refine rel_callv #[.agg #[.slice (some ⟨g, 0, none⟩) m c2], .int .i64 (I : Int), .agg (ints .u8 32 (F I))] (enters_of Tryz.func23 (by kernel_rfl) rfl) rfl e5 rfl rfl rfl rfl (zqbo (stab_tr _ _ _)) (by first | kernel_rfl | simp [go_sem]) ?_ ?_
 ·intro W hC hF
  obtain ⟨mm, rfl⟩ := hC
  refine (cR5 _ _ _ (HR.out.later (zqj _ mm)) (hTT.out.later (Grew.more hG mm))).mono ?_
  rintro e w9 ⟨oa, cc, rfl, hK, hb9⟩
  exact ⟨_, rfl, ⟨oa, cc, rfl⟩, fun oa2 c2 e2 => by cases e2; exact hK, hb9⟩
 ((first | go_big_quiet_skip | (go_big_quiet_want; go_big_quiet_op; go_big_quiet_on)); refine wpQuiet_nil ?_)
 (repeat (first | (refine zqab rfl ?_; ((first | go_big_quiet_skip | (go_big_quiet_want; go_big_quiet_op; go_big_quiet_on)); refine wpQuiet_nil ?_)) | ((first | refine zqv rfl (fun _ => rfl) ?_ | ((try simp only [Nat.zero_add, Nat.reduceAdd]); apply zqaw zqi; (focus rfl); (focus (first | exact zqq _ | exact zqr _ _ | exact zqo _ | rfl)); (focus (first | exact zqm | ((repeat (refine zqew ⟨by (first | exact zqbm _ _ _ _ | exact stab_tr_at _ _ _ _ | exact stab_tr _ _ _ | exact zqcu _ _ _ | exact zqbv _ _ _), by (first | exact zqbm _ _ _ _ | exact stab_tr_at _ _ _ _ | exact stab_tr _ _ _ | exact zqcu _ _ _ | exact zqbv _ _ _)⟩ ?_)); exact zqbo (by (first | exact zqbm _ _ _ _ | exact stab_tr_at _ _ _ _ | exact stab_tr _ _ _ | exact zqcu _ _ _ | exact zqbv _ _ _)))))) | ((try simp only [Nat.zero_add, Nat.reduceAdd]); apply zqac _ _ zqi; (focus rfl); (focus (intro W; (first | exact zqam _ | exact zqag _ | exact zqan _ | exact zqaf _ | exact zq3 _ | exact zq2 _ | exact zero_tree _))); (focus (first | exact zq1 _ _ _ | exact zqad _ _ | rfl)); (focus (first | exact zqm | ((repeat (refine zqew ⟨by (first | exact zqbm _ _ _ _ | exact stab_tr_at _ _ _ _ | exact stab_tr _ _ _ | exact zqcu _ _ _ | exact zqbv _ _ _), by (first | exact zqbm _ _ _ _ | exact stab_tr_at _ _ _ _ | exact stab_tr _ _ _ | exact zqcu _ _ _ | exact zqbv _ _ _)⟩ ?_)); exact zqbo (by (first | exact zqbm _ _ _ _ | exact stab_tr_at _ _ _ _ | exact stab_tr _ _ _ | exact zqcu _ _ _ | exact zqbv _ _ _)))))) | ((try simp only [Nat.zero_add, Nat.reduceAdd]); apply zqah zqi; (focus rfl); (focus (intro W; simp only [List.map_toArray, List.map_cons, List.map_nil]; first | fail)); (focus (first | exact zqm | ((repeat (refine zqew ⟨by (first | exact zqbm _ _ _ _ | exact stab_tr_at _ _ _ _ | exact stab_tr _ _ _ | exact zqcu _ _ _ | exact zqbv _ _ _), by (first | exact zqbm _ _ _ _ | exact stab_tr_at _ _ _ _ | exact stab_tr _ _ _ | exact zqcu _ _ _ | exact zqbv _ _ _)⟩ ?_)); exact zqbo (by (first | exact zqbm _ _ _ _ | exact stab_tr_at _ _ _ _ | exact stab_tr _ _ _ | exact zqcu _ _ _ | exact zqbv _ _ _)))))) | (apply zqao; (focus rfl); (focus rfl); (focus rfl); (focus (intro W hC hF; go_big_quiet_want; go_big_quiet_op; (first | go_big_quiet_on | (apply Exists.intro; refine ⟨fun _ => ?_, ?_⟩; (focus (fail)); go_big_quiet_on)); exact wpQuiet_nil rfl)); (focus (first | exact fun _ => ⟨rfl, rfl⟩ | exact fun h => absurd h (by decide))))); ((first | go_big_quiet_skip | (go_big_quiet_want; go_big_quiet_op; go_big_quiet_on)); refine wpQuiet_nil ?_)) | refine zqu rfl (fun _ => rfl) ?_ | ((try simp only [Nat.zero_add, Nat.reduceAdd]); apply zqae (zq4 (hbase _)); (focus rfl); (focus rfl); (focus rfl); (focus (first | exact zqq _ | exact zqr _ _ | exact zqo _ | rfl)); rotate_left 3; (focus (exact zqbi)); rotate_right 3; (focus kernel_rfl); (focus (first | exact zqf _ _ _ | rfl)); (focus (first | exact zq6 _ _ _ | exact zqaj _ _ _ _ | kernel_rfl)); (focus (decide +kernel)); (focus (first | exact zqm | ((repeat (refine zqew ⟨by (first | exact zqbm _ _ _ _ | exact stab_tr_at _ _ _ _ | exact stab_tr _ _ _ | exact zqcu _ _ _ | exact zqbv _ _ _), by (first | exact zqbm _ _ _ _ | exact stab_tr_at _ _ _ _ | exact stab_tr _ _ _ | exact zqcu _ _ _ | exact zqbv _ _ _)⟩ ?_)); exact zqbo (by (first | exact zqbm _ _ _ _ | exact stab_tr_at _ _ _ _ | exact stab_tr _ _ _ | exact zqcu _ _ _ | exact zqbv _ _ _))))))))
 (refine zqbs ?_; rintro _ ⟨mq, rfl⟩ hF; simp only [List.forall_mem_cons] at hF; obtain ⟨fr, -, f6, -⟩ := hF)
 have hb : Below w14.heap.size w14 (more w14 mq) := zqj _ mq
 replace fs := zqb hb fs
 replace ft := zqb hb ft
 replace fx := zqb hb fx
 replace fp := zqb hb fp
 replace fq := zqb hb fq
 replace HR := hid1 (HR.out.later hb)
 replace HP := hid1 (HP.out.later hb)
 replace HQ := hid1 (HQ.out.later hb)
 replace lfs := zqa fs
 replace lft := zqa ft
 replace lfx := zqa fx
 replace lfp := zqa fp
 replace lfq := zqa fq
 replace hG := Grew.trans hG hb
 have HY : Hid (Row64 (more w14 mq) g5 m PR) := f6 g5 c7 rfl
 replace fr : objAt (more w14 mq) (γ 10) = some (.cells #[.slice (some ⟨g5, 0, none⟩) m c7] 30) := fr
 clear f6 hinj hbase hsv e5 hb l1 fs ft lfs lft cR5
 generalize γ 10 = gr at *
 generalize more w14 mq = w60 at *
 clear γ gv
 have lfr := zqa fr
 go_wp2_with fail
 refine zqhk (fun k => k == 10 || k == 12 || k == 17 || k == 19) (fun k => match k with | 10 => fun u => KSl q u | 12 => fun u => KSl q u | 17 => fun u => KSl q u | 19 => fun u => KSl q u | _ => fun _ => True) (fun k => match k with | 10 => fun u w => KAt q PUB u w | 12 => fun u w => KAt q PUB u w | 17 => fun u w => KAt q PU u w | 19 => fun u w => KAt q PU u w | _ => fun _ _ => True) (fun k => match k with | 10 => .slice none q 0 | 12 => .slice none q 0 | 17 => .slice none q 0 | 19 => .slice none q 0 | _ => undef) (fun i hi => ?_) (by kernel_rfl) (by kernel_rfl) ?_
 ·simp only [Bool.or_eq_true, beq_iff_eq] at hi
  rcases hi with ((rfl | rfl) | rfl) | rfl
  ·exact ⟨none, 0, rfl⟩
  ·exact ⟨none, 0, rfl⟩
  ·exact ⟨none, 0, rfl⟩
  ·exact ⟨none, 0, rfl⟩
 (first | refine zqn rfl ?_ | (refine zql rfl ?_; apply Exists.intro))
 (first | refine zqn rfl ?_ | (refine zql rfl ?_; apply Exists.intro))
 (first | refine zqn rfl ?_ | (refine zql rfl ?_; apply Exists.intro))
 (first | refine zqn rfl ?_ | (refine zql rfl ?_; apply Exists.intro))
 (first | refine zqn rfl ?_ | (refine zql rfl ?_; apply Exists.intro))
 (first | refine zqn rfl ?_ | (refine zql rfl ?_; apply Exists.intro))
 (first | refine zqn rfl ?_ | (refine zql rfl ?_; apply Exists.intro))
 (first | refine zqn rfl ?_ | (refine zql rfl ?_; apply Exists.intro))
 (first | refine zqn rfl ?_ | (refine zql rfl ?_; apply Exists.intro))
 (first | refine zqn rfl ?_ | (refine zql rfl ?_; apply Exists.intro))
 refine zql rfl ⟨undef, ?_⟩
 (first | refine zqn rfl ?_ | (refine zql rfl ?_; apply Exists.intro))
 refine zql rfl ⟨undef, ?_⟩
 (first | refine zqn rfl ?_ | (refine zql rfl ?_; apply Exists.intro))
 (first | refine zqn rfl ?_ | (refine zql rfl ?_; apply Exists.intro))
 (first | refine zqn rfl ?_ | (refine zql rfl ?_; apply Exists.intro))
 (first | refine zqn rfl ?_ | (refine zql rfl ?_; apply Exists.intro))
 refine zql rfl ⟨undef, ?_⟩
 (first | refine zqn rfl ?_ | (refine zql rfl ?_; apply Exists.intro))
 refine zql rfl ⟨undef, ?_⟩
 (first | refine zqn rfl ?_ | (refine zql rfl ?_; apply Exists.intro))
 (first | refine zqn rfl ?_ | (refine zql rfl ?_; apply Exists.intro))
 (first | refine zqn rfl ?_ | (refine zql rfl ?_; apply Exists.intro))
 (first | refine zqn rfl ?_ | (refine zql rfl ?_; apply Exists.intro))
 (first | refine zqn rfl ?_ | (refine zql rfl ?_; apply Exists.intro))
 (first | refine zqn rfl ?_ | (refine zql rfl ?_; apply Exists.intro))
 (first | refine zqn rfl ?_ | (refine zql rfl ?_; apply Exists.intro))
 (first | refine zqn rfl ?_ | (refine zql rfl ?_; apply Exists.intro))
 (first | refine zqn rfl ?_ | (refine zql rfl ?_; apply Exists.intro))
 (first | refine zqn rfl ?_ | (refine zql rfl ?_; apply Exists.intro))
 refine zqbp ?_
 intro γ gv hsv hinj hbase
 obtain ⟨o1, k1, e1⟩ := hsv 10 rfl
 obtain ⟨o2, k2, e2⟩ := hsv 12 rfl
 obtain ⟨o3, k3, e3⟩ := hsv 17 rfl
 obtain ⟨o4, k4, e4⟩ := hsv 19 rfl
 (repeat (first | (refine zqab rfl ?_; ((first | go_big_quiet_skip | (go_big_quiet_want; go_big_quiet_op; go_big_quiet_on)); refine wpQuiet_nil ?_)) | ((first | refine zqv rfl (fun _ => rfl) ?_ | ((try simp only [Nat.zero_add, Nat.reduceAdd]); apply zqaw zqi; (focus rfl); (focus (first | exact zqq _ | exact zqr _ _ | exact zqo _ | rfl)); (focus (exact zqm))) | ((try simp only [Nat.zero_add, Nat.reduceAdd]); apply zqac _ _ zqi; (focus rfl); (focus (intro W; (first | exact zqam _ | exact zqag _ | exact zqan _ | exact zqaf _ | exact zq3 _ | exact zq2 _))); (focus (first | exact zq1 _ _ _ | exact zqad _ _ | rfl)); (focus (exact zqm))) | ((try simp only [Nat.zero_add, Nat.reduceAdd]); apply zqah zqi; (focus rfl); (focus (intro W; simp only [List.map_toArray, List.map_cons, List.map_nil]; first | fail)); (focus (exact zqm))) | (apply zqao; (focus rfl); (focus rfl); (focus rfl); (focus (intro W hC hF; (have hbW : Below w60.heap.size w60 W := by obtain ⟨mm, rfl⟩ := hC; exact zqj w60 mm); (try (have hE1 : K32At W o1 q PUB := known hF (List.mem_cons_of_mem _ (List.mem_cons_self ..)) (by decide +kernel) o1 k1 rfl)); (try (have hE2 : K32At W o2 q PUB := known hF (List.mem_cons_self ..) (by decide +kernel) o2 k2 rfl)); (try (have hE3 : K32At W o3 q PU := known hF (List.mem_cons_of_mem _ (List.mem_cons_self ..)) (by decide +kernel) o3 k3 rfl)); (try (have hE4 : K32At W o4 q PU := known hF (List.mem_cons_self ..) (by decide +kernel) o4 k4 rfl)); go_big_quiet_want; go_big_quiet_op; (first | go_big_quiet_on | (apply Exists.intro; refine ⟨fun _ => ?_, ?_⟩; (focus (first | (with_reducible exact Calls.of_more (cRtB _ _ _ (HP.out.later (Grew.more hbW _)))) | (with_reducible exact Calls.of_more (cRtB _ _ _ (HQ.out.later (Grew.more hbW _)))) | (with_reducible exact Calls.of_more (cRt _ _ _ (HY.out.later (Grew.more hbW _)))) | (with_reducible exact Calls.of_more (cRt _ _ _ (HR.out.later (Grew.more hbW _)))) | (exact Calls.of_more (zqax _ _ q _ _ PUB _ (by omega) (hE1.later (zqj W _)) (hE2.later (zqj W _)))) | (exact Calls.of_more (zqax _ _ q _ _ PU _ (by omega) (hE3.later (zqj W _)) (hE4.later (zqj W _)))))); go_big_quiet_on)); exact wpQuiet_nil rfl)); (focus (first | exact fun _ => ⟨rfl, rfl⟩ | exact fun h => absurd h (by decide))))); ((first | go_big_quiet_skip | (go_big_quiet_want; go_big_quiet_op; go_big_quiet_on)); refine wpQuiet_nil ?_)) | refine zqu rfl (fun _ => rfl) ?_ | ((try simp only [Nat.zero_add, Nat.reduceAdd]); apply zqae (zq4 (hbase _)); (focus rfl); (focus rfl); (focus rfl); (focus (first | exact zqq _ | exact zqr _ _ | exact zqo _ | rfl)); rotate_left 3; (focus (exact zqbi)); rotate_right 3; (focus kernel_rfl); (focus (first | exact zqf _ _ _ | rfl)); (focus (first | exact zq6 _ _ _ | exact zqaj _ _ _ _ | kernel_rfl)); (focus (decide +kernel)); (focus (exact zqm)))))
 refine rel_callv #[.agg #[.slice (some ⟨g2, 0, none⟩) m c4]] (enters_of Tryz.func12 (by kernel_rfl) rfl) rfl e1 rfl rfl rfl rfl (zqbo (stab_kat _ _ _)) (by first | kernel_rfl | simp [go_sem]) ?_ ?_
 ·intro W hC hF
  obtain ⟨mm, rfl⟩ := hC
  refine (cPuB _ _ _ (HP.out.later (zqj _ mm))).mono ?_
  rintro e w9 ⟨oa, cc, rfl, hK, hb9⟩
  exact ⟨_, rfl, ⟨oa, cc, rfl⟩, fun oa2 c2 e2 => by cases e2; exact hK, hb9⟩
 ((first | go_big_quiet_skip | (go_big_quiet_want; go_big_quiet_op; go_big_quiet_on)); refine wpQuiet_nil ?_)
 (repeat (first | (refine zqab rfl ?_; ((first | go_big_quiet_skip | (go_big_quiet_want; go_big_quiet_op; go_big_quiet_on)); refine wpQuiet_nil ?_)) | ((first | refine zqv rfl (fun _ => rfl) ?_ | ((try simp only [Nat.zero_add, Nat.reduceAdd]); apply zqaw zqi; (focus rfl); (focus (first | exact zqq _ | exact zqr _ _ | exact zqo _ | rfl)); (focus (exact zqm))) | ((try simp only [Nat.zero_add, Nat.reduceAdd]); apply zqac _ _ zqi; (focus rfl); (focus (intro W; (first | exact zqam _ | exact zqag _ | exact zqan _ | exact zqaf _ | exact zq3 _ | exact zq2 _))); (focus (first | exact zq1 _ _ _ | exact zqad _ _ | rfl)); (focus (exact zqm))) | ((try simp only [Nat.zero_add, Nat.reduceAdd]); apply zqah zqi; (focus rfl); (focus (intro W; simp only [List.map_toArray, List.map_cons, List.map_nil]; first | fail)); (focus (exact zqm))) | (apply zqao; (focus rfl); (focus rfl); (focus rfl); (focus (intro W hC hF; (have hbW : Below w60.heap.size w60 W := by obtain ⟨mm, rfl⟩ := hC; exact zqj w60 mm); (try (have hE1 : K32At W o1 q PUB := known hF (List.mem_cons_of_mem _ (List.mem_cons_self ..)) (by decide +kernel) o1 k1 rfl)); (try (have hE2 : K32At W o2 q PUB := known hF (List.mem_cons_self ..) (by decide +kernel) o2 k2 rfl)); (try (have hE3 : K32At W o3 q PU := known hF (List.mem_cons_of_mem _ (List.mem_cons_self ..)) (by decide +kernel) o3 k3 rfl)); (try (have hE4 : K32At W o4 q PU := known hF (List.mem_cons_self ..) (by decide +kernel) o4 k4 rfl)); go_big_quiet_want; go_big_quiet_op; (first | go_big_quiet_on | (apply Exists.intro; refine ⟨fun _ => ?_, ?_⟩; (focus (first | (with_reducible exact Calls.of_more (cRtB _ _ _ (HP.out.later (Grew.more hbW _)))) | (with_reducible exact Calls.of_more (cRtB _ _ _ (HQ.out.later (Grew.more hbW _)))) | (with_reducible exact Calls.of_more (cRt _ _ _ (HY.out.later (Grew.more hbW _)))) | (with_reducible exact Calls.of_more (cRt _ _ _ (HR.out.later (Grew.more hbW _)))) | (exact Calls.of_more (zqax _ _ q _ _ PUB _ (by omega) (hE1.later (zqj W _)) (hE2.later (zqj W _)))) | (exact Calls.of_more (zqax _ _ q _ _ PU _ (by omega) (hE3.later (zqj W _)) (hE4.later (zqj W _)))))); go_big_quiet_on)); exact wpQuiet_nil rfl)); (focus (first | exact fun _ => ⟨rfl, rfl⟩ | exact fun h => absurd h (by decide))))); ((first | go_big_quiet_skip | (go_big_quiet_want; go_big_quiet_op; go_big_quiet_on)); refine wpQuiet_nil ?_)) | refine zqu rfl (fun _ => rfl) ?_ | ((try simp only [Nat.zero_add, Nat.reduceAdd]); apply zqae (zq4 (hbase _)); (focus rfl); (focus rfl); (focus rfl); (focus (first | exact zqq _ | exact zqr _ _ | exact zqo _ | rfl)); rotate_left 3; (focus (exact zqbi)); rotate_right 3; (focus kernel_rfl); (focus (first | exact zqf _ _ _ | rfl)); (focus (first | exact zq6 _ _ _ | exact zqaj _ _ _ _ | kernel_rfl)); (focus (decide +kernel)); (focus (exact zqm)))))
 refine rel_callv #[.agg #[.slice (some ⟨g4, 0, none⟩) m c6]] (enters_of Tryz.func12 (by kernel_rfl) rfl) rfl e2 rfl rfl rfl rfl (fits_one (stab_kat _ _ _) (stab_kat _ _ _) rfl rfl (zqbo (stab_kat _ _ _))) (by first | kernel_rfl | simp [go_sem]) ?_ ?_
 ·intro W hC hF
  obtain ⟨mm, rfl⟩ := hC
  refine (cPuB _ _ _ (HQ.out.later (zqj _ mm))).mono ?_
  rintro e w9 ⟨oa, cc, rfl, hK, hb9⟩
  exact ⟨_, rfl, ⟨oa, cc, rfl⟩, fun oa2 c2 e2 => by cases e2; exact hK, hb9⟩
 ((first | go_big_quiet_skip | (go_big_quiet_want; go_big_quiet_op; go_big_quiet_on)); refine wpQuiet_nil ?_)
 (repeat (first | (refine zqab rfl ?_; ((first | go_big_quiet_skip | (go_big_quiet_want; go_big_quiet_op; go_big_quiet_on)); refine wpQuiet_nil ?_)) | ((first | refine zqv rfl (fun _ => rfl) ?_ | ((try simp only [Nat.zero_add, Nat.reduceAdd]); apply zqaw zqi; (focus rfl); (focus (first | exact zqq _ | exact zqr _ _ | exact zqo _ | rfl)); (focus (exact zqm))) | ((try simp only [Nat.zero_add, Nat.reduceAdd]); apply zqac _ _ zqi; (focus rfl); (focus (intro W; (first | exact zqam _ | exact zqag _ | exact zqan _ | exact zqaf _ | exact zq3 _ | exact zq2 _))); (focus (first | exact zq1 _ _ _ | exact zqad _ _ | rfl)); (focus (exact zqm))) | ((try simp only [Nat.zero_add, Nat.reduceAdd]); apply zqah zqi; (focus rfl); (focus (intro W; simp only [List.map_toArray, List.map_cons, List.map_nil]; first | fail)); (focus (exact zqm))) | (apply zqao; (focus rfl); (focus rfl); (focus rfl); (focus (intro W hC hF; (have hbW : Below w60.heap.size w60 W := by obtain ⟨mm, rfl⟩ := hC; exact zqj w60 mm); (try (have hE1 : K32At W o1 q PUB := known hF (List.mem_cons_of_mem _ (List.mem_cons_self ..)) (by decide +kernel) o1 k1 rfl)); (try (have hE2 : K32At W o2 q PUB := known hF (List.mem_cons_self ..) (by decide +kernel) o2 k2 rfl)); (try (have hE3 : K32At W o3 q PU := known hF (List.mem_cons_of_mem _ (List.mem_cons_self ..)) (by decide +kernel) o3 k3 rfl)); (try (have hE4 : K32At W o4 q PU := known hF (List.mem_cons_self ..) (by decide +kernel) o4 k4 rfl)); go_big_quiet_want; go_big_quiet_op; (first | go_big_quiet_on | (apply Exists.intro; refine ⟨fun _ => ?_, ?_⟩; (focus (first | (with_reducible exact Calls.of_more (cRtB _ _ _ (HP.out.later (Grew.more hbW _)))) | (with_reducible exact Calls.of_more (cRtB _ _ _ (HQ.out.later (Grew.more hbW _)))) | (with_reducible exact Calls.of_more (cRt _ _ _ (HY.out.later (Grew.more hbW _)))) | (with_reducible exact Calls.of_more (cRt _ _ _ (HR.out.later (Grew.more hbW _)))) | (exact Calls.of_more (zqax _ _ q _ _ PUB _ (by omega) (hE1.later (zqj W _)) (hE2.later (zqj W _)))) | (exact Calls.of_more (zqax _ _ q _ _ PU _ (by omega) (hE3.later (zqj W _)) (hE4.later (zqj W _)))))); go_big_quiet_on)); exact wpQuiet_nil rfl)); (focus (first | exact fun _ => ⟨rfl, rfl⟩ | exact fun h => absurd h (by decide))))); ((first | go_big_quiet_skip | (go_big_quiet_want; go_big_quiet_op; go_big_quiet_on)); refine wpQuiet_nil ?_)) | refine zqu rfl (fun _ => rfl) ?_ | ((try simp only [Nat.zero_add, Nat.reduceAdd]); apply zqae (zq4 (hbase _)); (focus rfl); (focus rfl); (focus rfl); (focus (first | exact zqq _ | exact zqr _ _ | exact zqo _ | rfl)); rotate_left 3; (focus (exact zqbi)); rotate_right 3; (focus kernel_rfl); (focus (first | exact zqf _ _ _ | rfl)); (focus (first | exact zq6 _ _ _ | exact zqaj _ _ _ _ | kernel_rfl)); (focus (decide +kernel)); (focus (exact zqm)))))
 refine rel_callv #[.agg #[.slice (some ⟨g5, 0, none⟩) m c7]] (enters_of Tryz.func12 (by kernel_rfl) rfl) rfl e3 rfl rfl rfl rfl (fits_one (stab_kat _ _ _) (stab_kat _ _ _) rfl rfl (fits_one (stab_kat _ _ _) (stab_kat _ _ _) rfl rfl (zqbo (stab_kat _ _ _)))) (by first | kernel_rfl | simp [go_sem]) ?_ ?_
 ·intro W hC hF
  obtain ⟨mm, rfl⟩ := hC
  refine (cPu _ _ _ (HY.out.later (zqj _ mm))).mono ?_
  rintro e w9 ⟨oa, cc, rfl, hK, hb9⟩
  exact ⟨_, rfl, ⟨oa, cc, rfl⟩, fun oa2 c2 e2 => by cases e2; exact hK, hb9⟩
 ((first | go_big_quiet_skip | (go_big_quiet_want; go_big_quiet_op; go_big_quiet_on)); refine wpQuiet_nil ?_)
 (repeat (first | (refine zqab rfl ?_; ((first | go_big_quiet_skip | (go_big_quiet_want; go_big_quiet_op; go_big_quiet_on)); refine wpQuiet_nil ?_)) | ((first | refine zqv rfl (fun _ => rfl) ?_ | ((try simp only [Nat.zero_add, Nat.reduceAdd]); apply zqaw zqi; (focus rfl); (focus (first | exact zqq _ | exact zqr _ _ | exact zqo _ | rfl)); (focus (exact zqm))) | ((try simp only [Nat.zero_add, Nat.reduceAdd]); apply zqac _ _ zqi; (focus rfl); (focus (intro W; (first | exact zqam _ | exact zqag _ | exact zqan _ | exact zqaf _ | exact zq3 _ | exact zq2 _))); (focus (first | exact zq1 _ _ _ | exact zqad _ _ | rfl)); (focus (exact zqm))) | ((try simp only [Nat.zero_add, Nat.reduceAdd]); apply zqah zqi; (focus rfl); (focus (intro W; simp only [List.map_toArray, List.map_cons, List.map_nil]; first | fail)); (focus (exact zqm))) | (apply zqao; (focus rfl); (focus rfl); (focus rfl); (focus (intro W hC hF; (have hbW : Below w60.heap.size w60 W := by obtain ⟨mm, rfl⟩ := hC; exact zqj w60 mm); (try (have hE1 : K32At W o1 q PUB := known hF (List.mem_cons_of_mem _ (List.mem_cons_self ..)) (by decide +kernel) o1 k1 rfl)); (try (have hE2 : K32At W o2 q PUB := known hF (List.mem_cons_self ..) (by decide +kernel) o2 k2 rfl)); (try (have hE3 : K32At W o3 q PU := known hF (List.mem_cons_of_mem _ (List.mem_cons_self ..)) (by decide +kernel) o3 k3 rfl)); (try (have hE4 : K32At W o4 q PU := known hF (List.mem_cons_self ..) (by decide +kernel) o4 k4 rfl)); go_big_quiet_want; go_big_quiet_op; (first | go_big_quiet_on | (apply Exists.intro; refine ⟨fun _ => ?_, ?_⟩; (focus (first | (with_reducible exact Calls.of_more (cRtB _ _ _ (HP.out.later (Grew.more hbW _)))) | (with_reducible exact Calls.of_more (cRtB _ _ _ (HQ.out.later (Grew.more hbW _)))) | (with_reducible exact Calls.of_more (cRt _ _ _ (HY.out.later (Grew.more hbW _)))) | (with_reducible exact Calls.of_more (cRt _ _ _ (HR.out.later (Grew.more hbW _)))) | (exact Calls.of_more (zqax _ _ q _ _ PUB _ (by omega) (hE1.later (zqj W _)) (hE2.later (zqj W _)))) | (exact Calls.of_more (zqax _ _ q _ _ PU _ (by omega) (hE3.later (zqj W _)) (hE4.later (zqj W _)))))); go_big_quiet_on)); exact wpQuiet_nil rfl)); (focus (first | exact fun _ => ⟨rfl, rfl⟩ | exact fun h => absurd h (by decide))))); ((first | go_big_quiet_skip | (go_big_quiet_want; go_big_quiet_op; go_big_quiet_on)); refine wpQuiet_nil ?_)) | refine zqu rfl (fun _ => rfl) ?_ | ((try simp only [Nat.zero_add, Nat.reduceAdd]); apply zqae (zq4 (hbase _)); (focus rfl); (focus rfl); (focus rfl); (focus (first | exact zqq _ | exact zqr _ _ | exact zqo _ | rfl)); rotate_left 3; (focus (exact zqbi)); rotate_right 3; (focus kernel_rfl); (focus (first | exact zqf _ _ _ | rfl)); (focus (first | exact zq6 _ _ _ | exact zqaj _ _ _ _ | kernel_rfl)); (focus (decide +kernel)); (focus (exact zqm)))))
 refine rel_callv #[.agg #[.slice (some ⟨g, 0, none⟩) m c2]] (enters_of Tryz.func12 (by kernel_rfl) rfl) rfl e4 rfl rfl rfl rfl (fits_one (stab_kat _ _ _) (stab_kat _ _ _) rfl rfl (fits_one (stab_kat _ _ _) (stab_kat _ _ _) rfl rfl (fits_one (stab_kat _ _ _) (stab_kat _ _ _) rfl rfl (zqbo (stab_kat _ _ _))))) (by first | kernel_rfl | simp [go_sem]) ?_ ?_
 ·intro W hC hF
  obtain ⟨mm, rfl⟩ := hC
  refine (cPu _ _ _ (HR.out.later (zqj _ mm))).mono ?_
  rintro e w9 ⟨oa, cc, rfl, hK, hb9⟩
  exact ⟨_, rfl, ⟨oa, cc, rfl⟩, fun oa2 c2 e2 => by cases e2; exact hK, hb9⟩
 ((first | go_big_quiet_skip | (go_big_quiet_want; go_big_quiet_op; go_big_quiet_on)); refine wpQuiet_nil ?_)
 (repeat (first | (refine zqab rfl ?_; ((first | go_big_quiet_skip | (go_big_quiet_want; go_big_quiet_op; go_big_quiet_on)); refine wpQuiet_nil ?_)) | ((first | refine zqv rfl (fun _ => rfl) ?_ | ((try simp only [Nat.zero_add, Nat.reduceAdd]); apply zqaw zqi; (focus rfl); (focus (first | exact zqq _ | exact zqr _ _ | exact zqo _ | rfl)); (focus (exact zqm))) | ((try simp only [Nat.zero_add, Nat.reduceAdd]); apply zqac _ _ zqi; (focus rfl); (focus (intro W; (first | exact zqam _ | exact zqag _ | exact zqan _ | exact zqaf _ | exact zq3 _ | exact zq2 _))); (focus (first | exact zq1 _ _ _ | exact zqad _ _ | rfl)); (focus (exact zqm))) | ((try simp only [Nat.zero_add, Nat.reduceAdd]); apply zqah zqi; (focus rfl); (focus (intro W; simp only [List.map_toArray, List.map_cons, List.map_nil]; first | fail)); (focus (exact zqm))) | (apply zqao; (focus rfl); (focus rfl); (focus rfl); (focus (intro W hC hF; (have hbW : Below w60.heap.size w60 W := by obtain ⟨mm, rfl⟩ := hC; exact zqj w60 mm); (try (have hE1 : K32At W o1 q PUB := known hF (List.mem_cons_of_mem _ (List.mem_cons_self ..)) (by decide +kernel) o1 k1 rfl)); (try (have hE2 : K32At W o2 q PUB := known hF (List.mem_cons_self ..) (by decide +kernel) o2 k2 rfl)); (try (have hE3 : K32At W o3 q PU := known hF (List.mem_cons_of_mem _ (List.mem_cons_self ..)) (by decide +kernel) o3 k3 rfl)); (try (have hE4 : K32At W o4 q PU := known hF (List.mem_cons_self ..) (by decide +kernel) o4 k4 rfl)); go_big_quiet_want; go_big_quiet_op; (first | go_big_quiet_on | (apply Exists.intro; refine ⟨fun _ => ?_, ?_⟩; (focus (first | (with_reducible exact Calls.of_more (cRtB _ _ _ (HP.out.later (Grew.more hbW _)))) | (with_reducible exact Calls.of_more (cRtB _ _ _ (HQ.out.later (Grew.more hbW _)))) | (with_reducible exact Calls.of_more (cRt _ _ _ (HY.out.later (Grew.more hbW _)))) | (with_reducible exact Calls.of_more (cRt _ _ _ (HR.out.later (Grew.more hbW _)))) | (exact Calls.of_more (zqax _ _ q _ _ PUB _ (by omega) (hE1.later (zqj W _)) (hE2.later (zqj W _)))) | (exact Calls.of_more (zqax _ _ q _ _ PU _ (by omega) (hE3.later (zqj W _)) (hE4.later (zqj W _)))))); go_big_quiet_on)); exact wpQuiet_nil rfl)); (focus (first | exact fun _ => ⟨rfl, rfl⟩ | exact fun h => absurd h (by decide))))); ((first | go_big_quiet_skip | (go_big_quiet_want; go_big_quiet_op; go_big_quiet_on)); refine wpQuiet_nil ?_)) | refine zqu rfl (fun _ => rfl) ?_ | ((try simp only [Nat.zero_add, Nat.reduceAdd]); apply zqae (zq4 (hbase _)); (focus rfl); (focus rfl); (focus rfl); (focus (first | exact zqq _ | exact zqr _ _ | exact zqo _ | rfl)); rotate_left 3; (focus (exact zqbi)); rotate_right 3; (focus kernel_rfl); (focus (first | exact zqf _ _ _ | rfl)); (focus (first | exact zq6 _ _ _ | exact zqaj _ _ _ _ | kernel_rfl)); (focus (decide +kernel)); (focus (exact zqm)))))
 (refine zqbs ?_; rintro _ ⟨mq, rfl⟩ hF; simp only [List.forall_mem_cons] at hF; obtain ⟨-, -⟩ := hF)
 go_wp2
 go_ret
 exact ⟨rfl, Grew.more hG mq⟩
end Go.Proofs.YtconieddcjpbjaaGreatDoor
namespace Go.Proofs.YtconieddcjpbjaaGreatDoor
open Go.RowKit
set_option linter.unusedVariables false
set_option linter.unusedSimpArgs false
theorem climb_root (L : Nat → Nat → Int) (n i : Nat) (hL : ∀ i, i < n → Bytes 32 (L i)) (h1 : 1 ≤ n) (hn : n ≤ 1024) (hi : i < n) :
  zqbu (L i) (cpF (fun j => pubF (treeF L n j)) n (zqaq n i)) (zqaq n i).length = true ∧ zqci (L i) (cpF (fun j => pubF (treeF L n j)) n (zqaq n i)) (zqaq n i).length = treeF L n 0 := by
 have hz : ∀ k, k < (zqaq n i).length → cpF (fun j => pubF (treeF L n j)) n (zqaq n i) k = copF L n i k := fun k hk => zqih L n i h1 hn k hk
 obtain ⟨a, b⟩ := zqfy (k := L i) _ hz
 obtain ⟨c, d⟩ := zqjx L n i hL h1 hi _ (Nat.le_refl _)
 rw [a, b]
 refine ⟨c, ?_⟩
 rw [d ⟨0, n⟩ (path_last n i)]
 exact (zqvx L n).symm
theorem cp_bytes (L : Nat → Nat → Int) (n i : Nat) (h1 : 1 ≤ n) (hn : n ≤ 1024) : ∀ k, k < (zqaq n i).length → Bytes 32 (cpF (fun j => pubF (treeF L n j)) n (zqaq n i) k) := fun k hk => by
 rw [zqih L n i h1 hn k hk]
 exact zqnd _ _ _ _
theorem mod_of (A n : Nat) : ((A : Int)).tmod (n : Int) = ((A % n : Nat) : Int) := by first | rfl | simp [Int.tmod_eq_emod_of_nonneg]
attribute [local irreducible] nodeF zqce oneF macF shaF strOf keyV shV pubV upF upOK pubF
theorem climbs13_any (aw : ∀ W : World, Tabs W → Calls Tryz.prog 8 #[] W fun e w' => e = .returned (.bool true) ∧ Below W.heap.size W w') (F : Nat → Nat → Int) (oa : Option Addr) (n c : Nat) (la : Int) (s : Nat → Int) (w : World) (hF : ∀ i, i < n → Bytes 32 (F i)) (hs : Bytes 32 s) (hl0 : 0 ≤ la) (hl1 : la ≤ 255) (hK : K32At w oa n F) (hT : Tabs w) :
  Calls Tryz.prog 4 #[.slice oa n c, .int .u8 la, .agg (ints .u8 32 s)] w fun e w' => e = .returned (.bool true) ∧ Below w.heap.size w w' := by
 by_cases h2 : 2 ≤ n
 case neg =>
  clear hK
  have hTT : Hid (Tabs w) := hT
  clear hT
  have hn2 : (n : Int) < 2 := by omega
  have hG := Grew.refl w
  have fs : True := trivial
  go_enter Tryz.func4, Tryz.ntmps4
  go_wp2_with fail
  replace fs : objAt (w.alloc (.cells (ints .u8 32 (s)) 24)) (w.heap.size) = some (.cells (ints .u8 32 (s)) 24) := by exact zqc
  replace hG : Below w.heap.size w (w.alloc (.cells (ints .u8 32 (s)) 24)) := by exact zqe
  generalize w.alloc (.cells (ints .u8 32 (s)) 24) = w1 at *
  have lfs := zqa fs
  go_wp2_with fail
  refine (aw _ (hTT.out.later hG)).mono ?_
  rintro e w2 ⟨rfl, hb⟩
  replace fs : objAt w2 (w.heap.size) = some (.cells (ints .u8 32 (s)) 24) := zqb hb fs
  replace lfs := zqa fs
  replace hG : Below w.heap.size w w2 := Grew.trans hG hb
  clear hb
  go_wp2
  go_ret
  exact ⟨rfl, hG⟩
 by_cases h12 : n ≤ 12
 case neg =>
  clear hK
  have hTT : Hid (Tabs w) := hT
  clear hT
  have hn2 : ¬ ((n : Int) < 2) := by omega
  have hn12 : (12 : Int) < (n : Int) := by omega
  have hG := Grew.refl w
  have fs : True := trivial
  go_enter Tryz.func4, Tryz.ntmps4
  go_wp2_with fail
  replace fs : objAt (w.alloc (.cells (ints .u8 32 (s)) 24)) (w.heap.size) = some (.cells (ints .u8 32 (s)) 24) := by exact zqc
  replace hG : Below w.heap.size w (w.alloc (.cells (ints .u8 32 (s)) 24)) := by exact zqe
  generalize w.alloc (.cells (ints .u8 32 (s)) 24) = w1 at *
  have lfs := zqa fs
  go_wp2_with fail
  refine (aw _ (hTT.out.later hG)).mono ?_
  rintro e w2 ⟨rfl, hb⟩
  replace fs : objAt w2 (w.heap.size) = some (.cells (ints .u8 32 (s)) 24) := zqb hb fs
  replace lfs := zqa fs
  replace hG : Below w.heap.size w w2 := Grew.trans hG hb
  clear hb
  go_wp2
  go_ret
  exact ⟨rfl, hG⟩
 obtain ⟨ad, rfl⟩ := hK.addr (by omega)
 obtain ⟨A, rfl⟩ : ∃ A : Nat, la = (A : Int) := ⟨la.toNat, by omega⟩
 have h1 : 1 ≤ n := by omega
 have hn : n ≤ 1024 := by omega
 have hm : 2 * n - 1 + 1 = 2 * n := by omega
 have hJ : A % n < n := Nat.mod_lt _ (by omega)
 have hF1 := zqfb (j := A % n) hF hs
 exact zqov (ad := ad) (n := n) (c := c) (m := 2 * n - 1) (q := 2 * n - 1 - 1) (J := A % n) (la := A) (F := F) (F1 := (updL F (A % n) s)) (PR := prF F n) (PR1 := prF (updL F (A % n) s) n) (PU := fun i => pubF (treeF F n (i + 1))) (PU1 := fun i => pubF (treeF (updL F (A % n) s) n (i + 1))) (s := s) (R1 := treeF (updL F (A % n) s) n 0) (w := w) (hT := hT) (hK0 := hK) (h2 := h2) (h12 := h12) (hq := by omega) (hJ := hJ) (hla := mod_of A n) (hl0 := hl0) (hl1 := hl1) (hF1 := rfl) (aw := aw)
  (cMk := fun W h hT => zqfi F (some ad) n (2 * n - 1) c W hm h2 hn hF h hT)
  (cMk1 := fun o cc W h hT => zqfi (updL F (A % n) s) o n (2 * n - 1) cc W hm h2 hn hF1 h hT)
  (cPu := fun g c2 W h => zqc9 (treeF F n) (fun i => pubF (treeF F n i)) g (2 * n - 1) c2 W (by omega) h)
  (cPu1 := fun g c2 W h => zqc9 (treeF (updL F (A % n) s) n) (fun i => pubF (treeF (updL F (A % n) s) n i)) g (2 * n - 1) c2 W (by omega) h)
  (cRt1 := fun g c2 W h => zqfl (treeF (updL F (A % n) s) n) (fun i => pubF (treeF (updL F (A % n) s) n i)) g (2 * n - 1) c2 W (by omega) (by omega) h)
  (cRe := fun g c2 W h hT => zqc5 F g (2 * n - 1) c2 n (A % n) s W hm h2 hn hJ hF hs h hT)
  (cCp := fun i hi => ⟨(zqaq n i).length, cpF (fun j => pubF (treeF (updL F (A % n) s) n j)) n (zqaq n i), zqci ((updL F (A % n) s) i) (cpF (fun j => pubF (treeF (updL F (A % n) s) n j)) n (zqaq n i)), zqd3 n i hn, (climb_root (updL F (A % n) s) n i hF1 h1 hn hi).2,
   fun g c2 W h => by
    have := zqdi (treeF (updL F (A % n) s) n) (fun j => pubF (treeF (updL F (A % n) s) n j)) g (2 * n - 1) c2 n (i : Int) W hm h1 hn (by omega) (by omega) h
    rw [zqdj h1 hn hi] at this
    exact this,
   fun o cc W h hT => zqkw (zqg5 ((updL F (A % n) s) i) _ o _ cc W (hF1 i hi) (by have := zqd3 n i hn; omega) (cp_bytes (updL F (A % n) s) n i h1 hn) h hT) (climb_root (updL F (A % n) s) n i hF1 h1 hn hi).1⟩)
theorem order13_any (aw : ∀ W : World, Tabs W → Calls Tryz.prog 8 #[] W fun e w' => e = .returned (.bool true) ∧ Below W.heap.size W w') (F : Nat → Nat → Int) (oa : Option Addr) (n c : Nat) (la lb : Int) (s t : Nat → Int) (w : World) (hF : ∀ i, i < n → Bytes 32 (F i)) (hs : Bytes 32 s) (ht : Bytes 32 t) (hl0 : 0 ≤ la) (hl1 : la ≤ 255) (hm0 : 0 ≤ lb) (hm1 : lb ≤ 255) (hK : K32At w oa n F) (hT : Tabs w) :
  Calls Tryz.prog 5 #[.slice oa n c, .int .u8 la, .int .u8 lb, .agg (ints .u8 32 s), .agg (ints .u8 32 t)] w fun e w' => e = .returned (.bool true) ∧ Below w.heap.size w w' := by
 by_cases h2 : 2 ≤ n
 case neg =>
  clear hK
  have hTT : Hid (Tabs w) := hT
  clear hT
  have hn2 : (n : Int) < 2 := by omega
  have hd2 : decide ((n : Int) < 2) = true := decide_eq_true hn2
  have hG := Grew.refl w
  have fs : True := trivial
  have ft : True := trivial
  go_enter Tryz.func5, Tryz.ntmps5
  go_wp2_with fail
  replace fs : objAt ((w.alloc (.cells (ints .u8 32 (s)) 24)).alloc (.cells (ints .u8 32 (t)) 24)) (w.heap.size) = some (.cells (ints .u8 32 (s)) 24) := by exact zqc
  replace ft : objAt ((w.alloc (.cells (ints .u8 32 (s)) 24)).alloc (.cells (ints .u8 32 (t)) 24)) (w.heap.size + 1) = some (.cells (ints .u8 32 (t)) 24) := by exact zqc
  replace hG : Below w.heap.size w ((w.alloc (.cells (ints .u8 32 (s)) 24)).alloc (.cells (ints .u8 32 (t)) 24)) := by exact zqe
  generalize (w.alloc (.cells (ints .u8 32 (s)) 24)).alloc (.cells (ints .u8 32 (t)) 24) = w1 at *
  have lfs := zqa fs
  have lft := zqa ft
  go_wp2_with fail
  refine (aw _ (hTT.out.later hG)).mono ?_
  rintro e w2 ⟨rfl, hb⟩
  replace fs : objAt w2 (w.heap.size) = some (.cells (ints .u8 32 (s)) 24) := zqb hb fs
  replace ft : objAt w2 (w.heap.size + 1) = some (.cells (ints .u8 32 (t)) 24) := zqb hb ft
  replace lfs := zqa fs
  replace lft := zqa ft
  replace hG : Below w.heap.size w w2 := Grew.trans hG hb
  clear hb
  go_wp2_with fail
  ((first | (with_reducible refine zqw (by kernel_rfl) (by kernel_rfl) ?_) | refine zqs (by kernel_rfl) (by kernel_rfl) ?_); (repeat (first | go_big_quiet_skip | (go_big_quiet_want; go_big_quiet_op; first | go_big_quiet_on | (apply Exists.intro; refine ⟨fun _ => ?_, ?_⟩; (focus (fail)); go_big_quiet_on)))); refine wpQuiet_nil ?_; rintro _ ⟨mq, rfl⟩)
  have hb : Below w2.heap.size w2 (more w2 mq) := zqj _ mq
  replace fs : objAt (more w2 mq) (w.heap.size) = some (.cells (ints .u8 32 (s)) 24) := zqb hb fs
  replace ft : objAt (more w2 mq) (w.heap.size + 1) = some (.cells (ints .u8 32 (t)) 24) := zqb hb ft
  replace lfs := zqa fs
  replace lft := zqa ft
  replace hG : Below w.heap.size w (more w2 mq) := Grew.trans hG hb
  clear hb
  generalize more w2 mq = w3 at *
  go_wp2
  go_ret
  exact ⟨rfl, hG⟩
 by_cases h12 : n ≤ 12
 case neg =>
  clear hK
  have hTT : Hid (Tabs w) := hT
  clear hT
  have hn2 : ¬ ((n : Int) < 2) := by omega
  have hn12 : (12 : Int) < (n : Int) := by omega
  have hd2 : decide ((n : Int) < 2) = false := decide_eq_false hn2
  have hd12 : decide ((12 : Int) < (n : Int)) = true := decide_eq_true hn12
  have hG := Grew.refl w
  have fs : True := trivial
  have ft : True := trivial
  go_enter Tryz.func5, Tryz.ntmps5
  go_wp2_with fail
  replace fs : objAt ((w.alloc (.cells (ints .u8 32 (s)) 24)).alloc (.cells (ints .u8 32 (t)) 24)) (w.heap.size) = some (.cells (ints .u8 32 (s)) 24) := by exact zqc
  replace ft : objAt ((w.alloc (.cells (ints .u8 32 (s)) 24)).alloc (.cells (ints .u8 32 (t)) 24)) (w.heap.size + 1) = some (.cells (ints .u8 32 (t)) 24) := by exact zqc
  replace hG : Below w.heap.size w ((w.alloc (.cells (ints .u8 32 (s)) 24)).alloc (.cells (ints .u8 32 (t)) 24)) := by exact zqe
  generalize (w.alloc (.cells (ints .u8 32 (s)) 24)).alloc (.cells (ints .u8 32 (t)) 24) = w1 at *
  have lfs := zqa fs
  have lft := zqa ft
  go_wp2_with fail
  refine (aw _ (hTT.out.later hG)).mono ?_
  rintro e w2 ⟨rfl, hb⟩
  replace fs : objAt w2 (w.heap.size) = some (.cells (ints .u8 32 (s)) 24) := zqb hb fs
  replace ft : objAt w2 (w.heap.size + 1) = some (.cells (ints .u8 32 (t)) 24) := zqb hb ft
  replace lfs := zqa fs
  replace lft := zqa ft
  replace hG : Below w.heap.size w w2 := Grew.trans hG hb
  clear hb
  go_wp2_with fail
  ((first | (with_reducible refine zqw (by kernel_rfl) (by kernel_rfl) ?_) | refine zqs (by kernel_rfl) (by kernel_rfl) ?_); (repeat (first | go_big_quiet_skip | (go_big_quiet_want; go_big_quiet_op; first | go_big_quiet_on | (apply Exists.intro; refine ⟨fun _ => ?_, ?_⟩; (focus (fail)); go_big_quiet_on)))); refine wpQuiet_nil ?_; rintro _ ⟨mq, rfl⟩)
  have hb : Below w2.heap.size w2 (more w2 mq) := zqj _ mq
  replace fs : objAt (more w2 mq) (w.heap.size) = some (.cells (ints .u8 32 (s)) 24) := zqb hb fs
  replace ft : objAt (more w2 mq) (w.heap.size + 1) = some (.cells (ints .u8 32 (t)) 24) := zqb hb ft
  replace lfs := zqa fs
  replace lft := zqa ft
  replace hG : Below w.heap.size w (more w2 mq) := Grew.trans hG hb
  clear hb
  generalize more w2 mq = w3 at *
  go_wp2
  go_ret
  exact ⟨rfl, hG⟩
 obtain ⟨ad, rfl⟩ := hK.addr (by omega)
 obtain ⟨A, rfl⟩ : ∃ A : Nat, la = (A : Int) := ⟨la.toNat, by omega⟩
 obtain ⟨B, rfl⟩ : ∃ B : Nat, lb = (B : Int) := ⟨lb.toNat, by omega⟩
 have h1 : 1 ≤ n := by omega
 have hn : n ≤ 1024 := by omega
 have hm : 2 * n - 1 + 1 = 2 * n := by omega
 have hI : A % n < n := Nat.mod_lt _ (by omega)
 have hKn : B % n < n := Nat.mod_lt _ (by omega)
 have hla := mod_of A n
 have hlb := mod_of B n
 by_cases hIK : A % n = B % n
 ·clear hK
  rw [← hIK] at hlb
  clear hI hKn h1 hn hm hF hs ht
  generalize A % n = I at *
  clear hIK
  generalize (A : Int) = la at *
  generalize (B : Int) = lb at *
  have hTT : Hid (Tabs w) := hT
  clear hT
  have hn2 : ¬ ((n : Int) < 2) := by omega
  have hn12 : ¬ ((12 : Int) < (n : Int)) := by omega
  have hn0 : ¬ ((n : Int) = 0) := by omega
  have hd2 : decide ((n : Int) < 2) = false := decide_eq_false hn2
  have hd12 : decide ((12 : Int) < (n : Int)) = false := decide_eq_false hn12
  have hG := Grew.refl w
  have fs : True := trivial
  have ft : True := trivial
  go_enter Tryz.func5, Tryz.ntmps5
  go_wp2_with fail
  replace fs : objAt ((w.alloc (.cells (ints .u8 32 (s)) 24)).alloc (.cells (ints .u8 32 (t)) 24)) (w.heap.size) = some (.cells (ints .u8 32 (s)) 24) := by exact zqc
  replace ft : objAt ((w.alloc (.cells (ints .u8 32 (s)) 24)).alloc (.cells (ints .u8 32 (t)) 24)) (w.heap.size + 1) = some (.cells (ints .u8 32 (t)) 24) := by exact zqc
  replace hG : Below w.heap.size w ((w.alloc (.cells (ints .u8 32 (s)) 24)).alloc (.cells (ints .u8 32 (t)) 24)) := by exact zqe
  generalize (w.alloc (.cells (ints .u8 32 (s)) 24)).alloc (.cells (ints .u8 32 (t)) 24) = w1 at *
  have lfs := zqa fs
  have lft := zqa ft
  go_wp2_with fail
  refine (aw _ (hTT.out.later hG)).mono ?_
  rintro e w2 ⟨rfl, hb⟩
  replace fs : objAt w2 (w.heap.size) = some (.cells (ints .u8 32 (s)) 24) := zqb hb fs
  replace ft : objAt w2 (w.heap.size + 1) = some (.cells (ints .u8 32 (t)) 24) := zqb hb ft
  replace lfs := zqa fs
  replace lft := zqa ft
  replace hG : Below w.heap.size w w2 := Grew.trans hG hb
  clear hb
  go_wp2_with fail
  ((first | (with_reducible refine zqw (by kernel_rfl) (by kernel_rfl) ?_) | refine zqs (by kernel_rfl) (by kernel_rfl) ?_); (repeat (first | go_big_quiet_skip | (go_big_quiet_want; go_big_quiet_op; first | go_big_quiet_on | (apply Exists.intro; refine ⟨fun _ => ?_, ?_⟩; (focus (fail)); go_big_quiet_on)))); refine wpQuiet_nil ?_; rintro _ ⟨mq, rfl⟩)
  have hb : Below w2.heap.size w2 (more w2 mq) := zqj _ mq
  replace fs : objAt (more w2 mq) (w.heap.size) = some (.cells (ints .u8 32 (s)) 24) := zqb hb fs
  replace ft : objAt (more w2 mq) (w.heap.size + 1) = some (.cells (ints .u8 32 (t)) 24) := zqb hb ft
  replace lfs := zqa fs
  replace lft := zqa ft
  replace hG : Below w.heap.size w (more w2 mq) := Grew.trans hG hb
  clear hb
  generalize more w2 mq = w3 at *
  go_wp2
  go_ret
  exact ⟨rfl, hG⟩
 have hFA := zqfb (j := A % n) hF hs
 have hFC := zqfb (j := B % n) hF ht
 exact order13_core (ad := ad) (n := n) (c := c) (m := 2 * n - 1) (q := 2 * n - 1 - 1) (I := A % n) (K := B % n) (la := A) (lb := B) (F := F) (PR := prF F n) (PA := prF (updL F (A % n) s) n) (PB := prF (updL (updL F (A % n) s) (B % n) t) n) (PC := prF (updL F (B % n) t) n) (PU := fun i => pubF (treeF F n (i + 1))) (PUB := fun i => pubF (treeF (updL (updL F (A % n) s) (B % n) t) n (i + 1))) (s := s) (t := t) (R0 := treeF F n 0) (R1 := treeF (updL (updL F (A % n) s) (B % n) t) n 0) (w := w) (hT := hT) (hK0 := hK) (h2 := h2) (h12 := h12) (hq := by omega) (hI := hI) (hK := hKn) (hIK := hIK) (hla := hla) (hlb := hlb) (hl0 := hl0) (hl1 := hl1) (hm0 := hm0) (hm1 := hm1) (aw := aw)
  (cMk := fun W h hT => zqfi F (some ad) n (2 * n - 1) c W hm h2 hn hF h hT)
  (cR1 := (fun g c2 W h hT => by
    have := zqc5 F g (2 * n - 1) c2 n (A % n) s W hm h2 hn hI hF hs h hT
    exact this)) (cR2 := (fun g c2 W h hT => by
    have := zqc5 (updL F (A % n) s) g (2 * n - 1) c2 n (B % n) t W hm h2 hn hKn hFA ht h hT
    exact this)) (cR3 := (fun g c2 W h hT => by
    have := zqc5 F g (2 * n - 1) c2 n (B % n) t W hm h2 hn hKn hF ht h hT
    exact this)) (cR4 := (fun g c2 W h hT => by
    have := zqc5 (updL F (B % n) t) g (2 * n - 1) c2 n (A % n) s W hm h2 hn hI hFC hs h hT
    rw [← updL_swap F s t hIK] at this
    exact this)) (cR5 := (fun g c2 W h hT => by
    have := zqc5 F g (2 * n - 1) c2 n (A % n) (F (A % n)) W hm h2 hn hI hF (hF _ hI) h hT
    rw [updL_self] at this
    exact this))
  (cPu := fun g c2 W h => zqc9 (treeF F n) (fun i => pubF (treeF F n i)) g (2 * n - 1) c2 W (by omega) h)
  (cPuB := fun g c2 W h => zqc9 (treeF (updL (updL F (A % n) s) (B % n) t) n) (fun i => pubF (treeF (updL (updL F (A % n) s) (B % n) t) n i)) g (2 * n - 1) c2 W (by omega) h)
  (cRt := fun g c2 W h => zqfl (treeF F n) (fun i => pubF (treeF F n i)) g (2 * n - 1) c2 W (by omega) (by omega) h)
  (cRtB := fun g c2 W h => zqfl (treeF (updL (updL F (A % n) s) (B % n) t) n) (fun i => pubF (treeF (updL (updL F (A % n) s) (B % n) t) n i)) g (2 * n - 1) c2 W (by omega) (by omega) h)
end Go.Proofs.YtconieddcjpbjaaGreatDoor
