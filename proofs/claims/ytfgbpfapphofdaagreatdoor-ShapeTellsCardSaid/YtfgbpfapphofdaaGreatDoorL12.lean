/- L12 -/
import Derived.Test.YtfgbpfapphofdaaGreatDoorR12
import Derived.Test.YtfgbpfapphofdaaGreatDoorNds
import Derived.Test.YtfgbpfapphofdaaGreatDoorL11
import Derived.Test.YtfgbpfapphofdaaGreatDoorElems
set_option maxRecDepth 100000
set_option maxHeartbeats 4000000
namespace Go.Proofs.YtfgbpfapphofdaaGreatDoor
open Go.RowKit
set_option linter.unusedVariables false
set_option linter.unusedSimpArgs false
def OfC : Prop := ∀ (k : Nat → Int) (W : World), Bytes 32 k → Calls Tryz.prog 27 #[.agg (ints .u8 32 k)] W fun e w' => e = .returned (.agg (ints .u8 64 (keysF k (keyV (pubV k))))) ∧ Below W.heap.size W w'
def RightC : Prop := ∀ (x z : Nat → Int) (W : World), Bytes 32 x → Bytes 32 z → Calls Tryz.prog 34 #[.agg (ints .u8 64 (keysF x z))] W fun e w' => e = .returned (.bool (same 32 z (keyV (pubV x)))) ∧ Below W.heap.size W w'
def UpC : Prop := ∀ (k p : Nat → Int) (W : World), Bytes 32 k → Bytes 32 p → Tabs W → Calls Tryz.prog 31 #[.agg (ints .u8 32 k), .agg (ints .u8 32 p)] W fun e w' => e = .returned (.tuple #[.agg (ints .u8 32 (upF k p)), .bool (upOK k p)]) ∧ Below W.heap.size W w'
def ClimbC : Prop := ∀ (k : Nat → Int) (P : Nat → Nat → Int) (oa : Option Addr) (n c : Nat) (W : World), Bytes 32 k → n ≤ 1000 → (∀ i, i < n → Bytes 32 (P i)) → K32At W oa n P → Tabs W → Calls Tryz.prog 28 #[.agg (ints .u8 32 k), .slice oa n c] W (RetClimb W k P n)
theorem climb_ok {f : FuncId} {args : Array Value} {W : World} {k : Nat → Int} {P : Nat → Nat → Int} {n : Nat} (h : Calls Tryz.prog f args W (RetClimb W k P n)) (ho : climbOK k P n = true) :
  Calls Tryz.prog f args W fun e w' => ∃ oa c, e = .returned (.tuple #[.slice oa (n + 1) c, .bool true]) ∧ n + 1 ≤ c ∧ K32At w' oa (n + 1) (climbS k P) ∧ Below W.heap.size W w' := by
 refine h.mono ?_
 rintro e w' ⟨hb, ⟨_, oa, c, he, hc, hK⟩ | ⟨h2, _⟩⟩
 ·exact ⟨oa, c, he, hc, hK, hb⟩
 ·rw [ho] at h2; cases h2
theorem climb_no {f : FuncId} {args : Array Value} {W : World} {k : Nat → Int} {P : Nat → Nat → Int} {n : Nat} (h : Calls Tryz.prog f args W (RetClimb W k P n)) (ho : climbOK k P n = false) :
  Calls Tryz.prog f args W fun e w' => e = .returned (.tuple #[.slice none 0 0, .bool false]) ∧ Below W.heap.size W w' := by
 refine h.mono ?_
 rintro e w' ⟨hb, ⟨h2, _⟩ | ⟨_, he⟩⟩
 ·rw [ho] at h2; cases h2
 ·exact ⟨he, hb⟩
theorem K32At.load0 {w : World} {ad : Addr} {n : Nat} {F : Nat → Nat → Int} (h : K32At w (some ad) n F) (hj : 0 < n) {w' : World} (hb : Below w.heap.size w w') : (loadNext 47 (.pointer (some ad))).run Tryz.prog w' = .ok (.value (.agg (ints .u8 32 (F 0)))) w' := by
 have := h.loadK hj hb
 rw [show ad.add (0 * 32) = ad by simp [Addr.add]] at this
 exact this
theorem k32_loadAt {w : World} {ad : Addr} {n : Nat} {F : Nat → Nat → Int} (h : K32At w (some ad) n F) {j : Nat} (hj : j < n) (h0 : 0 < j) {w' : World} (hb : Below w.heap.size w w') : (loadNext 47 (.pointer (some ⟨ad.block, ad.off + j * 32, none⟩))).run Tryz.prog w' = .ok (.value (.agg (ints .u8 32 (F j)))) w' := by
 have := h.loadK hj hb
 rw [show ad.add (j * 32) = ⟨ad.block, ad.off + j * 32, none⟩ by unfold Addr.add; rw [if_neg (by omega)]] at this
 exact this
@[go_sem] theorem one_key7 (w : World) : (oneKeyNext (.int .u8 7)).run Tryz.prog w = .ok (.value (.agg (ints .u8 32 (upd nought 0 7)))) w := by kernel_rfl
attribute [local irreducible] nodeF labelF oneF macF shaF strOf keyV shV pubV upF upOK
theorem Awake11_any (aw : ∀ W : World, Tabs W → Calls Tryz.prog 8 #[] W fun e w' => e = .returned (.bool true) ∧ Below W.heap.size W w') (w : World) (hT : Tabs w) :
  Calls Tryz.prog 45 #[] w fun e w' => e = .returned (.bool true) ∧ Below w.heap.size w w' := by
 have hG := Grew.refl w
 go_enter Tryz.func45, Tryz.ntmps45
 go_wp2_with fail
 (refine (aw _ hT).mono ?_; rintro e w1 ⟨rfl, hb⟩; replace hG : Below w.heap.size w w1 := Grew.trans (by exact grew_auto) hb; clear hb)
 go_wp2
 go_ret
 exact ⟨rfl, by exact grew_auto⟩
theorem awake12_walk (z PZ : Nat → Int) (w : World) (hT : Tabs w) (hz : z = upd nought 0 7)
  (cC : ∀ W : World, Tabs W → Calls Tryz.prog 28 #[.agg (ints .u8 32 z), .slice none 0 0] W fun e w' => ∃ oa c, e = .returned (.tuple #[.slice oa 1 c, .bool true]) ∧ 1 ≤ c ∧ K32At w' oa 1 (fun _ => z) ∧ Below W.heap.size W w')
  (cO : ∀ W : World, Calls Tryz.prog 27 #[.agg (ints .u8 32 z)] W fun e w' => e = .returned (.agg (ints .u8 64 (keysF z PZ))) ∧ Below W.heap.size W w') (cR : ∀ W : World, Calls Tryz.prog 34 #[.agg (ints .u8 64 (keysF z PZ))] W fun e w' => e = .returned (.bool true) ∧ Below W.heap.size W w') (aw : ∀ W : World, Tabs W → Calls Tryz.prog 45 #[] W fun e w' => e = .returned (.bool true) ∧ Below W.heap.size W w') :
  Calls Tryz.prog 26 #[] w fun e w' => e = .returned (.bool true) ∧ Below w.heap.size w w' := by
 have hTT : Hid (Tabs w) := hT
 clear hT
 have hsz := same_refl 32 z
 subst hz
 have hG := Grew.refl w
 go_enter Tryz.func26, Tryz.ntmps26
 go_wp2_with fail
 refine (cC _ (hTT.out.later hG)).mono ?_
 rintro e w1 ⟨oa, c, rfl, hc, hK, hb⟩
 replace hG : Below w.heap.size w w1 := Grew.trans hG hb
 have HK : Hid (K32At w1 oa 1 (fun _ => upd nought 0 7)) := hK
 obtain ⟨ad, rfl⟩ := hK.addr (by decide)
 clear hb cC hc hK
 go_wp2_with fail
 refine (aw _ (hTT.out.later hG)).mono ?_
 rintro e w2 ⟨rfl, hb2⟩
 have l0 := HK.out.load0 (by decide) hb2
 replace hG : Below w.heap.size w w2 := Grew.trans hG hb2
 clear hb2 HK
 go_wp2_with fail
 refine (cO _).mono ?_
 rintro e w3 ⟨rfl, hb3⟩
 replace hG : Below w.heap.size w w3 := Grew.trans hG hb3
 clear hb3 l0
 go_wp2_with fail
 refine (cR _).mono ?_
 rintro e w4 ⟨rfl, hb4⟩
 replace hG : Below w.heap.size w w4 := Grew.trans hG hb4
 go_wp2
 go_ret
 exact ⟨rfl, hG⟩
theorem seven_bytes : Bytes 32 (upd nought 0 7) := fun i hi => by unfold upd nought; split <;> omega
theorem awake12_any (pClimbC : ClimbC) (pOfC : OfC) (pRightC : RightC) (aw : ∀ W : World, Tabs W → Calls Tryz.prog 45 #[] W fun e w' => e = .returned (.bool true) ∧ Below W.heap.size W w') (w : World) (hT : Tabs w) :
  Calls Tryz.prog 26 #[] w fun e w' => e = .returned (.bool true) ∧ Below w.heap.size w w' := by
 refine awake12_walk _ (keyV (pubV (upd nought 0 7))) w hT rfl (fun W h => ?_) (fun W => pOfC _ W seven_bytes) (fun W => ?_) aw
 ·have := climb_ok (pClimbC (upd nought 0 7) (fun _ => nought) none 0 0 W seven_bytes (by decide) (fun i hi => by omega) (K32At.nil _ _) h) rfl
  refine this.mono ?_
  rintro e w' ⟨oa, c, he, hc, hK, hb⟩
  have hK2 : K32At w' oa 1 (fun _ => upd nought 0 7) := hK.congr (fun j hj => by
   obtain rfl : j = 0 := by omega
   rfl)
  exact ⟨oa, c, he, hc, hK2, hb⟩
 ·have := pRightC (upd nought 0 7) (keyV (pubV (upd nought 0 7))) W seven_bytes (keyV_bytes _)
  rw [same_refl] at this
  exact this
theorem meets12_yes (a b o PA PB K1 K2 : Nat → Int) (S1 S2 : Nat → Nat → Int) (w : World) (hT : Tabs w)
  (h1 : Hid (S1 1 = K1))
  (h2 : Hid (S1 2 = K2))
  (h3 : Hid (S2 1 = K1))
  (h4 : Hid (S2 2 = K2))
  (cA : ∀ W : World, Calls Tryz.prog 27 #[.agg (ints .u8 32 a)] W fun e w' => e = .returned (.agg (ints .u8 64 (keysF a PA))) ∧ Below W.heap.size W w')
  (cB : ∀ W : World, Calls Tryz.prog 27 #[.agg (ints .u8 32 b)] W fun e w' => e = .returned (.agg (ints .u8 64 (keysF b PB))) ∧ Below W.heap.size W w')
  (cU : ∀ W : World, Tabs W → Calls Tryz.prog 31 #[.agg (ints .u8 32 a), .agg (ints .u8 32 PB)] W fun e w' => e = .returned (.tuple #[.agg (ints .u8 32 K1), .bool true]) ∧ Below W.heap.size W w')
  (cV : ∀ W : World, Tabs W → Calls Tryz.prog 31 #[.agg (ints .u8 32 b), .agg (ints .u8 32 PA)] W fun e w' => e = .returned (.tuple #[.agg (ints .u8 32 K1), .bool true]) ∧ Below W.heap.size W w')
  (cK : Hid (∀ (g : Nat) (W : World), K32At W (some ⟨g, 0, none⟩) 2 (two PB o) → Tabs W → Calls Tryz.prog 28 #[.agg (ints .u8 32 a), .slice (some ⟨g, 0, none⟩) 2 2] W fun e w' => ∃ oa c, e = .returned (.tuple #[.slice oa 3 c, .bool true]) ∧ 3 ≤ c ∧ K32At w' oa 3 S1 ∧ Below W.heap.size W w'))
  (cM : Hid (∀ (g : Nat) (W : World), K32At W (some ⟨g, 0, none⟩) 2 (two PA o) → Tabs W → Calls Tryz.prog 28 #[.agg (ints .u8 32 b), .slice (some ⟨g, 0, none⟩) 2 2] W fun e w' => ∃ oa c, e = .returned (.tuple #[.slice oa 3 c, .bool true]) ∧ 3 ≤ c ∧ K32At w' oa 3 S2 ∧ Below W.heap.size W w'))
  (aw : ∀ W : World, Tabs W → Calls Tryz.prog 26 #[] W fun e w' => e = .returned (.bool true) ∧ Below W.heap.size W w') :
  Calls Tryz.prog 7 #[.agg (ints .u8 32 a), .agg (ints .u8 32 b), .agg (ints .u8 32 o)] w fun e w' => e = .returned (.bool true) ∧ Below w.heap.size w w' := by
 have hTT : Hid (Tabs w) := hT
 clear hT
 have hm1 := same_refl 32 K1
 have hm2 := same_refl 32 K2
 have hG := Grew.refl w
 have fa : True := trivial
 have fb : True := trivial
 have fo : True := trivial
 go_enter Tryz.func7, Tryz.ntmps7
 go_wp2_with fail
 replace fa : objAt (((w.alloc (.cells (ints .u8 32 (a)) 47)).alloc (.cells (ints .u8 32 (b)) 47)).alloc (.cells (ints .u8 32 (o)) 47)) (w.heap.size) = some (.cells (ints .u8 32 (a)) 47) := by exact keep_auto
 replace fb : objAt (((w.alloc (.cells (ints .u8 32 (a)) 47)).alloc (.cells (ints .u8 32 (b)) 47)).alloc (.cells (ints .u8 32 (o)) 47)) (w.heap.size + 1) = some (.cells (ints .u8 32 (b)) 47) := by exact keep_auto
 replace fo : objAt (((w.alloc (.cells (ints .u8 32 (a)) 47)).alloc (.cells (ints .u8 32 (b)) 47)).alloc (.cells (ints .u8 32 (o)) 47)) (w.heap.size + 1 + 1) = some (.cells (ints .u8 32 (o)) 47) := by exact keep_auto
 replace hG : Below w.heap.size w (((w.alloc (.cells (ints .u8 32 (a)) 47)).alloc (.cells (ints .u8 32 (b)) 47)).alloc (.cells (ints .u8 32 (o)) 47)) := by exact grew_auto
 generalize ((w.alloc (.cells (ints .u8 32 (a)) 47)).alloc (.cells (ints .u8 32 (b)) 47)).alloc (.cells (ints .u8 32 (o)) 47) = w1 at *
 have lfa := lt_of_objAt fa
 have lfb := lt_of_objAt fb
 have lfo := lt_of_objAt fo
 go_wp2_with fail
 (refine (aw _ (hTT.out.later hG)).mono ?_; rintro e w2 ⟨rfl, hb⟩; replace fa : objAt w2 (w.heap.size) = some (.cells (ints .u8 32 (a)) 47) := keep_below hb (by exact keep_auto); have lfa := lt_of_objAt fa; replace fb : objAt w2 (w.heap.size + 1) = some (.cells (ints .u8 32 (b)) 47) := keep_below hb (by exact keep_auto); have lfb := lt_of_objAt fb; replace fo : objAt w2 (w.heap.size + 1 + 1) = some (.cells (ints .u8 32 (o)) 47) := keep_below hb (by exact keep_auto); have lfo := lt_of_objAt fo; replace hG : Below w.heap.size w w2 := Grew.trans (by exact grew_auto) hb; clear hb)
 go_wp2_with fail
 (refine wp_rel (by kernel_rfl) (by kernel_rfl) ?_; (repeat (first | refine exv_skip rfl ?_ | (refine exv_call rfl ?_; apply Exists.intro))); refine exv_nil ?_; intro γ hinj hbase; (repeat (first | (refine rel_quiet rfl ?_; ((first | go_big_quiet_skip | (go_big_quiet_want; go_big_quiet_op; go_big_quiet_on)); refine wpQuiet_nil ?_)) | ((first | refine rel_skip_some rfl (fun _ => rfl) ?_ | ((try simp only [Nat.zero_add, Nat.reduceAdd]); apply rel_box alloc_cls; (focus rfl); (focus (first | exact cells_agg _ | exact cells_int _ _ | exact cells_bool _ | rfl)); (focus (exact by_fits))) | ((try simp only [Nat.zero_add, Nat.reduceAdd]); apply rel_alloc _ _ alloc_cls; (focus rfl); (focus (intro W; (first | exact zero_key _ | exact zero_elem _ | exact zero_num _ | exact zero_pair _ | exact zero_rnode _ | exact zero_kpair _))); (focus (first | exact cells_ints _ _ _ | exact cells_two _ _ | rfl)); (focus (exact by_fits))) | ((try simp only [Nat.zero_add, Nat.reduceAdd]); apply rel_slice alloc_cls; (focus rfl); (focus (intro W; simp only [List.map_toArray, List.map_cons, List.map_nil]; first | fail)); (focus (exact by_fits))) | (apply rel_fact; (focus rfl); (focus rfl); (focus rfl); (focus (intro W hC hF; go_big_quiet_want; go_big_quiet_op; (first | go_big_quiet_on | (apply Exists.intro; refine ⟨fun _ => ?_, ?_⟩; (focus (first | (with_reducible exact Calls.of_more (cA _)) | (with_reducible exact Calls.of_more (cB _)))); go_big_quiet_on)); exact wpQuiet_nil rfl)); (focus (first | exact fun _ => rfl | exact fun h => absurd h (by decide))))); ((first | go_big_quiet_skip | (go_big_quiet_want; go_big_quiet_op; go_big_quiet_on)); refine wpQuiet_nil ?_)) | refine rel_skip_none rfl (fun _ => rfl) ?_ | ((try simp only [Nat.zero_add, Nat.reduceAdd]); apply rel_store (setRow_cls (hbase _)); (focus rfl); (focus rfl); (focus rfl); (focus (first | exact cells_agg _ | exact cells_int _ _ | exact cells_bool _ | rfl)); rotate_left 3; (focus (exact by_mem)); rotate_right 3; (focus kernel_rfl); (focus (first | exact ints_size _ _ _ | rfl)); (focus (first | exact ints_ones _ _ _ | exact ones_two _ _ _ _ | kernel_rfl)); (focus (decide +kernel)); (focus (exact by_fits))))))
 (refine rel_nil ?_; rintro _ ⟨mq, rfl⟩ hF; simp only [List.forall_mem_cons] at hF; obtain ⟨fy, fx, -⟩ := hF)
 have nxa : ¬ (γ 4 = w.heap.size) := by have := hbase 4; omega
 have nax : ¬ (w.heap.size = γ 4) := fun e => nxa e.symm
 have nxb : ¬ (γ 4 = w.heap.size + 1) := by have := hbase 4; omega
 have nbx : ¬ (w.heap.size + 1 = γ 4) := fun e => nxb e.symm
 have nxo : ¬ (γ 4 = w.heap.size + 1 + 1) := by have := hbase 4; omega
 have nox : ¬ (w.heap.size + 1 + 1 = γ 4) := fun e => nxo e.symm
 have nya : ¬ (γ 5 = w.heap.size) := by have := hbase 5; omega
 have nay : ¬ (w.heap.size = γ 5) := fun e => nya e.symm
 have nyb : ¬ (γ 5 = w.heap.size + 1) := by have := hbase 5; omega
 have nby : ¬ (w.heap.size + 1 = γ 5) := fun e => nyb e.symm
 have nyo : ¬ (γ 5 = w.heap.size + 1 + 1) := by have := hbase 5; omega
 have noy : ¬ (w.heap.size + 1 + 1 = γ 5) := fun e => nyo e.symm
 have hw0 := hG.size
 have l0x : w.heap.size ≤ γ 4 := by have := hbase 4; omega
 have l0y : w.heap.size ≤ γ 5 := by have := hbase 5; omega
 clear hw0
 have nxy : ¬ (γ 4 = γ 5) := hinj _ _ (by decide)
 replace fa : objAt (more w2 mq) (w.heap.size) = some (.cells (ints .u8 32 (a)) 47) := keep_more _ fa
 replace fb : objAt (more w2 mq) (w.heap.size + 1) = some (.cells (ints .u8 32 (b)) 47) := keep_more _ fb
 replace fo : objAt (more w2 mq) (w.heap.size + 1 + 1) = some (.cells (ints .u8 32 (o)) 47) := keep_more _ fo
 replace hG : Below w.heap.size w (more w2 mq) := Grew.more hG _
 replace fx : objAt (more w2 mq) (γ 4) = some (.cells (ints .u8 64 (keysF (a) (PA))) 49) := fx
 replace fy : objAt (more w2 mq) (γ 5) = some (.cells (ints .u8 64 (keysF (b) (PB))) 49) := fy
 clear lfa lfb lfo
 clear hinj hbase
 generalize γ 4 = gx at *
 generalize γ 5 = gy at *
 generalize more w2 mq = w3 at *
 clear γ
 have lfa := lt_of_objAt fa
 have lfb := lt_of_objAt fb
 have lfo := lt_of_objAt fo
 have lfx := lt_of_objAt fx
 have lfy := lt_of_objAt fy
 go_wp2_with fail
 (refine (cU _ (hTT.out.later hG)).mono ?_; rintro e w4 ⟨rfl, hb⟩; replace fa : objAt w4 (w.heap.size) = some (.cells (ints .u8 32 (a)) 47) := keep_below hb (by exact keep_auto); have lfa := lt_of_objAt fa; replace fb : objAt w4 (w.heap.size + 1) = some (.cells (ints .u8 32 (b)) 47) := keep_below hb (by exact keep_auto); have lfb := lt_of_objAt fb; replace fo : objAt w4 (w.heap.size + 1 + 1) = some (.cells (ints .u8 32 (o)) 47) := keep_below hb (by exact keep_auto); have lfo := lt_of_objAt fo; replace fx : objAt w4 (gx) = some (.cells (ints .u8 64 (keysF (a) (PA))) 49) := keep_below hb (by exact keep_auto); have lfx := lt_of_objAt fx; replace fy : objAt w4 (gy) = some (.cells (ints .u8 64 (keysF (b) (PB))) 49) := keep_below hb (by exact keep_auto); have lfy := lt_of_objAt fy; replace hG : Below w.heap.size w w4 := Grew.trans (by exact grew_auto) hb; clear hb)
 go_wp2_with fail
 have fp : objAt (w4.alloc (.cells (ints .u8 32 (K1)) 47)) w4.heap.size = some (.cells (ints .u8 32 (K1)) 47) := objAt_alloc_at _ _ _ rfl
 replace fa : objAt (w4.alloc (.cells (ints .u8 32 (K1)) 47)) (w.heap.size) = some (.cells (ints .u8 32 (a)) 47) := keep_alloc _ fa
 replace fb : objAt (w4.alloc (.cells (ints .u8 32 (K1)) 47)) (w.heap.size + 1) = some (.cells (ints .u8 32 (b)) 47) := keep_alloc _ fb
 replace fo : objAt (w4.alloc (.cells (ints .u8 32 (K1)) 47)) (w.heap.size + 1 + 1) = some (.cells (ints .u8 32 (o)) 47) := keep_alloc _ fo
 replace fx : objAt (w4.alloc (.cells (ints .u8 32 (K1)) 47)) (gx) = some (.cells (ints .u8 64 (keysF (a) (PA))) 49) := keep_alloc _ fx
 replace fy : objAt (w4.alloc (.cells (ints .u8 32 (K1)) 47)) (gy) = some (.cells (ints .u8 64 (keysF (b) (PB))) 49) := keep_alloc _ fy
 replace hG : Below w.heap.size w (w4.alloc (.cells (ints .u8 32 (K1)) 47)) := Grew.alloc hG _
 clear lfa lfb lfo lfx lfy
 generalize w4.alloc (.cells (ints .u8 32 (K1)) 47) = w5 at *
 generalize w4.heap.size = gp at *
 have lfa := lt_of_objAt fa
 have lfb := lt_of_objAt fb
 have lfo := lt_of_objAt fo
 have lfx := lt_of_objAt fx
 have lfy := lt_of_objAt fy
 have lfp := lt_of_objAt fp
 go_wp2_with fail
 (refine (cV _ (hTT.out.later hG)).mono ?_; rintro e w6 ⟨rfl, hb⟩; replace fa : objAt w6 (w.heap.size) = some (.cells (ints .u8 32 (a)) 47) := keep_below hb (by exact keep_auto); have lfa := lt_of_objAt fa; replace fb : objAt w6 (w.heap.size + 1) = some (.cells (ints .u8 32 (b)) 47) := keep_below hb (by exact keep_auto); have lfb := lt_of_objAt fb; replace fo : objAt w6 (w.heap.size + 1 + 1) = some (.cells (ints .u8 32 (o)) 47) := keep_below hb (by exact keep_auto); have lfo := lt_of_objAt fo; replace fx : objAt w6 (gx) = some (.cells (ints .u8 64 (keysF (a) (PA))) 49) := keep_below hb (by exact keep_auto); have lfx := lt_of_objAt fx; replace fy : objAt w6 (gy) = some (.cells (ints .u8 64 (keysF (b) (PB))) 49) := keep_below hb (by exact keep_auto); have lfy := lt_of_objAt fy; replace fp : objAt w6 (gp) = some (.cells (ints .u8 32 (K1)) 47) := keep_below hb (by exact keep_auto); have lfp := lt_of_objAt fp; replace hG : Below w.heap.size w w6 := Grew.trans (by exact grew_auto) hb; clear hb)
 go_wp2_with fail
 have ea : objAt ((w6.alloc (.cells (ints .u8 32 (K1)) 47)).alloc (.cells (ints .u8 64 (rowK (two PB o))) 47)) (w.heap.size) = some (.cells (ints .u8 32 (a)) 47) := keep_alloc _ (keep_alloc _ (fa))
 have eb : objAt ((w6.alloc (.cells (ints .u8 32 (K1)) 47)).alloc (.cells (ints .u8 64 (rowK (two PB o))) 47)) (w.heap.size + 1) = some (.cells (ints .u8 32 (b)) 47) := keep_alloc _ (keep_alloc _ (fb))
 have eo : objAt ((w6.alloc (.cells (ints .u8 32 (K1)) 47)).alloc (.cells (ints .u8 64 (rowK (two PB o))) 47)) (w.heap.size + 1 + 1) = some (.cells (ints .u8 32 (o)) 47) := keep_alloc _ (keep_alloc _ (fo))
 have ex : objAt ((w6.alloc (.cells (ints .u8 32 (K1)) 47)).alloc (.cells (ints .u8 64 (rowK (two PB o))) 47)) (gx) = some (.cells (ints .u8 64 (keysF (a) (PA))) 49) := keep_alloc _ (keep_alloc _ (fx))
 have ey : objAt ((w6.alloc (.cells (ints .u8 32 (K1)) 47)).alloc (.cells (ints .u8 64 (rowK (two PB o))) 47)) (gy) = some (.cells (ints .u8 64 (keysF (b) (PB))) 49) := keep_alloc _ (keep_alloc _ (fy))
 have ep : objAt ((w6.alloc (.cells (ints .u8 32 (K1)) 47)).alloc (.cells (ints .u8 64 (rowK (two PB o))) 47)) (gp) = some (.cells (ints .u8 32 (K1)) 47) := keep_alloc _ (keep_alloc _ (fp))
 have eq : objAt ((w6.alloc (.cells (ints .u8 32 (K1)) 47)).alloc (.cells (ints .u8 64 (rowK (two PB o))) 47)) (w6.heap.size) = some (.cells (ints .u8 32 (K1)) 47) := keep_alloc _ (objAt_alloc_at _ _ _ rfl)
 have el : objAt ((w6.alloc (.cells (ints .u8 32 (K1)) 47)).alloc (.cells (ints .u8 64 (rowK (two PB o))) 47)) (w6.heap.size + 1) = some (.cells (ints .u8 64 (rowK (two PB o))) 47) := objAt_alloc_at _ _ _ (by simp)
 replace hG : Below w.heap.size w ((w6.alloc (.cells (ints .u8 32 (K1)) 47)).alloc (.cells (ints .u8 64 (rowK (two PB o))) 47)) := Grew.alloc (Grew.alloc (hG) _) _
 clear fa lfa fb lfb fo lfo fx lfx fy lfy fp lfp
 generalize (w6.alloc (.cells (ints .u8 32 (K1)) 47)).alloc (.cells (ints .u8 64 (rowK (two PB o))) 47) = w7 at *
 generalize w6.heap.size + 1 = gl at *
 generalize w6.heap.size = gq at *
 have fa := ea
 have fb := eb
 have fo := eo
 have fx := ex
 have fy := ey
 have fp := ep
 have fl := el
 have fq := eq
 clear ea eb eo ex ey ep el eq
 have lfa := lt_of_objAt fa
 have lfb := lt_of_objAt fb
 have lfo := lt_of_objAt fo
 have lfx := lt_of_objAt fx
 have lfy := lt_of_objAt fy
 have lfp := lt_of_objAt fp
 have lfl := lt_of_objAt fl
 have lfq := lt_of_objAt fq
 have hkl := k32_of_row fl (by decide) (rowK_at (two PB o) 2)
 go_wp2_with fail
 refine (cK.out _ _ hkl (hTT.out.later hG)).mono ?_
 rintro e w8 ⟨ol, cl, rfl, -, hKl, hb⟩
 clear hkl
 replace fa : objAt w8 (w.heap.size) = some (.cells (ints .u8 32 (a)) 47) := keep_below hb fa
 replace lfa := lt_of_objAt fa
 replace fb : objAt w8 (w.heap.size + 1) = some (.cells (ints .u8 32 (b)) 47) := keep_below hb fb
 replace lfb := lt_of_objAt fb
 replace fo : objAt w8 (w.heap.size + 1 + 1) = some (.cells (ints .u8 32 (o)) 47) := keep_below hb fo
 replace lfo := lt_of_objAt fo
 replace fx : objAt w8 (gx) = some (.cells (ints .u8 64 (keysF (a) (PA))) 49) := keep_below hb fx
 replace lfx := lt_of_objAt fx
 replace fy : objAt w8 (gy) = some (.cells (ints .u8 64 (keysF (b) (PB))) 49) := keep_below hb fy
 replace lfy := lt_of_objAt fy
 replace fp : objAt w8 (gp) = some (.cells (ints .u8 32 (K1)) 47) := keep_below hb fp
 replace lfp := lt_of_objAt fp
 replace fl : objAt w8 (gl) = some (.cells (ints .u8 64 (rowK (two PB o))) 47) := keep_below hb fl
 replace lfl := lt_of_objAt fl
 replace fq : objAt w8 (gq) = some (.cells (ints .u8 32 (K1)) 47) := keep_below hb fq
 replace lfq := lt_of_objAt fq
 replace hG : Below w.heap.size w w8 := Grew.trans hG hb
 have HKl : Hid (K32At w8 ol 3 S1) := hKl
 clear hKl hb
 clear fl lfl
 have hbl : Below w8.heap.size w8 w8 := Grew.refl _
 go_wp2_with fail
 have fm : objAt (w8.alloc (.cells (ints .u8 64 (rowK (two PA o))) 47)) w8.heap.size = some (.cells (ints .u8 64 (rowK (two PA o))) 47) := objAt_alloc_at _ _ _ rfl
 replace fa : objAt (w8.alloc (.cells (ints .u8 64 (rowK (two PA o))) 47)) (w.heap.size) = some (.cells (ints .u8 32 (a)) 47) := keep_alloc _ fa
 replace fb : objAt (w8.alloc (.cells (ints .u8 64 (rowK (two PA o))) 47)) (w.heap.size + 1) = some (.cells (ints .u8 32 (b)) 47) := keep_alloc _ fb
 replace fo : objAt (w8.alloc (.cells (ints .u8 64 (rowK (two PA o))) 47)) (w.heap.size + 1 + 1) = some (.cells (ints .u8 32 (o)) 47) := keep_alloc _ fo
 replace fx : objAt (w8.alloc (.cells (ints .u8 64 (rowK (two PA o))) 47)) (gx) = some (.cells (ints .u8 64 (keysF (a) (PA))) 49) := keep_alloc _ fx
 replace fy : objAt (w8.alloc (.cells (ints .u8 64 (rowK (two PA o))) 47)) (gy) = some (.cells (ints .u8 64 (keysF (b) (PB))) 49) := keep_alloc _ fy
 replace fp : objAt (w8.alloc (.cells (ints .u8 64 (rowK (two PA o))) 47)) (gp) = some (.cells (ints .u8 32 (K1)) 47) := keep_alloc _ fp
 replace fq : objAt (w8.alloc (.cells (ints .u8 64 (rowK (two PA o))) 47)) (gq) = some (.cells (ints .u8 32 (K1)) 47) := keep_alloc _ fq
 replace hG : Below w.heap.size w (w8.alloc (.cells (ints .u8 64 (rowK (two PA o))) 47)) := Grew.alloc hG _
 clear lfa lfb lfo lfx lfy lfp lfq
 replace hbl : Below w8.heap.size w8 (w8.alloc (.cells (ints .u8 64 (rowK (two PA o))) 47)) := Grew.alloc (Grew.refl _) _
 replace HKl : Hid (K32At (w8.alloc (.cells (ints .u8 64 (rowK (two PA o))) 47)) ol 3 S1) := HKl.out.later hbl
 clear hbl
 generalize w8.alloc (.cells (ints .u8 64 (rowK (two PA o))) 47) = w9 at *
 generalize w8.heap.size = gm at *
 have lfa := lt_of_objAt fa
 have lfb := lt_of_objAt fb
 have lfo := lt_of_objAt fo
 have lfx := lt_of_objAt fx
 have lfy := lt_of_objAt fy
 have lfp := lt_of_objAt fp
 have lfq := lt_of_objAt fq
 have lfm := lt_of_objAt fm
 have hkm := k32_of_row fm (by decide) (rowK_at (two PA o) 2)
 go_wp2_with fail
 refine (cM.out _ _ hkm (hTT.out.later hG)).mono ?_
 rintro e w10 ⟨om, cm, rfl, -, hKm, hb⟩
 replace fa : objAt w10 (w.heap.size) = some (.cells (ints .u8 32 (a)) 47) := keep_below hb fa
 replace lfa := lt_of_objAt fa
 replace fb : objAt w10 (w.heap.size + 1) = some (.cells (ints .u8 32 (b)) 47) := keep_below hb fb
 replace lfb := lt_of_objAt fb
 replace fo : objAt w10 (w.heap.size + 1 + 1) = some (.cells (ints .u8 32 (o)) 47) := keep_below hb fo
 replace lfo := lt_of_objAt fo
 replace fx : objAt w10 (gx) = some (.cells (ints .u8 64 (keysF (a) (PA))) 49) := keep_below hb fx
 replace lfx := lt_of_objAt fx
 replace fy : objAt w10 (gy) = some (.cells (ints .u8 64 (keysF (b) (PB))) 49) := keep_below hb fy
 replace lfy := lt_of_objAt fy
 replace fp : objAt w10 (gp) = some (.cells (ints .u8 32 (K1)) 47) := keep_below hb fp
 replace lfp := lt_of_objAt fp
 replace fq : objAt w10 (gq) = some (.cells (ints .u8 32 (K1)) 47) := keep_below hb fq
 replace lfq := lt_of_objAt fq
 replace fm : objAt w10 (gm) = some (.cells (ints .u8 64 (rowK (two PA o))) 47) := keep_below hb fm
 replace lfm := lt_of_objAt fm
 have HKm : Hid (K32At w10 om 3 S2) := hKm
 replace HKl : Hid (K32At w10 ol 3 S1) := HKl.out.later hb
 replace hG : Below w.heap.size w w10 := Grew.trans hG hb
 clear hb hKm hkm
 obtain ⟨al, rfl⟩ := HKl.out.addr (by decide)
 obtain ⟨am, rfl⟩ := HKm.out.addr (by decide)
 have l1 := fun q : More => k32_loadAt HKl.out (j := 1) (by decide) (by decide) (below_more w10 q)
 have l2 := fun q : More => k32_loadAt HKl.out (j := 2) (by decide) (by decide) (below_more w10 q)
 have m1 := fun q : More => k32_loadAt HKm.out (j := 1) (by decide) (by decide) (below_more w10 q)
 have m2 := fun q : More => k32_loadAt HKm.out (j := 2) (by decide) (by decide) (below_more w10 q)
 rw [h1.out] at l1
 rw [h2.out] at l2
 rw [h3.out] at m1
 rw [h4.out] at m2
 simp only [Nat.reduceMul] at l1 l2 m1 m2
 clear HKl HKm
 go_wp2_with fail
 ((first | (with_reducible refine wp_region_on (by kernel_rfl) (by kernel_rfl) ?_) | refine wp_region_more (by kernel_rfl) (by kernel_rfl) ?_); (repeat (first | go_big_quiet_skip | (go_big_quiet_want; go_big_quiet_op; first | go_big_quiet_on | (apply Exists.intro; refine ⟨fun _ => ?_, ?_⟩; (focus (fail)); go_big_quiet_on)))); refine wpQuiet_nil ?_; rintro _ ⟨mq, rfl⟩)
 have hGx : Below w.heap.size w (more w10 mq) := Grew.more hG mq
 generalize more w10 mq = wx at *
 go_wp2
 go_ret
 exact ⟨rfl, hGx⟩
theorem meets12_no (a b o PA PB K1 K2 : Nat → Int) (S1 S2 : Nat → Nat → Int) (w : World) (hT : Tabs w)
  (cA : ∀ W : World, Calls Tryz.prog 27 #[.agg (ints .u8 32 a)] W fun e w' => e = .returned (.agg (ints .u8 64 (keysF a PA))) ∧ Below W.heap.size W w')
  (cB : ∀ W : World, Calls Tryz.prog 27 #[.agg (ints .u8 32 b)] W fun e w' => e = .returned (.agg (ints .u8 64 (keysF b PB))) ∧ Below W.heap.size W w')
  (cU : ∀ W : World, Tabs W → Calls Tryz.prog 31 #[.agg (ints .u8 32 a), .agg (ints .u8 32 PB)] W fun e w' => e = .returned (.tuple #[.agg (ints .u8 32 K1), .bool true]) ∧ Below W.heap.size W w')
  (cV : ∀ W : World, Tabs W → Calls Tryz.prog 31 #[.agg (ints .u8 32 b), .agg (ints .u8 32 PA)] W fun e w' => e = .returned (.tuple #[.agg (ints .u8 32 K1), .bool true]) ∧ Below W.heap.size W w')
  (cK : Hid (∀ (g : Nat) (W : World), K32At W (some ⟨g, 0, none⟩) 2 (two PB o) → Tabs W → Calls Tryz.prog 28 #[.agg (ints .u8 32 a), .slice (some ⟨g, 0, none⟩) 2 2] W fun e w' => e = .returned (.tuple #[.slice none 0 0, .bool false]) ∧ Below W.heap.size W w'))
  (cM : Hid (∀ (g : Nat) (W : World), K32At W (some ⟨g, 0, none⟩) 2 (two PA o) → Tabs W → Calls Tryz.prog 28 #[.agg (ints .u8 32 b), .slice (some ⟨g, 0, none⟩) 2 2] W fun e w' => e = .returned (.tuple #[.slice none 0 0, .bool false]) ∧ Below W.heap.size W w'))
  (aw : ∀ W : World, Tabs W → Calls Tryz.prog 26 #[] W fun e w' => e = .returned (.bool true) ∧ Below W.heap.size W w') :
  Calls Tryz.prog 7 #[.agg (ints .u8 32 a), .agg (ints .u8 32 b), .agg (ints .u8 32 o)] w fun e w' => e = .returned (.bool true) ∧ Below w.heap.size w w' := by
 have hTT : Hid (Tabs w) := hT
 clear hT
 have hm1 := same_refl 32 K1
 have hm2 := same_refl 32 K2
 have hG := Grew.refl w
 have fa : True := trivial
 have fb : True := trivial
 have fo : True := trivial
 go_enter Tryz.func7, Tryz.ntmps7
 go_wp2_with fail
 replace fa : objAt (((w.alloc (.cells (ints .u8 32 (a)) 47)).alloc (.cells (ints .u8 32 (b)) 47)).alloc (.cells (ints .u8 32 (o)) 47)) (w.heap.size) = some (.cells (ints .u8 32 (a)) 47) := by exact keep_auto
 replace fb : objAt (((w.alloc (.cells (ints .u8 32 (a)) 47)).alloc (.cells (ints .u8 32 (b)) 47)).alloc (.cells (ints .u8 32 (o)) 47)) (w.heap.size + 1) = some (.cells (ints .u8 32 (b)) 47) := by exact keep_auto
 replace fo : objAt (((w.alloc (.cells (ints .u8 32 (a)) 47)).alloc (.cells (ints .u8 32 (b)) 47)).alloc (.cells (ints .u8 32 (o)) 47)) (w.heap.size + 1 + 1) = some (.cells (ints .u8 32 (o)) 47) := by exact keep_auto
 replace hG : Below w.heap.size w (((w.alloc (.cells (ints .u8 32 (a)) 47)).alloc (.cells (ints .u8 32 (b)) 47)).alloc (.cells (ints .u8 32 (o)) 47)) := by exact grew_auto
 generalize ((w.alloc (.cells (ints .u8 32 (a)) 47)).alloc (.cells (ints .u8 32 (b)) 47)).alloc (.cells (ints .u8 32 (o)) 47) = w1 at *
 have lfa := lt_of_objAt fa
 have lfb := lt_of_objAt fb
 have lfo := lt_of_objAt fo
 go_wp2_with fail
 (refine (aw _ (hTT.out.later hG)).mono ?_; rintro e w2 ⟨rfl, hb⟩; replace fa : objAt w2 (w.heap.size) = some (.cells (ints .u8 32 (a)) 47) := keep_below hb (by exact keep_auto); have lfa := lt_of_objAt fa; replace fb : objAt w2 (w.heap.size + 1) = some (.cells (ints .u8 32 (b)) 47) := keep_below hb (by exact keep_auto); have lfb := lt_of_objAt fb; replace fo : objAt w2 (w.heap.size + 1 + 1) = some (.cells (ints .u8 32 (o)) 47) := keep_below hb (by exact keep_auto); have lfo := lt_of_objAt fo; replace hG : Below w.heap.size w w2 := Grew.trans (by exact grew_auto) hb; clear hb)
 go_wp2_with fail
 (refine wp_rel (by kernel_rfl) (by kernel_rfl) ?_; (repeat (first | refine exv_skip rfl ?_ | (refine exv_call rfl ?_; apply Exists.intro))); refine exv_nil ?_; intro γ hinj hbase; (repeat (first | (refine rel_quiet rfl ?_; ((first | go_big_quiet_skip | (go_big_quiet_want; go_big_quiet_op; go_big_quiet_on)); refine wpQuiet_nil ?_)) | ((first | refine rel_skip_some rfl (fun _ => rfl) ?_ | ((try simp only [Nat.zero_add, Nat.reduceAdd]); apply rel_box alloc_cls; (focus rfl); (focus (first | exact cells_agg _ | exact cells_int _ _ | exact cells_bool _ | rfl)); (focus (exact by_fits))) | ((try simp only [Nat.zero_add, Nat.reduceAdd]); apply rel_alloc _ _ alloc_cls; (focus rfl); (focus (intro W; (first | exact zero_key _ | exact zero_elem _ | exact zero_num _ | exact zero_pair _ | exact zero_rnode _ | exact zero_kpair _))); (focus (first | exact cells_ints _ _ _ | exact cells_two _ _ | rfl)); (focus (exact by_fits))) | ((try simp only [Nat.zero_add, Nat.reduceAdd]); apply rel_slice alloc_cls; (focus rfl); (focus (intro W; simp only [List.map_toArray, List.map_cons, List.map_nil]; first | fail)); (focus (exact by_fits))) | (apply rel_fact; (focus rfl); (focus rfl); (focus rfl); (focus (intro W hC hF; go_big_quiet_want; go_big_quiet_op; (first | go_big_quiet_on | (apply Exists.intro; refine ⟨fun _ => ?_, ?_⟩; (focus (first | (with_reducible exact Calls.of_more (cA _)) | (with_reducible exact Calls.of_more (cB _)))); go_big_quiet_on)); exact wpQuiet_nil rfl)); (focus (first | exact fun _ => rfl | exact fun h => absurd h (by decide))))); ((first | go_big_quiet_skip | (go_big_quiet_want; go_big_quiet_op; go_big_quiet_on)); refine wpQuiet_nil ?_)) | refine rel_skip_none rfl (fun _ => rfl) ?_ | ((try simp only [Nat.zero_add, Nat.reduceAdd]); apply rel_store (setRow_cls (hbase _)); (focus rfl); (focus rfl); (focus rfl); (focus (first | exact cells_agg _ | exact cells_int _ _ | exact cells_bool _ | rfl)); rotate_left 3; (focus (exact by_mem)); rotate_right 3; (focus kernel_rfl); (focus (first | exact ints_size _ _ _ | rfl)); (focus (first | exact ints_ones _ _ _ | exact ones_two _ _ _ _ | kernel_rfl)); (focus (decide +kernel)); (focus (exact by_fits))))))
 (refine rel_nil ?_; rintro _ ⟨mq, rfl⟩ hF; simp only [List.forall_mem_cons] at hF; obtain ⟨fy, fx, -⟩ := hF)
 have nxa : ¬ (γ 4 = w.heap.size) := by have := hbase 4; omega
 have nax : ¬ (w.heap.size = γ 4) := fun e => nxa e.symm
 have nxb : ¬ (γ 4 = w.heap.size + 1) := by have := hbase 4; omega
 have nbx : ¬ (w.heap.size + 1 = γ 4) := fun e => nxb e.symm
 have nxo : ¬ (γ 4 = w.heap.size + 1 + 1) := by have := hbase 4; omega
 have nox : ¬ (w.heap.size + 1 + 1 = γ 4) := fun e => nxo e.symm
 have nya : ¬ (γ 5 = w.heap.size) := by have := hbase 5; omega
 have nay : ¬ (w.heap.size = γ 5) := fun e => nya e.symm
 have nyb : ¬ (γ 5 = w.heap.size + 1) := by have := hbase 5; omega
 have nby : ¬ (w.heap.size + 1 = γ 5) := fun e => nyb e.symm
 have nyo : ¬ (γ 5 = w.heap.size + 1 + 1) := by have := hbase 5; omega
 have noy : ¬ (w.heap.size + 1 + 1 = γ 5) := fun e => nyo e.symm
 have hw0 := hG.size
 have l0x : w.heap.size ≤ γ 4 := by have := hbase 4; omega
 have l0y : w.heap.size ≤ γ 5 := by have := hbase 5; omega
 clear hw0
 have nxy : ¬ (γ 4 = γ 5) := hinj _ _ (by decide)
 replace fa : objAt (more w2 mq) (w.heap.size) = some (.cells (ints .u8 32 (a)) 47) := keep_more _ fa
 replace fb : objAt (more w2 mq) (w.heap.size + 1) = some (.cells (ints .u8 32 (b)) 47) := keep_more _ fb
 replace fo : objAt (more w2 mq) (w.heap.size + 1 + 1) = some (.cells (ints .u8 32 (o)) 47) := keep_more _ fo
 replace hG : Below w.heap.size w (more w2 mq) := Grew.more hG _
 replace fx : objAt (more w2 mq) (γ 4) = some (.cells (ints .u8 64 (keysF (a) (PA))) 49) := fx
 replace fy : objAt (more w2 mq) (γ 5) = some (.cells (ints .u8 64 (keysF (b) (PB))) 49) := fy
 clear lfa lfb lfo
 clear hinj hbase
 generalize γ 4 = gx at *
 generalize γ 5 = gy at *
 generalize more w2 mq = w3 at *
 clear γ
 have lfa := lt_of_objAt fa
 have lfb := lt_of_objAt fb
 have lfo := lt_of_objAt fo
 have lfx := lt_of_objAt fx
 have lfy := lt_of_objAt fy
 go_wp2_with fail
 (refine (cU _ (hTT.out.later hG)).mono ?_; rintro e w4 ⟨rfl, hb⟩; replace fa : objAt w4 (w.heap.size) = some (.cells (ints .u8 32 (a)) 47) := keep_below hb (by exact keep_auto); have lfa := lt_of_objAt fa; replace fb : objAt w4 (w.heap.size + 1) = some (.cells (ints .u8 32 (b)) 47) := keep_below hb (by exact keep_auto); have lfb := lt_of_objAt fb; replace fo : objAt w4 (w.heap.size + 1 + 1) = some (.cells (ints .u8 32 (o)) 47) := keep_below hb (by exact keep_auto); have lfo := lt_of_objAt fo; replace fx : objAt w4 (gx) = some (.cells (ints .u8 64 (keysF (a) (PA))) 49) := keep_below hb (by exact keep_auto); have lfx := lt_of_objAt fx; replace fy : objAt w4 (gy) = some (.cells (ints .u8 64 (keysF (b) (PB))) 49) := keep_below hb (by exact keep_auto); have lfy := lt_of_objAt fy; replace hG : Below w.heap.size w w4 := Grew.trans (by exact grew_auto) hb; clear hb)
 go_wp2_with fail
 have fp : objAt (w4.alloc (.cells (ints .u8 32 (K1)) 47)) w4.heap.size = some (.cells (ints .u8 32 (K1)) 47) := objAt_alloc_at _ _ _ rfl
 replace fa : objAt (w4.alloc (.cells (ints .u8 32 (K1)) 47)) (w.heap.size) = some (.cells (ints .u8 32 (a)) 47) := keep_alloc _ fa
 replace fb : objAt (w4.alloc (.cells (ints .u8 32 (K1)) 47)) (w.heap.size + 1) = some (.cells (ints .u8 32 (b)) 47) := keep_alloc _ fb
 replace fo : objAt (w4.alloc (.cells (ints .u8 32 (K1)) 47)) (w.heap.size + 1 + 1) = some (.cells (ints .u8 32 (o)) 47) := keep_alloc _ fo
 replace fx : objAt (w4.alloc (.cells (ints .u8 32 (K1)) 47)) (gx) = some (.cells (ints .u8 64 (keysF (a) (PA))) 49) := keep_alloc _ fx
 replace fy : objAt (w4.alloc (.cells (ints .u8 32 (K1)) 47)) (gy) = some (.cells (ints .u8 64 (keysF (b) (PB))) 49) := keep_alloc _ fy
 replace hG : Below w.heap.size w (w4.alloc (.cells (ints .u8 32 (K1)) 47)) := Grew.alloc hG _
 clear lfa lfb lfo lfx lfy
 generalize w4.alloc (.cells (ints .u8 32 (K1)) 47) = w5 at *
 generalize w4.heap.size = gp at *
 have lfa := lt_of_objAt fa
 have lfb := lt_of_objAt fb
 have lfo := lt_of_objAt fo
 have lfx := lt_of_objAt fx
 have lfy := lt_of_objAt fy
 have lfp := lt_of_objAt fp
 go_wp2_with fail
 (refine (cV _ (hTT.out.later hG)).mono ?_; rintro e w6 ⟨rfl, hb⟩; replace fa : objAt w6 (w.heap.size) = some (.cells (ints .u8 32 (a)) 47) := keep_below hb (by exact keep_auto); have lfa := lt_of_objAt fa; replace fb : objAt w6 (w.heap.size + 1) = some (.cells (ints .u8 32 (b)) 47) := keep_below hb (by exact keep_auto); have lfb := lt_of_objAt fb; replace fo : objAt w6 (w.heap.size + 1 + 1) = some (.cells (ints .u8 32 (o)) 47) := keep_below hb (by exact keep_auto); have lfo := lt_of_objAt fo; replace fx : objAt w6 (gx) = some (.cells (ints .u8 64 (keysF (a) (PA))) 49) := keep_below hb (by exact keep_auto); have lfx := lt_of_objAt fx; replace fy : objAt w6 (gy) = some (.cells (ints .u8 64 (keysF (b) (PB))) 49) := keep_below hb (by exact keep_auto); have lfy := lt_of_objAt fy; replace fp : objAt w6 (gp) = some (.cells (ints .u8 32 (K1)) 47) := keep_below hb (by exact keep_auto); have lfp := lt_of_objAt fp; replace hG : Below w.heap.size w w6 := Grew.trans (by exact grew_auto) hb; clear hb)
 go_wp2_with fail
 have ea : objAt ((w6.alloc (.cells (ints .u8 32 (K1)) 47)).alloc (.cells (ints .u8 64 (rowK (two PB o))) 47)) (w.heap.size) = some (.cells (ints .u8 32 (a)) 47) := keep_alloc _ (keep_alloc _ (fa))
 have eb : objAt ((w6.alloc (.cells (ints .u8 32 (K1)) 47)).alloc (.cells (ints .u8 64 (rowK (two PB o))) 47)) (w.heap.size + 1) = some (.cells (ints .u8 32 (b)) 47) := keep_alloc _ (keep_alloc _ (fb))
 have eo : objAt ((w6.alloc (.cells (ints .u8 32 (K1)) 47)).alloc (.cells (ints .u8 64 (rowK (two PB o))) 47)) (w.heap.size + 1 + 1) = some (.cells (ints .u8 32 (o)) 47) := keep_alloc _ (keep_alloc _ (fo))
 have ex : objAt ((w6.alloc (.cells (ints .u8 32 (K1)) 47)).alloc (.cells (ints .u8 64 (rowK (two PB o))) 47)) (gx) = some (.cells (ints .u8 64 (keysF (a) (PA))) 49) := keep_alloc _ (keep_alloc _ (fx))
 have ey : objAt ((w6.alloc (.cells (ints .u8 32 (K1)) 47)).alloc (.cells (ints .u8 64 (rowK (two PB o))) 47)) (gy) = some (.cells (ints .u8 64 (keysF (b) (PB))) 49) := keep_alloc _ (keep_alloc _ (fy))
 have ep : objAt ((w6.alloc (.cells (ints .u8 32 (K1)) 47)).alloc (.cells (ints .u8 64 (rowK (two PB o))) 47)) (gp) = some (.cells (ints .u8 32 (K1)) 47) := keep_alloc _ (keep_alloc _ (fp))
 have eq : objAt ((w6.alloc (.cells (ints .u8 32 (K1)) 47)).alloc (.cells (ints .u8 64 (rowK (two PB o))) 47)) (w6.heap.size) = some (.cells (ints .u8 32 (K1)) 47) := keep_alloc _ (objAt_alloc_at _ _ _ rfl)
 have el : objAt ((w6.alloc (.cells (ints .u8 32 (K1)) 47)).alloc (.cells (ints .u8 64 (rowK (two PB o))) 47)) (w6.heap.size + 1) = some (.cells (ints .u8 64 (rowK (two PB o))) 47) := objAt_alloc_at _ _ _ (by simp)
 replace hG : Below w.heap.size w ((w6.alloc (.cells (ints .u8 32 (K1)) 47)).alloc (.cells (ints .u8 64 (rowK (two PB o))) 47)) := Grew.alloc (Grew.alloc (hG) _) _
 clear fa lfa fb lfb fo lfo fx lfx fy lfy fp lfp
 generalize (w6.alloc (.cells (ints .u8 32 (K1)) 47)).alloc (.cells (ints .u8 64 (rowK (two PB o))) 47) = w7 at *
 generalize w6.heap.size + 1 = gl at *
 generalize w6.heap.size = gq at *
 have fa := ea
 have fb := eb
 have fo := eo
 have fx := ex
 have fy := ey
 have fp := ep
 have fl := el
 have fq := eq
 clear ea eb eo ex ey ep el eq
 have lfa := lt_of_objAt fa
 have lfb := lt_of_objAt fb
 have lfo := lt_of_objAt fo
 have lfx := lt_of_objAt fx
 have lfy := lt_of_objAt fy
 have lfp := lt_of_objAt fp
 have lfl := lt_of_objAt fl
 have lfq := lt_of_objAt fq
 have hkl := k32_of_row fl (by decide) (rowK_at (two PB o) 2)
 go_wp2_with fail
 refine (cK.out _ _ hkl (hTT.out.later hG)).mono ?_
 rintro e w8 ⟨rfl, hb⟩
 clear hkl
 replace fa : objAt w8 (w.heap.size) = some (.cells (ints .u8 32 (a)) 47) := keep_below hb fa
 replace lfa := lt_of_objAt fa
 replace fb : objAt w8 (w.heap.size + 1) = some (.cells (ints .u8 32 (b)) 47) := keep_below hb fb
 replace lfb := lt_of_objAt fb
 replace fo : objAt w8 (w.heap.size + 1 + 1) = some (.cells (ints .u8 32 (o)) 47) := keep_below hb fo
 replace lfo := lt_of_objAt fo
 replace fx : objAt w8 (gx) = some (.cells (ints .u8 64 (keysF (a) (PA))) 49) := keep_below hb fx
 replace lfx := lt_of_objAt fx
 replace fy : objAt w8 (gy) = some (.cells (ints .u8 64 (keysF (b) (PB))) 49) := keep_below hb fy
 replace lfy := lt_of_objAt fy
 replace fp : objAt w8 (gp) = some (.cells (ints .u8 32 (K1)) 47) := keep_below hb fp
 replace lfp := lt_of_objAt fp
 replace fl : objAt w8 (gl) = some (.cells (ints .u8 64 (rowK (two PB o))) 47) := keep_below hb fl
 replace lfl := lt_of_objAt fl
 replace fq : objAt w8 (gq) = some (.cells (ints .u8 32 (K1)) 47) := keep_below hb fq
 replace lfq := lt_of_objAt fq
 replace hG : Below w.heap.size w w8 := Grew.trans hG hb
 clear hb
 clear fl lfl
 go_wp2_with fail
 have fm : objAt (w8.alloc (.cells (ints .u8 64 (rowK (two PA o))) 47)) w8.heap.size = some (.cells (ints .u8 64 (rowK (two PA o))) 47) := objAt_alloc_at _ _ _ rfl
 replace fa : objAt (w8.alloc (.cells (ints .u8 64 (rowK (two PA o))) 47)) (w.heap.size) = some (.cells (ints .u8 32 (a)) 47) := keep_alloc _ fa
 replace fb : objAt (w8.alloc (.cells (ints .u8 64 (rowK (two PA o))) 47)) (w.heap.size + 1) = some (.cells (ints .u8 32 (b)) 47) := keep_alloc _ fb
 replace fo : objAt (w8.alloc (.cells (ints .u8 64 (rowK (two PA o))) 47)) (w.heap.size + 1 + 1) = some (.cells (ints .u8 32 (o)) 47) := keep_alloc _ fo
 replace fx : objAt (w8.alloc (.cells (ints .u8 64 (rowK (two PA o))) 47)) (gx) = some (.cells (ints .u8 64 (keysF (a) (PA))) 49) := keep_alloc _ fx
 replace fy : objAt (w8.alloc (.cells (ints .u8 64 (rowK (two PA o))) 47)) (gy) = some (.cells (ints .u8 64 (keysF (b) (PB))) 49) := keep_alloc _ fy
 replace fp : objAt (w8.alloc (.cells (ints .u8 64 (rowK (two PA o))) 47)) (gp) = some (.cells (ints .u8 32 (K1)) 47) := keep_alloc _ fp
 replace fq : objAt (w8.alloc (.cells (ints .u8 64 (rowK (two PA o))) 47)) (gq) = some (.cells (ints .u8 32 (K1)) 47) := keep_alloc _ fq
 replace hG : Below w.heap.size w (w8.alloc (.cells (ints .u8 64 (rowK (two PA o))) 47)) := Grew.alloc hG _
 clear lfa lfb lfo lfx lfy lfp lfq
 generalize w8.alloc (.cells (ints .u8 64 (rowK (two PA o))) 47) = w9 at *
 generalize w8.heap.size = gm at *
 have lfa := lt_of_objAt fa
 have lfb := lt_of_objAt fb
 have lfo := lt_of_objAt fo
 have lfx := lt_of_objAt fx
 have lfy := lt_of_objAt fy
 have lfp := lt_of_objAt fp
 have lfq := lt_of_objAt fq
 have lfm := lt_of_objAt fm
 have hkm := k32_of_row fm (by decide) (rowK_at (two PA o) 2)
 go_wp2_with fail
 refine (cM.out _ _ hkm (hTT.out.later hG)).mono ?_
 rintro e w10 ⟨rfl, hb⟩
 clear hkm
 replace fa : objAt w10 (w.heap.size) = some (.cells (ints .u8 32 (a)) 47) := keep_below hb fa
 replace lfa := lt_of_objAt fa
 replace fb : objAt w10 (w.heap.size + 1) = some (.cells (ints .u8 32 (b)) 47) := keep_below hb fb
 replace lfb := lt_of_objAt fb
 replace fo : objAt w10 (w.heap.size + 1 + 1) = some (.cells (ints .u8 32 (o)) 47) := keep_below hb fo
 replace lfo := lt_of_objAt fo
 replace fx : objAt w10 (gx) = some (.cells (ints .u8 64 (keysF (a) (PA))) 49) := keep_below hb fx
 replace lfx := lt_of_objAt fx
 replace fy : objAt w10 (gy) = some (.cells (ints .u8 64 (keysF (b) (PB))) 49) := keep_below hb fy
 replace lfy := lt_of_objAt fy
 replace fp : objAt w10 (gp) = some (.cells (ints .u8 32 (K1)) 47) := keep_below hb fp
 replace lfp := lt_of_objAt fp
 replace fq : objAt w10 (gq) = some (.cells (ints .u8 32 (K1)) 47) := keep_below hb fq
 replace lfq := lt_of_objAt fq
 replace fm : objAt w10 (gm) = some (.cells (ints .u8 64 (rowK (two PA o))) 47) := keep_below hb fm
 replace lfm := lt_of_objAt fm
 replace hG : Below w.heap.size w w10 := Grew.trans hG hb
 clear hb
 clear fm lfm
 go_wp2_with fail
 ((first | (with_reducible refine wp_region_on (by kernel_rfl) (by kernel_rfl) ?_) | refine wp_region_more (by kernel_rfl) (by kernel_rfl) ?_); (repeat (first | go_big_quiet_skip | (go_big_quiet_want; go_big_quiet_op; first | go_big_quiet_on | (apply Exists.intro; refine ⟨fun _ => ?_, ?_⟩; (focus (fail)); go_big_quiet_on)))); refine wpQuiet_nil ?_; rintro _ ⟨mq, rfl⟩)
 have hGx : Below w.heap.size w (more w10 mq) := Grew.more hG mq
 generalize more w10 mq = wx at *
 go_wp2
 go_ret
 exact ⟨rfl, hGx⟩
theorem up_two (j k : Nat → Int) (hj : Bytes 32 j) (hk : Bytes 32 k) : upOK j (keyV (pubV k)) = true ∧ upF j (keyV (pubV k)) = nodeF (keyV (twoV j k)) := by
 have e := two_is j k
 have h := two_ne j k hj hk
 have h2 : ¬ (twoV j k = 0) := of_decide_eq_false h
 unfold upOK upF
 rw [e, h, if_neg h2]
 exact ⟨rfl, rfl⟩
theorem climb_two (k P1 o : Nat → Int) (h : upOK k P1 = true) : climbOK k (two P1 o) 2 = upOK (upF k P1) o ∧ climbS k (two P1 o) 1 = upF k P1 ∧ climbS k (two P1 o) 2 = upF (upF k P1) o := by
 refine ⟨?_, rfl, rfl⟩
 have h1 : climbOK k (two P1 o) 1 = true := by
  rw [climb_yes (show climbOK k (two P1 o) 0 = true from rfl)]
  exact h
 rw [climb_yes h1]
 rfl
theorem meets12_any (pOfC : OfC) (pUpC : UpC) (pClimbC : ClimbC) (aw : ∀ W : World, Tabs W → Calls Tryz.prog 26 #[] W fun e w' => e = .returned (.bool true) ∧ Below W.heap.size W w') (a b o : Nat → Int) (w : World) (ha : Bytes 32 a) (hb : Bytes 32 b) (ho : Bytes 32 o) (hT : Tabs w) :
  Calls Tryz.prog 7 #[.agg (ints .u8 32 a), .agg (ints .u8 32 b), .agg (ints .u8 32 o)] w fun e w' => e = .returned (.bool true) ∧ Below w.heap.size w w' := by
 obtain ⟨a1, a2⟩ := up_two a b ha hb
 obtain ⟨b1, b2⟩ := up_two b a hb ha
 rw [two_swap b a hb ha, ← a2] at b2
 obtain ⟨A1, A2, A3⟩ := climb_two a (keyV (pubV b)) o a1
 obtain ⟨B1, B2, B3⟩ := climb_two b (keyV (pubV a)) o b1
 rw [b2] at B1 B2 B3
 have kA := keyV_bytes (pubV a)
 have kB := keyV_bytes (pubV b)
 have tb : ∀ P1 : Nat → Int, Bytes 32 P1 → ∀ i, i < 2 → Bytes 32 (two P1 o i) := fun P1 h i _ => by
  unfold two
  split
  ·exact h
  ·exact ho
 have cU := fun (W : World) (h : Tabs W) => pUpC a (keyV (pubV b)) W ha kB h
 have cV := fun (W : World) (h : Tabs W) => pUpC b (keyV (pubV a)) W hb kA h
 rw [a1] at cU
 rw [b1, b2] at cV
 cases hz : upOK (upF a (keyV (pubV b))) o with
 | true =>
  exact meets12_yes a b o (keyV (pubV a)) (keyV (pubV b)) (upF a (keyV (pubV b))) (upF (upF a (keyV (pubV b))) o) (climbS a (two (keyV (pubV b)) o)) (climbS b (two (keyV (pubV a)) o)) w hT A2 A3 B2 B3 (fun W => pOfC a W ha) (fun W => pOfC b W hb) cU cV
   (fun g W hK h => climb_ok (pClimbC a _ _ 2 2 W ha (by decide) (tb _ kB) hK h) (by rw [A1, hz])) (fun g W hK h => climb_ok (pClimbC b _ _ 2 2 W hb (by decide) (tb _ kA) hK h) (by rw [B1, hz])) aw
 | false =>
  exact meets12_no a b o (keyV (pubV a)) (keyV (pubV b)) (upF a (keyV (pubV b))) nought (fun _ => nought) (fun _ => nought) w hT (fun W => pOfC a W ha) (fun W => pOfC b W hb) cU cV
   (fun g W hK h => climb_no (pClimbC a _ _ 2 2 W ha (by decide) (tb _ kB) hK h) (by rw [A1, hz])) (fun g W hK h => climb_no (pClimbC b _ _ 2 2 W hb (by decide) (tb _ kA) hK h) (by rw [B1, hz])) aw
end Go.Proofs.YtfgbpfapphofdaaGreatDoor
