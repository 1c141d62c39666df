/- Sk -/
import Derived.Test.YtihoodeaaamlfaaGreatDoorSs
import Derived.Test.YtihoodeaaamlfaaGreatDoorSo
import Derived.RangeFuncGives
import Derived.RangeFuncStops
import Derived.Sort.MapsRangeIn
import Derived.Sort.KeysCollected
import Derived.OwnWalkIn
import Derived.TacticsInMore
import Derived.RegionIn
import Derived.LoopNIn
import Derived.LoopIn
import Derived.Shelf.AbstractIn
import Derived.RangeFuncNested
import Derived.RangeFuncBound
import Derived.RangeFuncCalls
import Derived.RangeFuncLeaves
import Derived.RangeFuncBox
import Derived.RangeFuncFrom
import Derived.Maps.AppendAt
set_option linter.unusedVariables false
set_option linter.unusedSimpArgs false
set_option maxRecDepth 100000
set_option maxHeartbeats 4000000
namespace Go.Proofs.YtihoodeaaamlfaaGreatDoor
open Go.RowKit Go.Maps
def CollU {H : Type} (D0 : DataW H) (left : Lit -> Bool) (ss : List Int) : Prop := ss.Nodup /\ ∀ x, x ∈ ss ↔ (has D0 (.int .u32 x) = true /\ left (.int .u32 x) = false)
theorem collU_start {H : Type} (D0 : DataW H) : CollU D0 (has D0) [] := ⟨List.nodup_nil, fun x => by cases has D0 (.int .u32 x) <;> simp⟩
theorem collU_step {H : Type} {D0 : DataW H} {left : Lit -> Bool} {ss : List Int} (h : CollU D0 left ss) {x : Int} {y : DataW H} (hlk : left (.int .u32 x) = true) (hat : ∀ zd, D0.atKey (.int .u32 x) zd = y) : CollU D0 (fun z => left z && !z.sameKey (.int .u32 x)) (ss ++ [x]) := by
 have hhas : has D0 (.int .u32 x) = true := has_true_of_atKey hat;have hnew : x ∉ ss := fun hx => by
  have := ((h.2 x).1 hx).2;rw [hlk] at this
  cases this
 constructor
 ·rw [List.nodup_append]
  refine ⟨h.1, by simp, fun a ha b hb e => ?_⟩;rw [List.mem_singleton] at hb;rw [e, hb] at ha;exact hnew ha
 ·intro z
  rw [List.mem_append, List.mem_singleton, h.2 z]
  by_cases hz : z = x
  ·rw [hz]
   simp [hhas, Lit.sameKey]
  ·simp [hz, Lit.sameKey]
theorem u32_told {k : Value} {kl : Lit} (h : keyOf Tryz.prog 27 k = some kl) : ∃ x : Int, k = .int .u32 x /\ kl = .int .u32 x := by
 have hk := Tryz.underlying27
 cases k <;> simp [keyOf, hk, mapKey] at h
 rename_i q a
 obtain ⟨⟨rfl, hw⟩, rfl⟩ := h;exact ⟨a, rfl, rfl⟩
theorem zqah {H : Type} (n : Nat) (hn : 1 <= n) (l Bm b nn : Nat) (D0 : DataW H) {R : Value -> Option (DataW H × List MemPlace)} (J Jx : List Int -> World -> Prop)
  (hY : ∀ pre x W, J pre W -> pre.length < Maps.size D0 -> YieldAt Fence.wide (n - 1) Tryz.prog l #[.int .u32 x] W fun e W' => (e = .returned (.bool true) /\ J (pre ++ [x]) W' /\ KeepsWalks W W') \/ (e = .returned (.bool false) /\ Jx (pre ++ [x]) W'))
  (W : World) (hJ : AbidesFrom W.heap.size J) (hm : objAt W Bm = some (.cells #[.map (some b)] 44)) (hown : W.ownsMap Tryz.prog 27 R b nn D0) (h0 : J [] W) :
  CallsIn Fence.wide n Tryz.prog 31 #[.func (.yield l) #[] #[], .pointer (some ⟨Bm, 0, none⟩)] W fun e W' => (∃ v, e = .returned v) /\ ((∃ ss : List Int, CollU D0 (fun _ => false) ss /\ J ss W') \/ (∃ pre : List Int, True /\ Jx pre W')) := by
 have lm := lt_of_objAt hm;have LK : Keyed Tryz.prog 27 := int_keyed Tryz.underlying27;refine callsIn_of_wp Tryz.func31 rfl trivial ?_
 simp only [Tryz.ntmps31, List.size_toArray, List.length_cons, List.length_nil, Nat.reduceAdd, Nat.reduceSub, Array.replicate_succ, Array.replicate_zero, List.push_toArray, List.append_toArray, List.nil_append, List.cons_append]
 gi_wp2_with (first
  | (gi_at_range; refine wpListIn_range_own _ rfl _ 44 rfl 27 29 LK Tryz.underlying44 _ b nn _ rfl hown ?_; intro w0 hrg0 hg0 hs0)
  | gi_in)
 (try go_frame)
 gi_loopw [3] (fun _ wr => ∃ (left : Lit -> Bool) (cnt : Nat) (ss : List Int), wr.ranges Tryz.prog 27 R b W.heap.size nn D0 left cnt /\ ss.length + cnt <= Maps.size D0 /\ CollU D0 left ss /\ J ss wr)
  (fun _ wr => wr.rangeLeft b W.heap.size)
 case atStart => exact ⟨_, _, [], hrg0, by simp, collU_start D0, hJ [] W w0 none h0 hg0 (fun r e => by cases e)⟩
 case round =>
  obtain ⟨left, cnt, ss, hrg, hcs, hC, hJs⟩ := hrel
  gi_wp2_with (first
   | (gi_at_next; refine wpListIn_next_ranges _ rfl _ rfl 27 LK R (Value.int .u32) id (fun key kl hk => by obtain ⟨x, hx, _⟩ := u32_told hk; exact ⟨x, hx⟩) (fun v _ _ => ⟨v, rfl⟩) b W.heap.size nn _ _ _ rfl hrg ?_ ?_)
   | gi_in)
  ·intro hc0 hl0
   gi_wp2
   go_end0
   obtain rfl : left = fun _ => false := funext hl0;exact ⟨⟨_, rfl⟩, .inl ⟨ss, hC, hJs⟩⟩
  ·intro x c kl yd yp w2 cnt2 hkey hlk hv hat hrg2 hlt hg2 hs2 hen
   obtain ⟨x', ex, rfl⟩ := u32_told hkey;obtain rfl : x = x' := by simpa using ex
   have hJ2 : J ss w2 := hJ ss wr w2 (some W.heap.size) hJs hg2 (fun r e => by cases e; exact ⟨Nat.le_refl _, hrg.iter_walk⟩);obtain ⟨fn, tmps, assign, body, hy, hR⟩ := hY ss x w2 hJ2 (by omega);clear hs2
   gi_wp2
   refine hR.mono ?_
   rintro e W3 (⟨rfl, hJ3, hk3⟩ | ⟨rfl, hJx3⟩)
   ·gi_wp2
    have hrg3 := hrg2.of_walks hk3
    go_roundw
    case rel => exact ⟨_, cnt2, ss ++ [x], hrg3, by simp; omega, collU_step hC hlk hat, hJ3⟩
    case measure => rw [hrg3.left_eq, hrg.left_eq]; exact hlt
   ·gi_wp2
    refine bodyPost_ret (results_none rfl _ _ _) rfl ?_
    exact ⟨⟨_, rfl⟩, .inr ⟨ss ++ [x], trivial, hJx3⟩⟩
theorem zq9 {H : Type} (n : Nat) (hn : 1 <= n) (Bm b nn : Nat) (D0 : DataW H) {R : Value -> Option (DataW H × List MemPlace)} (w : World) (hm : objAt w Bm = some (.cells #[.map (some b)] 44)) (hown : w.ownsMap Tryz.prog 27 R b nn D0) :
  SeqStops Fence.wide n Tryz.prog 31 #[.pointer (some ⟨Bm, 0, none⟩)] (Value.int .u32) (CollU D0 (fun _ => false)) (fun _ => True) (Maps.size D0) w := fun l J Jx W hW hJ _ hY h0 => by
 have hown' : W.ownsMap Tryz.prog 27 R b nn D0 := by
  have hbl := World.ownsMap.lt hown;obtain ⟨es, clock, hb, Ft, hs, hD⟩ := hown;exact ⟨es, clock, (hW.block b hbl).trans hb, Ft, hs, hD⟩
 exact zqah n hn l Bm b nn D0 J Jx hY W hJ (keep_below hW hm) hown' h0
theorem zqa4 (mb : Option Nat) (w : World) :
  Calls Tryz.prog 22 #[.map mb] w fun e w' => e = .returned (.func (.func 31) #[] #[.pointer (some ⟨w.heap.size, 0, none⟩)]) /\ w' = w.alloc (.cells #[.map mb] 44) := by
 go_enter Tryz.func22, Tryz.ntmps22
 go_wp2;go_ret;exact ⟨rfl, rfl⟩
theorem apSeq_any (n : Nat) (hn : 2 <= n) (gf : Nat) (lb : Array Value) (eg : ∀ args w, (callFunc gf args).run Tryz.prog w = .ok (.enter gf args) w) (S Sp : List Int -> Prop) (N : Nat) (hN : N <= 1000) (w : World) (hseq : SeqStops Fence.wide (n - 1) Tryz.prog gf lb (Value.int .u32) S Sp N w) :
  CallsIn Fence.wide n Tryz.prog 32 #[.slice none 0 0, .func (.func gf) #[] lb] w fun e w' => ∃ (v : Value) (ss : List Int), e = .returned v /\ S ss /\ w'.ownsRow w.heap.size 27 1 v ss.length (ss.map (Value.int .u32)) /\ (v = .slice none 0 0 ↔ ss = []) /\ Below w.heap.size w w' := by
 have h1 : 1 <= n := by omega
 refine callsIn_of_wp_marks Tryz.func32 rfl trivial ?_
 simp only [Tryz.ntmps32, List.size_toArray, List.length_cons, List.length_nil, Nat.reduceAdd, Nat.reduceSub, Array.replicate_succ, Array.replicate_zero, List.push_toArray, List.append_toArray, List.nil_append, List.cons_append]
 gi_wp2
 have hb0 : Below w.heap.size w (w.alloc (.cells #[.slice none 0 0] 41)) := (Below.refl _ w).alloc (Nat.le_refl _) _;have hv0 : Boxed (w.alloc (.cells #[.slice none 0 0] 41)) w.heap.size 41 (.slice none 0 0) := Boxed.new w _ _;have hs0 : (w.alloc (.cells #[.slice none 0 0] 41)).heap.size = w.heap.size + 1 := by simp
 generalize w.alloc (.cells #[.slice none 0 0] 41) = W0 at *;refine wpIn_rangeFunc_ownF rfl h1 (gf := gf) (lb := lb) rfl trivial eg (w0 := w) (S := S) (Sp := Sp) (N := N) (encs := fun x : Int => #[.int .u32 x]) (Kp := KeepsWalks) hseq (fun h k => walksK_t h k) (fun W l o o' h1 h2 h3 h4 => walksK_b (w := W0) W l o o' h1 h2 h3 h4) hb0 (fun _ => rfl)
  (fun pre W => (∃ v, Boxed W w.heap.size 41 v /\ W.ownsRow w.heap.size 27 1 v pre.length (pre.map (Value.int .u32)) /\ (v = .slice none 0 0 ↔ pre = [])) /\ Below w.heap.size w W) (fun _ _ _ => False) ?_ (fun _ => fun _ _ _ _ h => h.elim) ?_ (fun x => ⟨#[.slice none 0 0, .func (.func gf) #[] lb, .pointer (some ⟨w.heap.size, 0, none⟩), undef, .slice none 0 0, .int .u32 x, .func (.func gf) #[] lb, .int .u32 x, undef, undef, undef, undef, undef], []⟩) ?_ ?_ ?_ ?_
 ·exact OwnFrom.and (Own.from (holdsRow_own w.heap.size w.heap.size 41 27 1 (fun pre : List Int => pre.length) (fun pre => pre.map (Value.int .u32)) (fun pre v => (v = .slice none 0 0 ↔ pre = []))) _) (ownFrom_below (Nat.le_refl _) (by omega))
 ·exact ⟨⟨_, hv0, World.ownsRow_nil _ _ _ _, by simp⟩, hb0⟩
 ·intro l x W K hK
  gi_wp2_with (first | (rw [Oper.semAt_eq _ _ _ (fun c h => by cases h)]; go_simp) | gi_in)
  exact hK
 ·rintro l pre x W ⟨⟨v, hv, hrow, hnil⟩, hB⟩ hlen
  have hvo : objAt W w.heap.size = some (.cells #[v] 41) := hv;have lv := lt_of_objAt hvo
  gi_wp2_with (first
   | (gi_at_builtin; refine wpListIn_append_own _ rfl _ _ 41 rfl w.heap.size 27 ((Tryz.prog.info? 27).get zqa) (.int .u32 0) 1 4 Tryz.underlying41 zqa zqa zqa zqa rfl (by decide) _ _ _ rfl (hrow.alloc _) ⟨W.heap.size, 0, none⟩ 1 1 [Value.int .u32 x] rfl rfl (cell_one_new _ _ _) (by simp [Value.oneCell']) (by unfold maxLen; omega) (by omega) (by have := hB.size; simp; omega) ?_; intro v' w1 hown' hgrow _; obtain ⟨g', cap', rfl⟩ := ownsRow_succ hown'; obtain ⟨hv1, hv2, hr2, hk2, hb2⟩ := hv.appended (by decide) hrow hB.size (Nat.le_refl _) hown' hgrow; have hvo1 : objAt w1 w.heap.size = some (.cells #[v] 41) := hv1; have lv1 := lt_of_objAt hvo1)
   | (rw [Oper.semAt_eq _ _ _ (fun c h => by cases h)]; go_simp)
   | gi_in)
  have es : w1.setCell ⟨w.heap.size, 0, none⟩ (.slice (some ⟨g', 0, none⟩) (pre.length + 1) cap') = w1.setRow w.heap.size #[.slice (some ⟨g', 0, none⟩) (pre.length + 1) cap'] := setCell_eq_setRow w1 w.heap.size 0 #[v] 41 (0, 0) _ hvo1;rw [es] at hv2 hr2 hk2 hb2;exact ⟨hk2, hk2.walks, ⟨_, hv2, by simpa using hr2, by simp⟩, hB.trans hb2⟩
 ·rintro D xs W hD hS ⟨⟨v, hv, hrow, hnil⟩, hB⟩ hK
  have hvo : objAt W w.heap.size = some (.cells #[v] 41) := hv;have lv := lt_of_objAt hvo
  gi_wp2
  refine ⟨by simp, .inl ⟨_, _, rfl, run_takeDeferred hK, ?_⟩⟩;exact ⟨_, results_tmp rfl _ _ _, v, xs, rfl, hS, ownsRow_putObj hrow _ hK rfl, hnil, hB.trans (belowK_b (w := w) (Nat.le_refl _) W D _ _ (by omega) hK rfl rfl)⟩
 ·intro D c pre W _ _ h
  exact h.elim
theorem collect_any (gf : Nat) (lb : Array Value) (eg : ∀ args w, (callFunc gf args).run Tryz.prog w = .ok (.enter gf args) w) (S Sp : List Int -> Prop) (N : Nat) (hN : N <= 1000) (w : World) (hseq : SeqStops Fence.wide 2 Tryz.prog gf lb (Value.int .u32) S Sp N w) :
  Calls Tryz.prog 23 #[.func (.func gf) #[] lb] w fun e w' => ∃ (v : Value) (ss : List Int), e = .returned v /\ S ss /\ w'.ownsRow w.heap.size 27 1 v ss.length (ss.map (Value.int .u32)) /\ (v = .slice none 0 0 ↔ ss = []) /\ Below w.heap.size w w' := by
 have hc := callsIn_wide.1 (apSeq_any 3 (by omega) gf lb eg S Sp N hN w hseq)
 go_enter Tryz.func23, Tryz.ntmps23
 go_wp2_with fail;refine hc.mono ?_
 rintro e w' ⟨v, ss, rfl, h1, h2, h3, h4⟩;go_wp2;go_ret;exact ⟨v, ss, rfl, h1, h2, h3, h4⟩
theorem ins_nil (w : World) : Calls Tryz.prog 40 #[.slice none 0 0, .int .i64 0, .int .i64 0] w fun e w' => e = .returned (.tuple #[]) /\ w' = w := by
 go_enter Tryz.func40, Tryz.ntmps40
 go_wp2_with fail
 go_loopw [6] (fun vi wr => vi = .int .i64 1 /\ wr = w) (fun _ _ => 0)
 case atStart => exact ⟨rfl, rfl⟩
 case round =>
  obtain ⟨rfl, rfl⟩ := hrel;go_wp2
  go_end0
  exact ⟨rfl, rfl⟩
theorem pdq_nil (l : Nat) (w : World) : Calls Tryz.prog 33 #[.slice none 0 0, .int .i64 0, .int .i64 0, .int .i64 l] w fun e w' => e = .returned (.tuple #[]) /\ w' = w := by
 go_enter Tryz.func33, Tryz.ntmps33
 go_wp2_with fail
 go_loopw [1, 2] (fun va vb wr => va = .int .i64 0 /\ vb = .int .i64 0 /\ wr = w) (fun _ _ _ => 0)
 case atStart => exact ⟨rfl, rfl, rfl⟩
 case round =>
  obtain ⟨rfl, rfl, rfl⟩ := hrel;go_wp2_with fail;refine (ins_nil _).mono ?_
  rintro e _ ⟨rfl, rfl⟩;go_wp2
  first | go_end0 | ((try simp only [Exit.inBlock, Exit.then]); refine bodyPost_ret (results_none rfl _ _ _) rfl ?_)
  exact ⟨rfl, rfl⟩
theorem sort_nil (w : World) : Calls Tryz.prog 24 #[.slice none 0 0] w fun e w' => e = .returned (.tuple #[]) /\ w' = w := by
 have cL := len_u32 0 w (by decide);have cP := pdq_nil (Lib.bitLen 0) w
 go_enter Tryz.func24, Tryz.ntmps24
 go_wp2_with fail;refine cL.mono ?_
 rintro e _ ⟨rfl, rfl⟩;go_wp2_with fail;refine cP.mono ?_
 rintro e _ ⟨rfl, rfl⟩;go_wp2
 first | go_end0 | ((try simp only [Exit.inBlock, Exit.then]); refine bodyPost_ret (results_none rfl _ _ _) rfl ?_)
 exact ⟨rfl, rfl⟩
def SrtV (b : Nat) (w : World) (v : Value) (ss : List Int) : Prop :=
 (v = .slice none 0 0 /\ ss = []) \/ ∃ g c R, v = .slice (some ⟨g, 0, none⟩) ss.length c /\ b <= g /\ ss ≠ [] /\ SrtAt w g R /\ Go.Sort.PermIn 0 ss.length ss.toArray R /\ Go.Sort.SortedIn Go.Sort.ltInt 0 ss.length R
theorem sorted_any (gf : Nat) (lb : Array Value) (eg : ∀ args w, (callFunc gf args).run Tryz.prog w = .ok (.enter gf args) w) (S Sp : List Int -> Prop) (hS : ∀ ss, S ss -> ss.length < srtN) (N : Nat) (hN : N <= 1000) (w : World) (hseq : SeqStops Fence.wide 2 Tryz.prog gf lb (Value.int .u32) S Sp N w) :
  Calls Tryz.prog 17 #[.func (.func gf) #[] lb] w fun e w' => ∃ (v : Value) (ss : List Int), e = .returned v /\ S ss /\ SrtV w.heap.size w' v ss /\ Below w.heap.size w w' := by
 have hc := collect_any gf lb eg S Sp N hN w hseq
 go_enter Tryz.func17, Tryz.ntmps17
 go_wp2_with fail;refine hc.mono ?_
 rintro e w1 ⟨v, ss, rfl, h1, h2, h3, h4⟩;have HL := hS ss h1;have H1 := hidS h1;have H3 := hidS h3;have H4 := hidS h4;clear h1 h3 h4 hc hS
 rcases h2.2 with ⟨rfl, h0⟩ | ⟨g, cap, cur, rfl, hb, hg, c1, c2, c3, c4⟩
 ·have hn := H3.out.1 rfl
  have HN := hidS hn;clear hn h0 h2;go_wp2_with fail;refine (sort_nil _).mono ?_
  rintro e _ ⟨rfl, rfl⟩;go_wp2;go_ret;exact ⟨_, ss, rfl, H1.out, .inl ⟨rfl, HN.out⟩, H4.out⟩
 ·have HA : SrtAt w1 g ss.toArray := by
   refine ⟨cur, hg, by rw [List.size_toArray]; omega, fun i hi => ?_⟩;rw [List.size_toArray] at hi;have h5 := congrArg (fun l : List Value => l[i]?) c4
   simp only [Nat.mul_one, List.getElem?_take, if_pos hi, List.getElem?_map] at h5
   rw [<- Array.getElem?_toList, h5, List.getElem?_eq_getElem hi]
   simp [hi]
  have hp := sort_u32 g cap ss.toArray w1 HA (by rw [List.size_toArray]; exact HL);rw [List.size_toArray] at hp;have hne : ss ≠ [] := fun e => by
   have := H3.out.2 e
   cases this
  have HNE := hidS hne;have HB := hidS hb;clear HA h2 hg c1 c2 c3 c4 hne hb;go_wp2_with fail;refine hp.mono ?_
  rintro e w2 ⟨rfl, R, q1, q2, q3, q4⟩;go_wp2;go_ret;exact ⟨_, ss, rfl, H1.out, .inr ⟨g, cap, R, rfl, HB.out, HNE.out, q3, q1, q2⟩, q4.below H4.out HB.out HB.out⟩
theorem zqbj {H : Type} (n : Nat) (hn : 1 <= n) (l Bm b nn : Nat) (D0 : DataW H) {R : Value -> Option (DataW H × List MemPlace)} (J Jx : List Int -> World -> Prop)
  (hY : ∀ pre x W, J pre W -> pre.length < Maps.size D0 -> YieldAt Fence.wide (n - 1) Tryz.prog l #[.int .u32 x] W fun e W' => (e = .returned (.bool true) /\ J (pre ++ [x]) W' /\ KeepsWalks W W') \/ (e = .returned (.bool false) /\ Jx (pre ++ [x]) W'))
  (W : World) (hJ : AbidesFrom W.heap.size J) (hm : objAt W Bm = some (.cells #[.map (some b)] 26)) (hown : W.ownsMap Tryz.prog 27 R b nn D0) (h0 : J [] W) :
  CallsIn Fence.wide n Tryz.prog 25 #[.func (.yield l) #[] #[], .pointer (some ⟨Bm, 0, none⟩)] W fun e W' => (∃ v, e = .returned v) /\ ((∃ ss : List Int, CollU D0 (fun _ => false) ss /\ J ss W') \/ (∃ pre : List Int, True /\ Jx pre W')) := by
 have lm := lt_of_objAt hm;have LK : Keyed Tryz.prog 27 := int_keyed Tryz.underlying27;refine callsIn_of_wp Tryz.func25 rfl trivial ?_
 simp only [Tryz.ntmps25, List.size_toArray, List.length_cons, List.length_nil, Nat.reduceAdd, Nat.reduceSub, Array.replicate_succ, Array.replicate_zero, List.push_toArray, List.append_toArray, List.nil_append, List.cons_append]
 gi_wp2_with (first
  | (gi_at_range; refine wpListIn_range_own _ rfl _ 26 rfl 27 4 LK Tryz.underlying26 _ b nn _ rfl hown ?_; intro w0 hrg0 hg0 hs0)
  | gi_in)
 (try go_frame)
 gi_loopw [3] (fun _ wr => ∃ (left : Lit -> Bool) (cnt : Nat) (ss : List Int), wr.ranges Tryz.prog 27 R b W.heap.size nn D0 left cnt /\ ss.length + cnt <= Maps.size D0 /\ CollU D0 left ss /\ J ss wr)
  (fun _ wr => wr.rangeLeft b W.heap.size)
 case atStart => exact ⟨_, _, [], hrg0, by simp, collU_start D0, hJ [] W w0 none h0 hg0 (fun r e => by cases e)⟩
 case round =>
  obtain ⟨left, cnt, ss, hrg, hcs, hC, hJs⟩ := hrel
  gi_wp2_with (first
   | (gi_at_next; refine wpListIn_next_ranges _ rfl _ rfl 27 LK R (Value.int .u32) id (fun key kl hk => by obtain ⟨x, hx, _⟩ := u32_told hk; exact ⟨x, hx⟩) (fun v _ _ => ⟨v, rfl⟩) b W.heap.size nn _ _ _ rfl hrg ?_ ?_)
   | gi_in)
  ·intro hc0 hl0
   gi_wp2
   go_end0
   obtain rfl : left = fun _ => false := funext hl0;exact ⟨⟨_, rfl⟩, .inl ⟨ss, hC, hJs⟩⟩
  ·intro x c kl yd yp w2 cnt2 hkey hlk hv hat hrg2 hlt hg2 hs2 hen
   obtain ⟨x', ex, rfl⟩ := u32_told hkey;obtain rfl : x = x' := by simpa using ex
   have hJ2 : J ss w2 := hJ ss wr w2 (some W.heap.size) hJs hg2 (fun r e => by cases e; exact ⟨Nat.le_refl _, hrg.iter_walk⟩);obtain ⟨fn, tmps, assign, body, hy, hR⟩ := hY ss x w2 hJ2 (by omega);clear hs2
   gi_wp2
   refine hR.mono ?_
   rintro e W3 (⟨rfl, hJ3, hk3⟩ | ⟨rfl, hJx3⟩)
   ·gi_wp2
    have hrg3 := hrg2.of_walks hk3
    go_roundw
    case rel => exact ⟨_, cnt2, ss ++ [x], hrg3, by simp; omega, collU_step hC hlk hat, hJ3⟩
    case measure => rw [hrg3.left_eq, hrg.left_eq]; exact hlt
   ·gi_wp2
    refine bodyPost_ret (results_none rfl _ _ _) rfl ?_
    exact ⟨⟨_, rfl⟩, .inr ⟨ss ++ [x], trivial, hJx3⟩⟩
theorem zqai {H : Type} (n : Nat) (hn : 1 <= n) (Bm b nn : Nat) (D0 : DataW H) {R : Value -> Option (DataW H × List MemPlace)} (w : World) (hm : objAt w Bm = some (.cells #[.map (some b)] 26)) (hown : w.ownsMap Tryz.prog 27 R b nn D0) :
  SeqStops Fence.wide n Tryz.prog 25 #[.pointer (some ⟨Bm, 0, none⟩)] (Value.int .u32) (CollU D0 (fun _ => false)) (fun _ => True) (Maps.size D0) w := fun l J Jx W hW hJ _ hY h0 => by
 have hown' : W.ownsMap Tryz.prog 27 R b nn D0 := by
  have hbl := World.ownsMap.lt hown;obtain ⟨es, clock, hb, Ft, hs, hD⟩ := hown;exact ⟨es, clock, (hW.block b hbl).trans hb, Ft, hs, hD⟩
 exact zqbj n hn l Bm b nn D0 J Jx hY W hJ (keep_below hW hm) hown' h0
theorem zqb2 (mb : Option Nat) (w : World) :
  Calls Tryz.prog 18 #[.map mb] w fun e w' => e = .returned (.func (.func 25) #[] #[.pointer (some ⟨w.heap.size, 0, none⟩)]) /\ w' = w.alloc (.cells #[.map mb] 26) := by
 go_enter Tryz.func18, Tryz.ntmps18
 go_wp2;go_ret;exact ⟨rfl, rfl⟩
end Go.Proofs.YtihoodeaaamlfaaGreatDoor
