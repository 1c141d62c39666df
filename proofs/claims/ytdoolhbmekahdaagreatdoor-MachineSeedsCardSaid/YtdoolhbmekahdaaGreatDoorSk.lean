/- Sk -/
import Derived.Test.YtdoolhbmekahdaaGreatDoorSo
import Derived.RangeFuncGives
import Derived.RangeFuncStops
import Derived.Sort.MapsRangeIn
import Derived.Sort.KeysCollected
import Derived.OwnWalkIn
import Derived.TacticsInMore
import Derived.RegionIn
import Derived.LoopNIn
import Derived.LoopIn
import Derived.Shelf.AbstractIn
import Derived.RangeFuncNested
import Derived.RangeFuncBound
import Derived.RangeFuncCalls
import Derived.RangeFuncLeaves
import Derived.RangeFuncBox
import Derived.RangeFuncFrom
import Derived.Maps.AppendAt
import Derived.Test.YtdoolhbmekahdaaGreatDoorXb
set_option maxRecDepth 100000
set_option maxHeartbeats 4000000
namespace Go.Proofs.YtdoolhbmekahdaaGreatDoor
open Go.RowKit Go.Maps
set_option linter.unusedVariables false
set_option linter.unusedSimpArgs false
def CollU {H : Type} (D0 : DataW H) (left : Lit → Bool) (ss : List Int) : Prop := ss.Nodup ∧ ∀ x, x ∈ ss ↔ (has D0 (.int .u32 x) = true ∧ left (.int .u32 x) = false)
theorem collU_start {H : Type} (D0 : DataW H) : CollU D0 (has D0) [] := ⟨List.nodup_nil, fun x => by cases has D0 (.int .u32 x) <;> simp⟩
theorem collU_step {H : Type} {D0 : DataW H} {left : Lit → Bool} {ss : List Int} (h : CollU D0 left ss) {x : Int} {y : DataW H} (hlk : left (.int .u32 x) = true) (hat : ∀ zd, D0.atKey (.int .u32 x) zd = y) : CollU D0 (fun z => left z && !z.sameKey (.int .u32 x)) (ss ++ [x]) := by
 have hhas : has D0 (.int .u32 x) = true := has_true_of_atKey hat
 have hnew : x ∉ ss := fun hx => by
  have := ((h.2 x).1 hx).2
  rw [hlk] at this
  cases this
 constructor
 ·rw [List.nodup_append]
  refine ⟨h.1, by simp, fun a ha b hb e => ?_⟩
  rw [List.mem_singleton] at hb
  rw [e, hb] at ha
  exact hnew ha
 ·intro z
  rw [List.mem_append, List.mem_singleton, h.2 z]
  by_cases hz : z = x
  ·rw [hz]
   simp [hhas, Lit.sameKey]
  ·simp [hz, Lit.sameKey]
theorem u32_told {k : Value} {kl : Lit} (h : keyOf Tryz.prog 71 k = some kl) : ∃ x : Int, k = .int .u32 x ∧ kl = .int .u32 x := by
 have hk := Tryz.underlying71
 cases k <;> simp [keyOf, hk, mapKey] at h
 rename_i q a
 obtain ⟨⟨rfl, hw⟩, rfl⟩ := h
 exact ⟨a, rfl, rfl⟩
end Go.Proofs.YtdoolhbmekahdaaGreatDoor
namespace Go.Proofs.YtdoolhbmekahdaaGreatDoor
open Go.RowKit Go.Maps
set_option linter.unusedVariables false
set_option linter.unusedSimpArgs false
end Go.Proofs.YtdoolhbmekahdaaGreatDoor
namespace Go.Proofs.YtdoolhbmekahdaaGreatDoor
open Go.RowKit Go.Maps
set_option linter.unusedVariables false
set_option linter.unusedSimpArgs false
theorem apSeq_any (n : Nat) (hn : 2 ≤ n) (gf : Nat) (lb : Array Value) (eg : ∀ args w, (callFunc gf args).run Tryz.prog w = .ok (.enter gf args) w) (S Sp : List Int → Prop) (N : Nat) (hN : N ≤ 1000) (w : World) (hseq : SeqStops Fence.wide (n - 1) Tryz.prog gf lb (Value.int .u32) S Sp N w) :
  CallsIn Fence.wide n Tryz.prog 315 #[.slice none 0 0, .func (.func gf) #[] lb] w fun e w' => ∃ (v : Value) (ss : List Int), e = .returned v ∧ S ss ∧ w'.ownsRow w.heap.size 71 1 v ss.length (ss.map (Value.int .u32)) ∧ (v = .slice none 0 0 ↔ ss = []) ∧ Below w.heap.size w w' := by
 have h1 : 1 ≤ n := by omega
 refine callsIn_of_wp_marks Tryz.func315 rfl trivial ?_
 simp only [Tryz.ntmps315, List.size_toArray, List.length_cons, List.length_nil, Nat.reduceAdd, Nat.reduceSub, Array.replicate_succ, Array.replicate_zero, List.push_toArray, List.append_toArray, List.nil_append, List.cons_append]
 gi_wp2
 have hb0 : Below w.heap.size w (w.alloc (.cells #[.slice none 0 0] 101)) := (Below.refl _ w).alloc (Nat.le_refl _) _
 have hv0 : Boxed (w.alloc (.cells #[.slice none 0 0] 101)) w.heap.size 101 (.slice none 0 0) := Boxed.new w _ _
 have hs0 : (w.alloc (.cells #[.slice none 0 0] 101)).heap.size = w.heap.size + 1 := by simp
 generalize w.alloc (.cells #[.slice none 0 0] 101) = W0 at *
 refine wpIn_rangeFunc_ownF rfl h1 (gf := gf) (lb := lb) rfl trivial eg (w0 := w) (S := S) (Sp := Sp) (N := N) (encs := fun x : Int => #[.int .u32 x]) (Kp := KeepsWalks) hseq (fun h k => walksK_t h k) (fun W l o o' h1 h2 h3 h4 => walksK_b (w := W0) W l o o' h1 h2 h3 h4) hb0 (fun _ => rfl)
  (fun pre W => (∃ v, Boxed W w.heap.size 101 v ∧ W.ownsRow w.heap.size 71 1 v pre.length (pre.map (Value.int .u32)) ∧ (v = .slice none 0 0 ↔ pre = [])) ∧ Below w.heap.size w W) (fun _ _ _ => False) ?_ (fun _ => fun _ _ _ _ h => h.elim) ?_ (fun x => ⟨#[.slice none 0 0, .func (.func gf) #[] lb, .pointer (some ⟨w.heap.size, 0, none⟩), undef, .slice none 0 0, .int .u32 x, .func (.func gf) #[] lb, .int .u32 x, undef, undef, undef, undef, undef], []⟩) ?_ ?_ ?_ ?_
 ·exact OwnFrom.and (Own.from (holdsRow_own w.heap.size w.heap.size 101 71 1 (fun pre : List Int => pre.length) (fun pre => pre.map (Value.int .u32)) (fun pre v => (v = .slice none 0 0 ↔ pre = []))) _) (ownFrom_below (Nat.le_refl _) (by omega))
 ·exact ⟨⟨_, hv0, World.ownsRow_nil _ _ _ _, by simp⟩, hb0⟩
 ·intro l x W K hK
  gi_wp2_with (first | (rw [Oper.semAt_eq _ _ _ (fun c h => by cases h)]; go_simp) | gi_in)
  exact hK
 ·rintro l pre x W ⟨⟨v, hv, hrow, hnil⟩, hB⟩ hlen
  have hvo : objAt W w.heap.size = some (.cells #[v] 101) := hv
  have lv := lt_of_objAt hvo
  gi_wp2_with (first
   | (gi_at_builtin; refine wpListIn_append_own _ rfl _ _ 101 rfl w.heap.size 71 ((Tryz.prog.info? 71).get (by kernel_rfl)) (.int .u32 0) 1 4 Tryz.underlying101 (by kernel_rfl) (by kernel_rfl) (by kernel_rfl) (by kernel_rfl) rfl (by decide) _ _ _ rfl (hrow.alloc _) ⟨W.heap.size, 0, none⟩ 1 1 [Value.int .u32 x] rfl rfl (cell_one_new _ _ _) (by simp [Value.oneCell']) (by unfold maxLen; omega) (by omega) (by have := hB.size; simp; omega) ?_; intro v' w1 hown' hgrow _; obtain ⟨g', cap', rfl⟩ := ownsRow_succ hown'; obtain ⟨hv1, hv2, hr2, hk2, hb2⟩ := hv.appended (by decide) hrow hB.size (Nat.le_refl _) hown' hgrow; have hvo1 : objAt w1 w.heap.size = some (.cells #[v] 101) := hv1; have lv1 := lt_of_objAt hvo1)
   | (rw [Oper.semAt_eq _ _ _ (fun c h => by cases h)]; go_simp)
   | gi_in)
  have es : w1.setCell ⟨w.heap.size, 0, none⟩ (.slice (some ⟨g', 0, none⟩) (pre.length + 1) cap') = w1.setRow w.heap.size #[.slice (some ⟨g', 0, none⟩) (pre.length + 1) cap'] := setCell_eq_setRow w1 w.heap.size 0 #[v] 101 (0, 0) _ hvo1
  rw [es] at hv2 hr2 hk2 hb2
  exact ⟨hk2, hk2.walks, ⟨_, hv2, by simpa using hr2, by simp⟩, hB.trans hb2⟩
 ·rintro D xs W hD hS ⟨⟨v, hv, hrow, hnil⟩, hB⟩ hK
  have hvo : objAt W w.heap.size = some (.cells #[v] 101) := hv
  have lv := lt_of_objAt hvo
  gi_wp2
  refine ⟨by simp, .inl ⟨_, _, rfl, run_takeDeferred hK, ?_⟩⟩
  exact ⟨_, results_tmp rfl _ _ _, v, xs, rfl, hS, ownsRow_putObj hrow _ hK rfl, hnil, hB.trans (belowK_b (w := w) (Nat.le_refl _) W D _ _ (by omega) hK rfl rfl)⟩
 ·intro D c pre W _ _ h
  exact h.elim
end Go.Proofs.YtdoolhbmekahdaaGreatDoor
namespace Go.Proofs.YtdoolhbmekahdaaGreatDoor
open Go.RowKit Go.Maps
set_option linter.unusedVariables false
set_option linter.unusedSimpArgs false
theorem collect_any (gf : Nat) (lb : Array Value) (eg : ∀ args w, (callFunc gf args).run Tryz.prog w = .ok (.enter gf args) w) (S Sp : List Int → Prop) (N : Nat) (hN : N ≤ 1000) (w : World) (hseq : SeqStops Fence.wide 2 Tryz.prog gf lb (Value.int .u32) S Sp N w) :
  Calls Tryz.prog 267 #[.func (.func gf) #[] lb] w fun e w' => ∃ (v : Value) (ss : List Int), e = .returned v ∧ S ss ∧ w'.ownsRow w.heap.size 71 1 v ss.length (ss.map (Value.int .u32)) ∧ (v = .slice none 0 0 ↔ ss = []) ∧ Below w.heap.size w w' := by
 have hc := callsIn_wide.1 (apSeq_any 3 (by omega) gf lb eg S Sp N hN w hseq)
 go_enter Tryz.func267, Tryz.ntmps267
 go_wp2_with fail
 refine hc.mono ?_
 rintro e w' ⟨v, ss, rfl, h1, h2, h3, h4⟩
 go_wp2
 go_ret
 exact ⟨v, ss, rfl, h1, h2, h3, h4⟩
end Go.Proofs.YtdoolhbmekahdaaGreatDoor
namespace Go.Proofs.YtdoolhbmekahdaaGreatDoor
open Go.RowKit Go.Maps
set_option linter.unusedVariables false
set_option linter.unusedSimpArgs false
theorem ins_nil (w : World) : Calls Tryz.prog 348 #[.slice none 0 0, .int .i64 0, .int .i64 0] w fun e w' => e = .returned (.tuple #[]) ∧ w' = w := by
 go_enter Tryz.func348, Tryz.ntmps348
 go_wp2_with fail
 go_loopw [6] (fun vi wr => vi = .int .i64 1 ∧ wr = w) (fun _ _ => 0)
 case atStart => exact ⟨rfl, rfl⟩
 case round =>
  obtain ⟨rfl, rfl⟩ := hrel
  go_wp2
  go_end0
  exact ⟨rfl, rfl⟩
theorem pdq_nil (l : Nat) (w : World) : Calls Tryz.prog 316 #[.slice none 0 0, .int .i64 0, .int .i64 0, .int .i64 l] w fun e w' => e = .returned (.tuple #[]) ∧ w' = w := by
 go_enter Tryz.func316, Tryz.ntmps316
 go_wp2_with fail
 go_loopw [1, 2] (fun va vb wr => va = .int .i64 0 ∧ vb = .int .i64 0 ∧ wr = w) (fun _ _ _ => 0)
 case atStart => exact ⟨rfl, rfl, rfl⟩
 case round =>
  obtain ⟨rfl, rfl, rfl⟩ := hrel
  go_wp2_with fail
  refine (ins_nil _).mono ?_
  rintro e _ ⟨rfl, rfl⟩
  go_wp2
  first | go_end0 | ((try simp only [Exit.inBlock, Exit.then]); refine bodyPost_ret (results_none rfl _ _ _) rfl ?_)
  exact ⟨rfl, rfl⟩
theorem sort_nil (w : World) : Calls Tryz.prog 268 #[.slice none 0 0] w fun e w' => e = .returned (.tuple #[]) ∧ w' = w := by
 have cL := len_u32 0 w (by decide)
 have cP := pdq_nil (Lib.bitLen 0) w
 go_enter Tryz.func268, Tryz.ntmps268
 go_wp2_with fail
 refine cL.mono ?_
 rintro e _ ⟨rfl, rfl⟩
 go_wp2_with fail
 refine cP.mono ?_
 rintro e _ ⟨rfl, rfl⟩
 go_wp2
 first | go_end0 | ((try simp only [Exit.inBlock, Exit.then]); refine bodyPost_ret (results_none rfl _ _ _) rfl ?_)
 exact ⟨rfl, rfl⟩
end Go.Proofs.YtdoolhbmekahdaaGreatDoor
namespace Go.Proofs.YtdoolhbmekahdaaGreatDoor
open Go.RowKit Go.Maps
set_option linter.unusedVariables false
set_option linter.unusedSimpArgs false
def SrtV (b : Nat) (w : World) (v : Value) (ss : List Int) : Prop :=
 (v = .slice none 0 0 ∧ ss = []) ∨ ∃ g c R, v = .slice (some ⟨g, 0, none⟩) ss.length c ∧ b ≤ g ∧ ss ≠ [] ∧ SrtAt w g R ∧ Go.Sort.PermIn 0 ss.length ss.toArray R ∧ Go.Sort.SortedIn Go.Sort.ltInt 0 ss.length R
theorem sorted_any (gf : Nat) (lb : Array Value) (eg : ∀ args w, (callFunc gf args).run Tryz.prog w = .ok (.enter gf args) w) (S Sp : List Int → Prop) (hS : ∀ ss, S ss → ss.length < srtN) (N : Nat) (hN : N ≤ 1000) (w : World) (hseq : SeqStops Fence.wide 2 Tryz.prog gf lb (Value.int .u32) S Sp N w) :
  Calls Tryz.prog 220 #[.func (.func gf) #[] lb] w fun e w' => ∃ (v : Value) (ss : List Int), e = .returned v ∧ S ss ∧ SrtV w.heap.size w' v ss ∧ Below w.heap.size w w' := by
 have hc := collect_any gf lb eg S Sp N hN w hseq
 go_enter Tryz.func220, Tryz.ntmps220
 go_wp2_with fail
 refine hc.mono ?_
 rintro e w1 ⟨v, ss, rfl, h1, h2, h3, h4⟩
 have HL := hS ss h1
 have H1 := hidS h1
 have H3 := hidS h3
 have H4 := hidS h4
 clear h1 h3 h4 hc hS
 rcases h2.2 with ⟨rfl, h0⟩ | ⟨g, cap, cur, rfl, hb, hg, c1, c2, c3, c4⟩
 ·have hn := H3.out.1 rfl
  have HN := hidS hn
  clear hn h0 h2
  go_wp2_with fail
  refine (sort_nil _).mono ?_
  rintro e _ ⟨rfl, rfl⟩
  go_wp2
  go_ret
  exact ⟨_, ss, rfl, H1.out, .inl ⟨rfl, HN.out⟩, H4.out⟩
 ·have HA : SrtAt w1 g ss.toArray := by
   refine ⟨cur, hg, by rw [List.size_toArray]; omega, fun i hi => ?_⟩
   rw [List.size_toArray] at hi
   have h5 := congrArg (fun l : List Value => l[i]?) c4
   simp only [Nat.mul_one, List.getElem?_take, if_pos hi, List.getElem?_map] at h5
   rw [← Array.getElem?_toList, h5, List.getElem?_eq_getElem hi]
   simp [hi]
  have hp := sort_u32 g cap ss.toArray w1 HA (by rw [List.size_toArray]; exact HL)
  rw [List.size_toArray] at hp
  have hne : ss ≠ [] := fun e => by
   have := H3.out.2 e
   cases this
  have HNE := hidS hne
  have HB := hidS hb
  clear HA h2 hg c1 c2 c3 c4 hne hb
  go_wp2_with fail
  refine hp.mono ?_
  rintro e w2 ⟨rfl, R, q1, q2, q3, q4⟩
  go_wp2
  go_ret
  exact ⟨_, ss, rfl, H1.out, .inr ⟨g, cap, R, rfl, HB.out, HNE.out, q3, q1, q2⟩, q4.below H4.out HB.out HB.out⟩
end Go.Proofs.YtdoolhbmekahdaaGreatDoor
namespace Go.Proofs.YtdoolhbmekahdaaGreatDoor
open Go.RowKit Go.Maps
set_option linter.unusedVariables false
set_option linter.unusedSimpArgs false
theorem keysIt_m {H : Type} (n : Nat) (hn : 1 ≤ n) (l Bm b nn : Nat) (D0 : DataW H) {R : Value → Option (DataW H × List MemPlace)} (J Jx : List Int → World → Prop)
  (hY : ∀ pre x W, J pre W → pre.length < Maps.size D0 → YieldAt Fence.wide (n - 1) Tryz.prog l #[.int .u32 x] W fun e W' => (e = .returned (.bool true) ∧ J (pre ++ [x]) W' ∧ KeepsWalks W W') ∨ (e = .returned (.bool false) ∧ Jx (pre ++ [x]) W'))
  (W : World) (hJ : AbidesFrom W.heap.size J) (hm : objAt W Bm = some (.cells #[.map (some b)] 151)) (hown : W.ownsMap Tryz.prog 71 R b nn D0) (h0 : J [] W) :
  CallsIn Fence.wide n Tryz.prog 269 #[.func (.yield l) #[] #[], .pointer (some ⟨Bm, 0, none⟩)] W fun e W' => (∃ v, e = .returned v) ∧ ((∃ ss : List Int, CollU D0 (fun _ => false) ss ∧ J ss W') ∨ (∃ pre : List Int, True ∧ Jx pre W')) := by
 have lm := lt_of_objAt hm
 have LK : Keyed Tryz.prog 71 := int_keyed Tryz.underlying71
 refine callsIn_of_wp Tryz.func269 rfl trivial ?_
 simp only [Tryz.ntmps269, List.size_toArray, List.length_cons, List.length_nil, Nat.reduceAdd, Nat.reduceSub, Array.replicate_succ, Array.replicate_zero, List.push_toArray, List.append_toArray, List.nil_append, List.cons_append]
 gi_wp2_with (first
  | (gi_at_range; refine wpListIn_range_own _ rfl _ 151 rfl 71 29 LK Tryz.underlying151 _ b nn _ rfl hown ?_; intro w0 hrg0 hg0 hs0)
  | gi_in)
 (try go_frame)
 gi_loopw [3] (fun _ wr => ∃ (left : Lit → Bool) (cnt : Nat) (ss : List Int), wr.ranges Tryz.prog 71 R b W.heap.size nn D0 left cnt ∧ ss.length + cnt ≤ Maps.size D0 ∧ CollU D0 left ss ∧ J ss wr)
  (fun _ wr => wr.rangeLeft b W.heap.size)
 case atStart => exact ⟨_, _, [], hrg0, by simp, collU_start D0, hJ [] W w0 none h0 hg0 (fun r e => by cases e)⟩
 case round =>
  obtain ⟨left, cnt, ss, hrg, hcs, hC, hJs⟩ := hrel
  gi_wp2_with (first
   | (gi_at_next; refine wpListIn_next_ranges _ rfl _ rfl 71 LK R (Value.int .u32) id (fun key kl hk => by obtain ⟨x, hx, _⟩ := u32_told hk; exact ⟨x, hx⟩) (fun v _ _ => ⟨v, rfl⟩) b W.heap.size nn _ _ _ rfl hrg ?_ ?_)
   | gi_in)
  ·intro hc0 hl0
   gi_wp2
   go_end0
   obtain rfl : left = fun _ => false := funext hl0
   exact ⟨⟨_, rfl⟩, .inl ⟨ss, hC, hJs⟩⟩
  ·intro x c kl yd yp w2 cnt2 hkey hlk hv hat hrg2 hlt hg2 hs2 hen
   obtain ⟨x', ex, rfl⟩ := u32_told hkey
   obtain rfl : x = x' := by simpa using ex
   have hJ2 : J ss w2 := hJ ss wr w2 (some W.heap.size) hJs hg2 (fun r e => by cases e; exact ⟨Nat.le_refl _, hrg.iter_walk⟩)
   obtain ⟨fn, tmps, assign, body, hy, hR⟩ := hY ss x w2 hJ2 (by omega)
   clear hs2
   gi_wp2
   refine hR.mono ?_
   rintro e W3 (⟨rfl, hJ3, hk3⟩ | ⟨rfl, hJx3⟩)
   ·gi_wp2
    have hrg3 := hrg2.of_walks hk3
    go_roundw
    case rel => exact ⟨_, cnt2, ss ++ [x], hrg3, by simp; omega, collU_step hC hlk hat, hJ3⟩
    case measure => rw [hrg3.left_eq, hrg.left_eq]; exact hlt
   ·gi_wp2
    refine bodyPost_ret (results_none rfl _ _ _) rfl ?_
    exact ⟨⟨_, rfl⟩, .inr ⟨ss ++ [x], trivial, hJx3⟩⟩
theorem keysGive_m {H : Type} (n : Nat) (hn : 1 ≤ n) (Bm b nn : Nat) (D0 : DataW H) {R : Value → Option (DataW H × List MemPlace)} (w : World) (hm : objAt w Bm = some (.cells #[.map (some b)] 151)) (hown : w.ownsMap Tryz.prog 71 R b nn D0) :
  SeqStops Fence.wide n Tryz.prog 269 #[.pointer (some ⟨Bm, 0, none⟩)] (Value.int .u32) (CollU D0 (fun _ => false)) (fun _ => True) (Maps.size D0) w := fun l J Jx W hW hJ _ hY h0 => by
 have hown' : W.ownsMap Tryz.prog 71 R b nn D0 := by
  have hbl := World.ownsMap.lt hown
  obtain ⟨es, clock, hb, Ft, hs, hD⟩ := hown
  exact ⟨es, clock, (hW.block b hbl).trans hb, Ft, hs, hD⟩
 exact keysIt_m n hn l Bm b nn D0 J Jx hY W hJ (keep_below hW hm) hown' h0
theorem keys_m (mb : Option Nat) (w : World) :
  Calls Tryz.prog 221 #[.map mb] w fun e w' => e = .returned (.func (.func 269) #[] #[.pointer (some ⟨w.heap.size, 0, none⟩)]) ∧ w' = w.alloc (.cells #[.map mb] 151) := by
 go_enter Tryz.func221, Tryz.ntmps221
 go_wp2
 go_ret
 exact ⟨rfl, rfl⟩
end Go.Proofs.YtdoolhbmekahdaaGreatDoor
namespace Go.Proofs.YtdoolhbmekahdaaGreatDoor
open Go.RowKit Go.Maps
set_option linter.unusedVariables false
set_option linter.unusedSimpArgs false
def lenV : Value → Nat
 | .slice _ l _ => l
 | _ => 0
def sumL (left : Lit → Bool) : List (Int × Value) → Nat
 | [] => 0
 | e :: r => (if left (.int .u32 e.1) = true then 0 else lenV e.2) + sumL left r
def mapV (es : List (Int × Value)) : DataW Value := .map (es.map fun e => (Lit.int .u32 e.1, .held e.2))
theorem sumL_congr {l l' : Lit → Bool} : ∀ es : List (Int × Value), (∀ e ∈ es, l (.int .u32 e.1) = l' (.int .u32 e.1)) → sumL l es = sumL l' es
 | [], _ => rfl
 | e :: r, h => by
  unfold sumL
  rw [h e (by simp), sumL_congr r fun x hx => h x (by simp [hx])]
theorem sumL_le (l : Lit → Bool) : ∀ es : List (Int × Value), sumL l es ≤ sumL (fun _ => false) es
 | [] => Nat.le_refl _
 | e :: r => by
  have := sumL_le l r
  unfold sumL
  split <;> simp <;> omega
theorem has_mapV {es : List (Int × Value)} {x : Int} : has (mapV es) (.int .u32 x) = true ↔ x ∈ es.map (·.1) := by
 unfold mapV has
 simp only [List.any_eq_true, List.mem_map]
 constructor
 ·rintro ⟨p, ⟨e, he, rfl⟩, h⟩
  refine ⟨e, he, ?_⟩
  simpa [Lit.sameKey] using h
 ·rintro ⟨e, he, rfl⟩
  exact ⟨_, ⟨e, he, rfl⟩, by simp [Lit.sameKey]⟩
theorem sumL_start (es : List (Int × Value)) : sumL (has (mapV es)) es = 0 := by
 have h : ∀ l : List (Int × Value), (∀ e ∈ l, has (mapV es) (.int .u32 e.1) = true) → sumL (has (mapV es)) l = 0 := by
  intro l
  induction l with
  | nil => intro _; rfl
  | cons e r ih =>
   intro h
   unfold sumL
   rw [if_pos (h e (by simp)), ih fun x hx => h x (by simp [hx])]
 exact h es fun e he => has_mapV.2 (List.mem_map.2 ⟨e, he, rfl⟩)
theorem sumL_step {left : Lit → Bool} {x : Int} {v : Value} (hl : left (.int .u32 x) = true) : ∀ es : List (Int × Value), (es.map (·.1)).Nodup → (x, v) ∈ es → sumL (fun z => left z && !z.sameKey (.int .u32 x)) es = sumL left es + lenV v
 | [], _, h => by cases h
 | e :: r, hn, h => by
  rw [List.map_cons, List.nodup_cons] at hn
  unfold sumL
  rcases List.mem_cons.1 h with rfl | h
  ·rw [sumL_congr (l' := left) r]
   ·simp [hl, Lit.sameKey]; omega
   ·intro f hf
    have : f.1 ≠ x := fun e => hn.1 (by rw [← e]; exact List.mem_map.2 ⟨f, hf, rfl⟩)
    simp [Lit.sameKey, this]
  ·rw [sumL_step hl r hn.2 h]
   have : e.1 ≠ x := fun e2 => hn.1 (by rw [e2]; exact List.mem_map.2 ⟨(x, v), h, rfl⟩)
   simp [Lit.sameKey, this]
   omega
theorem mem_of_at {x : Int} {v : Value} : ∀ es : List (Int × Value), (∀ zd : DataW Value, (mapV es).atKey (.int .u32 x) zd = .held v) → (x, v) ∈ es
 | [], h => by
  have h1 := h (.held (.bool true))
  have h2 := h (.held (.bool false))
  simp only [mapV, DataW.atKey, List.map_nil, List.find?_nil] at h1 h2
  rw [← h1] at h2
  simp at h2
 | e :: r, h => by
  by_cases he : e.1 = x
  ·have := h (.held v)
   simp only [mapV, DataW.atKey, List.map_cons, List.find?_cons, Lit.sameKey, he] at this
   simp at this
   rw [← this, ← he]
   simp
  ·refine List.mem_cons_of_mem _ (mem_of_at r fun zd => ?_)
   have := h zd
   unfold mapV DataW.atKey at this ⊢
   simp only [List.map_cons, List.find?_cons] at this
   rw [show Lit.sameKey (Lit.int .u32 e.1) (Lit.int .u32 x) = false by simp [Lit.sameKey, he]] at this
   exact this
def incr : List Int → Bool
 | [] => true
 | a :: r => match r with
  | [] => true
  | b :: _ => decide (a < b) && incr r
theorem incr_lt : ∀ (l : List Int), incr l = true → l.Pairwise (· < ·)
 | [], _ => List.Pairwise.nil
 | [a], _ => by simp
 | a :: b :: r, h => by
  unfold incr at h
  rw [Bool.and_eq_true, decide_eq_true_eq] at h
  have ih := incr_lt (b :: r) h.2
  refine List.pairwise_cons.2 ⟨fun x hx => ?_, ih⟩
  rcases List.mem_cons.1 hx with rfl | hx
  ·exact h.1
  ·exact Int.lt_trans h.1 ((List.pairwise_cons.1 ih).1 x hx)
theorem nodup_lt {l : List Int} (h : l.Pairwise (· < ·)) : l.Nodup := h.imp fun h => by omega
theorem rising_same : ∀ {l m : List Int}, l.Pairwise (· < ·) → m.Pairwise (· < ·) → (∀ x, x ∈ l ↔ x ∈ m) → l = m
 | [], [], _, _, _ => rfl
 | [], b :: m, _, _, h => by have := (h b).2 (by simp); cases this
 | a :: l, [], _, _, h => by have := (h a).1 (by simp); cases this
 | a :: l, b :: m, h1, h2, h => by
  rw [List.pairwise_cons] at h1 h2
  have e : a = b := by
   rcases List.mem_cons.1 ((h a).1 (by simp)) with h3 | h3
   ·exact h3
   ·rcases List.mem_cons.1 ((h b).2 (by simp)) with h4 | h4
    ·exact h4.symm
    ·have := h1.1 b h4; have := h2.1 a h3; omega
  subst e
  rw [rising_same h1.2 h2.2 fun x => ⟨fun hx => ?_, fun hx => ?_⟩]
  ·rcases List.mem_cons.1 ((h x).1 (by simp [hx])) with h3 | h3
   ·subst h3; have := h1.1 x hx; omega
   ·exact h3
  ·rcases List.mem_cons.1 ((h x).2 (by simp [hx])) with h3 | h3
   ·subst h3; have := h2.1 x hx; omega
   ·exact h3
theorem sorted_list {ss ks : List Int} {R : Array Int} (hn : ss.Nodup) (hP : Go.Sort.PermIn 0 ss.length ss.toArray R) (hS : Go.Sort.SortedIn Go.Sort.ltInt 0 ss.length R) (hk : incr ks = true) (hm : ∀ x, x ∈ ss ↔ x ∈ ks) : R = ks.toArray ∧ ks.length = ss.length := by
 obtain ⟨p1, -, p3⟩ := hP
 have p1 : R.size = ss.length := by simpa using p1
 have e1 : R.extract 0 ss.length = R := by rw [← p1]; simp
 have e2 : ss.toArray.extract 0 ss.length = ss.toArray := by simp
 rw [e1, e2] at p3
 have hR : R.toList.Pairwise (· < ·) := by
  rw [List.pairwise_iff_getElem]
  intro i j hi hj hij
  have h1 := hS i j (Nat.zero_le _) hij (by simpa [p1] using hj)
  have hnR : R.toList.Nodup := p3.symm.nodup (by simpa using hn)
  have h2 : R.toList[i] ≠ R.toList[j] := List.pairwise_iff_getElem.1 hnR i j hi hj hij
  simp only [Go.Sort.ltInt, decide_eq_false_iff_not] at h1
  have hi' : i < R.size := by simpa using hi
  have hj' : j < R.size := by simpa using hj
  rw [getElem!_pos R j hj', getElem!_pos R i hi'] at h1
  simp only [Array.getElem_toList] at h2 ⊢
  omega
 have e3 := rising_same hR (incr_lt ks hk) fun x => by
  rw [p3.mem_iff]
  simpa using hm x
 have e4 : R = ks.toArray := by rw [← e3]
 exact ⟨e4, by rw [← p1, e4]; simp⟩
end Go.Proofs.YtdoolhbmekahdaaGreatDoor
namespace Go.Proofs.YtdoolhbmekahdaaGreatDoor
open Go.RowKit Go.Maps
set_option linter.unusedVariables false
set_option linter.unusedSimpArgs false
theorem nodup_le : ∀ {l m : List Int}, l.Nodup → (∀ x ∈ l, x ∈ m) → l.length ≤ m.length
 | [], m, _, _ => Nat.zero_le _
 | a :: l, m, h, hs => by
  rw [List.nodup_cons] at h
  have ha : a ∈ m := hs a (by simp)
  have := nodup_le (m := m.erase a) h.2 fun x hx => by
   have hne : x ≠ a := fun e => h.1 (by rw [← e]; exact hx)
   exact (List.mem_erase_of_ne hne).2 (hs x (by simp [hx]))
  rw [List.length_erase_of_mem ha] at this
  have : 0 < m.length := List.length_pos_of_mem ha
  rw [List.length_cons]
  omega
theorem names_any (g b nn : Nat) (es : List (Int × Value)) (w : World) (hg : objAt w g = some (.cells #[.map (some b)] 153)) (hown : w.ownsMap Tryz.prog 71 Mc.hV b nn (mapV es)) (hi : incr (es.map (·.1)) = true) (hne : es ≠ []) (hlen : es.length < 13) :
  Calls Tryz.prog 173 #[.pointer (some ⟨g, 0, none⟩)] w fun e w' => ∃ g' c, e = .returned (.slice (some ⟨g', 0, none⟩) es.length c) ∧ w.heap.size ≤ g' ∧ SrtAt w' g' (es.map (·.1)).toArray ∧ Below w.heap.size w w' := by
 have lg := lt_of_objAt hg
 have hb0 : Below w.heap.size w (w.alloc (.cells #[.map (some b)] 151)) := (Below.refl _ w).alloc (Nat.le_refl _) _
 have hsz : Maps.size (mapV es) = es.length := by simp [mapV, Maps.size]
 have hmem : ∀ ss : List Int, CollU (mapV es) (fun _ => false) ss → ∀ x, x ∈ ss ↔ x ∈ es.map (·.1) := fun ss h x => by
  rw [h.2 x, has_mapV]
  simp
 have hs := sorted_any 269 #[.pointer (some ⟨w.heap.size, 0, none⟩)] (fun args w => by simp) (CollU (mapV es) (fun _ => false)) (fun _ => True) (fun ss h => by
  have := nodup_le h.1 fun x hx => (hmem ss h x).1 hx
  rw [List.length_map] at this
  show ss.length < 13
  omega) (Maps.size (mapV es)) (by omega) (w.alloc (.cells #[.map (some b)] 151)) (keysGive_m 2 (by omega) w.heap.size b nn (mapV es) _ (objAt_alloc_at _ _ _ rfl) (hown.alloc _))
 have HS := hidS hs
 have HI := hidS hi
 have HM := hidS hmem
 clear hs hi hmem hsz
 go_enter Tryz.func173, Tryz.ntmps173
 go_wp2_with fail
 refine (keys_m (some b) w).mono ?_
 rintro e _ ⟨rfl, rfl⟩
 go_wp2_with fail
 refine HS.out.mono ?_
 rintro e w2 ⟨v, ss, rfl, h1, h2, h3⟩
 have hm2 := HM.out ss h1
 rcases h2 with ⟨-, rfl⟩ | ⟨g', c, R, rfl, q1, q2, q3, q4, q5⟩
 ·exfalso
  cases es with
  | nil => exact hne rfl
  | cons e r => exact absurd ((hm2 e.1).2 (by simp)) (by simp)
 ·obtain ⟨rfl, hl⟩ := sorted_list h1.1 q4 q5 HI.out hm2
  rw [List.length_map] at hl
  have HL := hidS hl
  have HQ := hidS q3
  have hb1 : Below w.heap.size w w2 := Grew.trans hb0 h3
  have HB := hidS hb1
  have hq : w.heap.size ≤ g' := by simp at q1; omega
  clear q3 h3 q1 q2 q4 q5 hm2 HM HI hb0 hb1 hl
  go_wp2
  go_ret
  exact ⟨g', c, congrArg (fun k => Ending.returned (Value.slice (some ⟨g', 0, none⟩) k c)) HL.out.symm, hq, HQ.out, HB.out⟩
theorem waiting_any (g b nn : Nat) (es : List (Int × Value)) (w : World) (hg : objAt w g = some (.cells #[.map (some b)] 153)) (hown : w.ownsMap Tryz.prog 71 Mc.hV b nn (mapV es)) (hi : (es.map (·.1)).Nodup) (hv : ∀ e ∈ es, ∃ a l c, e.2 = .slice a l c) (hs : sumL (fun _ => false) es < 1000000) :
  Calls Tryz.prog 181 #[.pointer (some ⟨g, 0, none⟩)] w fun e w' => e = .returned (.int .i64 ((sumL (fun _ => false) es : Nat) : Int)) ∧ Below w.heap.size w w' := by
 have lg := lt_of_objAt hg
 have LK : Keyed Tryz.prog 71 := int_keyed Tryz.underlying71
 have HV := hidS hv
 have HN := hidS hi
 have HS := hidS hs
 clear hv hi hs
 go_enter Tryz.func181, Tryz.ntmps181
 go_wp2_with (first
  | (at_range; refine wpList_range_own _ rfl _ 151 rfl 71 29 LK Tryz.underlying151 _ b nn _ rfl hown ?_; intro w0 hrg0 hg0 hs0)
  | go_in)
 (try go_frame)
 go_loopw [3] (fun vn wr => ∃ (left : Lit → Bool) (cnt : Nat), wr.ranges Tryz.prog 71 Mc.hV b w.heap.size nn (mapV es) left cnt ∧ vn = .int .i64 ((sumL left es : Nat) : Int) ∧ Below w.heap.size w wr)
  (fun _ wr => wr.rangeLeft b w.heap.size)
 case atStart => exact ⟨_, _, hrg0, by rw [sumL_start]; rfl, ⟨hg0.os, hg0.tape, hg0.output, hg0.size, fun k hk => hg0.block k hk (by simp)⟩⟩
 case round =>
  obtain ⟨left, cnt, hrg, rfl, hB⟩ := hrel
  have hle := sumL_le left es
  have HBL := hidS hB
  go_wp2_with (first
   | (at_next; refine wpList_next_ranges _ rfl _ rfl 71 LK Mc.hV (Value.int .u32) id (fun key kl hk => by obtain ⟨x, hx, _⟩ := u32_told hk; exact ⟨x, hx⟩) (fun v _ _ => ⟨v, rfl⟩) b w.heap.size nn _ _ _ rfl hrg ?_ ?_)
   | go_in)
  ·intro hc0 hl0
   obtain rfl : left = fun _ => false := funext hl0
   go_wp2
   go_ret
   exact ⟨rfl, HBL.out⟩
  ·intro x c kl yd yp w2 cnt2 hkey hlk hvv hat hrg2 hlt hg2 hs2 hen
   obtain ⟨x', ex, rfl⟩ := u32_told hkey
   obtain rfl : x = x' := by simpa using ex
   have hy : yd = .held c := by
    unfold Mc.hV at hvv
    injection hvv with hvv
    exact (congrArg Prod.fst hvv).symm
   have hin : (x, c) ∈ es := mem_of_at es fun zd => (hat zd).trans hy
   have hst := sumL_step hlk es HN.out hin
   have hle2 := sumL_le (fun z => left z && !z.sameKey (.int .u32 x)) es
   obtain ⟨a, l, cc, rfl⟩ : ∃ a l cc, c = .slice a l cc := HV.out _ hin
   have hl' : lenV (.slice a l cc) = l := rfl
   rw [hl'] at hst
   have HSS := HS.out
   have hB2 : Below w.heap.size w w2 := ⟨hg2.os.trans HBL.out.os, hg2.tape.trans HBL.out.tape, hg2.output.trans HBL.out.output, Nat.le_trans HBL.out.size hg2.size, fun k hk => (hg2.block k (by have := HBL.out.size; omega) (by simp; omega)).trans (HBL.out.block k hk)⟩
   have HB2 := hidS hB2
   have HST : Hid (wrap64 (((sumL left es : Nat) : Int) + (l : Int)) = ((sumL (fun z => left z && !z.sameKey (.int .u32 x)) es : Nat) : Int)) := by
    have h9 : ((sumL (fun z => left z && !z.sameKey (.int .u32 x)) es : Nat) : Int) = ((sumL left es : Nat) : Int) + (l : Int) := by rw [hst]; simp
    have h8 : ((sumL left es : Nat) : Int) + (l : Int) < 1000000 := by rw [← h9]; omega
    show wrap64 _ = _
    rw [h9]
    generalize ((sumL left es : Nat) : Int) + (l : Int) = q at *
    have h7 : 0 ≤ q := by rw [← h9]; omega
    unfold wrap64
    omega
   clear hs2 hB2 hst hat hy hvv hin hl'
   go_wp2
   go_roundw
   case rel => first | exact ⟨_, cnt2, hrg2, congrArg (Value.int .i64) HST.out, HB2.out⟩ | ((repeat' apply Exists.intro) <;> first | exact ⟨⟨_, cnt2, hrg2, congrArg (Value.int .i64) HST.out, HB2.out⟩, rfl⟩ | exact undef)
   case measure => rw [hrg2.left_eq, hrg.left_eq]; exact hlt
end Go.Proofs.YtdoolhbmekahdaaGreatDoor
