/- The product of many numbers, of the reference; slices of numbers. -/
import Derived.Test.YtmmhcpfniipgeaaRefPow
import Derived.Laws.AppendOwn
namespace Go.Proofs.Ytmmhcpfniipgeaa
open Go.RowKit
set_option linter.unusedVariables false
set_option linter.unusedSimpArgs false

/-- n numbers, from an address on, in every later world -/
def NumsAt (w : World) (oa : Option Addr) (n : Nat) (G : Nat → Int) : Prop :=
  n = 0 ∨ ∃ ad : Addr, oa = some ad ∧ ∀ w', Below w.heap.size w w' → ∀ j, j < n → (loadNext 41 (.pointer (some (ad.add (j * 16))))).run Try.prog w' = .ok (.value (.agg (ints .i64 16 (numN (G j))))) w'
theorem NumsAt.later {w w' : World} {oa : Option Addr} {n : Nat} {G : Nat → Int} (h : NumsAt w oa n G) (hb : Below w.heap.size w w') : NumsAt w' oa n G := by
  rcases h with h | ⟨ad, ho, hl⟩
  · exact .inl h
  · exact .inr ⟨ad, ho, fun w'' hb' => hl w'' (Grew.trans hb hb')⟩
def prodN (G : Nat → Int) : Nat → Int
  | 0 => 1
  | j + 1 => prodN G j * G j % 57896044618658097711785492504343953926634992332820282019728792003956564819949
theorem prodN_bd (G : Nat → Int) : ∀ j, 0 ≤ prodN G j ∧ prodN G j < 57896044618658097711785492504343953926634992332820282019728792003956564819949
  | 0 => by simp [prodN]
  | j + 1 => by unfold prodN; omega
structure RProdInv (G : Nat → Int) (gp : Nat) (w : World) (j : Nat) (wr : World) : Prop where
  g : Below w.heap.size w wr
  fr : objAt wr w.heap.size = some (.cells (ints .i64 16 nought) 41)
  fp : objAt wr gp = some (.cells (ints .i64 16 (numN (prodN G j))) 41)
set_option maxHeartbeats 1000000 in
theorem productN_any (G : Nat → Int) (n c : Nat) (oa : Option Addr) (w : World) (hG0 : ∀ j, j < n → 0 ≤ G j ∧ G j < 57896044618658097711785492504343953926634992332820282019728792003956564819949) (hn : n ≤ 9223372036854775807) (hl : NumsAt w oa n G) :
    Calls Try.prog 46 #[.slice oa n c] w fun e w' => e = .returned (.agg (ints .i64 16 (numN (prodN G n)))) ∧ Below w.heap.size w w' := by
  have hL : Hid (NumsAt w oa n G) := hl
  clear hl
  have hG := Grew.refl w
  have fr : True := trivial
  go_enter Try.func46, Try.ntmps46
  go_wp2_with fail
  (refine (smallN_any 1 _ (by decide) (by decide)).mono ?_; rintro e w1 ⟨rfl, hb⟩; replace fr : objAt w1 (w.heap.size) = some (.cells (ints .i64 16 nought) 41) := keep_below hb (by (repeat (first | assumption | exact objAt_alloc_at _ _ _ rfl | (refine objAt_alloc_at _ _ _ ?_; (simp; done)) | refine keep_alloc _ ?_ | refine keep_drewN _ ?_ | refine keep_more _ ?_ | exact keep_row _ (by assumption) | refine keep_setRow _ _ ?_ (by first | omega | (simp; omega) | simp)))); have lfr := lt_of_objAt fr; replace hG : Below w.heap.size w w1 := Grew.trans (by (repeat (first | assumption | exact Grew.refl _ | refine Grew.more ?_ _ | refine Grew.alloc ?_ _ | refine Grew.drewN ?_ _ | refine Grew.setRow ?_ _ _ (by omega) | refine Grew.setRow ?_ _ _ (by simp; omega) | refine Grew.setRow ?_ _ _ (by simp)))) hb; clear hb)
  have hw1 := hG.size
  have hr1 := lfr
  have n1 : ¬ (w.heap.size = w1.heap.size) := by omega
  go_wp2_with fail
  go_loopw [4] (fun i wr => ∃ j : Nat, j ≤ n ∧ i = .int .i64 j ∧ RProdInv G w1.heap.size w j wr) (fun i _ => n - (intOf i).toNat)
  case atStart => exact ⟨0, by omega, rfl, ⟨by (repeat (first | assumption | exact Grew.refl _ | refine Grew.more ?_ _ | refine Grew.alloc ?_ _ | refine Grew.drewN ?_ _ | refine Grew.setRow ?_ _ _ (by omega) | refine Grew.setRow ?_ _ _ (by simp; omega) | refine Grew.setRow ?_ _ _ (by simp))), by (repeat (first | assumption | exact objAt_alloc_at _ _ _ rfl | (refine objAt_alloc_at _ _ _ ?_; (simp; done)) | refine keep_alloc _ ?_ | refine keep_drewN _ ?_ | refine keep_more _ ?_ | exact keep_row _ (by assumption) | refine keep_setRow _ _ ?_ (by first | omega | (simp; omega) | simp))), by rw [show prodN G 0 = 1 from rfl]; (repeat (first | assumption | exact objAt_alloc_at _ _ _ rfl | (refine objAt_alloc_at _ _ _ ?_; (simp; done)) | refine keep_alloc _ ?_ | refine keep_drewN _ ?_ | refine keep_more _ ?_ | exact keep_row _ (by assumption) | refine keep_setRow _ _ ?_ (by first | omega | (simp; omega) | simp)))⟩⟩
  case round =>
    clear fr hG lfr
    obtain ⟨j, hj, rfl, hG, fr, fp⟩ := hrel
    have lfr := lt_of_objAt fr
    have lfp := lt_of_objAt fp
    by_cases hlt : j < n
    · rcases hL.out with h0 | ⟨ad, rfl, hl⟩
      · omega
      have l1 : ∀ m, (loadNext 41 (.pointer (some (ad.add (j * 16))))).run Try.prog (more wr m) = .ok (.value (.agg (ints .i64 16 (numN (G j))))) (more wr m) := fun m => hl _ (Grew.more hG m) j hlt
      clear hl
      have hm := fun w => mulN_any (prodN G j) (G j) w (prodN_bd G j) (hG0 j hlt)
      have Z : prodN G j * G j % 57896044618658097711785492504343953926634992332820282019728792003956564819949 = prodN G (j + 1) := rfl
      rw [Z] at hm
      clear Z
      go_wp2_with fail
      ((first | (with_reducible refine wp_region_tail_on 6 (by kernel_rfl) (by kernel_rfl) (by kernel_rfl) (by kernel_rfl) (by kernel_rfl) ?_) | refine wp_region_tail_more 6 (by kernel_rfl) (by kernel_rfl) (by kernel_rfl) (by kernel_rfl) (by kernel_rfl) ?_); simp only [List.take_succ_cons, List.take_zero]; (repeat (first | go_big_quiet_skip | (go_big_quiet_want; go_big_quiet_op; first | go_big_quiet_on | (apply Exists.intro; refine ⟨fun _ => ?_, ?_⟩; (focus (first | (with_reducible exact Calls.of_more (hm _)))); go_big_quiet_on)))); refine wpQuiet_nil ?_; rintro _ ⟨mq, rfl⟩)
      (refine tail_one (i := 6) (fuel := 0) (by kernel_rfl) rfl ?_; intro K hK; go_simp; refine hK _ _ ?_; clear hK K)
      (refine wpAny_done (by kernel_rfl) ?_ _)
      go_wp2
      go_roundw
      case rel => exact ⟨j + 1, by omega, by go_num, ⟨by (repeat (first | assumption | exact Grew.refl _ | refine Grew.more ?_ _ | refine Grew.alloc ?_ _ | refine Grew.drewN ?_ _ | refine Grew.setRow ?_ _ _ (by omega) | refine Grew.setRow ?_ _ _ (by simp; omega) | refine Grew.setRow ?_ _ _ (by simp))), by (repeat (first | assumption | exact objAt_alloc_at _ _ _ rfl | (refine objAt_alloc_at _ _ _ ?_; (simp; done)) | refine keep_alloc _ ?_ | refine keep_drewN _ ?_ | refine keep_more _ ?_ | exact keep_row _ (by assumption) | refine keep_setRow _ _ ?_ (by first | omega | (simp; omega) | simp))), by (repeat (first | assumption | exact objAt_alloc_at _ _ _ rfl | (refine objAt_alloc_at _ _ _ ?_; (simp; done)) | refine keep_alloc _ ?_ | refine keep_drewN _ ?_ | refine keep_more _ ?_ | exact keep_row _ (by assumption) | refine keep_setRow _ _ ?_ (by first | omega | (simp; omega) | simp)))⟩⟩
      case measure => simp [intOf] <;> omega
    · obtain rfl : j = n := by omega
      clear hlt
      go_wp2
      refine ret_row rfl w.heap.size 41 _ (0, 0) _ rfl (keep_row _ fr) Try.underlying41 rfl (by rw [ints_size]; kernel_rfl) rfl ⟨rfl, by (repeat (first | assumption | exact Grew.refl _ | refine Grew.more ?_ _ | refine Grew.alloc ?_ _ | refine Grew.drewN ?_ _ | refine Grew.setRow ?_ _ _ (by omega) | refine Grew.setRow ?_ _ _ (by simp; omega) | refine Grew.setRow ?_ _ _ (by simp)))⟩
/-! slices of numbers that are appended to -/
def numsL (G : Nat → Int) : Nat → List Value
  | 0 => []
  | j + 1 => numsL G j ++ (ints .i64 16 (numN (G j))).toList
theorem numsL_len (G : Nat → Int) : ∀ n, (numsL G n).length = n * 16
  | 0 => rfl
  | n + 1 => by rw [numsL, List.length_append, numsL_len G n, Array.length_toList, ints_size]; omega
theorem numsL_at (G : Nat → Int) : ∀ n j, j < n → ∀ i, i < 16 → (numsL G n)[j * 16 + i]? = some (.int .i64 (numN (G j) i))
  | 0, j, h, _, _ => by omega
  | n + 1, j, h, i, hi => by
    rw [numsL]
    by_cases e : j = n
    · subst e
      rw [List.getElem?_append_right (by rw [numsL_len]; omega), numsL_len, show j * 16 + i - j * 16 = i by omega, Array.getElem?_toList, ints_get _ _ _ _ hi]
    · rw [List.getElem?_append_left (by rw [numsL_len]; omega), numsL_at G n j (by omega) i hi]
theorem nums_of_own {w : World} {base n : Nat} {v : Value} {G : Nat → Int} (h : w.ownsRow base 41 16 v n (numsL G n)) : ∃ oa c, v = .slice oa n c ∧ NumsAt w oa n G := by
  rcases h.2 with ⟨rfl, rfl⟩ | ⟨g, cap, cur, rfl, hb, hg, hnc, hcm, hcs, htake⟩
  · exact ⟨none, 0, rfl, .inl rfl⟩
  · refine ⟨some ⟨g, 0, none⟩, cap, rfl, .inr ⟨_, rfl, fun w' hb' j hj => ?_⟩⟩
    refine run_load_row Try.underlying41 rfl (by kernel_rfl) w' _ (ints .i64 16 (numN (G j))) (ints_size _ _ _) fun i hi => ?_
    have h' := keep_below hb' (show objAt w g = _ from hg)
    unfold objAt at h'
    have ha : ((⟨g, 0, none⟩ : Addr).add (j * 16)).add i = ⟨g, j * 16 + i, none⟩ := by
      rw [Go.Deep.add_add]
      unfold Addr.add
      split
      · simp_all
      · simp
    have h1 := numsL_at G n j hj i hi
    rw [← htake, List.getElem?_take, if_pos (by omega)] at h1
    rw [ha, cell_of_row w' g _ _ _ _ h', ints_get _ _ _ _ hi]
    simpa using h1
theorem ints16 (k : IntKind) (a : Nat → Int) : ints k 16 a = #[.int k (a 0), .int k (a 1), .int k (a 2), .int k (a 3), .int k (a 4), .int k (a 5), .int k (a 6), .int k (a 7), .int k (a 8), .int k (a 9), .int k (a 10), .int k (a 11), .int k (a 12), .int k (a 13), .int k (a 14), .int k (a 15)] := by
  apply Array.ext_getElem?
  intro i
  by_cases h : i < 16
  · rw [ints_get _ _ _ _ h]
    rcases (by omega : i = 0 ∨ i = 1 ∨ i = 2 ∨ i = 3 ∨ i = 4 ∨ i = 5 ∨ i = 6 ∨ i = 7 ∨ i = 8 ∨ i = 9 ∨ i = 10 ∨ i = 11 ∨ i = 12 ∨ i = 13 ∨ i = 14 ∨ i = 15) with rfl | rfl | rfl | rfl | rfl | rfl | rfl | rfl | rfl | rfl | rfl | rfl | rfl | rfl | rfl | rfl <;> rfl
  · rw [Array.getElem?_eq_none (by rw [ints_size]; omega), Array.getElem?_eq_none (by simp; omega)]
theorem put16z (k : IntKind) (a f : Nat → Int) : (ints k 16 a).zipIdx.foldl (fun cs (x : Value × Nat) => cs.setIfInBounds x.2 x.1) (ints k 16 f) = ints k 16 a := by
  have e : (ints k 16 a).zipIdx = #[(.int k (a 0), 0), (.int k (a 1), 1), (.int k (a 2), 2), (.int k (a 3), 3), (.int k (a 4), 4), (.int k (a 5), 5), (.int k (a 6), 6), (.int k (a 7), 7), (.int k (a 8), 8), (.int k (a 9), 9), (.int k (a 10), 10), (.int k (a 11), 11), (.int k (a 12), 12), (.int k (a 13), 13), (.int k (a 14), 14), (.int k (a 15), 15)] := by rw [ints16]; rfl
  rw [e]
  have e2 : ∀ (g : Array Value → Value × Nat → Array Value) (z : Array Value) (x0 x1 x2 x3 x4 x5 x6 x7 x8 x9 x10 x11 x12 x13 x14 x15 : Value × Nat), (#[x0, x1, x2, x3, x4, x5, x6, x7, x8, x9, x10, x11, x12, x13, x14, x15] : Array (Value × Nat)).foldl g z = g (g (g (g (g (g (g (g (g (g (g (g (g (g (g (g z x0) x1) x2) x3) x4) x5) x6) x7) x8) x9) x10) x11) x12) x13) x14) x15 := fun g z x0 x1 x2 x3 x4 x5 x6 x7 x8 x9 x10 x11 x12 x13 x14 x15 => by simp
  rw [e2]
  simp only [ints_set]
  refine ints_congr fun i hi => ?_
  rcases (by omega : i = 0 ∨ i = 1 ∨ i = 2 ∨ i = 3 ∨ i = 4 ∨ i = 5 ∨ i = 6 ∨ i = 7 ∨ i = 8 ∨ i = 9 ∨ i = 10 ∨ i = 11 ∨ i = 12 ∨ i = 13 ∨ i = 14 ∨ i = 15) with rfl | rfl | rfl | rfl | rfl | rfl | rfl | rfl | rfl | rfl | rfl | rfl | rfl | rfl | rfl | rfl <;> simp [upd]
set_option maxRecDepth 100000 in
theorem build1 (f : Nat → Int) (W : World) : (Instr.buildSlice 56 1 #[(0, .agg (ints .i64 16 f))]).run Try.prog W = .ok (.slice (some ⟨W.heap.size, 0, none⟩) 1 1) (W.alloc (.cells (ints .i64 16 f) 41)) := by
  have hz : (Array.range 16).map (fun x => (Value.agg (ints .i64 16 nought)).cells[x % (Value.agg (ints .i64 16 nought)).cells.size]!) = ints .i64 16 nought := by
    apply Array.ext_getElem?
    intro i
    by_cases h : i < 16
    · rw [ints_get _ _ _ _ h]
      simp [h, cells_agg, ints_size]
      rw [getElem!_pos _ _ (by rw [ints_size]; omega), ints_at]; rfl
    · rw [Array.getElem?_eq_none (by simp; omega), Array.getElem?_eq_none (by rw [ints_size]; omega)]
  have hsz : (sizeOf 41).run Try.prog W = .ok 16 W := by kernel_rfl
  unfold Instr.buildSlice
  simp only [Sem.run_bind, run_underlying Try.underlying56, Result.andThen_ok, hsz, zero_num, Nat.reduceMul, Nat.reducePow, Nat.reduceLT, Nat.reduceEqDiff, if_false, Sem.run_pure, gt_iff_lt, Bool.false_eq_true]
  rw [hz]
  have hfill : Instr.fill (fun i => some (i * 16, 16)) (ints .i64 16 nought) [(0, .agg (ints .i64 16 f))] = some (ints .i64 16 f) := by
    simp only [Instr.fill, cells_agg, ints_size, ne_eq, not_true_eq_false, Nat.reduceMul, Nat.zero_mul, Nat.zero_add, Nat.reduceAdd, gt_iff_lt, Nat.reduceLT, decide_false, Bool.or_self, Bool.false_eq_true, if_false, put16z, or_self, Nat.lt_irrefl]
  rw [hfill]
  rfl
end Go.Proofs.Ytmmhcpfniipgeaa
