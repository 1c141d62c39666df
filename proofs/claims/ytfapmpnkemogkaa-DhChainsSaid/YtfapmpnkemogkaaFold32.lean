/- The number of 32 digits, folded; products of the reference. -/
import Derived.Test.YtfapmpnkemogkaaRef02b
namespace Go.Proofs.Ytfapmpnkemogkaa
open Go.RowKit
set_option linter.unusedVariables false
set_option linter.unusedSimpArgs false

def lenOf : Value → Nat | .slice _ n _ => n | _ => 0
/-- what stands in the sixteen digits when the first i of l have been taken in -/
def foldA (l : Nat → Int) (i : Nat) : Nat → Int := fun j => (if j < i then l j else 0) + (if j + 16 < i then 38 * l (j + 16) else 0)
theorem foldA_zero (l : Nat → Int) : foldA l 0 = nought := by funext j; simp [foldA, nought]
theorem foldA_low (l : Nat → Int) (i : Nat) (h : i < 16) : foldA l i i = 0 := by unfold foldA; rw [if_neg (by omega), if_neg (by omega)]; rfl
theorem foldA_next (l : Nat → Int) (i : Nat) (h : i < 16) : ints .i64 16 (upd (foldA l i) i (l i)) = ints .i64 16 (foldA l (i + 1)) := ints_congr fun j hj => by
  unfold upd foldA
  by_cases e : j = i
  · subst e; (repeat' split) <;> omega
  · (repeat' split) <;> omega
theorem foldA_high (l : Nat → Int) (i : Nat) (h : 16 ≤ i) (h2 : i < 32) : foldA l i (i - 16) = l (i - 16) := by unfold foldA; rw [if_pos (by omega), if_neg (by omega)]; omega
theorem foldA_more (l : Nat → Int) (i : Nat) (h : 16 ≤ i) (h2 : i < 32) : ints .i64 16 (upd (foldA l i) (i - 16) (l (i - 16) + 38 * l i)) = ints .i64 16 (foldA l (i + 1)) := ints_congr fun j hj => by
  unfold upd foldA
  by_cases e : j = i - 16
  · subst e
    rw [show i - 16 + 16 = i by omega]
    (repeat' split) <;> omega
  · (repeat' split) <;> omega
def foldL (l : Nat → Int) : Nat → Int := fun j => l j + 38 * l (j + 16)
theorem foldA_end (l : Nat → Int) : ints .i64 16 (foldA l 32) = ints .i64 16 (foldL l) := ints_congr fun j hj => by
  unfold foldA foldL; rw [if_pos (by omega), if_pos (by omega)]
theorem foldL_small (l : Nat → Int) (hl : ∀ i, i < 32 → 0 ≤ l i ∧ l i ≤ 1099511627776) : Small50 (foldL l) := fun i hi => by
  have := hl i (by omega); have := hl (i + 16) (by omega); unfold foldL; omega
theorem foldL_val (l : Nat → Int) : dval (foldL l) 16 % 57896044618658097711785492504343953926634992332820282019728792003956564819949 = dval l 32 % 57896044618658097711785492504343953926634992332820282019728792003956564819949 := by
  have e : ∀ n, dval l (16 + n) = dval l 16 + 65536 ^ 16 * dval (fun j => l (j + 16)) n := fun n => by
    induction n with
    | zero => simp [dval]
    | succ n ih =>
      show dval l (16 + n) + l (16 + n) * 65536 ^ (16 + n) = dval l 16 + 65536 ^ 16 * (dval (fun j => l (j + 16)) n + l (n + 16) * 65536 ^ n)
      rw [ih, Nat.add_comm 16 n, Int.pow_add]
      grind
  have e2 : ∀ n, dval (foldL l) n = dval l n + 38 * dval (fun j => l (j + 16)) n := fun n => by
    induction n with
    | zero => rfl
    | succ n ih =>
      show dval (foldL l) n + (l n + 38 * l (n + 16)) * 65536 ^ n = dval l n + l n * 65536 ^ n + 38 * (dval (fun j => l (j + 16)) n + l (n + 16) * 65536 ^ n)
      rw [ih]
      grind
  have e3 := e 16
  rw [e2, show 32 = 16 + 16 from rfl, e3]
  have e4 : (65536 : Int) ^ 16 = 38 + 57896044618658097711785492504343953926634992332820282019728792003956564819949 * 2 := by decide
  rw [e4]
  generalize dval (fun j => l (j + 16)) 16 = X
  generalize dval l 16 = Y
  omega
/-- what the first loop has made of the slice -/
structure FoldIn (l : Nat → Int) (nb : Nat) (w wr : World) : Prop where
  g : Below w.heap.size w wr
  fr : objAt wr w.heap.size = some (.cells (ints .i64 16 nought) 41)
  fl : objAt wr nb = some (.cells (ints .i64 16 (foldL l)) 3)
set_option maxRecDepth 100000 in
set_option maxHeartbeats 2000000 in
theorem fold32_any (l0 : Nat → Int) (b c : Nat) (t : TypeId) (fr0 : Nat × Nat) (w : World) (hl0 : ∀ i, i < 32 → 0 ≤ l0 i ∧ l0 i ≤ 1099511627776) (hb : objAt w b = some (.cells (ints .i64 32 l0) t fr0)) :
    Calls Try.prog 87 #[.slice (some ⟨b, 0, none⟩) 32 c] w fun e w' => e = .returned (.agg (ints .i64 16 (numN (dval l0 32 % 57896044618658097711785492504343953926634992332820282019728792003956564819949)))) ∧ Below w.heap.size w w' := by
  have lb := lt_of_objAt hb
  rw [← foldL_val]
  have HL : Hid (Small50 (foldL l0)) := foldL_small l0 hl0
  go_enter Try.func87, Try.ntmps87
  go_wp2
  go_loopw [0] (fun v wr => (v = .slice (some ⟨b, 0, none⟩) 32 c ∧ wr = w.alloc (.cells (ints .i64 16 nought) 41)) ∨ (∃ nb, v = .slice (some ⟨nb, 0, none⟩) 16 16 ∧ FoldIn l0 nb w wr)) (fun v _ => lenOf v)
  case atStart => exact .inl ⟨rfl, rfl⟩
  case round =>
   rcases hrel with ⟨rfl, rfl⟩ | ⟨nb, rfl, hG0, fr, hb⟩
   · go_wp2
     go_loopw [4] (fun i wr => ∃ k : Nat, ∃ m : More, k ≤ 32 ∧ i = .int .i64 k ∧ wr = more ((w.alloc (.cells (ints .i64 16 nought) 41)).alloc (.cells (ints .i64 16 (foldA l0 k)) 3)) m) (fun i _ => 32 - (intOf i).toNat)
     case atStart => exact ⟨0, _, by omega, rfl, by rw [foldA_zero]; exact (more_self _).symm⟩
     case round =>
       obtain ⟨k, m, hk, rfl, rfl⟩ := hrel
       by_cases hlt : k < 32
       · obtain ⟨a0, a1⟩ := hl0 k hlt
         by_cases h16 : k < 16
         · have hz := foldA_low l0 k h16
           have S : Hid _ := foldA_next l0 k h16
           go_wp2
           ((first | (with_reducible refine wp_region_tail_on 12 (by kernel_rfl) (by kernel_rfl) (by kernel_rfl) (by kernel_rfl) (by kernel_rfl) ?_) | refine wp_region_tail_more 12 (by kernel_rfl) (by kernel_rfl) (by kernel_rfl) (by kernel_rfl) (by kernel_rfl) ?_); simp only [List.take_succ_cons, List.take_zero]; (repeat (first | go_big_quiet_skip | (go_big_quiet_want; go_big_quiet_op; first | go_big_quiet_on | (apply Exists.intro; refine ⟨fun _ => ?_, ?_⟩; (focus (fail)); go_big_quiet_on)))); refine wpQuiet_nil ?_; rintro _ ⟨mq, rfl⟩)
           (refine tail_one (i := 12) (fuel := 0) (by kernel_rfl) rfl ?_; intro K hK; go_simp; refine hK _ _ ?_; clear hK K)
           (refine wpAny_done (by kernel_rfl) ?_ _)
           go_wp2
           go_roundw
           case rel => exact ⟨k + 1, _, by omega, by go_num, by rw [← S.out]⟩
           case measure => simp [intOf] <;> omega
         · obtain ⟨b0, b1⟩ := hl0 (k - 16) (by omega)
           have hz := foldA_high l0 k (by omega) hlt
           have S : Hid _ := foldA_more l0 k (by omega) hlt
           have hm : k % 16 = k - 16 := by omega
           have hm2 : k - 16 < 16 := by omega
           go_wp2
           ((first | (with_reducible refine wp_region_tail_on 15 (by kernel_rfl) (by kernel_rfl) (by kernel_rfl) (by kernel_rfl) (by kernel_rfl) ?_) | refine wp_region_tail_more 15 (by kernel_rfl) (by kernel_rfl) (by kernel_rfl) (by kernel_rfl) (by kernel_rfl) ?_); simp only [List.take_succ_cons, List.take_zero]; (repeat (first | go_big_quiet_skip | (go_big_quiet_want; go_big_quiet_op; first | go_big_quiet_on | (apply Exists.intro; refine ⟨fun _ => ?_, ?_⟩; (focus (fail)); go_big_quiet_on)))); refine wpQuiet_nil ?_; rintro _ ⟨mq, rfl⟩)
           (refine tail_one (i := 15) (fuel := 0) (by kernel_rfl) rfl ?_; intro K hK; go_simp; refine hK _ _ ?_; clear hK K)
           (refine wpAny_done (by kernel_rfl) ?_ _)
           go_wp2
           go_roundw
           case rel => exact ⟨k + 1, _, by omega, by go_num, by rw [← S.out]⟩
           case measure => simp [intOf] <;> omega
       · obtain rfl : k = 32 := by omega
         clear hlt
         rw [foldA_end]
         go_wp2
         go_roundw
         case rel => exact .inr ⟨_, rfl, ⟨by (repeat (first | assumption | exact Grew.refl _ | refine Grew.more ?_ _ | refine Grew.alloc ?_ _ | refine Grew.drewN ?_ _ | refine Grew.setRow ?_ _ _ (by omega) | refine Grew.setRow ?_ _ _ (by simp; omega) | refine Grew.setRow ?_ _ _ (by simp))), by (repeat (first | assumption | exact objAt_alloc_at _ _ _ rfl | (refine objAt_alloc_at _ _ _ ?_; (simp; done)) | refine keep_alloc _ ?_ | refine keep_drewN _ ?_ | refine keep_more _ ?_ | exact keep_row _ (by assumption) | refine keep_setRow _ _ ?_ (by first | omega | (simp; omega) | simp))), by (repeat (first | assumption | exact objAt_alloc_at _ _ _ rfl | (refine objAt_alloc_at _ _ _ ?_; (simp; done)) | refine keep_alloc _ ?_ | refine keep_drewN _ ?_ | refine keep_more _ ?_ | exact keep_row _ (by assumption) | refine keep_setRow _ _ ?_ (by first | omega | (simp; omega) | simp)))⟩⟩
         case measure => simp [lenOf]
   · have hl := HL.out
     have HL2 : Hid (Small50 (foldL l0)) := HL
     clear hl0 HL
     generalize hfl : foldL l0 = l at *
     have HFL : Hid (foldL l0 = l) := hfl
     clear hfl
     clear HL2 lb
     have lb := lt_of_objAt hb
     have lfr := lt_of_objAt fr
     obtain ⟨w0, hw0⟩ : ∃ w0, w0 = wr := ⟨_, rfl⟩
     subst hw0
     go_wp2
     go_loopw [6] (fun i wr => ∃ k : Nat, ∃ m : More, k ≤ 16 ∧ i = .int .i64 k ∧ wr = more (w0.alloc (.cells (ints .i64 16 (part' l k)) 41)) m) (fun i _ => 16 - (intOf i).toNat)
     case atStart => exact ⟨0, _, by omega, rfl, by rw [part_zero]; exact (more_self _).symm⟩
     case round =>
       obtain ⟨k, m, hk, rfl, rfl⟩ := hrel
       by_cases hlt : k < 16
       · have hkN : k < 16 := by omega
         go_wp2
         go_roundw
         case rel => exact ⟨k + 1, _, by omega, by go_num, by rw [← part_succ]⟩
         case measure => simp [intOf]; omega
       · obtain rfl : k = 16 := by omega
         rw [ints_part]
         clear hlt
         go_wp2
         go_loopg [7] (2 * (dval l 16).toNat + 1) (fun g o wr => ∃ A : Nat → Int, ∃ o' : Int, ∃ m : More, FoldRel l A o' g ∧ o = .int .i64 o' ∧ wr = more (w0.alloc (.cells (ints .i64 16 A) 41)) m)
         case atStart => exact ⟨l, 1, m, FoldRel.start hl, rfl, rfl⟩
         case round =>
           obtain ⟨A, o', m, hR, rfl, rfl⟩ := hrel
           obtain ⟨hA, ho, hD, hM, hV, hG⟩ := hR
           by_cases hz : o' = 0
           · subst hz
             have hDA := hD rfl
             have HM : Hid (dval A 16 % 57896044618658097711785492504343953926634992332820282019728792003956564819949 = dval l 16 % 57896044618658097711785492504343953926634992332820282019728792003956564819949) := hM
             clear hA hD hG ho hl hb lb hM
             go_wp2
             go_loopg [] (dval A 16).toNat (fun g wr => ∃ A : Nat → Int, ∃ m : More, Digits A ∧ Hid (dval A 16 % 57896044618658097711785492504343953926634992332820282019728792003956564819949 = dval l 16 % 57896044618658097711785492504343953926634992332820282019728792003956564819949 ∧ g = (dval A 16).toNat) ∧ wr = more (w0.alloc (.cells (ints .i64 16 A) 41)) m)
             case atStart => exact ⟨A, m, hDA, ⟨HM.out, rfl⟩, rfl⟩
             case round =>
               clear hDA HM
               obtain ⟨A, m, hDA, HM, rfl⟩ := hrel
               by_cases hB : lessB A primeN = true
               · have hlt : dval A 16 < 57896044618658097711785492504343953926634992332820282019728792003956564819949 := by
                   have := of_decide_eq_true hB
                   rw [prime_val] at this
                   exact this
                 have h0 := (dval_bd hDA 16 (by decide)).1
                 have e : ints .i64 16 A = ints .i64 16 (numN (dval l 16 % 57896044618658097711785492504343953926634992332820282019728792003956564819949)) := by
                   rw [numN_of hDA, ← HM.out.1, Int.emod_eq_of_lt h0 hlt]
                 have E : Hid (ints .i64 16 A = ints .i64 16 (numN (dval l 16 % 57896044618658097711785492504343953926634992332820282019728792003956564819949))) := e
                 clear e hlt h0 HM
                 go_wp2
                 ((first | (with_reducible refine wp_region_on (by kernel_rfl) (by kernel_rfl) ?_) | refine wp_region_more (by kernel_rfl) (by kernel_rfl) ?_); (repeat (first | go_big_quiet_skip | (go_big_quiet_want; go_big_quiet_op; first | go_big_quiet_on | (apply Exists.intro; refine ⟨fun _ => ?_, ?_⟩; (focus (first | (with_reducible exact Calls.of_more (prime_any _)) | (with_reducible exact Calls.of_more (less_any A primeN _ hDA prime_digits)))); go_big_quiet_on)))); refine wpQuiet_nil ?_; rintro _ ⟨mq, rfl⟩)
                 go_wp2
                 refine ret_row rfl w.heap.size 41 (ints .i64 16 A) (0, 0) _ rfl (by (repeat (first | assumption | exact objAt_alloc_at _ _ _ rfl | (refine objAt_alloc_at _ _ _ ?_; (simp; done)) | refine keep_alloc _ ?_ | refine keep_drewN _ ?_ | refine keep_more _ ?_ | exact keep_row _ (by assumption) | refine keep_setRow _ _ ?_ (by first | omega | (simp; omega) | simp)))) Try.underlying41 rfl (by rw [ints_size]; kernel_rfl) rfl ⟨by rw [E.out, HFL.out], by (repeat (first | assumption | exact Grew.refl _ | refine Grew.more ?_ _ | refine Grew.alloc ?_ _ | refine Grew.drewN ?_ _ | refine Grew.setRow ?_ _ _ (by omega) | refine Grew.setRow ?_ _ _ (by simp; omega) | refine Grew.setRow ?_ _ _ (by simp)))⟩
               · have hB' : lessB A primeN = false := by simpa using hB
                 have hge : 57896044618658097711785492504343953926634992332820282019728792003956564819949 ≤ dval A 16 := by
                   have := of_decide_eq_false hB'
                   rw [prime_val] at this
                   omega
                 clear hB
                 have hA' := minus_digits hDA prime_digits
                 have hv := minus_val A primeN 16
                 have X : Hid (dval (minusF A primeN) 16 = dval A 16 - 57896044618658097711785492504343953926634992332820282019728792003956564819949) := by
                   have h1 := dval_bd hA' 16 (by decide)
                   have h2 := dval_bd hDA 16 (by decide)
                   have h3 := borrow_bd A primeN 16
                   rw [prime_val] at hv
                   have e : (65536 : Int) ^ 16 = 115792089237316195423570985008687907853269984665640564039457584007913129639936 := by decide
                   rw [e] at hv h1 h2
                   show dval (minusF A primeN) 16 = dval A 16 - 57896044618658097711785492504343953926634992332820282019728792003956564819949
                   omega
                 have HG : Hid (57896044618658097711785492504343953926634992332820282019728792003956564819949 ≤ dval A 16) := hge
                 clear hv hge
                 go_wp2
                 ((first | (with_reducible refine wp_region_on (by kernel_rfl) (by kernel_rfl) ?_) | refine wp_region_more (by kernel_rfl) (by kernel_rfl) ?_); (repeat (first | go_big_quiet_skip | (go_big_quiet_want; go_big_quiet_op; first | go_big_quiet_on | (apply Exists.intro; refine ⟨fun _ => ?_, ?_⟩; (focus (first | (with_reducible exact Calls.of_more (prime_any _)) | (with_reducible exact Calls.of_more (less_any A primeN _ hDA prime_digits)))); go_big_quiet_on)))); refine wpQuiet_nil ?_; rintro _ ⟨mq, rfl⟩)
                 go_wp2
                 ((first | (with_reducible refine wp_region_tail_on 3 (by kernel_rfl) (by kernel_rfl) (by kernel_rfl) (by kernel_rfl) (by kernel_rfl) ?_) | refine wp_region_tail_more 3 (by kernel_rfl) (by kernel_rfl) (by kernel_rfl) (by kernel_rfl) (by kernel_rfl) ?_); simp only [List.take_succ_cons, List.take_zero]; (repeat (first | go_big_quiet_skip | (go_big_quiet_want; go_big_quiet_op; first | go_big_quiet_on | (apply Exists.intro; refine ⟨fun _ => ?_, ?_⟩; (focus (first | (with_reducible exact Calls.of_more (prime_any _)) | (with_reducible exact Calls.of_more (minus_any A primeN _ hDA prime_digits)))); go_big_quiet_on)))); refine wpQuiet_nil ?_; rintro _ ⟨mq, rfl⟩)
                 (refine tail_one (i := 3) (fuel := 0) (by kernel_rfl) rfl ?_; intro K hK; go_simp; refine hK _ _ ?_; clear hK K)
                 (refine wpAny_done (by kernel_rfl) ?_ _)
                 go_wp2
                 go_roundg (dval (minusF A primeN) 16).toNat
                 case measure =>
                   have h1 := X.out
                   have h2 := HG.out
                   have h3 := HM.out.2
                   omega
                 case rel =>
                   refine ⟨minusF A primeN, _, hA', ⟨?_, rfl⟩, rfl⟩
                   rw [X.out, ← HM.out.1]
                   omega
           · have hpos : 0 < o' := by omega
             have HR : Hid (FoldRel l A o' gk) := ⟨hA, ho, hD, hM, hV, hG⟩
             clear hD hM hV hG hz ho
             go_wp2
             go_loopw [7, 8] (fun o i wr => ∃ k : Nat, ∃ m : More, k ≤ 16 ∧ i = .int .i64 k ∧ o = .int .i64 (if k = 16 then cp A 16 else 0) ∧ wr = more (w0.alloc (.cells (ints .i64 16 (if k = 16 then passEnd A else passRow A k)) 41)) m) (fun _ i _ => 16 - (intOf i).toNat)
             case atStart => exact ⟨0, m, by omega, rfl, by rw [if_neg (by decide)], by rw [if_neg (by decide), passRow_zero]⟩
             case round =>
               obtain ⟨k, m, hk, rfl, rfl, rfl⟩ := hrel
               by_cases h16 : k = 16
               · subst h16
                 rw [if_pos rfl, if_pos rfl]
                 obtain ⟨g', hg', hR'⟩ := HR.out.next hpos
                 have X : Hid (g' < gk ∧ FoldRel l (passEnd A) (cp A 16) g') := ⟨hg', hR'⟩
                 clear hg' hR'
                 go_wp2
                 go_roundg g'
                 case measure => exact X.out.1
                 case rel => exact ⟨passEnd A, cp A 16, m, X.out.2, rfl, rfl⟩
               · rw [if_neg h16, if_neg h16]
                 have hk16 : k < 16 := by omega
                 obtain ⟨a0, a1⟩ := hA k hk16
                 obtain ⟨c0, c1⟩ := cp_bd hA k (by omega)
                 have r0 := passRow_at A k
                 by_cases h15 : k < 15
                 · have hk1 : k + 1 < 16 := by omega
                   obtain ⟨b0, b1⟩ := hA (k + 1) hk1
                   have r1 : upd (passRow A k) k ((A k + cp A k) % 65536) (k + 1) = A (k + 1) := by rw [upd_other _ _ _ _ (by omega), passRow_up]
                   clear hA h16
                   go_wp2
                   go_roundw
                   case rel => exact ⟨k + 1, m, by omega, by go_num, by rw [if_neg (by omega)], by rw [if_neg (by omega), passRow_next]⟩
                   case measure => simp [intOf]; omega
                 · obtain rfl : k = 15 := by omega
                   obtain ⟨b0, b1⟩ := hA 0 (by decide)
                   have r1 : upd (passRow A 15) 15 ((A 15 + cp A 15) % 65536) 0 = A 0 % 65536 := by rw [upd_other _ _ _ _ (by omega), passRow_low]
                   have r2 := passRow_last A
                   clear hA h16 h15
                   go_wp2
                   go_roundw
                   case rel => exact ⟨16, m, by omega, by rfl, by rw [if_pos rfl]; rfl, by rw [if_pos rfl]⟩
                   case measure => simp [intOf] <;> omega
end Go.Proofs.Ytfapmpnkemogkaa
