/- The sum of elements. -/
import Derived.Test.YtfapmpnkemogkaaLaw02
namespace Go.Proofs.Ytfapmpnkemogkaa
open Go.RowKit
set_option linter.unusedVariables false
set_option linter.unusedSimpArgs false

def sumF (F : Nat → Nat → Int) : Nat → Nat → Int
  | 0 => nought
  | j + 1 => carryF (plus (sumF F j) (F j))
theorem loose_sum (F : Nat → Nat → Int) : ∀ n, (∀ j, j < n → Under 18014398509481984 (F j)) → Under 18014398509481984 (sumF F n)
  | 0, _ => loose_nought
  | n + 1, h => loose_plus _ _ (loose_sum F n fun j hj => h j (by omega)) (h n (by omega))
/-- n elements, from an address on, in every later world -/
def ElemsAt (w : World) (oa : Option Addr) (n : Nat) (F : Nat → Nat → Int) : Prop :=
  n = 0 ∨ ∃ ad : Addr, oa = some ad ∧ ∀ w', Below w.heap.size w w' → ∀ j, j < n → (loadNext 37 (.pointer (some (ad.add (j * 5))))).run Try.prog w' = .ok (.value (.agg (ints .u64 5 (F j)))) w'
theorem ElemsAt.later {w w' : World} {oa : Option Addr} {n : Nat} {F : Nat → Nat → Int} (h : ElemsAt w oa n F) (hb : Below w.heap.size w w') : ElemsAt w' oa n F := by
  rcases h with h | ⟨ad, ho, hl⟩
  · exact .inl h
  · exact .inr ⟨ad, ho, fun w'' hb' => hl w'' (Grew.trans hb hb')⟩
set_option maxHeartbeats 400000 in
theorem sum_any (F : Nat → Nat → Int) (n c : Nat) (oa : Option Addr) (w : World) (hF : ∀ j, j < n → Under 18014398509481984 (F j)) (hn : n ≤ 9223372036854775807) (hl : ElemsAt w oa n F) :
    Calls Try.prog 48 #[.slice oa n c] w fun e w' => e = .returned (.agg (ints .u64 5 (sumF F n))) ∧ Below w.heap.size w w' := by
  have hL : Hid (ElemsAt w oa n F) := hl
  clear hl
  go_enter Try.func48, Try.ntmps48
  go_wp2
  go_loopw [8] (fun i wr => ∃ j : Nat, ∃ m : More, j ≤ n ∧ i = .int .i64 j ∧ wr = more ((w.alloc (.cells (ints .u64 5 nought) 37)).alloc (.cells (ints .u64 5 (sumF F j)) 37)) m) (fun i _ => n - (intOf i).toNat)
  case atStart => exact ⟨0, _, by omega, rfl, (more_self _).symm⟩
  case round =>
    obtain ⟨j, m, hj, rfl, rfl⟩ := hrel
    by_cases hlt : j < n
    · have hFj := hF j hlt
      have hS := loose_sum F j fun k hk => hF k (by omega)
      rcases hL.out with h0 | ⟨ad, rfl, hl⟩
      · omega
      have l1 : ∀ m, (loadNext 37 (.pointer (some (ad.add (j * 5))))).run Try.prog (more ((w.alloc (.cells (ints .u64 5 nought) 37)).alloc (.cells (ints .u64 5 (sumF F j)) 37)) m) = .ok (.value (.agg (ints .u64 5 (F j)))) (more ((w.alloc (.cells (ints .u64 5 nought) 37)).alloc (.cells (ints .u64 5 (sumF F j)) 37)) m) := fun m => hl _ (by (repeat (first | assumption | exact Grew.refl _ | refine Grew.more ?_ _ | refine Grew.alloc ?_ _ | refine Grew.drewN ?_ _ | refine Grew.setRow ?_ _ _ (by omega) | refine Grew.setRow ?_ _ _ (by simp; omega) | refine Grew.setRow ?_ _ _ (by simp)))) j hlt
      clear hl
      go_wp2_with fail
      refine (add_any _ _ _ hS hFj).mono ?_
      rintro e1 w1 ⟨rfl, hb1⟩
      obtain ⟨m1, rfl⟩ := more_of_below (w := (w.alloc (.cells (ints .u64 5 nought) 37)).alloc (.cells (ints .u64 5 (sumF F j)) 37)) (Grew.trans (by (repeat (first | assumption | exact Grew.refl _ | refine Grew.more ?_ _ | refine Grew.alloc ?_ _ | refine Grew.drewN ?_ _ | refine Grew.setRow ?_ _ _ (by omega) | refine Grew.setRow ?_ _ _ (by simp; omega) | refine Grew.setRow ?_ _ _ (by simp)))) hb1)
      clear hb1
      go_wp2
      go_roundw
      case rel => exact ⟨j + 1, _, by omega, by go_num, rfl⟩
      case measure => simp [intOf] <;> omega
    · obtain rfl : j = n := by omega
      clear hlt
      go_wp2
      refine ret_row rfl w.heap.size 37 _ (0, 0) _ rfl (by (repeat (first | assumption | exact objAt_alloc_at _ _ _ rfl | (refine objAt_alloc_at _ _ _ ?_; (simp; done)) | refine keep_alloc _ ?_ | refine keep_drewN _ ?_ | refine keep_more _ ?_ | exact keep_row _ (by assumption) | refine keep_setRow _ _ ?_ (by first | omega | (simp; omega) | simp)))) Try.underlying37 rfl (by rw [ints_size]; kernel_rfl) rfl ⟨rfl, by (repeat (first | assumption | exact Grew.refl _ | refine Grew.more ?_ _ | refine Grew.alloc ?_ _ | refine Grew.drewN ?_ _ | refine Grew.setRow ?_ _ _ (by omega) | refine Grew.setRow ?_ _ _ (by simp; omega) | refine Grew.setRow ?_ _ _ (by simp)))⟩
end Go.Proofs.Ytfapmpnkemogkaa
