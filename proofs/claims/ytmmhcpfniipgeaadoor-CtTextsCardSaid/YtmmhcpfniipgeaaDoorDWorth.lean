/- What a digit is worth: ct.worth, and the reference's value. -/
import Derived.Test.YtmmhcpfniipgeaaDoorDHex
namespace Go.Proofs.YtmmhcpfniipgeaaDoor
open Go.RowKit
set_option linter.unusedVariables false
set_option linter.unusedSimpArgs false
/-- a digit's worth; 0 where it is none -/
def wth (c : Int) : Int := if 48 ≤ c ∧ c ≤ 57 then c - 48 else if 65 ≤ c ∧ c ≤ 70 then c - 55 else if 97 ≤ c ∧ c ≤ 102 then c - 87 else 0
/-- is it a digit? -/
def dgt (c : Int) : Bool := decide ((48 ≤ c ∧ c ≤ 57) ∨ (65 ≤ c ∧ c ≤ 70) ∨ (97 ≤ c ∧ c ≤ 102))
theorem ret_worth {x y : Int} {p q : Bool} (h1 : x = y) (h2 : p = q) : Ending.returned (.tuple #[.int .u8 x, .bool p]) = .returned (.tuple #[.int .u8 y, .bool q]) := by rw [h1, h2]
set_option maxHeartbeats 1000000 in
theorem worth_any (c : Int) (w : World) (h0 : 0 ≤ c) (h1 : c ≤ 255) :
    Calls Tryd.prog 12 #[.int .u8 c] w fun e w' => e = .returned (.tuple #[.int .u8 (wth c), .bool (dgt c)]) ∧ Below w.heap.size w w' := by
  go_enter Tryd.func12, Tryd.ntmps12
  go_wp2
  all_goals
    go_ret2
    refine ⟨ret_worth ?_ ?_, by (repeat (first | assumption | exact Grew.refl _ | refine Grew.more ?_ _ | refine Grew.alloc ?_ _ | refine Grew.drewN ?_ _ | refine Grew.setRow ?_ _ _ (by omega) | refine Grew.setRow ?_ _ _ (by simp; omega) | refine Grew.setRow ?_ _ _ (by simp)))⟩
    · unfold wth
      (repeat' split) <;> omega
    · unfold dgt
      first | exact (decide_eq_true (by omega)).symm | exact (decide_eq_false (by omega)).symm
/-- a great digit, by its worth -/
def big (n : Int) : Int := if n < 10 then 48 + n else 55 + n
@[go_sem high] theorem index_small (j : Int) (w : World) (h0 : 0 ≤ j) (h1 : j < 16) : (Instr.index 9 (.string ⟨#[48, 49, 50, 51, 52, 53, 54, 55, 56, 57, 97, 98, 99, 100, 101, 102]⟩) (.int .i64 j)).run Tryd.prog w = .ok (.int .u8 (dig j)) w := by
  rcases (by omega : j = 0 ∨ j = 1 ∨ j = 2 ∨ j = 3 ∨ j = 4 ∨ j = 5 ∨ j = 6 ∨ j = 7 ∨ j = 8 ∨ j = 9 ∨ j = 10 ∨ j = 11 ∨ j = 12 ∨ j = 13 ∨ j = 14 ∨ j = 15) with
    rfl | rfl | rfl | rfl | rfl | rfl | rfl | rfl | rfl | rfl | rfl | rfl | rfl | rfl | rfl | rfl <;> kernel_rfl
@[go_sem high] theorem index_big (j : Int) (w : World) (h0 : 0 ≤ j) (h1 : j < 16) : (Instr.index 9 (.string ⟨#[48, 49, 50, 51, 52, 53, 54, 55, 56, 57, 65, 66, 67, 68, 69, 70]⟩) (.int .i64 j)).run Tryd.prog w = .ok (.int .u8 (big j)) w := by
  rcases (by omega : j = 0 ∨ j = 1 ∨ j = 2 ∨ j = 3 ∨ j = 4 ∨ j = 5 ∨ j = 6 ∨ j = 7 ∨ j = 8 ∨ j = 9 ∨ j = 10 ∨ j = 11 ∨ j = 12 ∨ j = 13 ∨ j = 14 ∨ j = 15) with
    rfl | rfl | rfl | rfl | rfl | rfl | rfl | rfl | rfl | rfl | rfl | rfl | rfl | rfl | rfl | rfl <;> kernel_rfl
def valD (c : Int) : Int := if dgt c = true then wth c else -1
theorem val_hit (c : Int) (k : Nat) (hk : k < 16) (h : c = dig k ∨ c = big k) : (k : Int) = valD c := by
  unfold dig big at h
  have hd : dgt c = true := by
    unfold dgt
    refine decide_eq_true ?_
    rcases h with h | h <;> split at h <;> omega
  unfold valD wth
  rw [if_pos hd]
  rcases h with h | h <;> split at h <;> (repeat' split) <;> omega
theorem val_none (c : Int) (h : ∀ j : Nat, j < 16 → ¬ c = dig j ∧ ¬ c = big j) : (-1 : Int) = valD c := by
  have hd : dgt c = false := by
    unfold dgt
    refine decide_eq_false fun h' => ?_
    rcases h' with h' | h' | h'
    · refine (h (c - 48).toNat (by omega)).1 ?_
      unfold dig; split <;> omega
    · refine (h (c - 55).toNat (by omega)).2 ?_
      unfold big; split <;> omega
    · refine (h (c - 87).toNat (by omega)).1 ?_
      unfold dig; split <;> omega
  unfold valD
  rw [hd]; rfl
def Miss (c : Int) (k : Nat) : Prop := ∀ j : Nat, j < k → ¬ c = dig j ∧ ¬ c = big j
theorem miss_zero (c : Int) : Miss c 0 := fun j hj => absurd hj (Nat.not_lt_zero j)
theorem miss_succ {c : Int} {k : Nat} (h : Miss c k) (e1 : ¬ c = dig k) (e2 : ¬ c = big k) : Miss c (k + 1) := fun j hj => by
  rcases (by omega : j < k ∨ j = k) with h' | rfl
  · exact h j h'
  · exact ⟨e1, e2⟩
theorem ret_val {x y : Int} (h : x = y) : Ending.returned (.int .i64 x) = .returned (.int .i64 y) := by rw [h]
set_option maxHeartbeats 1000000 in
theorem value_any (c : Int) (w : World) (h0 : 0 ≤ c) (h1 : c ≤ 255) :
    Calls Tryd.prog 19 #[.int .u8 c] w fun e w' => e = .returned (.int .i64 (valD c)) ∧ Below w.heap.size w w' := by
  go_enter Tryd.func19, Tryd.ntmps19
  go_wp2
  go_loopw [3] (fun i wr => ∃ k : Nat, k ≤ 16 ∧ i = .int .i64 k ∧ wr = w ∧ Miss c k) (fun i _ => 16 - (intOf i).toNat)
  case atStart => exact ⟨0, by omega, rfl, rfl, miss_zero c⟩
  case round =>
    obtain ⟨k, hk, rfl, rfl, H⟩ := hrel
    by_cases hlt : k < 16
    · by_cases e1 : c = dig k
      · have f1 : (c == dig k) = true := by simp [e1]
        go_wp2
        go_ret
        exact ⟨ret_val (val_hit c k hlt (.inl e1)), by (repeat (first | assumption | exact Grew.refl _ | refine Grew.more ?_ _ | refine Grew.alloc ?_ _ | refine Grew.drewN ?_ _ | refine Grew.setRow ?_ _ _ (by omega) | refine Grew.setRow ?_ _ _ (by simp; omega) | refine Grew.setRow ?_ _ _ (by simp)))⟩
      · by_cases e2 : c = big k
        · have f1 : (c == dig k) = false := by simp [e1]
          have f2 : (c == big k) = true := by simp [e2]
          go_wp2
          go_ret
          exact ⟨ret_val (val_hit c k hlt (.inr e2)), by (repeat (first | assumption | exact Grew.refl _ | refine Grew.more ?_ _ | refine Grew.alloc ?_ _ | refine Grew.drewN ?_ _ | refine Grew.setRow ?_ _ _ (by omega) | refine Grew.setRow ?_ _ _ (by simp; omega) | refine Grew.setRow ?_ _ _ (by simp)))⟩
        · have f1 : (c == dig k) = false := by simp [e1]
          have f2 : (c == big k) = false := by simp [e2]
          go_wp2
          go_roundw
          case rel => exact ⟨k + 1, by omega, by go_num, trivial, miss_succ H e1 e2⟩
          case measure => simp [intOf]; omega
    · go_wp2
      go_ret
      obtain rfl : k = 16 := by omega
      exact ⟨ret_val (val_none c H), by (repeat (first | assumption | exact Grew.refl _ | refine Grew.more ?_ _ | refine Grew.alloc ?_ _ | refine Grew.drewN ?_ _ | refine Grew.setRow ?_ _ _ (by omega) | refine Grew.setRow ?_ _ _ (by simp; omega) | refine Grew.setRow ?_ _ _ (by simp)))⟩
end Go.Proofs.YtmmhcpfniipgeaaDoor
