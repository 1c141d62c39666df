/- What ct.Hex answers. -/
import Derived.Test.YtfapmpnkemogkaaCt
namespace Go.Proofs.Ytfapmpnkemogkaa
open Go.RowKit
set_option linter.unusedVariables false
set_option linter.unusedSimpArgs false

@[go_sem] theorem make64 (w : World) : (Instr.makeSlice 97 (.int .i64 0) (.int .i64 64)).run Try.prog w = .ok (.slice (some ⟨w.heap.size, 0, none⟩) 0 64) (w.alloc (.cells (ints .u8 64 nought) 5)) := by kernel_rfl

/-- a digit, by its worth -/
def dig (n : Int) : Int := if n < 10 then 48 + n else 87 + n
@[go_sem high] theorem index_digits (j : Int) (w : World) (h0 : 0 ≤ j) (h1 : j < 16) : (Instr.index 9 (.string ⟨#[48, 49, 50, 51, 52, 53, 54, 55, 56, 57, 97, 98, 99, 100, 101, 102]⟩) (.int .u8 j)).run Try.prog w = .ok (.int .u8 (dig j)) w := by
  rcases (by omega : j = 0 ∨ j = 1 ∨ j = 2 ∨ j = 3 ∨ j = 4 ∨ j = 5 ∨ j = 6 ∨ j = 7 ∨ j = 8 ∨ j = 9 ∨ j = 10 ∨ j = 11 ∨ j = 12 ∨ j = 13 ∨ j = 14 ∨ j = 15) with
    rfl | rfl | rfl | rfl | rfl | rfl | rfl | rfl | rfl | rfl | rfl | rfl | rfl | rfl | rfl | rfl <;> kernel_rfl
/-- the digits of a key -/
def hexd (a : Nat → Int) : Nat → Int := fun i => if i % 2 = 0 then dig (a (i / 2) / 16) else dig (a (i / 2) % 16)

theorem hexd_even (a : Nat → Int) (k : Nat) : hexd a (2 * k) = dig (a k / 16) := by
  unfold hexd; rw [if_pos (by omega), show 2 * k / 2 = k by omega]
theorem hexd_odd (a : Nat → Int) (k : Nat) : hexd a (2 * k + 1) = dig (a k % 16) := by
  unfold hexd; rw [if_neg (by omega), show (2 * k + 1) / 2 = k by omega]
theorem hexd_succ (a : Nat → Int) (k : Nat) : upd (upd (part' (hexd a) (2 * k)) (2 * k) (dig (a k / 16))) (2 * k + 1) (dig (a k % 16)) = part' (hexd a) (2 * (k + 1)) := by
  rw [← hexd_even, part_succ, ← hexd_odd, part_succ]
  rfl
set_option maxHeartbeats 400000 in
theorem hex_any (a : Nat → Int) (w : World) (ha : Bytes 32 a) :
    Calls Try.prog 82 #[.agg (ints .u8 32 a)] w fun e w' => e = .returned (.string (strOf 64 (hexd a))) ∧ Below w.heap.size w w' := by
  go_enter Try.func82, Try.ntmps82
  go_wp2
  go_loopw [3, 8] (fun v i wr => ∃ k : Nat, ∃ m : More, k ≤ 32 ∧ i = .int .i64 k ∧ v = .slice (some ⟨w.heap.size + 1, 0, none⟩) (2 * k) 64 ∧ wr = more ((w.alloc (.cells (ints .u8 32 a) 23)).alloc (.cells (ints .u8 64 (part' (hexd a) (2 * k))) 5)) m) (fun _ i _ => 32 - (intOf i).toNat)
  case atStart => exact ⟨0, ⟨w.drawn, #[]⟩, by omega, rfl, rfl, by rw [part_zero]; exact (more_self _).symm⟩
  case round =>
    obtain ⟨k, m, hk, rfl, rfl, rfl⟩ := hrel
    by_cases hlt : k < 32
    · have h1 := ha k hlt
      have g1 : 0 ≤ a k / 16 := by omega
      have g2 : a k / 16 < 16 := by omega
      have g3 : 0 ≤ a k % 16 := by omega
      have g4 : a k % 16 < 16 := by omega
      have g6 : 2 * k ≤ 62 := by omega
      have g5 : bits .and .u8 (a k) 15 = a k % 16 := u8_and15 _ h1.1 (by omega)
      go_wp2
      go_region_law (fail)
      all_goals
        go_wp2
        go_roundw
        case rel => exact ⟨k + 1, _, by omega, by go_num, by rw [show 2 * (k + 1) = 2 * k + 2 by omega], by rw [more_alloc, hexd_succ]⟩
        case measure => simp [intOf]; omega
    · obtain rfl : k = 32 := by omega
      clear hlt
      have hc := fun (m : More) => run_str (P := Try.prog) (src := 97) (dst := 9) Try.underlying97 Try.underlying5 Try.underlying9 (w.heap.size + 1) 64 64 64 (part' (hexd a) 64) (more ((w.alloc (.cells (ints .u8 32 a) 23)).alloc (.cells (ints .u8 64 (part' (hexd a) 64)) 5)) m) (te := 5) (fr := (0, 0)) (by simp [go_sem]) (by omega)
      rw [strOf_part] at hc
      go_wp2
      go_ret
      exact ⟨rfl, Grew.more (Grew.alloc (Grew.alloc (Grew.refl w) _) _) _⟩
end Go.Proofs.Ytfapmpnkemogkaa
