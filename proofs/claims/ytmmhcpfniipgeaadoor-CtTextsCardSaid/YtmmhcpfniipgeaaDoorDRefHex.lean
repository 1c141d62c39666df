/- What the reference's Hex answers. -/
import Derived.Test.YtmmhcpfniipgeaaDoorDMem
namespace Go.Proofs.YtmmhcpfniipgeaaDoor
open Go.RowKit
set_option linter.unusedVariables false
set_option linter.unusedSimpArgs false
/-- a text of one byte -/
def one (n : Int) : ByteArray := ⟨#[UInt8.ofNat n.toNat]⟩
@[go_sem high] theorem slice_digits (j : Int) (w : World) (h0 : 0 ≤ j) (h1 : j < 16) : (Instr.slice 9 (.string ⟨#[48, 49, 50, 51, 52, 53, 54, 55, 56, 57, 97, 98, 99, 100, 101, 102]⟩) (some (.int .u8 j)) (some (.int .u8 (j + 1))) none).run Tryd.prog w = .ok (.string (one (dig j))) w := by
  rcases (by omega : j = 0 ∨ j = 1 ∨ j = 2 ∨ j = 3 ∨ j = 4 ∨ j = 5 ∨ j = 6 ∨ j = 7 ∨ j = 8 ∨ j = 9 ∨ j = 10 ∨ j = 11 ∨ j = 12 ∨ j = 13 ∨ j = 14 ∨ j = 15) with
    rfl | rfl | rfl | rfl | rfl | rfl | rfl | rfl | rfl | rfl | rfl | rfl | rfl | rfl | rfl | rfl <;> kernel_rfl
theorem toList_data (s : ByteArray) : s.toList = s.data.toList := ByteArray.toList_eq s
@[go_sem] theorem size_strOf (n : Nat) (f : Nat → Int) : (strOf n f).size = n := by
  have h := congrArg List.length (strOf_list n f)
  rw [toList_data] at h
  simpa using h
@[go_sem] theorem size_one (x : Int) : (one x).size = 1 := rfl
@[go_sem] theorem size_two (s t : ByteArray) : (s ++ t).size = s.size + t.size := ByteArray.size_append
theorem strOf_succ (n : Nat) (f : Nat → Int) : strOf (n + 1) f = strOf n f ++ one (f n) := by
  apply ByteArray.ext
  apply Array.toList_inj.1
  have h1 := strOf_list (n + 1) f
  have h2 := strOf_list n f
  rw [toList_data] at h1 h2
  rw [h1, ByteArray.data_append, Array.toList_append, h2, List.range_succ, List.map_append]
  rfl
theorem strOf_two (a : Nat → Int) (k : Nat) : strOf (2 * k) (hexd a) ++ one (dig (a k / 16)) ++ one (dig (a k % 16)) = strOf (2 * (k + 1)) (hexd a) := by
  rw [← hexd_even, ← hexd_odd, ← strOf_succ, ← strOf_succ]
  rfl
attribute [local irreducible] one
set_option maxHeartbeats 400000 in
theorem refHex_any (a : Nat → Int) (w : World) (ha : Bytes 32 a) :
    Calls Tryd.prog 9 #[.agg (ints .u8 32 a)] w fun e w' => e = .returned (.string (strOf 64 (hexd a))) ∧ Below w.heap.size w w' := by
  go_enter Tryd.func9, Tryd.ntmps9
  go_wp2
  go_loopw [3, 4] (fun v i wr => ∃ k : Nat, ∃ m : More, k ≤ 32 ∧ i = .int .i64 k ∧ v = .string (strOf (2 * k) (hexd a)) ∧ wr = more (w.alloc (.cells (ints .u8 32 a) 22)) m) (fun _ i _ => 32 - (intOf i).toNat)
  case atStart => exact ⟨0, ⟨w.drawn, #[]⟩, by omega, rfl, rfl, (more_self _).symm⟩
  case round =>
    obtain ⟨k, m, hk, rfl, rfl, rfl⟩ := hrel
    by_cases hlt : k < 32
    · have h1 := ha k hlt
      have g1 : 0 ≤ a k / 16 := by omega
      have g2 : a k / 16 < 16 := by omega
      have g3 : 0 ≤ a k % 16 := by omega
      have g4 : a k % 16 < 16 := by omega
      go_wp2_with fail
      ((first | (with_reducible refine wp_region_on (by kernel_rfl) (by kernel_rfl) ?_) | refine wp_region_more (by kernel_rfl) (by kernel_rfl) ?_); (repeat (first | go_big_quiet_skip | (go_big_quiet_want; go_big_quiet_op; first | go_big_quiet_on | (apply Exists.intro; refine ⟨fun _ => ?_, ?_⟩; (focus (fail)); go_big_quiet_on)))); refine wpQuiet_nil ?_; rintro _ ⟨mq, rfl⟩)
      have g5 : ¬ 9223372036854775807 < 2 * k + 1 := by omega
      have g6 : ¬ 9223372036854775807 < 2 * k + 1 + 1 := by omega
      go_wp2_with fail
      ((first | (with_reducible refine wp_region_on (by kernel_rfl) (by kernel_rfl) ?_) | refine wp_region_more (by kernel_rfl) (by kernel_rfl) ?_); (repeat (first | go_big_quiet_skip | (go_big_quiet_want; go_big_quiet_op; first | go_big_quiet_on | (apply Exists.intro; refine ⟨fun _ => ?_, ?_⟩; (focus (fail)); go_big_quiet_on)))); refine wpQuiet_nil ?_; rintro _ ⟨mq, rfl⟩)
      go_wp2
      go_roundw
      case rel => exact ⟨k + 1, _, by omega, by go_num, by rw [strOf_two], rfl⟩
      case measure => simp [intOf]; omega
    · obtain rfl : k = 32 := by omega
      clear hlt
      go_wp2
      go_ret
      exact ⟨rfl, Grew.more (Grew.alloc (Grew.refl w) _) _⟩
end Go.Proofs.YtmmhcpfniipgeaaDoor
