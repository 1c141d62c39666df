/- Ct -/
import Derived.Test.YtdoolhbmekahdaaGreatDoorProg
import Derived.Test.YtdoolhbmekahdaaGreatDoorMem
import Derived.Test.YtdoolhbmekahdaaGreatDoorShelf
namespace Go.Proofs.YtdoolhbmekahdaaGreatDoor
open Go.RowKit
set_option linter.unusedVariables false
set_option linter.unusedSimpArgs false
set_option maxHeartbeats 400000 in
theorem same_any (a b : Nat → Int) (w : World) (ha : Bytes 32 a) (hb : Bytes 32 b) :
  Calls Tryz.prog 325 #[.agg (ints .u8 32 a), .agg (ints .u8 32 b)] w fun e w' => e = .returned (.bool (same 32 a b)) ∧ Below w.heap.size w w' := by
 have hd := diffs_same 32 a b ha hb
 have H : Hid ((diffs a b 32 == 0) = same 32 a b) := hd
 clear hd ha hb
 go_enter Tryz.func325, Tryz.ntmps325
 go_wp2
 go_loopw [5, 7] (fun d i wr => ∃ k n : Nat, k ≤ 32 ∧ i = .int .i64 k ∧ d = .int .u8 (diffs a b k) ∧ wr = ((w.alloc (.cells (ints .u8 32 a) 27)).alloc (.cells (ints .u8 32 b) 27)).drewN n) (fun _ i _ => 32 - (intOf i).toNat)
 case atStart => exact ⟨0, 0, by omega, rfl, rfl, rfl⟩
 case round =>
  obtain ⟨k, n, hk, rfl, rfl, rfl⟩ := hrel
  by_cases hlt : k < 32
  ·go_wp2
   go_quiet (fail)
   go_wp2
   go_roundw
   case rel => exact ⟨k + 1, _, by omega, by go_num, rfl, rfl⟩
   case measure => simp [intOf]; omega
  ·go_wp2
   go_ret
   obtain rfl : k = 32 := by omega
   rw [H.out]
   exact ⟨rfl, Grew.drewN (Grew.alloc (Grew.alloc (Grew.refl w) _) _) _⟩
theorem bytes_nought : Bytes 32 nought := fun i _ => by simp [nought]
set_option maxHeartbeats 400000 in
theorem zero_any (a : Nat → Int) (w : World) (ha : Bytes 32 a) :
  Calls Tryz.prog 296 #[.agg (ints .u8 32 a)] w fun e w' => e = .returned (.bool (same 32 a nought)) ∧ Below w.heap.size w w' := by
 go_enter Tryz.func296, Tryz.ntmps296
 go_wp2_with fail
 refine (same_any a nought _ ha bytes_nought).mono ?_
 rintro e w' ⟨rfl, hb⟩
 go_wp2
 go_ret
 exact ⟨rfl, Grew.trans (Grew.alloc (Grew.refl w) _) hb⟩
set_option maxHeartbeats 600000 in
theorem pick_any (b : Int) (x y : Nat → Int) (w : World) (hx : Bytes 32 x) (hy : Bytes 32 y) :
  Calls Tryz.prog 438 #[.int .i64 b, .agg (ints .u8 32 x), .agg (ints .u8 32 y)] w fun e w' => e = .returned (.agg (ints .u8 32 (oneOf b x y))) ∧ Below w.heap.size w w' := by
 have hm := ints_congr (k := .u8) (masked_is b x y hx hy)
 have H : Hid (ints .u8 32 (masked (-(bits .and .i64 b 1 % 256) % 256) x y) = ints .u8 32 (oneOf b x y)) := hm
 clear hm hx hy
 go_enter Tryz.func438, Tryz.ntmps438
 go_wp2
 generalize (-(bits .and .i64 b 1 % 256) % 256) = m at *
 go_loopw [14] (fun i wr => ∃ k n : Nat, k ≤ 32 ∧ i = .int .i64 k ∧ wr = ((((w.alloc (.cells (ints .u8 32 x) 27)).alloc (.cells (ints .u8 32 y) 27)).alloc (.cells (ints .u8 32 nought) 27)).alloc (.cells (ints .u8 32 (part' (masked m x y) k)) 27)).drewN n) (fun i _ => 32 - (intOf i).toNat)
 case atStart => exact ⟨0, 0, by omega, rfl, by rw [part_zero]; rfl⟩
 case round =>
  obtain ⟨k, n, hk, rfl, rfl⟩ := hrel
  by_cases hlt : k < 32
  ·go_wp2
   go_region
   go_wp2
   go_roundw
   case rel => exact ⟨k + 1, _, by omega, by go_num, by rw [← part_succ]; rfl⟩
   case measure => simp [intOf]; omega
  ·go_wp2
   obtain rfl : k = 32 := by omega
   rw [ints_part, H.out]
   refine ret_row rfl _ 27 _ (0, 0) _ rfl (by simp [go_sem]) Tryz.underlying27 rfl (by rw [ints_size]; kernel_rfl) rfl ⟨rfl, ?_⟩
   exact Grew.drewN (Grew.alloc (Grew.alloc (Grew.alloc (Grew.alloc (Grew.refl w) _) _) _) _) _
def byteAt (s : ByteArray) (i : Nat) : Int := if h : i < s.size then (s[i].toNat : Int) else 0
theorem byteAt_lt (s : ByteArray) (i : Nat) (h : i < s.size) : (s[i].toNat : Int) = byteAt s i := by simp [byteAt, h]
theorem byteAt_bytes (s : ByteArray) : Bytes s.size (byteAt s) := by
 intro i hi
 unfold byteAt
 rw [dif_pos hi]
 have := s[i].toNat_lt
 omega
end Go.Proofs.YtdoolhbmekahdaaGreatDoor
namespace Go.Proofs.YtdoolhbmekahdaaGreatDoor
open Go.RowKit
set_option linter.unusedVariables false
set_option linter.unusedSimpArgs false
@[go_sem] theorem make64 (w : World) : (Instr.makeSlice 36 (.int .i64 0) (.int .i64 64)).run Tryz.prog w = .ok (.slice (some ⟨w.heap.size, 0, none⟩) 0 64) (w.alloc (.cells (ints .u8 64 nought) 5)) := by kernel_rfl
def dig (n : Int) : Int := if n < 10 then 48 + n else 87 + n
@[go_sem high] theorem index_digits (j : Int) (w : World) (h0 : 0 ≤ j) (h1 : j < 16) : (Instr.index 9 (.string ⟨#[48, 49, 50, 51, 52, 53, 54, 55, 56, 57, 97, 98, 99, 100, 101, 102]⟩) (.int .u8 j)).run Tryz.prog w = .ok (.int .u8 (dig j)) w := by
 rcases (by omega : j = 0 ∨ j = 1 ∨ j = 2 ∨ j = 3 ∨ j = 4 ∨ j = 5 ∨ j = 6 ∨ j = 7 ∨ j = 8 ∨ j = 9 ∨ j = 10 ∨ j = 11 ∨ j = 12 ∨ j = 13 ∨ j = 14 ∨ j = 15) with
  rfl | rfl | rfl | rfl | rfl | rfl | rfl | rfl | rfl | rfl | rfl | rfl | rfl | rfl | rfl | rfl <;> kernel_rfl
def hexd (a : Nat → Int) : Nat → Int := fun i => if i % 2 = 0 then dig (a (i / 2) / 16) else dig (a (i / 2) % 16)
theorem hexd_even (a : Nat → Int) (k : Nat) : hexd a (2 * k) = dig (a k / 16) := by
 unfold hexd; rw [if_pos (by omega), show 2 * k / 2 = k by omega]
theorem hexd_odd (a : Nat → Int) (k : Nat) : hexd a (2 * k + 1) = dig (a k % 16) := by
 unfold hexd; rw [if_neg (by omega), show (2 * k + 1) / 2 = k by omega]
theorem hexd_succ (a : Nat → Int) (k : Nat) : upd (upd (part' (hexd a) (2 * k)) (2 * k) (dig (a k / 16))) (2 * k + 1) (dig (a k % 16)) = part' (hexd a) (2 * (k + 1)) := by
 rw [← hexd_even, part_succ, ← hexd_odd, part_succ]
 rfl
set_option maxHeartbeats 400000 in
theorem hex_any (a : Nat → Int) (w : World) (ha : Bytes 32 a) :
  Calls Tryz.prog 58 #[.agg (ints .u8 32 a)] w fun e w' => e = .returned (.string (strOf 64 (hexd a))) ∧ Below w.heap.size w w' := by
 go_enter Tryz.func58, Tryz.ntmps58
 go_wp2
 go_loopw [3, 8] (fun v i wr => ∃ k : Nat, ∃ m : More, k ≤ 32 ∧ i = .int .i64 k ∧ v = .slice (some ⟨w.heap.size + 1, 0, none⟩) (2 * k) 64 ∧ wr = more ((w.alloc (.cells (ints .u8 32 a) 27)).alloc (.cells (ints .u8 64 (part' (hexd a) (2 * k))) 5)) m) (fun _ i _ => 32 - (intOf i).toNat)
 case atStart => exact ⟨0, ⟨w.drawn, #[]⟩, by omega, rfl, rfl, by rw [part_zero]; exact (more_self _).symm⟩
 case round =>
  obtain ⟨k, m, hk, rfl, rfl, rfl⟩ := hrel
  by_cases hlt : k < 32
  ·have h1 := ha k hlt
   have g1 : 0 ≤ a k / 16 := by omega
   have g2 : a k / 16 < 16 := by omega
   have g3 : 0 ≤ a k % 16 := by omega
   have g4 : a k % 16 < 16 := by omega
   have g6 : 2 * k ≤ 62 := by omega
   have g5 : bits .and .u8 (a k) 15 = a k % 16 := u8_and15 _ h1.1 (by omega)
   go_wp2
   go_region_law (fail)
   all_goals
    go_wp2
    go_roundw
    case rel => exact ⟨k + 1, _, by omega, by go_num, by rw [show 2 * (k + 1) = 2 * k + 2 by omega], by rw [more_alloc, hexd_succ]⟩
    case measure => simp [intOf]; omega
  ·obtain rfl : k = 32 := by omega
   clear hlt
   have hc := fun (m : More) => run_str (P := Tryz.prog) (src := 36) (dst := 9) Tryz.underlying36 Tryz.underlying5 Tryz.underlying9 (w.heap.size + 1) 64 64 64 (part' (hexd a) 64) (more ((w.alloc (.cells (ints .u8 32 a) 27)).alloc (.cells (ints .u8 64 (part' (hexd a) 64)) 5)) m) (te := 5) (fr := (0, 0)) (by simp [go_sem]) (by omega)
   rw [strOf_part] at hc
   go_wp2
   go_ret
   exact ⟨rfl, Grew.more (Grew.alloc (Grew.alloc (Grew.refl w) _) _) _⟩
end Go.Proofs.YtdoolhbmekahdaaGreatDoor
namespace Go.Proofs.YtdoolhbmekahdaaGreatDoor
open Go.RowKit
set_option linter.unusedVariables false
set_option linter.unusedSimpArgs false
theorem zeros_text : Lib.repeatL [48] 64 = (strOf 64 (hexd nought)).toList := by
 rw [strOf_list]
 kernel_rfl
theorem bytes_upd (n : Nat) (f : Nat → Int) (i : Nat) (v : Int) (h : Bytes n f) (h0 : 0 ≤ v) (h1 : v ≤ 255) : Bytes n (upd f i v) := by
 intro j hj
 unfold upd
 split
 ·exact ⟨h0, h1⟩
 ·exact h j hj
theorem one_two : same 32 (oneOf 3 (upd nought 0 1) (upd nought 0 2)) (upd nought 0 2) = true := by
 unfold oneOf
 rw [if_neg (by decide)]
 exact same_refl _ _
set_option maxHeartbeats 400000 in
theorem awake_any (w : World) :
  Calls Tryz.prog 437 #[] w fun e w' => e = .returned (.bool true) ∧ Below w.heap.size w w' := by
 have h1 := one_two
 have h2 : ((strOf 64 (hexd nought)).toList == Lib.repeatL [48] 64) = true := by rw [zeros_text]; exact beq_self_eq_true _
 go_enter Tryz.func437, Tryz.ntmps437
 go_wp2_with fail
 refine (pick_any 3 (upd nought 0 1) (upd nought 0 2) _ (bytes_upd _ _ _ _ bytes_nought (by decide) (by decide)) (bytes_upd _ _ _ _ bytes_nought (by decide) (by decide))).mono ?_
 rintro e w1 ⟨rfl, hb1⟩
 go_wp2_with fail
 refine (hex_any nought _ bytes_nought).mono ?_
 rintro e w2 ⟨rfl, hb2⟩
 go_wp2_with fail
 refine (Tryz.strings_Repeat ⟨#[48]⟩ 64 _ (by decide) (by decide)).mono ?_
 rintro e w3 ⟨rfl, hb3⟩
 go_wp2
 go_ret
 exact ⟨rfl, Grew.trans (Grew.trans hb1 hb2) hb3⟩
end Go.Proofs.YtdoolhbmekahdaaGreatDoor
