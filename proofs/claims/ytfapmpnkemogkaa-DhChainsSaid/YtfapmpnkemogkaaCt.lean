/- What the functions of package ct answer, and that they turn nothing that was there. -/
import Derived.Test.YtfapmpnkemogkaaProg
import Derived.Test.YtfapmpnkemogkaaMem
namespace Go.Proofs.Ytfapmpnkemogkaa
open Go.RowKit
set_option linter.unusedVariables false
set_option linter.unusedSimpArgs false

set_option maxHeartbeats 400000 in
theorem same_any (a b : Nat → Int) (w : World) (ha : Bytes 32 a) (hb : Bytes 32 b) :
    Calls Try.prog 29 #[.agg (ints .u8 32 a), .agg (ints .u8 32 b)] w fun e w' => e = .returned (.bool (same 32 a b)) ∧ Below w.heap.size w w' := by
  have hd := diffs_same 32 a b ha hb
  have H : Hid ((diffs a b 32 == 0) = same 32 a b) := hd
  clear hd ha hb
  go_enter Try.func29, Try.ntmps29
  go_wp2
  go_loopw [5, 7] (fun d i wr => ∃ k n : Nat, k ≤ 32 ∧ i = .int .i64 k ∧ d = .int .u8 (diffs a b k) ∧ wr = ((w.alloc (.cells (ints .u8 32 a) 23)).alloc (.cells (ints .u8 32 b) 23)).drewN n) (fun _ i _ => 32 - (intOf i).toNat)
  case atStart => exact ⟨0, 0, by omega, rfl, rfl, rfl⟩
  case round =>
    obtain ⟨k, n, hk, rfl, rfl, rfl⟩ := hrel
    by_cases hlt : k < 32
    · go_wp2
      go_quiet (fail)
      go_wp2
      go_roundw
      case rel => exact ⟨k + 1, _, by omega, by go_num, rfl, rfl⟩
      case measure => simp [intOf]; omega
    · go_wp2
      go_ret
      obtain rfl : k = 32 := by omega
      rw [H.out]
      exact ⟨rfl, Grew.drewN (Grew.alloc (Grew.alloc (Grew.refl w) _) _) _⟩

theorem bytes_nought : Bytes 32 nought := fun i _ => by simp [nought]
set_option maxHeartbeats 400000 in
theorem zero_any (a : Nat → Int) (w : World) (ha : Bytes 32 a) :
    Calls Try.prog 30 #[.agg (ints .u8 32 a)] w fun e w' => e = .returned (.bool (same 32 a nought)) ∧ Below w.heap.size w w' := by
  go_enter Try.func30, Try.ntmps30
  go_wp2_with fail
  refine (same_any a nought _ ha bytes_nought).mono ?_
  rintro e w' ⟨rfl, hb⟩
  go_wp2
  go_ret
  exact ⟨rfl, Grew.trans (Grew.alloc (Grew.refl w) _) hb⟩

set_option maxHeartbeats 600000 in
theorem pick_any (b : Int) (x y : Nat → Int) (w : World) (hx : Bytes 32 x) (hy : Bytes 32 y) :
    Calls Try.prog 32 #[.int .i64 b, .agg (ints .u8 32 x), .agg (ints .u8 32 y)] w fun e w' => e = .returned (.agg (ints .u8 32 (oneOf b x y))) ∧ Below w.heap.size w w' := by
  have hm := ints_congr (k := .u8) (masked_is b x y hx hy)
  have H : Hid (ints .u8 32 (masked (-(bits .and .i64 b 1 % 256) % 256) x y) = ints .u8 32 (oneOf b x y)) := hm
  clear hm hx hy
  go_enter Try.func32, Try.ntmps32
  go_wp2
  generalize (-(bits .and .i64 b 1 % 256) % 256) = m at *
  go_loopw [14] (fun i wr => ∃ k n : Nat, k ≤ 32 ∧ i = .int .i64 k ∧ wr = ((((w.alloc (.cells (ints .u8 32 x) 23)).alloc (.cells (ints .u8 32 y) 23)).alloc (.cells (ints .u8 32 nought) 23)).alloc (.cells (ints .u8 32 (part' (masked m x y) k)) 23)).drewN n) (fun i _ => 32 - (intOf i).toNat)
  case atStart => exact ⟨0, 0, by omega, rfl, by rw [part_zero]; rfl⟩
  case round =>
    obtain ⟨k, n, hk, rfl, rfl⟩ := hrel
    by_cases hlt : k < 32
    · go_wp2
      go_region
      go_wp2
      go_roundw
      case rel => exact ⟨k + 1, _, by omega, by go_num, by rw [← part_succ]; rfl⟩
      case measure => simp [intOf]; omega
    · go_wp2
      obtain rfl : k = 32 := by omega
      rw [ints_part, H.out]
      refine ret_row rfl _ 23 _ (0, 0) _ rfl (by simp [go_sem]) Try.underlying23 rfl (by rw [ints_size]; kernel_rfl) rfl ⟨rfl, ?_⟩
      exact Grew.drewN (Grew.alloc (Grew.alloc (Grew.alloc (Grew.alloc (Grew.refl w) _) _) _) _) _

set_option maxHeartbeats 400000 in
theorem swap_any (b : Int) (x y : Nat → Int) (w : World) (hx : Bytes 32 x) (hy : Bytes 32 y) :
    Calls Try.prog 31 #[.int .i64 b, .agg (ints .u8 32 x), .agg (ints .u8 32 y)] w fun e w' => e = .returned (.tuple #[.agg (ints .u8 32 (oneOf b x y)), .agg (ints .u8 32 (oneOf b y x))]) ∧ Below w.heap.size w w' := by
  go_enter Try.func31, Try.ntmps31
  go_wp2
  ((first | (with_reducible refine wp_region_tail_on 8 (by kernel_rfl) (by kernel_rfl) (by kernel_rfl) (by kernel_rfl) (by kernel_rfl) ?_) | refine wp_region_tail_more 8 (by kernel_rfl) (by kernel_rfl) (by kernel_rfl) (by kernel_rfl) (by kernel_rfl) ?_); simp only [List.take_succ_cons, List.take_zero]; (repeat (first | go_big_quiet_skip | (go_big_quiet_want; go_big_quiet_op; first | go_big_quiet_on | (apply Exists.intro; refine ⟨fun _ => ?_, ?_⟩; (focus (first | (with_reducible exact Calls.of_more (pick_any b x y _ hx hy)) | (with_reducible exact Calls.of_more (pick_any b y x _ hy hx)))); go_big_quiet_on)))); refine wpQuiet_nil ?_; rintro _ ⟨mq, rfl⟩)
  (refine tail_one (i := 8) (fuel := 1) (by kernel_rfl) rfl ?_; intro K hK; go_simp; refine hK _ _ ?_; clear hK K)
  (refine tail_one (i := 9) (fuel := 0) (by kernel_rfl) rfl ?_; intro K hK; go_simp; refine hK _ _ ?_; clear hK K)
  (refine wpAny_done (by kernel_rfl) ?_ _)
  go_wp2
  refine ret_row2 rfl _ _ 23 23 _ _ (0, 0) (0, 0) _ _ rfl rfl (by simp [go_sem]) (by simp [go_sem]) Try.underlying23 rfl (by rw [ints_size]; kernel_rfl) Try.underlying23 rfl (by rw [ints_size]; kernel_rfl) rfl ⟨rfl, ?_⟩
  exact Grew.more (Grew.alloc (Grew.alloc (Grew.alloc (Grew.alloc (Grew.refl w) _) _) _) _) _

/-- the bytes of a string -/
def byteAt (s : ByteArray) (i : Nat) : Int := if h : i < s.size then (s[i].toNat : Int) else 0
theorem byteAt_lt (s : ByteArray) (i : Nat) (h : i < s.size) : (s[i].toNat : Int) = byteAt s i := by simp [byteAt, h]
theorem byteAt_bytes (s : ByteArray) : Bytes s.size (byteAt s) := by
  intro i hi
  unfold byteAt
  rw [dif_pos hi]
  have := s[i].toNat_lt
  omega
theorem bytes_eq (s t : ByteArray) (h : s.size = t.size) (hb : ∀ i, i < s.size → byteAt s i = byteAt t i) : s = t := by
  apply ByteArray.ext
  apply Array.ext
  · exact h
  · intro i h1 h2
    have hs : i < s.size := h1
    have ht : i < t.size := h2
    have := hb i hs
    unfold byteAt at this
    rw [dif_pos hs, dif_pos ht] at this
    have h3 : s[i].toNat = t[i].toNat := by exact_mod_cast this
    exact UInt8.toNat_inj.1 h3

set_option maxHeartbeats 400000 in
theorem equal_same (s t : ByteArray) (w : World) (h : s.size = t.size) (hs : s.size ≤ 9223372036854775807) :
    Calls Try.prog 28 #[.string s, .string t] w fun e w' => e = .returned (.bool (same s.size (byteAt s) (byteAt t))) ∧ Below w.heap.size w w' := by
  have hd := diffs_same s.size (byteAt s) (byteAt t) (byteAt_bytes s) (by rw [h]; exact byteAt_bytes t)
  have H : Hid ((diffs (byteAt s) (byteAt t) s.size == 0) = same s.size (byteAt s) (byteAt t)) := hd
  have HL : Hid (s.size = t.size) := h
  clear hd
  go_enter Try.func28, Try.ntmps28
  go_wp2
  clear h
  go_loopw [5, 14] (fun d i wr => ∃ k n : Nat, k ≤ s.size ∧ i = .int .i64 k ∧ d = .int .u8 (diffs (byteAt s) (byteAt t) k) ∧ wr = w.drewN n) (fun _ i _ => s.size - (intOf i).toNat)
  case atStart => exact ⟨0, 0, by omega, rfl, rfl, rfl⟩
  case round =>
    obtain ⟨k, n, hk, rfl, rfl, rfl⟩ := hrel
    by_cases hlt : k < s.size
    · have hlt' : k < t.size := by have := HL.out; omega
      go_wp2
      go_quiet (fail)
      go_wp2
      go_roundw
      case rel => exact ⟨k + 1, _, by omega, by go_num, by rw [byteAt_lt s k hlt, byteAt_lt t k hlt']; rfl, rfl⟩
      case measure => simp [intOf]; omega
    · obtain rfl : k = s.size := by omega
      clear hlt
      have hd : decide (s.size < t.size) = false := by have := HL.out; simp; omega
      go_wp2
      go_ret
      rw [H.out]
      exact ⟨rfl, Grew.drewN (Grew.refl w) _⟩

set_option maxHeartbeats 400000 in
theorem equal_not (s t : ByteArray) (w : World) (h : ¬ s.size = t.size) :
    Calls Try.prog 28 #[.string s, .string t] w fun e w' => e = .returned (.bool false) ∧ Below w.heap.size w w' := by
  have hd : (((s.size : Int) == (t.size : Int)) = false) := by simp; omega
  have hd' : (((s.size : Int) != (t.size : Int)) = true) := by simp; omega
  go_enter Try.func28, Try.ntmps28
  go_wp2
  go_ret
  exact ⟨rfl, Grew.refl w⟩
theorem equal_any (s t : ByteArray) (w : World) (hs : s.size ≤ 9223372036854775807) :
    Calls Try.prog 28 #[.string s, .string t] w fun e w' => e = .returned (.bool (s.toList == t.toList)) ∧ Below w.heap.size w w' := by
  by_cases h : s.size = t.size
  · have e : same s.size (byteAt s) (byteAt t) = (s.toList == t.toList) := by
      rw [Bool.eq_iff_iff, same_iff, beq_iff_eq]
      constructor
      · intro hb; rw [bytes_eq s t h hb]
      · intro hb
        rw [ByteArray.toList_eq, ByteArray.toList_eq] at hb
        have : s = t := by
          cases s; cases t; congr 1; exact Array.toList_inj.1 hb
        rw [this]; intro _ _; rfl
    rw [← e]
    exact equal_same s t w h hs
  · have e : (s.toList == t.toList) = false := by
      rw [beq_eq_false_iff_ne]
      intro hb
      rw [ByteArray.toList_eq, ByteArray.toList_eq] at hb
      exact h (congrArg List.length hb)
    rw [e]
    exact equal_not s t w h
end Go.Proofs.Ytfapmpnkemogkaa
