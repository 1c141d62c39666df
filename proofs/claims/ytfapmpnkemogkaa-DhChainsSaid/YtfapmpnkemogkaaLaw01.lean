/- The laws of layer 1: the functions of package sapwoodlaw01 answer true, and turn nothing that was there. -/
import Derived.Test.YtfapmpnkemogkaaHex
import Derived.Test.YtfapmpnkemogkaaShelf
namespace Go.Proofs.Ytfapmpnkemogkaa
open Go.RowKit
set_option linter.unusedVariables false
set_option linter.unusedSimpArgs false

theorem same_of_eq {n : Nat} {f g : Nat → Int} (h : ∀ i, i < n → f i = g i) : same n f g = true := (same_iff n f g).2 h
/-- 48, 64 times -/
theorem zeros_text : Lib.repeatL [48] 64 = (strOf 64 (hexd nought)).toList := by
  rw [strOf_list]
  kernel_rfl

theorem bytes_upd (n : Nat) (f : Nat → Int) (i : Nat) (v : Int) (h : Bytes n f) (h0 : 0 ≤ v) (h1 : v ≤ 255) : Bytes n (upd f i v) := by
  intro j hj
  unfold upd
  split
  · exact ⟨h0, h1⟩
  · exact h j hj
theorem one_two : same 32 (oneOf 3 (upd nought 0 1) (upd nought 0 2)) (upd nought 0 2) = true := by
  unfold oneOf
  rw [if_neg (by decide)]
  exact same_refl _ _
set_option maxHeartbeats 400000 in
theorem awake_any (w : World) :
    Calls Try.prog 27 #[] w fun e w' => e = .returned (.bool true) ∧ Below w.heap.size w w' := by
  have h1 := one_two
  have h2 : ((strOf 64 (hexd nought)).toList == Lib.repeatL [48] 64) = true := by rw [zeros_text]; exact beq_self_eq_true _
  go_enter Try.func27, Try.ntmps27
  go_wp2_with fail
  refine (pick_any 3 (upd nought 0 1) (upd nought 0 2) _ (bytes_upd _ _ _ _ bytes_nought (by decide) (by decide)) (bytes_upd _ _ _ _ bytes_nought (by decide) (by decide))).mono ?_
  rintro e w1 ⟨rfl, hb1⟩
  go_wp2_with fail
  refine (hex_any nought _ bytes_nought).mono ?_
  rintro e w2 ⟨rfl, hb2⟩
  go_wp2_with fail
  refine (Try.strings_Repeat ⟨#[48]⟩ 64 _ (by decide) (by decide)).mono ?_
  rintro e w3 ⟨rfl, hb3⟩
  go_wp2
  go_ret
  exact ⟨rfl, Grew.trans (Grew.trans hb1 hb2) hb3⟩

set_option maxHeartbeats 400000 in
theorem compares_any (a b : ByteArray) (x y : Nat → Int) (w : World) (hx : Bytes 32 x) (hy : Bytes 32 y) (ha : a.size ≤ 9223372036854775807) (hb : b.size ≤ 9223372036854775807) :
    Calls Try.prog 3 #[.string a, .string b, .agg (ints .u8 32 x), .agg (ints .u8 32 y)] w fun e w' => e = .returned (.bool true) ∧ Below w.heap.size w w' := by
  have s1 := same_refl 32 x
  have s2 := same_refl 32 nought
  go_enter Try.func3, Try.ntmps3
  go_wp2_with fail
  refine (awake_any _).mono ?_
  rintro e w1 ⟨rfl, hb1⟩
  obtain ⟨m1, rfl⟩ := more_of_below hb1
  clear hb1
  go_wp2_with fail
  · go_ret
    exact ⟨rfl, by (repeat (first | assumption | exact Grew.refl _ | refine Grew.more ?_ _ | refine Grew.alloc ?_ _ | refine Grew.drewN ?_ _ | refine Grew.setRow ?_ _ _ (by omega) | refine Grew.setRow ?_ _ _ (by simp; omega) | refine Grew.setRow ?_ _ _ (by simp)))⟩
  · ((first | (with_reducible refine wp_region_on (by kernel_rfl) (by kernel_rfl) ?_) | refine wp_region_more (by kernel_rfl) (by kernel_rfl) ?_); (repeat (first | go_big_quiet_skip | (go_big_quiet_want; go_big_quiet_op; first | go_big_quiet_on | (apply Exists.intro; refine ⟨fun _ => ?_, ?_⟩; (focus (first | (with_reducible exact Calls.of_more (equal_any a b _ ha)) | (with_reducible exact Calls.of_more (equal_any a a _ ha)) | (with_reducible exact Calls.of_more (same_any x y _ hx hy)) | (with_reducible exact Calls.of_more (same_any x x _ hx hx)) | (with_reducible exact Calls.of_more (zero_any x _ hx)) | (with_reducible exact Calls.of_more (zero_any nought _ bytes_nought)))); go_big_quiet_on)))); refine wpQuiet_nil ?_; rintro _ ⟨mq, rfl⟩)
    go_wp2
    go_ret
    exact ⟨rfl, by (repeat (first | assumption | exact Grew.refl _ | refine Grew.more ?_ _ | refine Grew.alloc ?_ _ | refine Grew.drewN ?_ _ | refine Grew.setRow ?_ _ _ (by omega) | refine Grew.setRow ?_ _ _ (by simp; omega) | refine Grew.setRow ?_ _ _ (by simp)))⟩
  · go_ret
    exact ⟨rfl, by (repeat (first | assumption | exact Grew.refl _ | refine Grew.more ?_ _ | refine Grew.alloc ?_ _ | refine Grew.drewN ?_ _ | refine Grew.setRow ?_ _ _ (by omega) | refine Grew.setRow ?_ _ _ (by simp; omega) | refine Grew.setRow ?_ _ _ (by simp)))⟩

theorem oneOf_even {b : Int} (h : b % 2 = 0) (x y : Nat → Int) : oneOf b x y = x := if_pos h
theorem oneOf_odd {b : Int} (h : ¬ b % 2 = 0) (x y : Nat → Int) : oneOf b x y = y := if_neg h
theorem tmod_two (b : Int) : b.tmod 2 = 0 ↔ b % 2 = 0 := by
  rw [← Int.dvd_iff_tmod_eq_zero, ← Int.dvd_iff_emod_eq_zero]
theorem bytes_oneOf {n : Nat} (b : Int) {x y : Nat → Int} (hx : Bytes n x) (hy : Bytes n y) : Bytes n (oneOf b x y) := by
  unfold oneOf; split <;> assumption

set_option maxHeartbeats 400000 in
theorem picks_even (b : Int) (x y : Nat → Int) (w : World) (hx : Bytes 32 x) (hy : Bytes 32 y) (hb : b % 2 = 0) :
    Calls Try.prog 4 #[.int .i64 b, .agg (ints .u8 32 x), .agg (ints .u8 32 y)] w fun e w' => e = .returned (.bool true) ∧ Below w.heap.size w w' := by
  have ht : (b.tmod 2 != 0) = false := by simpa [tmod_two] using hb
  have s1 : same 32 (oneOf b x y) x = true := by rw [oneOf_even hb]; exact same_refl _ _
  have s2 : same 32 (oneOf b y x) y = true := by rw [oneOf_even hb]; exact same_refl _ _
  clear hb
  go_enter Try.func4, Try.ntmps4
  go_wp2_with fail
  have hG := Grew.refl w
  have fx : True := trivial
  have fy : True := trivial
  (refine (awake_any _).mono ?_; rintro e w1 ⟨rfl, hb⟩; replace fx : objAt w1 (w.heap.size) = some (.cells (ints .u8 32 x) 23) := keep_below hb (by (repeat (first | assumption | exact objAt_alloc_at _ _ _ rfl | (refine objAt_alloc_at _ _ _ ?_; (simp; done)) | refine keep_alloc _ ?_ | refine keep_drewN _ ?_ | refine keep_more _ ?_ | exact keep_row _ (by assumption) | refine keep_setRow _ _ ?_ (by first | omega | (simp; omega) | simp)))); have lfx := lt_of_objAt fx; replace fy : objAt w1 (w.heap.size + 1) = some (.cells (ints .u8 32 y) 23) := keep_below hb (by (repeat (first | assumption | exact objAt_alloc_at _ _ _ rfl | (refine objAt_alloc_at _ _ _ ?_; (simp; done)) | refine keep_alloc _ ?_ | refine keep_drewN _ ?_ | refine keep_more _ ?_ | exact keep_row _ (by assumption) | refine keep_setRow _ _ ?_ (by first | omega | (simp; omega) | simp)))); have lfy := lt_of_objAt fy; replace hG : Below w.heap.size w w1 := Grew.trans (by (repeat (first | assumption | exact Grew.refl _ | refine Grew.more ?_ _ | refine Grew.alloc ?_ _ | refine Grew.drewN ?_ _ | refine Grew.setRow ?_ _ _ (by omega) | refine Grew.setRow ?_ _ _ (by simp; omega) | refine Grew.setRow ?_ _ _ (by simp)))) hb; clear hb)
  go_wp2_with fail
  (refine (swap_any b x y _ hx hy).mono ?_; rintro e w2 ⟨rfl, hb⟩; replace fx : objAt w2 (w.heap.size) = some (.cells (ints .u8 32 x) 23) := keep_below hb (by (repeat (first | assumption | exact objAt_alloc_at _ _ _ rfl | (refine objAt_alloc_at _ _ _ ?_; (simp; done)) | refine keep_alloc _ ?_ | refine keep_drewN _ ?_ | refine keep_more _ ?_ | exact keep_row _ (by assumption) | refine keep_setRow _ _ ?_ (by first | omega | (simp; omega) | simp)))); have lfx := lt_of_objAt fx; replace fy : objAt w2 (w.heap.size + 1) = some (.cells (ints .u8 32 y) 23) := keep_below hb (by (repeat (first | assumption | exact objAt_alloc_at _ _ _ rfl | (refine objAt_alloc_at _ _ _ ?_; (simp; done)) | refine keep_alloc _ ?_ | refine keep_drewN _ ?_ | refine keep_more _ ?_ | exact keep_row _ (by assumption) | refine keep_setRow _ _ ?_ (by first | omega | (simp; omega) | simp)))); have lfy := lt_of_objAt fy; replace hG : Below w.heap.size w w2 := Grew.trans (by (repeat (first | assumption | exact Grew.refl _ | refine Grew.more ?_ _ | refine Grew.alloc ?_ _ | refine Grew.drewN ?_ _ | refine Grew.setRow ?_ _ _ (by omega) | refine Grew.setRow ?_ _ _ (by simp; omega) | refine Grew.setRow ?_ _ _ (by simp)))) hb; clear hb)
  go_wp2_with fail
  ((first | (with_reducible refine wp_region_on (by kernel_rfl) (by kernel_rfl) ?_) | refine wp_region_more (by kernel_rfl) (by kernel_rfl) ?_); (repeat (first | go_big_quiet_skip | (go_big_quiet_want; go_big_quiet_op; first | go_big_quiet_on | (apply Exists.intro; refine ⟨fun _ => ?_, ?_⟩; (focus (with_reducible exact Calls.of_more (pick_any b x y _ hx hy))); go_big_quiet_on)))); refine wpQuiet_nil ?_; rintro _ ⟨mq, rfl⟩)
  go_wp2
  go_ret
  exact ⟨rfl, by (repeat (first | assumption | exact Grew.refl _ | refine Grew.more ?_ _ | refine Grew.alloc ?_ _ | refine Grew.drewN ?_ _ | refine Grew.setRow ?_ _ _ (by omega) | refine Grew.setRow ?_ _ _ (by simp; omega) | refine Grew.setRow ?_ _ _ (by simp)))⟩
set_option maxHeartbeats 400000 in
theorem picks_odd (b : Int) (x y : Nat → Int) (w : World) (hx : Bytes 32 x) (hy : Bytes 32 y) (hb : ¬ b % 2 = 0) :
    Calls Try.prog 4 #[.int .i64 b, .agg (ints .u8 32 x), .agg (ints .u8 32 y)] w fun e w' => e = .returned (.bool true) ∧ Below w.heap.size w w' := by
  have ht : (b.tmod 2 != 0) = true := by simpa [tmod_two] using hb
  have s1 : same 32 (oneOf b x y) y = true := by rw [oneOf_odd hb]; exact same_refl _ _
  have s2 : same 32 (oneOf b y x) x = true := by rw [oneOf_odd hb]; exact same_refl _ _
  clear hb
  go_enter Try.func4, Try.ntmps4
  go_wp2_with fail
  have hG := Grew.refl w
  have fx : True := trivial
  have fy : True := trivial
  (refine (awake_any _).mono ?_; rintro e w1 ⟨rfl, hb⟩; replace fx : objAt w1 (w.heap.size) = some (.cells (ints .u8 32 x) 23) := keep_below hb (by (repeat (first | assumption | exact objAt_alloc_at _ _ _ rfl | (refine objAt_alloc_at _ _ _ ?_; (simp; done)) | refine keep_alloc _ ?_ | refine keep_drewN _ ?_ | refine keep_more _ ?_ | exact keep_row _ (by assumption) | refine keep_setRow _ _ ?_ (by first | omega | (simp; omega) | simp)))); have lfx := lt_of_objAt fx; replace fy : objAt w1 (w.heap.size + 1) = some (.cells (ints .u8 32 y) 23) := keep_below hb (by (repeat (first | assumption | exact objAt_alloc_at _ _ _ rfl | (refine objAt_alloc_at _ _ _ ?_; (simp; done)) | refine keep_alloc _ ?_ | refine keep_drewN _ ?_ | refine keep_more _ ?_ | exact keep_row _ (by assumption) | refine keep_setRow _ _ ?_ (by first | omega | (simp; omega) | simp)))); have lfy := lt_of_objAt fy; replace hG : Below w.heap.size w w1 := Grew.trans (by (repeat (first | assumption | exact Grew.refl _ | refine Grew.more ?_ _ | refine Grew.alloc ?_ _ | refine Grew.drewN ?_ _ | refine Grew.setRow ?_ _ _ (by omega) | refine Grew.setRow ?_ _ _ (by simp; omega) | refine Grew.setRow ?_ _ _ (by simp)))) hb; clear hb)
  go_wp2_with fail
  (refine (swap_any b x y _ hx hy).mono ?_; rintro e w2 ⟨rfl, hb⟩; replace fx : objAt w2 (w.heap.size) = some (.cells (ints .u8 32 x) 23) := keep_below hb (by (repeat (first | assumption | exact objAt_alloc_at _ _ _ rfl | (refine objAt_alloc_at _ _ _ ?_; (simp; done)) | refine keep_alloc _ ?_ | refine keep_drewN _ ?_ | refine keep_more _ ?_ | exact keep_row _ (by assumption) | refine keep_setRow _ _ ?_ (by first | omega | (simp; omega) | simp)))); have lfx := lt_of_objAt fx; replace fy : objAt w2 (w.heap.size + 1) = some (.cells (ints .u8 32 y) 23) := keep_below hb (by (repeat (first | assumption | exact objAt_alloc_at _ _ _ rfl | (refine objAt_alloc_at _ _ _ ?_; (simp; done)) | refine keep_alloc _ ?_ | refine keep_drewN _ ?_ | refine keep_more _ ?_ | exact keep_row _ (by assumption) | refine keep_setRow _ _ ?_ (by first | omega | (simp; omega) | simp)))); have lfy := lt_of_objAt fy; replace hG : Below w.heap.size w w2 := Grew.trans (by (repeat (first | assumption | exact Grew.refl _ | refine Grew.more ?_ _ | refine Grew.alloc ?_ _ | refine Grew.drewN ?_ _ | refine Grew.setRow ?_ _ _ (by omega) | refine Grew.setRow ?_ _ _ (by simp; omega) | refine Grew.setRow ?_ _ _ (by simp)))) hb; clear hb)
  go_wp2_with fail
  ((first | (with_reducible refine wp_region_on (by kernel_rfl) (by kernel_rfl) ?_) | refine wp_region_more (by kernel_rfl) (by kernel_rfl) ?_); (repeat (first | go_big_quiet_skip | (go_big_quiet_want; go_big_quiet_op; first | go_big_quiet_on | (apply Exists.intro; refine ⟨fun _ => ?_, ?_⟩; (focus (with_reducible exact Calls.of_more (pick_any b x y _ hx hy))); go_big_quiet_on)))); refine wpQuiet_nil ?_; rintro _ ⟨mq, rfl⟩)
  go_wp2
  go_ret
  exact ⟨rfl, by (repeat (first | assumption | exact Grew.refl _ | refine Grew.more ?_ _ | refine Grew.alloc ?_ _ | refine Grew.drewN ?_ _ | refine Grew.setRow ?_ _ _ (by omega) | refine Grew.setRow ?_ _ _ (by simp; omega) | refine Grew.setRow ?_ _ _ (by simp)))⟩


/-- a bit turned -/
theorem flip_bit (p a : Nat) (hp : p < 256) : ∃ q : Nat, bits .xor .u8 (p : Int) (2 ^ (a % 8) % 256) = q ∧ q < 256 ∧ q ≠ p := by
  obtain ⟨m, hm, hm1, hm2⟩ : ∃ m : Nat, ((2 : Int) ^ (a % 8) % 256) = m ∧ m < 256 ∧ m ≠ 0 := by
    rcases (by omega : a % 8 = 0 ∨ a % 8 = 1 ∨ a % 8 = 2 ∨ a % 8 = 3 ∨ a % 8 = 4 ∨ a % 8 = 5 ∨ a % 8 = 6 ∨ a % 8 = 7) with h | h | h | h | h | h | h | h <;> rw [h]
    · exact ⟨1, rfl, by decide, by decide⟩
    · exact ⟨2, rfl, by decide, by decide⟩
    · exact ⟨4, rfl, by decide, by decide⟩
    · exact ⟨8, rfl, by decide, by decide⟩
    · exact ⟨16, rfl, by decide, by decide⟩
    · exact ⟨32, rfl, by decide, by decide⟩
    · exact ⟨64, rfl, by decide, by decide⟩
    · exact ⟨128, rfl, by decide, by decide⟩
  have h1 : p ^^^ m < 2 ^ 8 := Nat.xor_lt_two_pow (by omega) (by omega)
  refine ⟨p ^^^ m, by rw [hm, u8_xor p m hp hm1], by omega, fun e => hm2 ?_⟩
  have := congrArg (fun n => p ^^^ n) e
  simpa [nat_xor_back] using this
theorem turned (x : Nat → Int) (a : Nat) (hx : Bytes 32 x) (ha : a < 256) : Bytes 32 (upd x (a / 8) (bits .xor .u8 (x (a / 8)) (2 ^ (a % 8) % 256))) ∧ same 32 x (upd x (a / 8) (bits .xor .u8 (x (a / 8)) (2 ^ (a % 8) % 256))) = false := by
  have hj : a / 8 < 32 := by omega
  obtain ⟨p, hp, hp1⟩ := u8_nat _ (hx _ hj).1 (hx _ hj).2
  obtain ⟨q, hq, hq1, hq2⟩ := flip_bit p a hp1
  rw [hp, hq]
  refine ⟨bytes_upd 32 x _ _ hx (by omega) (by omega), ?_⟩
  rw [Bool.eq_false_iff]
  intro h
  have := (same_iff _ _ _).1 h _ hj
  rw [upd_same, hp] at this
  exact hq2 (by exact_mod_cast this.symm)
theorem oneOf_twice (b : Int) (x y : Nat → Int) : oneOf b (oneOf b x y) (oneOf b y x) = x := by
  unfold oneOf; split <;> rfl
theorem oneOf_self (b : Int) (x : Nat → Int) : oneOf b x x = x := by
  unfold oneOf; split <;> rfl
theorem longer (s : ByteArray) : (s.toList == (s ++ (⟨#[120]⟩ : ByteArray)).toList) = false := by
  rw [beq_eq_false_iff_ne]
  intro h
  rw [ByteArray.toList_eq, ByteArray.toList_eq] at h
  have := congrArg List.length h
  simp at this

set_option maxHeartbeats 400000 in
theorem once_any (b : Int) (x y : Nat → Int) (a : Nat) (s : ByteArray) (w : World) (hx : Bytes 32 x) (hy : Bytes 32 y) (ha1 : a < 256) (hs : s.size ≤ 9223372036854775807) :
    Calls Try.prog 5 #[.int .i64 b, .agg (ints .u8 32 x), .agg (ints .u8 32 y), .int .u8 a, .string s] w fun e w' => e = .returned (.bool true) ∧ Below w.heap.size w w' := by
  have ha8 : a / 8 < 32 := by omega
  have hz := (turned x a hx ha1).1
  have s1 : same 32 (oneOf b (oneOf b x y) (oneOf b y x)) x = true := by rw [oneOf_twice]; exact same_refl _ _
  have s2 : same 32 (oneOf b (oneOf b y x) (oneOf b x y)) y = true := by rw [oneOf_twice]; exact same_refl _ _
  have s3 := (turned x a hx ha1).2
  have s4 := longer s
  have s5 : same 32 (oneOf b x x) x = true := by rw [oneOf_self]; exact same_refl _ _
  go_enter Try.func5, Try.ntmps5
  go_wp2_with fail
  have hG := Grew.refl w
  have fx : True := trivial
  have fy : True := trivial
  (refine (awake_any _).mono ?_; rintro e w1 ⟨rfl, hb⟩; replace fx : objAt w1 (w.heap.size) = some (.cells (ints .u8 32 x) 23) := keep_below hb (by (repeat (first | assumption | exact objAt_alloc_at _ _ _ rfl | (refine objAt_alloc_at _ _ _ ?_; (simp; done)) | refine keep_alloc _ ?_ | refine keep_drewN _ ?_ | refine keep_more _ ?_ | exact keep_row _ (by assumption) | refine keep_setRow _ _ ?_ (by first | omega | (simp; omega) | simp)))); have lfx := lt_of_objAt fx; replace fy : objAt w1 (w.heap.size + 1) = some (.cells (ints .u8 32 y) 23) := keep_below hb (by (repeat (first | assumption | exact objAt_alloc_at _ _ _ rfl | (refine objAt_alloc_at _ _ _ ?_; (simp; done)) | refine keep_alloc _ ?_ | refine keep_drewN _ ?_ | refine keep_more _ ?_ | exact keep_row _ (by assumption) | refine keep_setRow _ _ ?_ (by first | omega | (simp; omega) | simp)))); have lfy := lt_of_objAt fy; replace hG : Below w.heap.size w w1 := Grew.trans (by (repeat (first | assumption | exact Grew.refl _ | refine Grew.more ?_ _ | refine Grew.alloc ?_ _ | refine Grew.drewN ?_ _ | refine Grew.setRow ?_ _ _ (by omega) | refine Grew.setRow ?_ _ _ (by simp; omega) | refine Grew.setRow ?_ _ _ (by simp)))) hb; clear hb)
  go_wp2_with fail
  · go_ret
    exact ⟨rfl, by (repeat (first | assumption | exact Grew.refl _ | refine Grew.more ?_ _ | refine Grew.alloc ?_ _ | refine Grew.drewN ?_ _ | refine Grew.setRow ?_ _ _ (by omega) | refine Grew.setRow ?_ _ _ (by simp; omega) | refine Grew.setRow ?_ _ _ (by simp)))⟩
  · (refine (swap_any b x y _ hx hy).mono ?_; rintro e w2 ⟨rfl, hb⟩; replace fx : objAt w2 (w.heap.size) = some (.cells (ints .u8 32 x) 23) := keep_below hb (by (repeat (first | assumption | exact objAt_alloc_at _ _ _ rfl | (refine objAt_alloc_at _ _ _ ?_; (simp; done)) | refine keep_alloc _ ?_ | refine keep_drewN _ ?_ | refine keep_more _ ?_ | exact keep_row _ (by assumption) | refine keep_setRow _ _ ?_ (by first | omega | (simp; omega) | simp)))); have lfx := lt_of_objAt fx; replace fy : objAt w2 (w.heap.size + 1) = some (.cells (ints .u8 32 y) 23) := keep_below hb (by (repeat (first | assumption | exact objAt_alloc_at _ _ _ rfl | (refine objAt_alloc_at _ _ _ ?_; (simp; done)) | refine keep_alloc _ ?_ | refine keep_drewN _ ?_ | refine keep_more _ ?_ | exact keep_row _ (by assumption) | refine keep_setRow _ _ ?_ (by first | omega | (simp; omega) | simp)))); have lfy := lt_of_objAt fy; replace hG : Below w.heap.size w w2 := Grew.trans (by (repeat (first | assumption | exact Grew.refl _ | refine Grew.more ?_ _ | refine Grew.alloc ?_ _ | refine Grew.drewN ?_ _ | refine Grew.setRow ?_ _ _ (by omega) | refine Grew.setRow ?_ _ _ (by simp; omega) | refine Grew.setRow ?_ _ _ (by simp)))) hb; clear hb)
    have fp : True := trivial
    have fq : True := trivial
    go_wp2_with fail
    (refine (swap_any b _ _ _ (bytes_oneOf b hx hy) (bytes_oneOf b hy hx)).mono ?_; rintro e w3 ⟨rfl, hb⟩; replace fx : objAt w3 (w.heap.size) = some (.cells (ints .u8 32 x) 23) := keep_below hb (by (repeat (first | assumption | exact objAt_alloc_at _ _ _ rfl | (refine objAt_alloc_at _ _ _ ?_; (simp; done)) | refine keep_alloc _ ?_ | refine keep_drewN _ ?_ | refine keep_more _ ?_ | exact keep_row _ (by assumption) | refine keep_setRow _ _ ?_ (by first | omega | (simp; omega) | simp)))); have lfx := lt_of_objAt fx; replace fy : objAt w3 (w.heap.size + 1) = some (.cells (ints .u8 32 y) 23) := keep_below hb (by (repeat (first | assumption | exact objAt_alloc_at _ _ _ rfl | (refine objAt_alloc_at _ _ _ ?_; (simp; done)) | refine keep_alloc _ ?_ | refine keep_drewN _ ?_ | refine keep_more _ ?_ | exact keep_row _ (by assumption) | refine keep_setRow _ _ ?_ (by first | omega | (simp; omega) | simp)))); have lfy := lt_of_objAt fy; replace fp : objAt w3 (w2.heap.size) = some (.cells (ints .u8 32 (oneOf b x y)) 23) := keep_below hb (by (repeat (first | assumption | exact objAt_alloc_at _ _ _ rfl | (refine objAt_alloc_at _ _ _ ?_; (simp; done)) | refine keep_alloc _ ?_ | refine keep_drewN _ ?_ | refine keep_more _ ?_ | exact keep_row _ (by assumption) | refine keep_setRow _ _ ?_ (by first | omega | (simp; omega) | simp)))); have lfp := lt_of_objAt fp; replace fq : objAt w3 (w2.heap.size + 1) = some (.cells (ints .u8 32 (oneOf b y x)) 23) := keep_below hb (by (repeat (first | assumption | exact objAt_alloc_at _ _ _ rfl | (refine objAt_alloc_at _ _ _ ?_; (simp; done)) | refine keep_alloc _ ?_ | refine keep_drewN _ ?_ | refine keep_more _ ?_ | exact keep_row _ (by assumption) | refine keep_setRow _ _ ?_ (by first | omega | (simp; omega) | simp)))); have lfq := lt_of_objAt fq; replace hG : Below w.heap.size w w3 := Grew.trans (by (repeat (first | assumption | exact Grew.refl _ | refine Grew.more ?_ _ | refine Grew.alloc ?_ _ | refine Grew.drewN ?_ _ | refine Grew.setRow ?_ _ _ (by omega) | refine Grew.setRow ?_ _ _ (by simp; omega) | refine Grew.setRow ?_ _ _ (by simp)))) hb; clear hb)
    go_wp2_with fail
    ((first | (with_reducible refine wp_region_on (by kernel_rfl) (by kernel_rfl) ?_) | refine wp_region_more (by kernel_rfl) (by kernel_rfl) ?_); (repeat (first | go_big_quiet_skip | (go_big_quiet_want; go_big_quiet_op; first | go_big_quiet_on | (apply Exists.intro; refine ⟨fun _ => ?_, ?_⟩; (focus (first | (with_reducible exact Calls.of_more (same_any x _ _ hx hz)) | (with_reducible exact Calls.of_more (equal_any s _ _ hs)) | (with_reducible exact Calls.of_more (pick_any b x x _ hx hx)))); go_big_quiet_on)))); refine wpQuiet_nil ?_; rintro _ ⟨mq, rfl⟩)
    go_wp2
    go_ret
    exact ⟨rfl, by (repeat (first | assumption | exact Grew.refl _ | refine Grew.more ?_ _ | refine Grew.alloc ?_ _ | refine Grew.drewN ?_ _ | refine Grew.setRow ?_ _ _ (by omega) | refine Grew.setRow ?_ _ _ (by simp; omega) | refine Grew.setRow ?_ _ _ (by simp)))⟩
theorem picks_any (b : Int) (x y : Nat → Int) (w : World) (hx : Bytes 32 x) (hy : Bytes 32 y) :
    Calls Try.prog 4 #[.int .i64 b, .agg (ints .u8 32 x), .agg (ints .u8 32 y)] w fun e w' => e = .returned (.bool true) ∧ Below w.heap.size w w' := by
  by_cases hb : b % 2 = 0
  · exact picks_even b x y w hx hy hb
  · exact picks_odd b x y w hx hy hb
theorem once_int (b : Int) (x y : Nat → Int) (a : Int) (s : ByteArray) (w : World) (hx : Bytes 32 x) (hy : Bytes 32 y) (ha0 : 0 ≤ a ∧ a ≤ 255) (hs : s.size ≤ 9223372036854775807) :
    Calls Try.prog 5 #[.int .i64 b, .agg (ints .u8 32 x), .agg (ints .u8 32 y), .int .u8 a, .string s] w fun e w' => e = .returned (.bool true) ∧ Below w.heap.size w w' := by
  obtain ⟨k, rfl, hk⟩ := u8_nat a ha0.1 ha0.2
  exact once_any b x y k s w hx hy hk hs
end Go.Proofs.Ytfapmpnkemogkaa
