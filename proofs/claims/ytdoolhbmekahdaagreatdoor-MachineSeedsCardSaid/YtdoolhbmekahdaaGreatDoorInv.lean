/- Inv -/
import Derived.Test.YtdoolhbmekahdaaGreatDoorCt
import Derived.Test.YtdoolhbmekahdaaGreatDoorMul
import Derived.Test.YtdoolhbmekahdaaGreatDoorPrime
namespace Go.Proofs.YtdoolhbmekahdaaGreatDoor
open Go.RowKit
set_option linter.unusedVariables false
set_option linter.unusedSimpArgs false
theorem u64_and_nat (a b : Nat) (ha : a < 18446744073709551616) (hb : b < 18446744073709551616) : bits .and .u64 (a : Int) (b : Int) = ((a &&& b : Nat) : Int) := (bits_nat .u64 64 (by decide) wraps_u64 a b ha hb).1
theorem u64_xor_nat (a b : Nat) (ha : a < 18446744073709551616) (hb : b < 18446744073709551616) : bits .xor .u64 (a : Int) (b : Int) = ((a ^^^ b : Nat) : Int) := by
 have h1 : (BitVec.ofInt 64 (a : Int)).toNat = a := by rw [BitVec.ofInt_natCast, BitVec.toNat_ofNat]; exact Nat.mod_eq_of_lt (by omega)
 have h2 : (BitVec.ofInt 64 (b : Int)).toNat = b := by rw [BitVec.ofInt_natCast, BitVec.toNat_ofNat]; exact Nat.mod_eq_of_lt (by omega)
 have hx : a ^^^ b < 2 ^ 64 := Nat.xor_lt_two_pow (by omega) (by omega)
 show IntKind.u64.wrap ((BitVec.ofInt 64 (a : Int) ^^^ BitVec.ofInt 64 (b : Int)).toNat : Int) = _
 rw [BitVec.toNat_xor, h1, h2]
 exact wraps_u64 _ (by omega) (by omega)
theorem u64_nat (x : Int) (h0 : 0 ≤ x) (h1 : x ≤ 18446744073709551615) : ∃ a : Nat, x = a ∧ a < 18446744073709551616 := ⟨x.toNat, by omega, by omega⟩
def maskOf (b : Int) : Int := -(b % 2) % 18446744073709551616
def differ (b x y : Int) : Int := bits .and .u64 (maskOf b) (bits .xor .u64 x y)
theorem differ_first (b x y : Int) (hx : 0 ≤ x ∧ x ≤ 18446744073709551615) (hy : 0 ≤ y ∧ y ≤ 18446744073709551615) : bits .xor .u64 x (differ b x y) = if b % 2 = 0 then x else y := by
 obtain ⟨p, rfl, hp⟩ := u64_nat x hx.1 hx.2
 obtain ⟨q, rfl, hq⟩ := u64_nat y hy.1 hy.2
 have h1 : p ^^^ q < 2 ^ 64 := Nat.xor_lt_two_pow (by omega) (by omega)
 unfold differ maskOf
 rw [u64_xor_nat p q hp hq]
 by_cases hb : b % 2 = 0
 ·rw [if_pos hb, hb]
  show bits .xor .u64 (p : Int) (bits .and .u64 ((0 : Nat) : Int) ((p ^^^ q : Nat) : Int)) = p
  rw [u64_and_nat 0 _ (by decide) (by omega), Nat.zero_and, u64_xor_nat p 0 hp (by decide), Nat.xor_zero]
 ·have hb1 : b % 2 = 1 := by omega
  rw [if_neg hb, hb1]
  show bits .xor .u64 (p : Int) (bits .and .u64 ((18446744073709551615 : Nat) : Int) ((p ^^^ q : Nat) : Int)) = q
  have h2 : 18446744073709551615 &&& (p ^^^ q) = p ^^^ q := by
   rw [Nat.and_comm, show (18446744073709551615 : Nat) = 2 ^ 64 - 1 from rfl, Nat.and_two_pow_sub_one_eq_mod]
   omega
  rw [u64_and_nat _ _ (by decide) (by omega), h2, u64_xor_nat p _ hp (by omega), nat_xor_back]
theorem differ_other (b x y : Int) (hx : 0 ≤ x ∧ x ≤ 18446744073709551615) (hy : 0 ≤ y ∧ y ≤ 18446744073709551615) : bits .xor .u64 y (differ b x y) = if b % 2 = 0 then y else x := by
 have h : differ b x y = differ b y x := by
  obtain ⟨p, rfl, hp⟩ := u64_nat x hx.1 hx.2
  obtain ⟨q, rfl, hq⟩ := u64_nat y hy.1 hy.2
  unfold differ
  rw [u64_xor_nat p q hp hq, u64_xor_nat q p hq hp, Nat.xor_comm]
 rw [h]
 exact differ_first b y x hy hx
theorem oneOf_at (b : Int) (x y : Nat → Int) (k : Nat) : oneOf b x y k = if b % 2 = 0 then x k else y k := by
 unfold oneOf; split <;> rfl
def W64 (n : Nat) (a : Nat → Int) : Prop := ∀ i, i < n → 0 ≤ a i ∧ a i ≤ 18446744073709551615
set_option maxHeartbeats 1000000 in
theorem swapE_any (b : Int) (x y : Nat → Int) (w : World) (hx : W64 5 x) (hy : W64 5 y) :
  Calls Tryz.prog 362 #[.int .i64 b, .agg (ints .u64 5 x), .agg (ints .u64 5 y)] w fun e w' => e = .returned (.tuple #[.agg (ints .u64 5 (oneOf b x y)), .agg (ints .u64 5 (oneOf b y x))]) ∧ Below w.heap.size w w' := by
 have hb2 := i64_and1 b
 have hb3 : IntKind.u64.wrap (-(b % 2)) = maskOf b := by unfold maskOf; exact IntKind.wrap_u64 _
 go_enter Tryz.func362, Tryz.ntmps362
 go_wp2
 go_loopw [15] (fun i wr => ∃ k : Nat, ∃ m : More, k ≤ 5 ∧ i = .int .i64 k ∧ wr = more ((((w.alloc (.cells (ints .u64 5 (mix (oneOf b x y) x k)) 386)).alloc (.cells (ints .u64 5 (mix (oneOf b y x) y k)) 386)).alloc (.cells (ints .u64 5 nought) 386)).alloc (.cells (ints .u64 5 nought) 386)) m) (fun i _ => 5 - (intOf i).toNat)
 case atStart => exact ⟨0, _, by omega, rfl, by rw [mix_zero, mix_zero]; exact (more_self _).symm⟩
 case round =>
  obtain ⟨k, m, hk, rfl, rfl⟩ := hrel
  by_cases hlt : k < 5
  ·have hm1 := mix_at (oneOf b x y) x k
   have hm2 := mix_at (oneOf b y x) y k
   have s1 := mix_succ (oneOf b x y) x k
   have s2 := mix_succ (oneOf b y x) y k
   have e1 := differ_first b (x k) (y k) (hx k hlt) (hy k hlt)
   have e2 := differ_other b (x k) (y k) (hx k hlt) (hy k hlt)
   rw [← oneOf_at] at e1 e2
   have hd : bits .and .u64 (maskOf b) (bits .xor .u64 (x k) (y k)) = differ b (x k) (y k) := rfl
   generalize differ b (x k) (y k) = D at *
   have S1 : Hid (upd (mix (oneOf b x y) x k) k (oneOf b x y k) = mix (oneOf b x y) x (k + 1)) := s1
   have S2 : Hid (upd (mix (oneOf b y x) y k) k (oneOf b y x k) = mix (oneOf b y x) y (k + 1)) := s2
   clear s1 s2
   go_wp2
   ((first | (with_reducible refine wp_region_on (by kernel_rfl) (by kernel_rfl) ?_) | refine wp_region_more (by kernel_rfl) (by kernel_rfl) ?_); (repeat (first | go_big_quiet_skip | (go_big_quiet_want; go_big_quiet_op; first | go_big_quiet_on | (apply Exists.intro; refine ⟨fun _ => ?_, ?_⟩; (focus (fail)); go_big_quiet_on)))); refine wpQuiet_nil ?_; rintro _ ⟨mq, rfl⟩)
   go_wp2
   go_roundw
   case rel => exact ⟨k + 1, _, by omega, by go_num, by rw [← S1.out, ← S2.out]⟩
   case measure => simp [intOf]; omega
  ·obtain rfl : k = 5 := by omega
   rw [ints_mix, ints_mix]
   go_wp2
   go_region
   all_goals
    go_wp2
    refine ret_row2 rfl _ _ 386 386 _ _ (0, 0) (0, 0) _ _ rfl rfl (by simp [go_sem]) (by simp [go_sem]) Tryz.underlying386 rfl (by rw [ints_size]; kernel_rfl) Tryz.underlying386 rfl (by rw [ints_size]; kernel_rfl) rfl ⟨rfl, by exact grew_auto⟩
theorem keyV_inj {x y : Int} (hx : 0 ≤ x ∧ x < 57896044618658097711785492504343953926634992332820282019728792003956564819949) (hy : 0 ≤ y ∧ y < 57896044618658097711785492504343953926634992332820282019728792003956564819949) (h : same 32 (keyV x) (keyV y) = true) : x = y := by
 have hs := (same_iff _ _ _).1 h
 rw [← num_val hx.1 hx.2, ← num_val hy.1 hy.2]
 refine dval_congr 16 fun i hi => ?_
 have h0 := hs (2 * i) (by omega)
 have h1 := hs (2 * i + 1) (by omega)
 unfold keyV at h0 h1
 rw [key_bytes x hx.1 (by omega) _ (by omega), key_bytes y hy.1 (by omega) _ (by omega)] at h0 h1
 unfold bytesN at h0 h1
 rw [if_pos (by omega), if_pos (by omega), show 2 * i / 2 = i by omega] at h0
 rw [if_neg (by omega), if_neg (by omega), show (2 * i + 1) / 2 = i by omega] at h1
 have d1 := numN_digits x i hi
 have d2 := numN_digits y i hi
 omega
theorem same_nv (a b : Nat → Int) : same 32 (keyV (nv a)) (keyV (nv b)) = decide (nv a = nv b) := by
 by_cases h : nv a = nv b
 ·rw [keyV_same h, decide_eq_true h]
 ·rw [decide_eq_false h]
  cases hh : same 32 (keyV (nv a)) (keyV (nv b)) with
  | false => rfl
  | true => exact absurd (keyV_inj (nv_bd a) (nv_bd b) hh) h
theorem same_nv0 (a : Nat → Int) : same 32 (keyV (nv a)) nought = decide (nv a = 0) := by
 have e : ∀ i, i < 32 → keyV 0 i = nought i := (same_iff _ _ _).1 (by kernel_rfl)
 have h1 : same 32 (keyV (nv a)) nought = same 32 (keyV (nv a)) (keyV 0) := by
  rw [Bool.eq_iff_iff, same_iff, same_iff]
  exact ⟨fun h i hi => (h i hi).trans (e i hi).symm, fun h i hi => (h i hi).trans (e i hi)⟩
 rw [h1, ← nv_nought, same_nv, nv_nought]
theorem equalE_any (a b : Nat → Int) (w : World) (ha : Under 18014398509481984 a) (hb : Under 18014398509481984 b) :
  Calls Tryz.prog 430 #[.agg (ints .u64 5 a), .agg (ints .u64 5 b)] w fun e w' => e = .returned (.bool (decide (nv a = nv b))) ∧ Below w.heap.size w w' := by
 rw [← same_nv]
 have hs := fun w => same_any (keyV (nv a)) (keyV (nv b)) w (keyV_bytes _) (keyV_bytes _)
 generalize same 32 (keyV (nv a)) (keyV (nv b)) = S at *
 go_enter Tryz.func430, Tryz.ntmps430
 go_wp2
 ((first | (with_reducible refine wp_region_on (by kernel_rfl) (by kernel_rfl) ?_) | refine wp_region_more (by kernel_rfl) (by kernel_rfl) ?_); (repeat (first | go_big_quiet_skip | (go_big_quiet_want; go_big_quiet_op; first | go_big_quiet_on | (apply Exists.intro; refine ⟨fun _ => ?_, ?_⟩; (focus (first | (with_reducible exact Calls.of_more (keyV_any _ _ ha)) | (with_reducible exact Calls.of_more (keyV_any _ _ hb)) | (with_reducible exact Calls.of_more (hs _)))); go_big_quiet_on)))); refine wpQuiet_nil ?_; rintro _ ⟨mq, rfl⟩)
 go_wp2
 go_ret
 exact ⟨rfl, by exact grew_auto⟩
end Go.Proofs.YtdoolhbmekahdaaGreatDoor
namespace Go.Proofs.YtdoolhbmekahdaaGreatDoor
open Go.RowKit
set_option linter.unusedVariables false
set_option linter.unusedSimpArgs false
def bitN (k : Nat → Int) (i : Nat) : Int := k (i / 8) / 2 ^ (i % 8) % 2
theorem bitN_01 (k : Nat → Int) (i : Nat) : bitN k i = 0 ∨ bitN k i = 1 := by unfold bitN; omega
def pwF (a k : Nat → Int) : Nat → Nat → Int
 | 0 => upd nought 0 1
 | c + 1 => if bitN k (255 - c) = 1 then mulF (mulF (pwF a k c) (pwF a k c)) a else mulF (pwF a k c) (pwF a k c)
theorem tight_pw (a k : Nat → Int) (ha : Under 18014398509481984 a) : ∀ c, Under 4503599627370496 (pwF a k c)
 | 0 => tight_one
 | c + 1 => by
  have h := loose_tight (tight_pw a k ha c)
  unfold pwF
  split
  ·exact tight_mul _ _ (loose_mul _ _ h h) ha
  ·exact tight_mul _ _ h h
theorem u8_and1 (x : Int) (h0 : 0 ≤ x) (h1 : x ≤ 255) : bits .and .u8 x 1 = x % 2 := bits_mask .u8 8 (by decide) wraps_u8 1 (by decide) x h0 (by omega)
structure PowInv (a k : Nat → Int) (gp : Nat) (w : World) (c : Nat) (wr : World) : Prop where
 g : Below w.heap.size w wr
 fa : objAt wr w.heap.size = some (.cells (ints .u64 5 a) 386)
 fk : objAt wr (w.heap.size + 1) = some (.cells (ints .u8 32 k) 27)
 fr : objAt wr (w.heap.size + 1 + 1) = some (.cells (ints .u64 5 nought) 386)
 fp : objAt wr gp = some (.cells (ints .u64 5 (pwF a k c)) 386)
set_option maxHeartbeats 1000000 in
theorem power_any (a k : Nat → Int) (w : World) (ha : Under 18014398509481984 a) (hk : Bytes 32 k) :
  Calls Tryz.prog 387 #[.agg (ints .u64 5 a), .agg (ints .u8 32 k)] w fun e w' => e = .returned (.agg (ints .u64 5 (pwF a k 256))) ∧ Below w.heap.size w w' := by
 have hG := Grew.refl w
 have fa : True := trivial
 have fk : True := trivial
 have fr : True := trivial
 go_enter Tryz.func387, Tryz.ntmps387
 go_wp2_with fail
 (refine (small_any 1 _ (by decide) (by decide)).mono ?_; rintro e w1 ⟨rfl, hb⟩; replace fa : objAt w1 (w.heap.size) = some (.cells (ints .u64 5 a) 386) := keep_below hb (by exact keep_auto); have lfa := lt_of_objAt fa; replace fk : objAt w1 (w.heap.size + 1) = some (.cells (ints .u8 32 k) 27) := keep_below hb (by exact keep_auto); have lfk := lt_of_objAt fk; replace fr : objAt w1 (w.heap.size + 1 + 1) = some (.cells (ints .u64 5 nought) 386) := keep_below hb (by exact keep_auto); have lfr := lt_of_objAt fr; replace hG : Below w.heap.size w w1 := Grew.trans (by exact grew_auto) hb; clear hb)
 have hw1 := hG.size
 have ha1 := lfa
 have hk1 := lfk
 have hr1 := lfr
 have n0 : ¬ (w.heap.size = w1.heap.size) := by omega
 have n1 : ¬ (w.heap.size + 1 = w1.heap.size) := by omega
 have n2 : ¬ (w.heap.size + 1 + 1 = w1.heap.size) := by omega
 go_wp2_with fail
 go_loopw [6] (fun i wr => ∃ c : Nat, c ≤ 256 ∧ ((c < 256 ∧ i = .int .i64 ((255 - c : Nat) : Int)) ∨ (c = 256 ∧ i = .int .i64 (-1))) ∧ PowInv a k w1.heap.size w c wr) (fun i _ => (intOf i + 1).toNat)
 case atStart => exact ⟨0, by omega, .inl ⟨by omega, rfl⟩, ⟨by exact grew_auto, by exact keep_auto, by exact keep_auto, by exact keep_auto, by rw [show pwF a k 0 = upd nought 0 1 from rfl]; exact keep_auto⟩⟩
 case round =>
  clear fa fk fr hG lfa lfk lfr
  obtain ⟨c, hc, hi, hG, fa, fk, fr, fp⟩ := hrel
  have lfa := lt_of_objAt fa
  have lfk := lt_of_objAt fk
  have lfr := lt_of_objAt fr
  have lfp := lt_of_objAt fp
  rcases hi with ⟨hlt, rfl⟩ | ⟨rfl, rfl⟩
  ·have hP := loose_tight (tight_pw a k ha c)
   have hS := loose_mul _ _ hP hP
   have hkb := hk ((255 - c) / 8) (by omega)
   have Z : Hid (pwF a k (c + 1) = if bitN k (255 - c) = 1 then mulF (mulF (pwF a k c) (pwF a k c)) a else mulF (pwF a k c) (pwF a k c)) := rfl
   generalize hb : 255 - c = b at *
   have hb255 : b ≤ 255 := by omega
   have hb8 : b / 8 < 32 := by omega
   have hsq := fun w => square_any (pwF a k c) w hP
   have hmu := fun w => mul_any (mulF (pwF a k c) (pwF a k c)) a w hS ha
   have hx0 : 0 ≤ k (b / 8) / 2 ^ (b % 8) := Int.ediv_nonneg hkb.1 (Int.le_of_lt (Int.pow_pos (by decide)))
   have hx1 : k (b / 8) / 2 ^ (b % 8) ≤ 255 := Int.le_trans (Int.ediv_le_self _ hkb.1) hkb.2
   have hbit := u8_and1 (k (b / 8) / 2 ^ (b % 8)) hx0 hx1
   have hB : bitN k b = k (b / 8) / 2 ^ (b % 8) % 2 := rfl
   rw [← hB] at hbit
   have h01 := bitN_01 k b
   generalize bitN k b = B at *
   clear hB hx0 hx1
   have hend : ∀ b : Nat, 255 - c = b → ((c + 1 < 256 ∧ Value.int .i64 ((b : Int) - 1) = .int .i64 ((255 - (c + 1) : Nat) : Int)) ∨ (c + 1 = 256 ∧ Value.int .i64 ((b : Int) - 1) = .int .i64 (-1))) := fun b hb => by
    by_cases h : b = 0
    ·exact .inr ⟨by omega, by rw [h]; rfl⟩
    ·exact .inl ⟨by omega, by congr 1; omega⟩
   have HE : Hid _ := hend b hb
   clear hend
   rcases h01 with rfl | rfl
   all_goals
    go_wp2_with fail
    (refine (hsq _).mono ?_; rintro e w2 ⟨rfl, hb⟩; replace fa : objAt w2 (w.heap.size) = some (.cells (ints .u64 5 a) 386) := keep_below hb (by exact keep_auto); have lfa := lt_of_objAt fa; replace fk : objAt w2 (w.heap.size + 1) = some (.cells (ints .u8 32 k) 27) := keep_below hb (by exact keep_auto); have lfk := lt_of_objAt fk; replace fr : objAt w2 (w.heap.size + 1 + 1) = some (.cells (ints .u64 5 nought) 386) := keep_below hb (by exact keep_auto); have lfr := lt_of_objAt fr; replace fp : objAt w2 (w1.heap.size) = some (.cells (ints .u64 5 (pwF a k c)) 386) := keep_below hb (by exact keep_auto); have lfp := lt_of_objAt fp; replace hG : Below w.heap.size w w2 := Grew.trans (by exact grew_auto) hb; clear hb)
   go_wp2_with fail
   ·go_wp2
    go_roundw
    case rel => exact ⟨c + 1, by omega, HE.out, ⟨by exact grew_auto, by exact keep_auto, by exact keep_auto, by exact keep_auto, by rw [Z.out, if_neg (by decide)]; exact keep_auto⟩⟩
    case measure => simp [intOf] <;> omega
   ·go_wp2_with fail
    (refine (hmu _).mono ?_; rintro e w3 ⟨rfl, hb⟩; replace fa : objAt w3 (w.heap.size) = some (.cells (ints .u64 5 a) 386) := keep_below hb (by exact keep_auto); have lfa := lt_of_objAt fa; replace fk : objAt w3 (w.heap.size + 1) = some (.cells (ints .u8 32 k) 27) := keep_below hb (by exact keep_auto); have lfk := lt_of_objAt fk; replace fr : objAt w3 (w.heap.size + 1 + 1) = some (.cells (ints .u64 5 nought) 386) := keep_below hb (by exact keep_auto); have lfr := lt_of_objAt fr; replace fp : objAt w3 (w1.heap.size) = some (.cells (ints .u64 5 (mulF (pwF a k c) (pwF a k c))) 386) := keep_below hb (by exact keep_auto); have lfp := lt_of_objAt fp; replace hG : Below w.heap.size w w3 := Grew.trans (by exact grew_auto) hb; clear hb)
    go_wp2
    go_roundw
    case rel => exact ⟨c + 1, by omega, HE.out, ⟨by exact grew_auto, by exact keep_auto, by exact keep_auto, by exact keep_auto, by rw [Z.out]; (first | rw [if_pos rfl] | simp only [if_true]); exact keep_auto⟩⟩
    case measure => simp [intOf] <;> omega
  ·go_wp2
   refine ret_row rfl _ 386 _ (0, 0) _ rfl (keep_row _ fr) Tryz.underlying386 rfl (by rw [ints_size]; kernel_rfl) rfl ⟨rfl, by exact grew_auto⟩
def knum (k : Nat → Int) : Nat → Nat
 | 0 => 0
 | j + 1 => knum k j + 256 ^ j * (k j).toNat
theorem knum_lt (k : Nat → Int) (hk : Bytes 32 k) : ∀ j, j ≤ 32 → knum k j < 256 ^ j
 | 0, _ => by simp [knum]
 | j + 1, h => by
  have h1 := knum_lt k hk j (by omega)
  have h2 := hk j (by omega)
  have h3 : (k j).toNat ≤ 255 := by omega
  have h4 := Nat.mul_le_mul_left (256 ^ j) h3
  rw [knum, Nat.pow_succ]
  omega
theorem knum_split (k : Nat → Int) (j : Nat) : ∀ m, j < m → ∃ r, knum k m = knum k j + 256 ^ j * ((k j).toNat + 256 * r)
 | 0, h => by omega
 | m + 1, h => by
  rcases (by omega : j = m ∨ j < m) with rfl | h'
  ·exact ⟨0, by rw [knum]; simp⟩
  ·obtain ⟨r, hr⟩ := knum_split k j m h'
   refine ⟨r + 256 ^ (m - j - 1) * (k m).toNat, ?_⟩
   rw [knum, hr]
   have e : 256 ^ m = 256 ^ j * (256 * 256 ^ (m - j - 1)) := by
    rw [← Nat.pow_succ', ← Nat.pow_add]; congr 1; omega
   rw [e]
   grind
theorem knum_byte (k : Nat → Int) (hk : Bytes 32 k) (j : Nat) (hj : j < 32) : knum k 32 / 256 ^ j % 256 = (k j).toNat := by
 obtain ⟨r, hr⟩ := knum_split k j 32 hj
 have h1 := knum_lt k hk j (by omega)
 have h2 := hk j hj
 rw [hr, Nat.add_mul_div_left _ _ (Nat.pow_pos (by decide)), Nat.div_eq_of_lt h1]
 omega
theorem knum_bit (k : Nat → Int) (hk : Bytes 32 k) (i : Nat) (hi : i < 256) : (knum k 32 / 2 ^ i % 2 : Nat) = (bitN k i).toNat := by
 have h := knum_byte k hk (i / 8) (by omega)
 have h2 := hk (i / 8) (by omega)
 unfold bitN
 have e : 2 ^ i = 256 ^ (i / 8) * 2 ^ (i % 8) := by
  rw [show (256 : Nat) = 2 ^ 8 from rfl, ← Nat.pow_mul, ← Nat.pow_add]; congr 1; omega
 rw [e, ← Nat.div_div_eq_div_mul]
 generalize knum k 32 / 256 ^ (i / 8) = X at *
 generalize k (i / 8) = y at *
 rcases (by omega : i % 8 = 0 ∨ i % 8 = 1 ∨ i % 8 = 2 ∨ i % 8 = 3 ∨ i % 8 = 4 ∨ i % 8 = 5 ∨ i % 8 = 6 ∨ i % 8 = 7) with h' | h' | h' | h' | h' | h' | h' | h' <;> rw [h'] <;> simp only [Nat.reducePow, Int.reducePow] <;> omega
def exN (k : Nat → Int) : Nat → Nat
 | 0 => 0
 | c + 1 => 2 * exN k c + (bitN k (255 - c)).toNat
theorem exN_is (k : Nat → Int) (hk : Bytes 32 k) : ∀ c, c ≤ 256 → exN k c = knum k 32 / 2 ^ (256 - c)
 | 0, _ => by
  have := knum_lt k hk 32 (by omega)
  rw [exN]
  exact (Nat.div_eq_of_lt this).symm
 | c + 1, h => by
  have ih := exN_is k hk c (by omega)
  have hb := knum_bit k hk (255 - c) (by omega)
  rw [exN, ih, ← hb, show 256 - (c + 1) = 255 - c by omega, show 256 - c = (255 - c) + 1 by omega, Nat.pow_succ, ← Nat.div_div_eq_div_mul]
  omega
theorem exN_all (k : Nat → Int) (hk : Bytes 32 k) : exN k 256 = knum k 32 := by rw [exN_is k hk 256 (by omega)]; simp
theorem md_sq (X y : Int) : (X % 57896044618658097711785492504343953926634992332820282019728792003956564819949 * (X % 57896044618658097711785492504343953926634992332820282019728792003956564819949) * y) % 57896044618658097711785492504343953926634992332820282019728792003956564819949 = (X * X * y) % 57896044618658097711785492504343953926634992332820282019728792003956564819949 := by
 have h : (X % 57896044618658097711785492504343953926634992332820282019728792003956564819949 * (X % 57896044618658097711785492504343953926634992332820282019728792003956564819949)) % 57896044618658097711785492504343953926634992332820282019728792003956564819949 = (X * X) % 57896044618658097711785492504343953926634992332820282019728792003956564819949 := by rw [md_mulL, md_mulR]
 rw [← md_mulL (X % 57896044618658097711785492504343953926634992332820282019728792003956564819949 * (X % 57896044618658097711785492504343953926634992332820282019728792003956564819949)) y, h, md_mulL]
theorem nv_pw (a k : Nat → Int) : ∀ c, nv (pwF a k c) = nv a ^ exN k c % 57896044618658097711785492504343953926634992332820282019728792003956564819949
 | 0 => by rw [pwF, nv_one, exN, Int.pow_zero]; rfl
 | c + 1 => by
  have ih := nv_pw a k c
  have e : nv a ^ (2 * exN k c) = nv a ^ exN k c * nv a ^ exN k c := by rw [Nat.two_mul, Int.pow_add]
  rw [pwF, exN]
  rcases bitN_01 k (255 - c) with h | h
  ·rw [if_neg (by rw [h]; decide), h, nv_mul, ih, md_mulL, md_mulR]
   show _ = nv a ^ (2 * exN k c) % _
   rw [e]
  ·rw [if_pos h, h, nv_mul, nv_mul, ih, md_mulL, md_sq]
   show _ = nv a ^ (2 * exN k c + 1) % _
   rw [Int.pow_succ, e]
theorem nv_power (a k : Nat → Int) (hk : Bytes 32 k) : nv (pwF a k 256) = nv a ^ knum k 32 % 57896044618658097711785492504343953926634992332820282019728792003956564819949 := by
 rw [nv_pw, exN_all k hk]
end Go.Proofs.YtdoolhbmekahdaaGreatDoor
namespace Go.Proofs.YtdoolhbmekahdaaGreatDoor
open Go.RowKit
set_option linter.unusedVariables false
set_option linter.unusedSimpArgs false
def undoK : Nat → Int := keyV (nv (carryF (minus (upd nought 0 0) (upd nought 0 2))))
def invF (a : Nat → Int) : Nat → Int := pwF a undoK 256
theorem undoK_num : knum undoK 32 = undo := by kernel_rfl
theorem loose_pow (a k : Nat → Int) (ha : Under 18014398509481984 a) : Under 18014398509481984 (pwF a k 256) := loose_tight (tight_pw a k ha 256)
theorem loose_inv (a : Nat → Int) (ha : Under 18014398509481984 a) : Under 18014398509481984 (invF a) := loose_pow a undoK ha
theorem nv_inv (a : Nat → Int) : nv (invF a) = nv a ^ undo % 57896044618658097711785492504343953926634992332820282019728792003956564819949 := by
 unfold invF
 rw [nv_power a undoK (keyV_bytes _), undoK_num]
set_option maxHeartbeats 400000 in
theorem invert_any (a : Nat → Int) (w : World) (ha : Under 18014398509481984 a) :
  Calls Tryz.prog 368 #[.agg (ints .u64 5 a)] w fun e w' => e = .returned (.agg (ints .u64 5 (invF a))) ∧ Below w.heap.size w w' := by
 have h0 := loose_small 0 (by decide) (by decide)
 have h2 := loose_small 2 (by decide) (by decide)
 have hp : ∀ w, Calls Tryz.prog 387 #[.agg (ints .u64 5 a), .agg (ints .u8 32 (keyV (nv (carryF (minus (upd nought 0 0) (upd nought 0 2))))))] w fun e w' => e = .returned (.agg (ints .u64 5 (invF a))) ∧ Below w.heap.size w w' := fun w => power_any a undoK w ha (keyV_bytes _)
 have hG := Grew.refl w
 go_enter Tryz.func368, Tryz.ntmps368
 go_wp2_with fail
 ((first | (with_reducible refine wp_region_tail_on 6 (by kernel_rfl) (by kernel_rfl) (by kernel_rfl) (by kernel_rfl) (by kernel_rfl) ?_) | refine wp_region_tail_more 6 (by kernel_rfl) (by kernel_rfl) (by kernel_rfl) (by kernel_rfl) (by kernel_rfl) ?_); simp only [List.take_succ_cons, List.take_zero]; (repeat (first | go_big_quiet_skip | (go_big_quiet_want; go_big_quiet_op; first | go_big_quiet_on | (apply Exists.intro; refine ⟨fun _ => ?_, ?_⟩; (focus (first | (with_reducible exact Calls.of_more (keyV_any _ _ (by exact loose_auto))) | (with_reducible exact Calls.of_more (add_any _ _ _ (by exact loose_auto) (by exact loose_auto))) | (with_reducible exact Calls.of_more (sub_any _ _ _ (by exact loose_auto) (by exact loose_auto))) | (with_reducible exact Calls.of_more (mul_any _ _ _ (by exact loose_auto) (by exact loose_auto))) | (with_reducible exact Calls.of_more (square_any _ _ (by exact loose_auto))) | (with_reducible exact Calls.of_more (times_any _ _ _ (by exact loose_auto) ⟨by decide, by decide⟩)) | (with_reducible exact Calls.of_more (small_any _ _ (by decide) (by decide))) | (with_reducible exact Calls.of_more (ofV_any _ _)) | (with_reducible exact Calls.of_more (hp _)))); go_big_quiet_on)))); refine wpQuiet_nil ?_; rintro _ ⟨mq, rfl⟩)
 (refine tail_one (i := 6) (fuel := 0) (by kernel_rfl) rfl ?_; intro K hK; go_simp; refine hK _ _ ?_; clear hK K)
 (refine wpAny_done (by kernel_rfl) ?_ _)
 go_wp2
 refine ret_row rfl _ 386 _ (0, 0) _ rfl (by simp [go_sem]) Tryz.underlying386 rfl (by rw [ints_size]; kernel_rfl) rfl ⟨rfl, by exact grew_auto⟩
theorem equal_yes (a b : Nat → Int) (w : World) (ha : Under 18014398509481984 a) (hb : Under 18014398509481984 b) (h : nv a = nv b) :
  Calls Tryz.prog 430 #[.agg (ints .u64 5 a), .agg (ints .u64 5 b)] w fun e w' => e = .returned (.bool true) ∧ Below w.heap.size w w' := by
 have := equalE_any a b w ha hb
 rw [decide_eq_true h] at this
 exact this
theorem undo_pos : undo = (undo - 1) + 1 := by unfold undo; rfl
theorem inv_zero {a : Nat → Int} (h : nv a = 0) : nv (invF a) = 0 := by
 rw [nv_inv, h, undo_pos, Int.pow_succ, Int.mul_zero]; rfl
theorem inv_mul {a : Nat → Int} (h : nv a ≠ 0) : nv a * nv (invF a) % 57896044618658097711785492504343953926634992332820282019728792003956564819949 = 1 := by
 have hb := nv_bd a
 rw [nv_inv, md_mulR]
 exact fermat_int _ (by omega) (by omega)
theorem inv_one {a : Nat → Int} (h : nv a ≠ 0) : nv (mulF a (invF a)) = nv (upd nought 0 1) := by
 rw [nv_mul, inv_mul h, nv_one]
theorem awake4_nums : nv (mulF (invF (upd nought 0 2)) (upd nought 0 2)) = nv (upd nought 0 1) := by
 have h := inv_one (a := upd nought 0 2) (by rw [nv_small 2 (by decide) (by decide)]; decide)
 rw [nv_mul, Int.mul_comm, ← nv_mul]
 exact h
theorem k255_bytes : Bytes 32 (upd nought 0 255) := fun i _ => by unfold upd nought; split <;> omega
theorem pow255 : same 32 (keyV (nv (pwF (upd nought 0 2) (upd nought 0 255) 256))) (upd nought 0 19) = true := by
 have e : nv (pwF (upd nought 0 2) (upd nought 0 255) 256) = 19 := by
  rw [nv_power _ _ k255_bytes, show knum (upd nought 0 255) 32 = 255 by kernel_rfl, nv_small 2 (by decide) (by decide)]
  decide +kernel
 have h : same 32 (keyV 19) (upd nought 0 19) = true := by kernel_rfl
 exact (congrArg (fun x => same 32 (keyV x) (upd nought 0 19)) e).trans h
set_option maxHeartbeats 1000000 in
theorem awake4_any (w : World) :
  Calls Tryz.prog 431 #[] w fun e w' => e = .returned (.bool true) ∧ Below w.heap.size w w' := by
 have s1 := pow255
 have h2 := loose_two
 have hG := Grew.refl w
 go_enter Tryz.func431, Tryz.ntmps431
 go_wp2_with fail
 (refine (Awake3_any _).mono ?_; rintro e w1 ⟨rfl, hb⟩; replace hG : Below w.heap.size w w1 := Grew.trans (by exact grew_auto) hb; clear hb)
 go_wp2_with fail
 (refine (small_any 2 _ (by decide) (by decide)).mono ?_; rintro e w2 ⟨rfl, hb⟩; replace hG : Below w.heap.size w w2 := Grew.trans (by exact grew_auto) hb; clear hb)
 go_wp2_with fail
 (refine (power_any _ _ _ loose_two k255_bytes).mono ?_; rintro e w3 ⟨rfl, hb⟩; replace hG : Below w.heap.size w w3 := Grew.trans (by exact grew_auto) hb; clear hb)
 go_wp2_with fail
 (refine (keyV_any _ _ (loose_pow _ _ loose_two)).mono ?_; rintro e w4 ⟨rfl, hb⟩; replace hG : Below w.heap.size w w4 := Grew.trans (by exact grew_auto) hb; clear hb)
 go_wp2_with fail
 (refine (small_any 2 _ (by decide) (by decide)).mono ?_; rintro e w5 ⟨rfl, hb⟩; replace hG : Below w.heap.size w w5 := Grew.trans (by exact grew_auto) hb; clear hb)
 go_wp2_with fail
 (refine (invert_any _ _ loose_two).mono ?_; rintro e w6 ⟨rfl, hb⟩; replace hG : Below w.heap.size w w6 := Grew.trans (by exact grew_auto) hb; clear hb)
 go_wp2_with fail
 (refine (small_any 2 _ (by decide) (by decide)).mono ?_; rintro e w7 ⟨rfl, hb⟩; replace hG : Below w.heap.size w w7 := Grew.trans (by exact grew_auto) hb; clear hb)
 go_wp2_with fail
 (refine (mul_any _ _ _ (loose_inv _ loose_two) loose_two).mono ?_; rintro e w8 ⟨rfl, hb⟩; replace hG : Below w.heap.size w w8 := Grew.trans (by exact grew_auto) hb; clear hb)
 go_wp2_with fail
 (refine (small_any 1 _ (by decide) (by decide)).mono ?_; rintro e w9 ⟨rfl, hb⟩; replace hG : Below w.heap.size w w9 := Grew.trans (by exact grew_auto) hb; clear hb)
 go_wp2_with fail
 (refine (equal_yes _ _ _ (loose_mul _ _ (loose_inv _ loose_two) loose_two) loose_one awake4_nums).mono ?_; rintro e w10 ⟨rfl, hb⟩; replace hG : Below w.heap.size w w10 := Grew.trans (by exact grew_auto) hb; clear hb)
 go_wp2
 go_ret
 exact ⟨rfl, by exact grew_auto⟩
end Go.Proofs.YtdoolhbmekahdaaGreatDoor
namespace Go.Proofs.YtdoolhbmekahdaaGreatDoor
open Go.RowKit
set_option linter.unusedVariables false
set_option linter.unusedSimpArgs false
end Go.Proofs.YtdoolhbmekahdaaGreatDoor
namespace Go.Proofs.YtdoolhbmekahdaaGreatDoor
open Go.RowKit
set_option linter.unusedVariables false
set_option linter.unusedSimpArgs false
end Go.Proofs.YtdoolhbmekahdaaGreatDoor
