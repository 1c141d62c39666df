/- An element to the power of a key; what undoes it. -/
import Derived.Test.YtfapmpnkemogkaaInv
import Derived.Test.YtfapmpnkemogkaaPrime
namespace Go.Proofs.Ytfapmpnkemogkaa
open Go.RowKit
set_option linter.unusedVariables false
set_option linter.unusedSimpArgs false

/-- a bit of a key -/
def bitN (k : Nat → Int) (i : Nat) : Int := k (i / 8) / 2 ^ (i % 8) % 2
theorem bitN_01 (k : Nat → Int) (i : Nat) : bitN k i = 0 ∨ bitN k i = 1 := by unfold bitN; omega
/-- the power, its first c bits seen -/
def pwF (a k : Nat → Int) : Nat → Nat → Int
  | 0 => upd nought 0 1
  | c + 1 => if bitN k (255 - c) = 1 then mulF (mulF (pwF a k c) (pwF a k c)) a else mulF (pwF a k c) (pwF a k c)
theorem tight_pw (a k : Nat → Int) (ha : Under 18014398509481984 a) : ∀ c, Under 4503599627370496 (pwF a k c)
  | 0 => tight_one
  | c + 1 => by
    have h := loose_tight (tight_pw a k ha c)
    unfold pwF
    split
    · exact tight_mul _ _ (loose_mul _ _ h h) ha
    · exact tight_mul _ _ h h
theorem u8_and1 (x : Int) (h0 : 0 ≤ x) (h1 : x ≤ 255) : bits .and .u8 x 1 = x % 2 := bits_mask .u8 8 (by decide) wraps_u8 1 (by decide) x h0 (by omega)
structure PowInv (a k : Nat → Int) (gp : Nat) (w : World) (c : Nat) (wr : World) : Prop where
  g : Below w.heap.size w wr
  fa : objAt wr w.heap.size = some (.cells (ints .u64 5 a) 37)
  fk : objAt wr (w.heap.size + 1) = some (.cells (ints .u8 32 k) 23)
  fr : objAt wr (w.heap.size + 1 + 1) = some (.cells (ints .u64 5 nought) 37)
  fp : objAt wr gp = some (.cells (ints .u64 5 (pwF a k c)) 37)
set_option maxHeartbeats 1000000 in
theorem power_any (a k : Nat → Int) (w : World) (ha : Under 18014398509481984 a) (hk : Bytes 32 k) :
    Calls Try.prog 58 #[.agg (ints .u64 5 a), .agg (ints .u8 32 k)] w fun e w' => e = .returned (.agg (ints .u64 5 (pwF a k 256))) ∧ Below w.heap.size w w' := by
  have hG := Grew.refl w
  have fa : True := trivial
  have fk : True := trivial
  have fr : True := trivial
  go_enter Try.func58, Try.ntmps58
  go_wp2_with fail
  (refine (small_any 1 _ (by decide) (by decide)).mono ?_; rintro e w1 ⟨rfl, hb⟩; replace fa : objAt w1 (w.heap.size) = some (.cells (ints .u64 5 a) 37) := keep_below hb (by (repeat (first | assumption | exact objAt_alloc_at _ _ _ rfl | (refine objAt_alloc_at _ _ _ ?_; (simp; done)) | refine keep_alloc _ ?_ | refine keep_drewN _ ?_ | refine keep_more _ ?_ | exact keep_row _ (by assumption) | refine keep_setRow _ _ ?_ (by first | omega | (simp; omega) | simp)))); have lfa := lt_of_objAt fa; replace fk : objAt w1 (w.heap.size + 1) = some (.cells (ints .u8 32 k) 23) := keep_below hb (by (repeat (first | assumption | exact objAt_alloc_at _ _ _ rfl | (refine objAt_alloc_at _ _ _ ?_; (simp; done)) | refine keep_alloc _ ?_ | refine keep_drewN _ ?_ | refine keep_more _ ?_ | exact keep_row _ (by assumption) | refine keep_setRow _ _ ?_ (by first | omega | (simp; omega) | simp)))); have lfk := lt_of_objAt fk; replace fr : objAt w1 (w.heap.size + 1 + 1) = some (.cells (ints .u64 5 nought) 37) := keep_below hb (by (repeat (first | assumption | exact objAt_alloc_at _ _ _ rfl | (refine objAt_alloc_at _ _ _ ?_; (simp; done)) | refine keep_alloc _ ?_ | refine keep_drewN _ ?_ | refine keep_more _ ?_ | exact keep_row _ (by assumption) | refine keep_setRow _ _ ?_ (by first | omega | (simp; omega) | simp)))); have lfr := lt_of_objAt fr; replace hG : Below w.heap.size w w1 := Grew.trans (by (repeat (first | assumption | exact Grew.refl _ | refine Grew.more ?_ _ | refine Grew.alloc ?_ _ | refine Grew.drewN ?_ _ | refine Grew.setRow ?_ _ _ (by omega) | refine Grew.setRow ?_ _ _ (by simp; omega) | refine Grew.setRow ?_ _ _ (by simp)))) hb; clear hb)
  have hw1 := hG.size
  have ha1 := lfa
  have hk1 := lfk
  have hr1 := lfr
  have n0 : ¬ (w.heap.size = w1.heap.size) := by omega
  have n1 : ¬ (w.heap.size + 1 = w1.heap.size) := by omega
  have n2 : ¬ (w.heap.size + 1 + 1 = w1.heap.size) := by omega
  go_wp2_with fail
  go_loopw [6] (fun i wr => ∃ c : Nat, c ≤ 256 ∧ ((c < 256 ∧ i = .int .i64 ((255 - c : Nat) : Int)) ∨ (c = 256 ∧ i = .int .i64 (-1))) ∧ PowInv a k w1.heap.size w c wr) (fun i _ => (intOf i + 1).toNat)
  case atStart => exact ⟨0, by omega, .inl ⟨by omega, rfl⟩, ⟨by (repeat (first | assumption | exact Grew.refl _ | refine Grew.more ?_ _ | refine Grew.alloc ?_ _ | refine Grew.drewN ?_ _ | refine Grew.setRow ?_ _ _ (by omega) | refine Grew.setRow ?_ _ _ (by simp; omega) | refine Grew.setRow ?_ _ _ (by simp))), by (repeat (first | assumption | exact objAt_alloc_at _ _ _ rfl | (refine objAt_alloc_at _ _ _ ?_; (simp; done)) | refine keep_alloc _ ?_ | refine keep_drewN _ ?_ | refine keep_more _ ?_ | exact keep_row _ (by assumption) | refine keep_setRow _ _ ?_ (by first | omega | (simp; omega) | simp))), by (repeat (first | assumption | exact objAt_alloc_at _ _ _ rfl | (refine objAt_alloc_at _ _ _ ?_; (simp; done)) | refine keep_alloc _ ?_ | refine keep_drewN _ ?_ | refine keep_more _ ?_ | exact keep_row _ (by assumption) | refine keep_setRow _ _ ?_ (by first | omega | (simp; omega) | simp))), by (repeat (first | assumption | exact objAt_alloc_at _ _ _ rfl | (refine objAt_alloc_at _ _ _ ?_; (simp; done)) | refine keep_alloc _ ?_ | refine keep_drewN _ ?_ | refine keep_more _ ?_ | exact keep_row _ (by assumption) | refine keep_setRow _ _ ?_ (by first | omega | (simp; omega) | simp))), by rw [show pwF a k 0 = upd nought 0 1 from rfl]; (repeat (first | assumption | exact objAt_alloc_at _ _ _ rfl | (refine objAt_alloc_at _ _ _ ?_; (simp; done)) | refine keep_alloc _ ?_ | refine keep_drewN _ ?_ | refine keep_more _ ?_ | exact keep_row _ (by assumption) | refine keep_setRow _ _ ?_ (by first | omega | (simp; omega) | simp)))⟩⟩
  case round =>
    clear fa fk fr hG lfa lfk lfr
    obtain ⟨c, hc, hi, hG, fa, fk, fr, fp⟩ := hrel
    have lfa := lt_of_objAt fa
    have lfk := lt_of_objAt fk
    have lfr := lt_of_objAt fr
    have lfp := lt_of_objAt fp
    rcases hi with ⟨hlt, rfl⟩ | ⟨rfl, rfl⟩
    · have hP := loose_tight (tight_pw a k ha c)
      have hS := loose_mul _ _ hP hP
      have hkb := hk ((255 - c) / 8) (by omega)
      have Z : Hid (pwF a k (c + 1) = if bitN k (255 - c) = 1 then mulF (mulF (pwF a k c) (pwF a k c)) a else mulF (pwF a k c) (pwF a k c)) := rfl
      generalize hb : 255 - c = b at *
      have hb255 : b ≤ 255 := by omega
      have hb8 : b / 8 < 32 := by omega
      have hsq := fun w => square_any (pwF a k c) w hP
      have hmu := fun w => mul_any (mulF (pwF a k c) (pwF a k c)) a w hS ha
      have hx0 : 0 ≤ k (b / 8) / 2 ^ (b % 8) := Int.ediv_nonneg hkb.1 (Int.le_of_lt (Int.pow_pos (by decide)))
      have hx1 : k (b / 8) / 2 ^ (b % 8) ≤ 255 := Int.le_trans (Int.ediv_le_self _ hkb.1) hkb.2
      have hbit := u8_and1 (k (b / 8) / 2 ^ (b % 8)) hx0 hx1
      have hB : bitN k b = k (b / 8) / 2 ^ (b % 8) % 2 := rfl
      rw [← hB] at hbit
      have h01 := bitN_01 k b
      generalize bitN k b = B at *
      clear hB hx0 hx1
      have hend : ∀ b : Nat, 255 - c = b → ((c + 1 < 256 ∧ Value.int .i64 ((b : Int) - 1) = .int .i64 ((255 - (c + 1) : Nat) : Int)) ∨ (c + 1 = 256 ∧ Value.int .i64 ((b : Int) - 1) = .int .i64 (-1))) := fun b hb => by
        by_cases h : b = 0
        · exact .inr ⟨by omega, by rw [h]; rfl⟩
        · exact .inl ⟨by omega, by congr 1; omega⟩
      have HE : Hid _ := hend b hb
      clear hend
      rcases h01 with rfl | rfl
      all_goals
       go_wp2_with fail
       (refine (hsq _).mono ?_; rintro e w2 ⟨rfl, hb⟩; replace fa : objAt w2 (w.heap.size) = some (.cells (ints .u64 5 a) 37) := keep_below hb (by (repeat (first | assumption | exact objAt_alloc_at _ _ _ rfl | (refine objAt_alloc_at _ _ _ ?_; (simp; done)) | refine keep_alloc _ ?_ | refine keep_drewN _ ?_ | refine keep_more _ ?_ | exact keep_row _ (by assumption) | refine keep_setRow _ _ ?_ (by first | omega | (simp; omega) | simp)))); have lfa := lt_of_objAt fa; replace fk : objAt w2 (w.heap.size + 1) = some (.cells (ints .u8 32 k) 23) := keep_below hb (by (repeat (first | assumption | exact objAt_alloc_at _ _ _ rfl | (refine objAt_alloc_at _ _ _ ?_; (simp; done)) | refine keep_alloc _ ?_ | refine keep_drewN _ ?_ | refine keep_more _ ?_ | exact keep_row _ (by assumption) | refine keep_setRow _ _ ?_ (by first | omega | (simp; omega) | simp)))); have lfk := lt_of_objAt fk; replace fr : objAt w2 (w.heap.size + 1 + 1) = some (.cells (ints .u64 5 nought) 37) := keep_below hb (by (repeat (first | assumption | exact objAt_alloc_at _ _ _ rfl | (refine objAt_alloc_at _ _ _ ?_; (simp; done)) | refine keep_alloc _ ?_ | refine keep_drewN _ ?_ | refine keep_more _ ?_ | exact keep_row _ (by assumption) | refine keep_setRow _ _ ?_ (by first | omega | (simp; omega) | simp)))); have lfr := lt_of_objAt fr; replace fp : objAt w2 (w1.heap.size) = some (.cells (ints .u64 5 (pwF a k c)) 37) := keep_below hb (by (repeat (first | assumption | exact objAt_alloc_at _ _ _ rfl | (refine objAt_alloc_at _ _ _ ?_; (simp; done)) | refine keep_alloc _ ?_ | refine keep_drewN _ ?_ | refine keep_more _ ?_ | exact keep_row _ (by assumption) | refine keep_setRow _ _ ?_ (by first | omega | (simp; omega) | simp)))); have lfp := lt_of_objAt fp; replace hG : Below w.heap.size w w2 := Grew.trans (by (repeat (first | assumption | exact Grew.refl _ | refine Grew.more ?_ _ | refine Grew.alloc ?_ _ | refine Grew.drewN ?_ _ | refine Grew.setRow ?_ _ _ (by omega) | refine Grew.setRow ?_ _ _ (by simp; omega) | refine Grew.setRow ?_ _ _ (by simp)))) hb; clear hb)
      go_wp2_with fail
      · go_wp2
        go_roundw
        case rel => exact ⟨c + 1, by omega, HE.out, ⟨by (repeat (first | assumption | exact Grew.refl _ | refine Grew.more ?_ _ | refine Grew.alloc ?_ _ | refine Grew.drewN ?_ _ | refine Grew.setRow ?_ _ _ (by omega) | refine Grew.setRow ?_ _ _ (by simp; omega) | refine Grew.setRow ?_ _ _ (by simp))), by (repeat (first | assumption | exact objAt_alloc_at _ _ _ rfl | (refine objAt_alloc_at _ _ _ ?_; (simp; done)) | refine keep_alloc _ ?_ | refine keep_drewN _ ?_ | refine keep_more _ ?_ | exact keep_row _ (by assumption) | refine keep_setRow _ _ ?_ (by first | omega | (simp; omega) | simp))), by (repeat (first | assumption | exact objAt_alloc_at _ _ _ rfl | (refine objAt_alloc_at _ _ _ ?_; (simp; done)) | refine keep_alloc _ ?_ | refine keep_drewN _ ?_ | refine keep_more _ ?_ | exact keep_row _ (by assumption) | refine keep_setRow _ _ ?_ (by first | omega | (simp; omega) | simp))), by (repeat (first | assumption | exact objAt_alloc_at _ _ _ rfl | (refine objAt_alloc_at _ _ _ ?_; (simp; done)) | refine keep_alloc _ ?_ | refine keep_drewN _ ?_ | refine keep_more _ ?_ | exact keep_row _ (by assumption) | refine keep_setRow _ _ ?_ (by first | omega | (simp; omega) | simp))), by rw [Z.out, if_neg (by decide)]; (repeat (first | assumption | exact objAt_alloc_at _ _ _ rfl | (refine objAt_alloc_at _ _ _ ?_; (simp; done)) | refine keep_alloc _ ?_ | refine keep_drewN _ ?_ | refine keep_more _ ?_ | exact keep_row _ (by assumption) | refine keep_setRow _ _ ?_ (by first | omega | (simp; omega) | simp)))⟩⟩
        case measure => simp [intOf] <;> omega
      · go_wp2_with fail
        (refine (hmu _).mono ?_; rintro e w3 ⟨rfl, hb⟩; replace fa : objAt w3 (w.heap.size) = some (.cells (ints .u64 5 a) 37) := keep_below hb (by (repeat (first | assumption | exact objAt_alloc_at _ _ _ rfl | (refine objAt_alloc_at _ _ _ ?_; (simp; done)) | refine keep_alloc _ ?_ | refine keep_drewN _ ?_ | refine keep_more _ ?_ | exact keep_row _ (by assumption) | refine keep_setRow _ _ ?_ (by first | omega | (simp; omega) | simp)))); have lfa := lt_of_objAt fa; replace fk : objAt w3 (w.heap.size + 1) = some (.cells (ints .u8 32 k) 23) := keep_below hb (by (repeat (first | assumption | exact objAt_alloc_at _ _ _ rfl | (refine objAt_alloc_at _ _ _ ?_; (simp; done)) | refine keep_alloc _ ?_ | refine keep_drewN _ ?_ | refine keep_more _ ?_ | exact keep_row _ (by assumption) | refine keep_setRow _ _ ?_ (by first | omega | (simp; omega) | simp)))); have lfk := lt_of_objAt fk; replace fr : objAt w3 (w.heap.size + 1 + 1) = some (.cells (ints .u64 5 nought) 37) := keep_below hb (by (repeat (first | assumption | exact objAt_alloc_at _ _ _ rfl | (refine objAt_alloc_at _ _ _ ?_; (simp; done)) | refine keep_alloc _ ?_ | refine keep_drewN _ ?_ | refine keep_more _ ?_ | exact keep_row _ (by assumption) | refine keep_setRow _ _ ?_ (by first | omega | (simp; omega) | simp)))); have lfr := lt_of_objAt fr; replace fp : objAt w3 (w1.heap.size) = some (.cells (ints .u64 5 (mulF (pwF a k c) (pwF a k c))) 37) := keep_below hb (by (repeat (first | assumption | exact objAt_alloc_at _ _ _ rfl | (refine objAt_alloc_at _ _ _ ?_; (simp; done)) | refine keep_alloc _ ?_ | refine keep_drewN _ ?_ | refine keep_more _ ?_ | exact keep_row _ (by assumption) | refine keep_setRow _ _ ?_ (by first | omega | (simp; omega) | simp)))); have lfp := lt_of_objAt fp; replace hG : Below w.heap.size w w3 := Grew.trans (by (repeat (first | assumption | exact Grew.refl _ | refine Grew.more ?_ _ | refine Grew.alloc ?_ _ | refine Grew.drewN ?_ _ | refine Grew.setRow ?_ _ _ (by omega) | refine Grew.setRow ?_ _ _ (by simp; omega) | refine Grew.setRow ?_ _ _ (by simp)))) hb; clear hb)
        go_wp2
        go_roundw
        case rel => exact ⟨c + 1, by omega, HE.out, ⟨by (repeat (first | assumption | exact Grew.refl _ | refine Grew.more ?_ _ | refine Grew.alloc ?_ _ | refine Grew.drewN ?_ _ | refine Grew.setRow ?_ _ _ (by omega) | refine Grew.setRow ?_ _ _ (by simp; omega) | refine Grew.setRow ?_ _ _ (by simp))), by (repeat (first | assumption | exact objAt_alloc_at _ _ _ rfl | (refine objAt_alloc_at _ _ _ ?_; (simp; done)) | refine keep_alloc _ ?_ | refine keep_drewN _ ?_ | refine keep_more _ ?_ | exact keep_row _ (by assumption) | refine keep_setRow _ _ ?_ (by first | omega | (simp; omega) | simp))), by (repeat (first | assumption | exact objAt_alloc_at _ _ _ rfl | (refine objAt_alloc_at _ _ _ ?_; (simp; done)) | refine keep_alloc _ ?_ | refine keep_drewN _ ?_ | refine keep_more _ ?_ | exact keep_row _ (by assumption) | refine keep_setRow _ _ ?_ (by first | omega | (simp; omega) | simp))), by (repeat (first | assumption | exact objAt_alloc_at _ _ _ rfl | (refine objAt_alloc_at _ _ _ ?_; (simp; done)) | refine keep_alloc _ ?_ | refine keep_drewN _ ?_ | refine keep_more _ ?_ | exact keep_row _ (by assumption) | refine keep_setRow _ _ ?_ (by first | omega | (simp; omega) | simp))), by rw [Z.out]; (first | rw [if_pos rfl] | simp only [if_true]); (repeat (first | assumption | exact objAt_alloc_at _ _ _ rfl | (refine objAt_alloc_at _ _ _ ?_; (simp; done)) | refine keep_alloc _ ?_ | refine keep_drewN _ ?_ | refine keep_more _ ?_ | exact keep_row _ (by assumption) | refine keep_setRow _ _ ?_ (by first | omega | (simp; omega) | simp)))⟩⟩
        case measure => simp [intOf] <;> omega
    · go_wp2
      refine ret_row rfl _ 37 _ (0, 0) _ rfl (keep_row _ fr) Try.underlying37 rfl (by rw [ints_size]; kernel_rfl) rfl ⟨rfl, by (repeat (first | assumption | exact Grew.refl _ | refine Grew.more ?_ _ | refine Grew.alloc ?_ _ | refine Grew.drewN ?_ _ | refine Grew.setRow ?_ _ _ (by omega) | refine Grew.setRow ?_ _ _ (by simp; omega) | refine Grew.setRow ?_ _ _ (by simp)))⟩
/-! the number of a power -/
def knum (k : Nat → Int) : Nat → Nat
  | 0 => 0
  | j + 1 => knum k j + 256 ^ j * (k j).toNat
theorem knum_lt (k : Nat → Int) (hk : Bytes 32 k) : ∀ j, j ≤ 32 → knum k j < 256 ^ j
  | 0, _ => by simp [knum]
  | j + 1, h => by
    have h1 := knum_lt k hk j (by omega)
    have h2 := hk j (by omega)
    have h3 : (k j).toNat ≤ 255 := by omega
    have h4 := Nat.mul_le_mul_left (256 ^ j) h3
    rw [knum, Nat.pow_succ]
    omega
theorem knum_split (k : Nat → Int) (j : Nat) : ∀ m, j < m → ∃ r, knum k m = knum k j + 256 ^ j * ((k j).toNat + 256 * r)
  | 0, h => by omega
  | m + 1, h => by
    rcases (by omega : j = m ∨ j < m) with rfl | h'
    · exact ⟨0, by rw [knum]; simp⟩
    · obtain ⟨r, hr⟩ := knum_split k j m h'
      refine ⟨r + 256 ^ (m - j - 1) * (k m).toNat, ?_⟩
      rw [knum, hr]
      have e : 256 ^ m = 256 ^ j * (256 * 256 ^ (m - j - 1)) := by
        rw [← Nat.pow_succ', ← Nat.pow_add]; congr 1; omega
      rw [e]
      grind
theorem knum_byte (k : Nat → Int) (hk : Bytes 32 k) (j : Nat) (hj : j < 32) : knum k 32 / 256 ^ j % 256 = (k j).toNat := by
  obtain ⟨r, hr⟩ := knum_split k j 32 hj
  have h1 := knum_lt k hk j (by omega)
  have h2 := hk j hj
  rw [hr, Nat.add_mul_div_left _ _ (Nat.pow_pos (by decide)), Nat.div_eq_of_lt h1]
  omega
theorem knum_bit (k : Nat → Int) (hk : Bytes 32 k) (i : Nat) (hi : i < 256) : (knum k 32 / 2 ^ i % 2 : Nat) = (bitN k i).toNat := by
  have h := knum_byte k hk (i / 8) (by omega)
  have h2 := hk (i / 8) (by omega)
  unfold bitN
  have e : 2 ^ i = 256 ^ (i / 8) * 2 ^ (i % 8) := by
    rw [show (256 : Nat) = 2 ^ 8 from rfl, ← Nat.pow_mul, ← Nat.pow_add]; congr 1; omega
  rw [e, ← Nat.div_div_eq_div_mul]
  generalize knum k 32 / 256 ^ (i / 8) = X at *
  generalize k (i / 8) = y at *
  rcases (by omega : i % 8 = 0 ∨ i % 8 = 1 ∨ i % 8 = 2 ∨ i % 8 = 3 ∨ i % 8 = 4 ∨ i % 8 = 5 ∨ i % 8 = 6 ∨ i % 8 = 7) with h' | h' | h' | h' | h' | h' | h' | h' <;> rw [h'] <;> simp only [Nat.reducePow, Int.reducePow] <;> omega
def exN (k : Nat → Int) : Nat → Nat
  | 0 => 0
  | c + 1 => 2 * exN k c + (bitN k (255 - c)).toNat
theorem exN_is (k : Nat → Int) (hk : Bytes 32 k) : ∀ c, c ≤ 256 → exN k c = knum k 32 / 2 ^ (256 - c)
  | 0, _ => by
    have := knum_lt k hk 32 (by omega)
    rw [exN]
    exact (Nat.div_eq_of_lt this).symm
  | c + 1, h => by
    have ih := exN_is k hk c (by omega)
    have hb := knum_bit k hk (255 - c) (by omega)
    rw [exN, ih, ← hb, show 256 - (c + 1) = 255 - c by omega, show 256 - c = (255 - c) + 1 by omega, Nat.pow_succ, ← Nat.div_div_eq_div_mul]
    omega
theorem exN_all (k : Nat → Int) (hk : Bytes 32 k) : exN k 256 = knum k 32 := by rw [exN_is k hk 256 (by omega)]; simp
theorem md_sq (X y : Int) : (X % 57896044618658097711785492504343953926634992332820282019728792003956564819949 * (X % 57896044618658097711785492504343953926634992332820282019728792003956564819949) * y) % 57896044618658097711785492504343953926634992332820282019728792003956564819949 = (X * X * y) % 57896044618658097711785492504343953926634992332820282019728792003956564819949 := by
  have h : (X % 57896044618658097711785492504343953926634992332820282019728792003956564819949 * (X % 57896044618658097711785492504343953926634992332820282019728792003956564819949)) % 57896044618658097711785492504343953926634992332820282019728792003956564819949 = (X * X) % 57896044618658097711785492504343953926634992332820282019728792003956564819949 := by rw [md_mulL, md_mulR]
  rw [← md_mulL (X % 57896044618658097711785492504343953926634992332820282019728792003956564819949 * (X % 57896044618658097711785492504343953926634992332820282019728792003956564819949)) y, h, md_mulL]
theorem nv_pw (a k : Nat → Int) : ∀ c, nv (pwF a k c) = nv a ^ exN k c % 57896044618658097711785492504343953926634992332820282019728792003956564819949
  | 0 => by rw [pwF, nv_one, exN, Int.pow_zero]; rfl
  | c + 1 => by
    have ih := nv_pw a k c
    have e : nv a ^ (2 * exN k c) = nv a ^ exN k c * nv a ^ exN k c := by rw [Nat.two_mul, Int.pow_add]
    rw [pwF, exN]
    rcases bitN_01 k (255 - c) with h | h
    · rw [if_neg (by rw [h]; decide), h, nv_mul, ih, md_mulL, md_mulR]
      show _ = nv a ^ (2 * exN k c) % _
      rw [e]
    · rw [if_pos h, h, nv_mul, nv_mul, ih, md_mulL, md_sq]
      show _ = nv a ^ (2 * exN k c + 1) % _
      rw [Int.pow_succ, e]
theorem nv_power (a k : Nat → Int) (hk : Bytes 32 k) : nv (pwF a k 256) = nv a ^ knum k 32 % 57896044618658097711785492504343953926634992332820282019728792003956564819949 := by
  rw [nv_pw, exN_all k hk]
end Go.Proofs.Ytfapmpnkemogkaa
