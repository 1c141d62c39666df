/- Sw -/
import Derived.Test.YtdoolhbmekahdaaGreatDoorLimb
import Derived.Test.YtdoolhbmekahdaaGreatDoorCt
namespace Go.Proofs.YtdoolhbmekahdaaGreatDoor
open Go.RowKit
set_option linter.unusedVariables false
set_option linter.unusedSimpArgs false
def W32 (x : Int) : Prop := 0 ≤ x ∧ x < 4294967296
theorem wraps_u32 (n : Int) (h₀ : 0 ≤ n) (h₁ : n < 2 ^ 32) : IntKind.u32.wrap n = n := by rw [IntKind.wrap_u32]; omega
theorem W32.nat {x : Int} (h : W32 x) : ∃ a : Nat, x = a ∧ a < 2 ^ 32 := ⟨x.toNat, by have := h.1; omega, by have := h.1; have := h.2; omega⟩
theorem w32_of (a : Nat) (h : a < 2 ^ 32) : W32 (a : Int) := ⟨by omega, by omega⟩
theorem u32_and (a b : Nat) (ha : a < 2 ^ 32) (hb : b < 2 ^ 32) : bits .and .u32 (a : Int) (b : Int) = ((a &&& b : Nat) : Int) := (bits_nat .u32 32 (by decide) wraps_u32 a b ha hb).1
theorem u32_or (a b : Nat) (ha : a < 2 ^ 32) (hb : b < 2 ^ 32) : bits .or .u32 (a : Int) (b : Int) = ((a ||| b : Nat) : Int) := (bits_nat .u32 32 (by decide) wraps_u32 a b ha hb).2
theorem u32_xor (a b : Nat) (ha : a < 2 ^ 32) (hb : b < 2 ^ 32) : bits .xor .u32 (a : Int) (b : Int) = ((a ^^^ b : Nat) : Int) := by
 have h1 : (BitVec.ofInt 32 (a : Int)).toNat = a := by rw [BitVec.ofInt_natCast, BitVec.toNat_ofNat]; exact Nat.mod_eq_of_lt ha
 have h2 : (BitVec.ofInt 32 (b : Int)).toNat = b := by rw [BitVec.ofInt_natCast, BitVec.toNat_ofNat]; exact Nat.mod_eq_of_lt hb
 have hx : a ^^^ b < 2 ^ 32 := Nat.xor_lt_two_pow ha hb
 show IntKind.u32.wrap ((BitVec.ofInt 32 (a : Int) ^^^ BitVec.ofInt 32 (b : Int)).toNat : Int) = _
 rw [BitVec.toNat_xor, h1, h2]
 exact wraps_u32 _ (by omega) (by exact_mod_cast hx)
theorem w32_xor {x y : Int} (hx : W32 x) (hy : W32 y) : W32 (bits .xor .u32 x y) := by
 obtain ⟨a, rfl, ha⟩ := hx.nat
 obtain ⟨b, rfl, hb⟩ := hy.nat
 rw [u32_xor a b ha hb]
 exact w32_of _ (Nat.xor_lt_two_pow ha hb)
theorem w32_and {x y : Int} (hx : W32 x) (hy : W32 y) : W32 (bits .and .u32 x y) := by
 obtain ⟨a, rfl, ha⟩ := hx.nat
 obtain ⟨b, rfl, hb⟩ := hy.nat
 rw [u32_and a b ha hb]
 exact w32_of _ (Nat.and_lt_two_pow _ hb)
theorem w32_or {x y : Int} (hx : W32 x) (hy : W32 y) : W32 (bits .or .u32 x y) := by
 obtain ⟨a, rfl, ha⟩ := hx.nat
 obtain ⟨b, rfl, hb⟩ := hy.nat
 rw [u32_or a b ha hb]
 exact w32_of _ (Nat.or_lt_two_pow ha hb)
theorem w32_mod (x : Int) : W32 (x % 4294967296) := ⟨by omega, by omega⟩
theorem w32_div {x : Int} (h : W32 x) (k : Int) (hk : 0 < k) : W32 (x / k) := ⟨Int.ediv_nonneg h.1 (by omega), by
 have h1 := Int.ediv_le_self k h.1
 have := h.2; omega⟩
def rot (n : Int) (x : Int) : Int := x / 2 ^ n.toNat + x % 2 ^ n.toNat * 2 ^ (32 - n).toNat
theorem rot_nat (n : Nat) (hn : n ≤ 32) (a : Nat) (ha : a < 2 ^ 32) : rot (n : Int) (a : Int) = ((a / 2 ^ n + a % 2 ^ n * 2 ^ (32 - n) : Nat) : Int) ∧ a / 2 ^ n + a % 2 ^ n * 2 ^ (32 - n) < 2 ^ 32 := by
 have e1 : ((n : Int)).toNat = n := by omega
 have e2 : (32 - (n : Int)).toNat = 32 - n := by omega
 constructor
 ·unfold rot; rw [e1, e2]; push_cast; rfl
 ·have hp : 2 ^ 32 = 2 ^ n * 2 ^ (32 - n) := by rw [← Nat.pow_add]; congr 1; omega
  have h1 : a / 2 ^ n < 2 ^ (32 - n) := by
   rw [Nat.div_lt_iff_lt_mul (Nat.two_pow_pos n), Nat.mul_comm, ← hp]; exact ha
  have h2 : a % 2 ^ n + 1 ≤ 2 ^ n := Nat.mod_lt _ (Nat.two_pow_pos n)
  have h3 := Nat.mul_le_mul_right (2 ^ (32 - n)) h2
  rw [← hp, Nat.add_mul, Nat.one_mul] at h3
  omega
theorem w32_rot {x : Int} (h : W32 x) (n : Int) (h0 : 0 ≤ n) (h1 : n ≤ 32) : W32 (rot n x) := by
 obtain ⟨a, rfl, ha⟩ := h.nat
 obtain ⟨k, rfl⟩ := Int.eq_ofNat_of_zero_le h0
 obtain ⟨e, hl⟩ := rot_nat k (by omega) a ha
 rw [e]; exact w32_of _ hl
theorem rot_or (n : Int) (x : Int) (h : W32 x) (h0 : 1 ≤ n) (h1 : n ≤ 31) : bits .or .u32 (x * 2 ^ (32 - n).toNat % 4294967296) (x / 2 ^ n.toNat) = rot n x := by
 obtain ⟨a, rfl, ha⟩ := h.nat
 obtain ⟨k, rfl⟩ := Int.eq_ofNat_of_zero_le (show 0 ≤ n by omega)
 have e1 : ((k : Int)).toNat = k := by omega
 have e2 : (32 - (k : Int)).toNat = 32 - k := by omega
 rw [(rot_nat k (by omega) a ha).1, e1, e2]
 have hp : 2 ^ 32 = 2 ^ k * 2 ^ (32 - k) := by rw [← Nat.pow_add]; congr 1; omega
 have hm : a * 2 ^ (32 - k) % 2 ^ 32 = a % 2 ^ k * 2 ^ (32 - k) := by rw [hp, Nat.mul_mod_mul_right]
 have hd : a / 2 ^ k < 2 ^ (32 - k) := by
  rw [Nat.div_lt_iff_lt_mul (Nat.two_pow_pos k), Nat.mul_comm, ← hp]; exact ha
 have hlt : a * 2 ^ (32 - k) % 2 ^ 32 < 2 ^ 32 := Nat.mod_lt _ (by decide)
 have hd2 : a / 2 ^ k < 2 ^ 32 := Nat.lt_of_le_of_lt (Nat.div_le_self _ _) ha
 have c1 : ((a : Int) * 2 ^ (32 - k) % 4294967296) = ((a * 2 ^ (32 - k) % 2 ^ 32 : Nat) : Int) := by rw [Int.natCast_emod, Int.natCast_mul, Int.natCast_pow]; rfl
 have c2 : ((a : Int) / 2 ^ k) = ((a / 2 ^ k : Nat) : Int) := by push_cast; rfl
 rw [c1, c2, u32_or _ _ hlt hd2, hm]
 congr 1
 rw [Nat.mul_comm, ← Nat.two_pow_add_eq_or_of_lt hd (a % 2 ^ k)]
 omega
theorem and31_neg (n : Int) (h0 : 1 ≤ n) (h1 : n ≤ 31) : bits .and .u64 (IntKind.u64.wrap (-n)) 31 = 32 - n := by
 rw [IntKind.wrap_u64]
 rw [show (31 : Int) = 2 ^ 5 - 1 from rfl, bits_mask .u64 64 (by decide) wraps_u64 5 (by decide) _ (by omega) (by omega)]
 omega
set_option maxHeartbeats 400000 in
theorem rotateLeft_any (x n : Int) (w : World) (hx : W32 x) (h0 : 1 ≤ n) (h1 : n ≤ 31) :
  Calls Tryz.prog 281 #[.int .u32 x, .int .i64 (-n)] w fun e w' => e = .returned (.int .u32 (rot n x)) ∧ Below w.heap.size w w' := by
 have hs := and31_neg n h0 h1
 have H : Hid (bits .or .u32 (x * 2 ^ (32 - n).toNat % 4294967296) (x / 2 ^ n.toNat) = rot n x) := rot_or n x hx h0 h1
 obtain ⟨x0, x1⟩ := hx
 have s1 : n ≤ 32 := by omega
 have s2 : 0 ≤ n := by omega
 have s3 : n % 18446744073709551616 = n := by omega
 have s4 : (32 - n) % 18446744073709551616 = 32 - n := by omega
 have s5 : 32 - n ≤ 32 := by omega
 have s6 : 0 ≤ 32 - n := by omega
 go_enter Tryz.func281, Tryz.ntmps281
 go_wp2
 go_ret
 rw [show (32 - (32 - n)) = n by omega, H.out]
 exact ⟨rfl, by exact grew_auto⟩
set_option maxHeartbeats 400000 in
theorem rotr_any (x n : Int) (w : World) (hx : W32 x) (h0 : 1 ≤ n) (h1 : n ≤ 31) :
  Calls Tryz.prog 237 #[.int .u32 x, .int .i64 n] w fun e w' => e = .returned (.int .u32 (rot n x)) ∧ Below w.heap.size w w' := by
 have hG := Grew.refl w
 have s1 : IntKind.i64.wrap (-n) = -n := by rw [IntKind.wrap_i64]; omega
 have s2 : -9223372036854775808 ≤ -n := by omega
 have s3 : -n ≤ 9223372036854775807 := by omega
 go_enter Tryz.func237, Tryz.ntmps237
 go_wp2_with fail
 (refine (rotateLeft_any x n _ hx h0 h1).mono ?_; rintro e w1 ⟨rfl, hb⟩; replace hG : Below w.heap.size w w1 := Grew.trans (by exact grew_auto) hb; clear hb)
 go_wp2
 go_ret
 exact ⟨rfl, by exact grew_auto⟩
def sm0 (x : Int) : Int := bits .xor .u32 (bits .xor .u32 (rot 7 x) (rot 18 x)) (x / 8)
def sm1 (x : Int) : Int := bits .xor .u32 (bits .xor .u32 (rot 17 x) (rot 19 x)) (x / 1024)
def gr0 (x : Int) : Int := bits .xor .u32 (bits .xor .u32 (rot 2 x) (rot 13 x)) (rot 22 x)
def gr1 (x : Int) : Int := bits .xor .u32 (bits .xor .u32 (rot 6 x) (rot 11 x)) (rot 25 x)
theorem w32_sm0 {x : Int} (h : W32 x) : W32 (sm0 x) := w32_xor (w32_xor (w32_rot h _ (by decide) (by decide)) (w32_rot h _ (by decide) (by decide))) (w32_div h _ (by decide))
theorem w32_sm1 {x : Int} (h : W32 x) : W32 (sm1 x) := w32_xor (w32_xor (w32_rot h _ (by decide) (by decide)) (w32_rot h _ (by decide) (by decide))) (w32_div h _ (by decide))
theorem w32_gr0 {x : Int} (h : W32 x) : W32 (gr0 x) := w32_xor (w32_xor (w32_rot h _ (by decide) (by decide)) (w32_rot h _ (by decide) (by decide))) (w32_rot h _ (by decide) (by decide))
theorem w32_gr1 {x : Int} (h : W32 x) : W32 (gr1 x) := w32_xor (w32_xor (w32_rot h _ (by decide) (by decide)) (w32_rot h _ (by decide) (by decide))) (w32_rot h _ (by decide) (by decide))
set_option maxHeartbeats 400000 in
theorem sm0_any (x : Int) (w : World) (hx : W32 x) :
  Calls Tryz.prog 236 #[.int .u32 x] w fun e w' => e = .returned (.int .u32 (sm0 x)) ∧ Below w.heap.size w w' := by
 have hG := Grew.refl w
 go_enter Tryz.func236, Tryz.ntmps236
 go_wp2_with fail
 (refine (rotr_any x 7 _ hx (by decide) (by decide)).mono ?_; rintro e w1 ⟨rfl, hb⟩; replace hG : Below w.heap.size w w1 := Grew.trans (by exact grew_auto) hb; clear hb)
 go_wp2_with fail
 (refine (rotr_any x 18 _ hx (by decide) (by decide)).mono ?_; rintro e w2 ⟨rfl, hb⟩; replace hG : Below w.heap.size w w2 := Grew.trans (by exact grew_auto) hb; clear hb)
 go_wp2
 go_ret
 exact ⟨rfl, by exact grew_auto⟩
set_option maxHeartbeats 400000 in
theorem sm1_any (x : Int) (w : World) (hx : W32 x) :
  Calls Tryz.prog 235 #[.int .u32 x] w fun e w' => e = .returned (.int .u32 (sm1 x)) ∧ Below w.heap.size w w' := by
 have hG := Grew.refl w
 go_enter Tryz.func235, Tryz.ntmps235
 go_wp2_with fail
 (refine (rotr_any x 17 _ hx (by decide) (by decide)).mono ?_; rintro e w1 ⟨rfl, hb⟩; replace hG : Below w.heap.size w w1 := Grew.trans (by exact grew_auto) hb; clear hb)
 go_wp2_with fail
 (refine (rotr_any x 19 _ hx (by decide) (by decide)).mono ?_; rintro e w2 ⟨rfl, hb⟩; replace hG : Below w.heap.size w w2 := Grew.trans (by exact grew_auto) hb; clear hb)
 go_wp2
 go_ret
 exact ⟨rfl, by exact grew_auto⟩
set_option maxHeartbeats 400000 in
theorem gr0_any (x : Int) (w : World) (hx : W32 x) :
  Calls Tryz.prog 190 #[.int .u32 x] w fun e w' => e = .returned (.int .u32 (gr0 x)) ∧ Below w.heap.size w w' := by
 have hG := Grew.refl w
 go_enter Tryz.func190, Tryz.ntmps190
 go_wp2_with fail
 (refine (rotr_any x 2 _ hx (by decide) (by decide)).mono ?_; rintro e w1 ⟨rfl, hb⟩; replace hG : Below w.heap.size w w1 := Grew.trans (by exact grew_auto) hb; clear hb)
 go_wp2_with fail
 (refine (rotr_any x 13 _ hx (by decide) (by decide)).mono ?_; rintro e w2 ⟨rfl, hb⟩; replace hG : Below w.heap.size w w2 := Grew.trans (by exact grew_auto) hb; clear hb)
 go_wp2_with fail
 (refine (rotr_any x 22 _ hx (by decide) (by decide)).mono ?_; rintro e w3 ⟨rfl, hb⟩; replace hG : Below w.heap.size w w3 := Grew.trans (by exact grew_auto) hb; clear hb)
 go_wp2
 go_ret
 exact ⟨rfl, by exact grew_auto⟩
set_option maxHeartbeats 400000 in
theorem gr1_any (x : Int) (w : World) (hx : W32 x) :
  Calls Tryz.prog 189 #[.int .u32 x] w fun e w' => e = .returned (.int .u32 (gr1 x)) ∧ Below w.heap.size w w' := by
 have hG := Grew.refl w
 go_enter Tryz.func189, Tryz.ntmps189
 go_wp2_with fail
 (refine (rotr_any x 6 _ hx (by decide) (by decide)).mono ?_; rintro e w1 ⟨rfl, hb⟩; replace hG : Below w.heap.size w w1 := Grew.trans (by exact grew_auto) hb; clear hb)
 go_wp2_with fail
 (refine (rotr_any x 11 _ hx (by decide) (by decide)).mono ?_; rintro e w2 ⟨rfl, hb⟩; replace hG : Below w.heap.size w w2 := Grew.trans (by exact grew_auto) hb; clear hb)
 go_wp2_with fail
 (refine (rotr_any x 25 _ hx (by decide) (by decide)).mono ?_; rintro e w3 ⟨rfl, hb⟩; replace hG : Below w.heap.size w w3 := Grew.trans (by exact grew_auto) hb; clear hb)
 go_wp2
 go_ret
 exact ⟨rfl, by exact grew_auto⟩
attribute [irreducible] rot sm0 sm1 gr0 gr1
end Go.Proofs.YtdoolhbmekahdaaGreatDoor
namespace Go.Proofs.YtdoolhbmekahdaaGreatDoor
open Go.RowKit
set_option linter.unusedVariables false
set_option linter.unusedSimpArgs false
def cubeL : List Int := [1116352408, 1899447441, 3049323471, 3921009573, 961987163, 1508970993, 2453635748, 2870763221, 3624381080, 310598401, 607225278, 1426881987, 1925078388, 2162078206, 2614888103, 3248222580, 3835390401, 4022224774, 264347078, 604807628, 770255983, 1249150122, 1555081692, 1996064986, 2554220882, 2821834349, 2952996808, 3210313671, 3336571891, 3584528711, 113926993, 338241895, 666307205, 773529912, 1294757372, 1396182291, 1695183700, 1986661051, 2177026350, 2456956037, 2730485921, 2820302411, 3259730800, 3345764771, 3516065817, 3600352804, 4094571909, 275423344, 430227734, 506948616, 659060556, 883997877, 958139571, 1322822218, 1537002063, 1747873779, 1955562222, 2024104815, 2227730452, 2361852424, 2428436474, 2756734187, 3204031479, 3329325298]
def squareL : List Int := [1779033703, 3144134277, 1013904242, 2773480762, 1359893119, 2600822924, 528734635, 1541459225]
def cubeF : Nat → Int := fun i => cubeL.getD i 0
def sqF : Nat → Int := fun i => squareL.getD i 0
def Words (n : Nat) (f : Nat → Int) : Prop := ∀ i, i < n → W32 (f i)
theorem listB {l : List Int} (h : (l.all fun x => decide (0 ≤ x ∧ x < 4294967296)) = true) (i : Nat) : W32 (l.getD i 0) := by
 rw [List.getD_eq_getElem?_getD]
 cases e : l[i]? with
 | none => exact ⟨by decide, by decide⟩
 | some x => exact of_decide_eq_true (p := 0 ≤ x ∧ x < 4294967296) (List.all_eq_true.1 h _ (List.mem_of_getElem? e))
theorem cube_w32 (i : Nat) : W32 (cubeF i) := listB (by decide) i
theorem sq_w32 (i : Nat) : W32 (sqF i) := listB (by decide) i
def wd (B : Nat → Int) (t : Nat) : Int := B (4 * t) * 16777216 + B (4 * t + 1) * 65536 + B (4 * t + 2) * 256 + B (4 * t + 3)
def nextW (B w : Nat → Int) (t : Nat) : Int := if t < 16 then wd B t else (sm1 (w (t - 2)) + w (t - 7) + sm0 (w (t - 15)) + w (t - 16)) % 4294967296
def sch (B : Nat → Int) : Nat → Nat → Int
 | 0 => nought
 | t + 1 => upd (sch B t) t (nextW B (sch B t) t)
theorem nextW_w32 (B w : Nat → Int) (hB : Bytes 64 B) (t : Nat) : W32 (nextW B w t) := by
 unfold nextW
 split
 ·have := hB (4 * t) (by omega); have := hB (4 * t + 1) (by omega); have := hB (4 * t + 2) (by omega); have := hB (4 * t + 3) (by omega)
  unfold wd W32; omega
 ·exact w32_mod _
theorem sch_words (B : Nat → Int) (hB : Bytes 64 B) : ∀ t i, W32 (sch B t i)
 | 0, i => ⟨by simp [sch, nought], by simp [sch, nought]⟩
 | t + 1, i => by
  unfold sch upd
  split
  ·exact nextW_w32 B _ hB t
  ·exact sch_words B hB t i
theorem wd_or (B : Nat → Int) (hB : Bytes 64 B) (t : Nat) (ht : t < 16) :
  bits .or .u32 (bits .or .u32 (bits .or .u32 (B (4 * t) * 16777216) (B (4 * t + 1) * 65536)) (B (4 * t + 2) * 256)) (B (4 * t + 3)) = wd B t := by
 have h0 := hB (4 * t) (by omega); have h1 := hB (4 * t + 1) (by omega); have h2 := hB (4 * t + 2) (by omega); have h3 := hB (4 * t + 3) (by omega)
 unfold wd
 rw [bits_join .u32 32 (by decide) wraps_u32 24 _ (B (4 * t + 1) * 65536) (by omega) (by omega) (by omega) (by omega) (by omega) (by omega),
  bits_join .u32 32 (by decide) wraps_u32 16 _ (B (4 * t + 2) * 256) (by omega) (by omega) (by omega) (by omega) (by omega) (by omega),
  bits_join .u32 32 (by decide) wraps_u32 8 _ (B (4 * t + 3)) (by omega) (by omega) (by omega) (by omega) (by omega) (by omega)]
def chs (e f g : Int) : Int := bits .xor .u32 (bits .and .u32 e f) (bits .and .u32 (4294967295 - e) g)
def maj (a b c : Int) : Int := bits .or .u32 (bits .or .u32 (bits .and .u32 a b) (bits .and .u32 a c)) (bits .and .u32 b c)
theorem u32_not (x : Int) (h : W32 x) : bits .xor .u32 4294967295 x = 4294967295 - x := by
 obtain ⟨a, rfl, ha⟩ := h.nat
 have e : (4294967295 : Nat) ^^^ a = 4294967295 - a := by
  have h1 := @BitVec.toNat_not 32 (BitVec.ofNat 32 a)
  have h2 : (BitVec.ofNat 32 a).toNat = a := by rw [BitVec.toNat_ofNat]; exact Nat.mod_eq_of_lt ha
  rw [h2] at h1
  rw [← BitVec.allOnes_xor, BitVec.toNat_xor, BitVec.toNat_allOnes, h2] at h1
  have h3 : (4294967295 : Nat) = 2 ^ 32 - 1 := by decide
  rw [h3, h1]
 have h := u32_xor 4294967295 a (by decide) ha
 rw [e] at h
 rw [show ((4294967295 : Int)) = ((4294967295 : Nat) : Int) from rfl, h]
 omega
theorem w32_not {x : Int} (h : W32 x) : W32 (4294967295 - x) := ⟨by have := h.2; omega, by have := h.1; omega⟩
theorem w32_chs {e f g : Int} (he : W32 e) (hf : W32 f) (hg : W32 g) : W32 (chs e f g) := w32_xor (w32_and he hf) (w32_and (w32_not he) hg)
theorem w32_maj {a b c : Int} (ha : W32 a) (hb : W32 b) (hc : W32 c) : W32 (maj a b c) := w32_or (w32_or (w32_and ha hb) (w32_and ha hc)) (w32_and hb hc)
def tOne (W : Nat → Int) (t : Nat) (s : Nat → Int) : Int := (s 7 + gr1 (s 4) + chs (s 4) (s 5) (s 6) + cubeF t + W t) % 4294967296
def tTwo (s : Nat → Int) : Int := (gr0 (s 0) + maj (s 0) (s 1) (s 2)) % 4294967296
def rnd (W : Nat → Int) (t : Nat) (s : Nat → Int) : Nat → Int := fun i => if i = 0 then (tOne W t s + tTwo s) % 4294967296 else if i = 4 then (s 3 + tOne W t s) % 4294967296 else s (i - 1)
def runR (W s : Nat → Int) : Nat → Nat → Int
 | 0 => s
 | t + 1 => rnd W t (runR W s t)
theorem runR_words (W s : Nat → Int) (hs : Words 8 s) : ∀ t, Words 8 (runR W s t)
 | 0 => hs
 | t + 1 => fun i hi => by
  unfold runR rnd
  split
  ·exact w32_mod _
  ·split
   ·exact w32_mod _
   ·exact runR_words W s hs t _ (by omega)
def cmp (H B : Nat → Int) : Nat → Int := fun i => (H i + runR (sch B 64) H 64 i) % 4294967296
def absH (A : Nat → Int) : Nat → Int := fun i => (sqF i + A i) % 4294967296
def thr (A B : Nat → Int) : Nat → Int := fun i => (A i + runR (sch B 64) (absH A) 64 i) % 4294967296
theorem absH_words (A : Nat → Int) : Words 8 (absH A) := fun i _ => w32_mod _
theorem absH_thr (A B : Nat → Int) : absH (thr A B) = cmp (absH A) B := by
 funext i
 show (sqF i + (A i + runR (sch B 64) (absH A) 64 i) % 4294967296) % 4294967296 = ((sqF i + A i) % 4294967296 + runR (sch B 64) (absH A) 64 i) % 4294967296
 omega
theorem ret_u32 {x y : Int} (h : x = y) : Ending.returned (.int .u32 x) = .returned (.int .u32 y) := by rw [h]
theorem tOne_is (W : Nat → Int) (t : Nat) (s : Nat → Int) : ((s 7 + gr1 (s 4) + chs (s 4) (s 5) (s 6) + cubeF t) % 4294967296 + W t) % 4294967296 = tOne W t s := by unfold tOne; omega
theorem tTwo_is (s : Nat → Int) : (gr0 (s 0) + maj (s 0) (s 1) (s 2)) % 4294967296 = tTwo s := rfl
theorem w32_tOne (W : Nat → Int) (t : Nat) (s : Nat → Int) : W32 (tOne W t s) := w32_mod _
theorem w32_tTwo (s : Nat → Int) : W32 (tTwo s) := w32_mod _
attribute [irreducible] chs maj tOne tTwo
end Go.Proofs.YtdoolhbmekahdaaGreatDoor
namespace Go.Proofs.YtdoolhbmekahdaaGreatDoor
open Go.RowKit
set_option linter.unusedVariables false
set_option linter.unusedSimpArgs false
end Go.Proofs.YtdoolhbmekahdaaGreatDoor
