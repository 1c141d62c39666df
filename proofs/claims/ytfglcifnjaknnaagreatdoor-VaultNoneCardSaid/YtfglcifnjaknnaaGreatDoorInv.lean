/- Inv -/
import Derived.Test.YtfglcifnjaknnaaGreatDoorCt
import Derived.Test.YtfglcifnjaknnaaGreatDoorMul
import Derived.Test.YtfglcifnjaknnaaGreatDoorPrime
set_option linter.unusedVariables false
set_option linter.unusedSimpArgs false
namespace Go.Proofs.YtfglcifnjaknnaaGreatDoor
open Go.RowKit
theorem u64_and_nat (a b : Nat) (ha : a < 18446744073709551616) (hb : b < 18446744073709551616) : bits .and .u64 (a : Int) (b : Int) = ((a &&& b : Nat) : Int) := (bits_nat .u64 64 (by decide) wraps_u64 a b ha hb).1
theorem u64_xor_nat (a b : Nat) (ha : a < 18446744073709551616) (hb : b < 18446744073709551616) : bits .xor .u64 (a : Int) (b : Int) = ((a ^^^ b : Nat) : Int) := by
 have h1 : (BitVec.ofInt 64 (a : Int)).toNat = a := by rw [BitVec.ofInt_natCast, BitVec.toNat_ofNat]; exact Nat.mod_eq_of_lt (by omega)
 have h2 : (BitVec.ofInt 64 (b : Int)).toNat = b := by rw [BitVec.ofInt_natCast, BitVec.toNat_ofNat]; exact Nat.mod_eq_of_lt (by omega)
 have hx : a ^^^ b < 2 ^ 64 := Nat.xor_lt_two_pow (by omega) (by omega)
 show IntKind.u64.wrap ((BitVec.ofInt 64 (a : Int) ^^^ BitVec.ofInt 64 (b : Int)).toNat : Int) = _
 rw [BitVec.toNat_xor, h1, h2];exact wraps_u64 _ (by omega) (by omega)
theorem zqoh (x : Int) (h0 : 0 <= x) (h1 : x <= 18446744073709551615) : ∃ a : Nat, x = a /\ a < 18446744073709551616 := ⟨x.toNat, by omega, by omega⟩
def zqpi (b : Int) : Int := -(b % 2) % 18446744073709551616
def differ (b x y : Int) : Int := bits .and .u64 (zqpi b) (bits .xor .u64 x y)
theorem zqkb (b x y : Int) (hx : 0 <= x /\ x <= 18446744073709551615) (hy : 0 <= y /\ y <= 18446744073709551615) : bits .xor .u64 x (differ b x y) = if b % 2 = 0 then x else y := by
 obtain ⟨p, rfl, hp⟩ := zqoh x hx.1 hx.2;obtain ⟨q, rfl, hq⟩ := zqoh y hy.1 hy.2;have h1 : p ^^^ q < 2 ^ 64 := Nat.xor_lt_two_pow (by omega) (by omega);unfold differ zqpi;rw [u64_xor_nat p q hp hq]
 by_cases hb : b % 2 = 0
 ·rw [if_pos hb, hb]
  show bits .xor .u64 (p : Int) (bits .and .u64 ((0 : Nat) : Int) ((p ^^^ q : Nat) : Int)) = p
  rw [u64_and_nat 0 _ (by decide) (by omega), Nat.zero_and, u64_xor_nat p 0 hp (by decide), Nat.xor_zero]
 ·have hb1 : b % 2 = 1 := by omega
  rw [if_neg hb, hb1]
  show bits .xor .u64 (p : Int) (bits .and .u64 ((18446744073709551615 : Nat) : Int) ((p ^^^ q : Nat) : Int)) = q
  have h2 : 18446744073709551615 &&& (p ^^^ q) = p ^^^ q := by
   rw [Nat.and_comm, show (18446744073709551615 : Nat) = 2 ^ 64 - 1 from rfl, Nat.and_two_pow_sub_one_eq_mod]
   omega
  rw [u64_and_nat _ _ (by decide) (by omega), h2, u64_xor_nat p _ hp (by omega), zqj8]
theorem zqpx (b x y : Int) (hx : 0 <= x /\ x <= 18446744073709551615) (hy : 0 <= y /\ y <= 18446744073709551615) : bits .xor .u64 y (differ b x y) = if b % 2 = 0 then y else x := by
 have h : differ b x y = differ b y x := by
  obtain ⟨p, rfl, hp⟩ := zqoh x hx.1 hx.2;obtain ⟨q, rfl, hq⟩ := zqoh y hy.1 hy.2;unfold differ;rw [u64_xor_nat p q hp hq, u64_xor_nat q p hq hp, Nat.xor_comm]
 rw [h];exact zqkb b y x hy hx
theorem zq52 (b : Int) (x y : Nat -> Int) (k : Nat) : oneOf b x y k = if b % 2 = 0 then x k else y k := by
 unfold oneOf; split <;> rfl
def W64 (n : Nat) (a : Nat -> Int) : Prop := ∀ i, i < n -> 0 <= a i /\ a i <= 18446744073709551615
set_option maxHeartbeats 1000000 in
theorem zqpf (b : Int) (x y : Nat -> Int) (w : World) (hx : W64 5 x) (hy : W64 5 y) :
  Calls Tryz.prog 114 #[.int .i64 b, .agg (ints .u64 5 x), .agg (ints .u64 5 y)] w (Rt w (.tuple #[.agg (ints .u64 5 (oneOf b x y)), .agg (ints .u64 5 (oneOf b y x))])) := by
 have hb2 := zqvb b;have hb3 : IntKind.u64.wrap (-(b % 2)) = zqpi b := by unfold zqpi; exact IntKind.wrap_u64 _
 go_enter Tryz.func114, Tryz.ntmps114
 go_wp2
 go_loopw [15] (fun i wr => ∃ k : Nat, ∃ m : More, k <= 5 /\ i = .int .i64 k /\ wr = more ((((w.alloc (.cells (ints .u64 5 (mix (oneOf b x y) x k)) 136)).alloc (.cells (ints .u64 5 (mix (oneOf b y x) y k)) 136)).alloc (.cells (ints .u64 5 zqd) 136)).alloc (.cells (ints .u64 5 zqd) 136)) m) (fun i _ => 5 - (intOf i).toNat)
 case atStart => exact ⟨0, _, by omega, rfl, by rw [zqf9, zqf9]; exact (zqet _).symm⟩
 case round =>
  obtain ⟨k, m, hk, rfl, rfl⟩ := hrel
  by_cases hlt : k < 5
  ·have hm1 := zqnl (oneOf b x y) x k
   have hm2 := zqnl (oneOf b y x) y k;have s1 := zqfv (oneOf b x y) x k;have s2 := zqfv (oneOf b y x) y k;have e1 := zqkb b (x k) (y k) (hx k hlt) (hy k hlt);have e2 := zqpx b (x k) (y k) (hx k hlt) (hy k hlt);rw [<- zq52] at e1 e2;have hd : bits .and .u64 (zqpi b) (bits .xor .u64 (x k) (y k)) = differ b (x k) (y k) := rfl;generalize differ b (x k) (y k) = D at *;have S1 : Hid (upd (mix (oneOf b x y) x k) k (oneOf b x y k) = mix (oneOf b x y) x (k + 1)) := s1;have S2 : Hid (upd (mix (oneOf b y x) y k) k (oneOf b y x k) = mix (oneOf b y x) y (k + 1)) := s2;clear s1 s2;go_wp2
   ((first | (with_reducible refine zqab zqb zqb ?_) | refine zq2 zqb zqb ?_); (refine zAi ?_); refine wpQuiet_nil ?_; rintro _ ⟨mq, rfl⟩)
   go_wp2
   go_roundw
   case rel => exact ⟨k + 1, _, by omega, by go_num, by rw [<- S1.out, <- S2.out]⟩
   case measure => simp [intOf]; omega
  ·obtain rfl : k = 5 := by omega
   rw [zqg1, zqg1];go_wp2
   go_region
   all_goals
    go_wp2;refine zqkx rfl _ _ 136 136 _ _ (0, 0) (0, 0) _ _ rfl rfl (by simp [go_sem]) (by simp [go_sem]) Tryz.underlying136 rfl (by rw [zqi]; kernel_rfl) Tryz.underlying136 rfl (by rw [zqi]; kernel_rfl) rfl ⟨rfl, by exact zqf⟩
theorem zq5x {x y : Int} (hx : 0 <= x /\ x < 57896044618658097711785492504343953926634992332820282019728792003956564819949) (hy : 0 <= y /\ y < 57896044618658097711785492504343953926634992332820282019728792003956564819949) (h : same 32 (keyV x) (keyV y) = true) : x = y := by
 have hs := (same_iff _ _ _).1 h;rw [<- zqs9 hx.1 hx.2, <- zqs9 hy.1 hy.2];refine zqjm 16 fun i hi => ?_
 have h0 := hs (2 * i) (by omega);have h1 := hs (2 * i + 1) (by omega);unfold keyV at h0 h1;rw [zqk7 x hx.1 (by omega) _ (by omega), zqk7 y hy.1 (by omega) _ (by omega)] at h0 h1;unfold zq07 at h0 h1;rw [if_pos (by omega), if_pos (by omega), show 2 * i / 2 = i by omega] at h0;rw [if_neg (by omega), if_neg (by omega), show (2 * i + 1) / 2 = i by omega] at h1;have d1 := zqh0 x i hi;have d2 := zqh0 y i hi
 omega
theorem zq2h (a b : Nat -> Int) : same 32 (keyV (nv a)) (keyV (nv b)) = decide (nv a = nv b) := by
 by_cases h : nv a = nv b
 ·rw [zq0r h, decide_eq_true h]
 ·rw [decide_eq_false h]
  cases hh : same 32 (keyV (nv a)) (keyV (nv b)) with
  | false => rfl
  | true => exact absurd (zq5x (zq0u a) (zq0u b) hh) h
theorem zq62 (a : Nat -> Int) : same 32 (keyV (nv a)) zqd = decide (nv a = 0) := by
 have e : ∀ i, i < 32 -> keyV 0 i = zqd i := (same_iff _ _ _).1 zqb;have h1 : same 32 (keyV (nv a)) zqd = same 32 (keyV (nv a)) (keyV 0) := by
  rw [Bool.eq_iff_iff, same_iff, same_iff];exact ⟨fun h i hi => (h i hi).trans (e i hi).symm, fun h i hi => (h i hi).trans (e i hi)⟩
 rw [h1, <- zqml, zq2h, zqml]
theorem zqxw (a b : Nat -> Int) (w : World) (ha : zq8 18014398509481984 a) (hb : zq8 18014398509481984 b) :
  Calls Tryz.prog 258 #[.agg (ints .u64 5 a), .agg (ints .u64 5 b)] w (Rt w (.bool (decide (nv a = nv b)))) := by
 rw [<- zq2h];have hs := fun w => zqkw (keyV (nv a)) (keyV (nv b)) w (zqc4 _) (zqc4 _);generalize same 32 (keyV (nv a)) (keyV (nv b)) = S at *
 go_enter Tryz.func258, Tryz.ntmps258
 go_wp2
 ((first | (with_reducible refine zqab zqb zqb ?_) | refine zq2 zqb zqb ?_); (repeat (first | go_big_quiet_skip | (go_big_quiet_want; go_big_quiet_op; first | go_big_quiet_on | (apply Exists.intro; refine ⟨fun _ => ?_, ?_⟩; (focus (first | (with_reducible exact Calls.of_more (zqf0 _ _ ha)) | (with_reducible exact Calls.of_more (zqf0 _ _ hb)) | (with_reducible exact Calls.of_more (hs _)))); go_big_quiet_on)))); refine wpQuiet_nil ?_; rintro _ ⟨mq, rfl⟩)
 go_wp2;go_ret;exact ⟨rfl, by exact zqf⟩
def bitN (k : Nat -> Int) (i : Nat) : Int := k (i / 8) / 2 ^ (i % 8) % 2
theorem zqov (k : Nat -> Int) (i : Nat) : bitN k i = 0 \/ bitN k i = 1 := by unfold bitN; omega
def pwF (a k : Nat -> Int) : Nat -> Nat -> Int
 | 0 => upd zqd 0 1
 | c + 1 => if bitN k (255 - c) = 1 then mulF (mulF (pwF a k c) (pwF a k c)) a else mulF (pwF a k c) (pwF a k c)
theorem zqol (a k : Nat -> Int) (ha : zq8 18014398509481984 a) : ∀ c, zq8 4503599627370496 (pwF a k c)
 | 0 => zqk6
 | c + 1 => by
  have h := zqb5 (zqol a k ha c);unfold pwF
  split
  ·exact zqez _ _ (zqbr _ _ h h) ha
  ·exact zqez _ _ h h
theorem zq1i (x : Int) (h0 : 0 <= x) (h1 : x <= 255) : bits .and .u8 x 1 = x % 2 := bits_mask .u8 8 (by decide) wraps_u8 1 (by decide) x h0 (by omega)
structure PowInv (a k : Nat -> Int) (gp : Nat) (w : World) (c : Nat) (wr : World) : Prop where
 g : Below w.heap.size w wr
 fa : zqe wr w.heap.size = some (.cells (ints .u64 5 a) 136)
 fk : zqe wr (w.heap.size + 1) = some (.cells (ints .u8 32 k) 29)
 fr : zqe wr (w.heap.size + 1 + 1) = some (.cells (ints .u64 5 zqd) 136)
 fp : zqe wr gp = some (.cells (ints .u64 5 (pwF a k c)) 136)
set_option maxHeartbeats 1000000 in
theorem zqp3 (a k : Nat -> Int) (w : World) (ha : zq8 18014398509481984 a) (hk : Bytes 32 k) :
  Calls Tryz.prog 146 #[.agg (ints .u64 5 a), .agg (ints .u8 32 k)] w (Rt w (.agg (ints .u64 5 (pwF a k 256)))) := by
 have hG := Grew.refl w;have fa : True := trivial;have fk : True := trivial;have fr : True := trivial
 go_enter Tryz.func146, Tryz.ntmps146
 go_wp2_with fail
 (refine (zqcq 1 _ (by decide) (by decide)).mono ?_; rintro e w1 ⟨rfl, hb⟩; replace fa : zqe w1 (w.heap.size) = some (.cells (ints .u64 5 a) 136) := zqc hb (by exact zqh); have lfa := zqa fa; replace fk : zqe w1 (w.heap.size + 1) = some (.cells (ints .u8 32 k) 29) := zqc hb (by exact zqh); have lfk := zqa fk; replace fr : zqe w1 (w.heap.size + 1 + 1) = some (.cells (ints .u64 5 zqd) 136) := zqc hb (by exact zqh); have lfr := zqa fr; replace hG : Below w.heap.size w w1 := Grew.trans (by exact zqf) hb; clear hb)
 have hw1 := hG.size;have ha1 := lfa;have hk1 := lfk;have hr1 := lfr;have n0 : ¬ (w.heap.size = w1.heap.size) := by omega
 have n1 : ¬ (w.heap.size + 1 = w1.heap.size) := by omega
 have n2 : ¬ (w.heap.size + 1 + 1 = w1.heap.size) := by omega
 go_wp2_with fail
 go_loopw [6] (fun i wr => ∃ c : Nat, c <= 256 /\ ((c < 256 /\ i = .int .i64 ((255 - c : Nat) : Int)) \/ (c = 256 /\ i = .int .i64 (-1))) /\ PowInv a k w1.heap.size w c wr) (fun i _ => (intOf i + 1).toNat)
 case atStart => exact ⟨0, by omega, .inl ⟨by omega, rfl⟩, ⟨by exact zqf, by exact zqh, by exact zqh, by exact zqh, by rw [show pwF a k 0 = upd zqd 0 1 from rfl]; exact zqh⟩⟩
 case round =>
  clear fa fk fr hG lfa lfk lfr;obtain ⟨c, hc, hi, hG, fa, fk, fr, fp⟩ := hrel;have lfa := zqa fa;have lfk := zqa fk;have lfr := zqa fr;have lfp := zqa fp
  rcases hi with ⟨hlt, rfl⟩ | ⟨rfl, rfl⟩
  ·have hP := zqb5 (zqol a k ha c)
   have hS := zqbr _ _ hP hP;have hkb := hk ((255 - c) / 8) (by omega);have Z : Hid (pwF a k (c + 1) = if bitN k (255 - c) = 1 then mulF (mulF (pwF a k c) (pwF a k c)) a else mulF (pwF a k c) (pwF a k c)) := rfl;generalize hb : 255 - c = b at *;have hb255 : b <= 255 := by omega
   have hb8 : b / 8 < 32 := by omega
   have hsq := fun w => zqd0 (pwF a k c) w hP;have hmu := fun w => mul_any (mulF (pwF a k c) (pwF a k c)) a w hS ha;have hx0 : 0 <= k (b / 8) / 2 ^ (b % 8) := Int.ediv_nonneg hkb.1 (Int.le_of_lt (Int.pow_pos (by decide)));have hx1 : k (b / 8) / 2 ^ (b % 8) <= 255 := Int.le_trans (Int.ediv_le_self _ hkb.1) hkb.2;have hbit := zq1i (k (b / 8) / 2 ^ (b % 8)) hx0 hx1;have hB : bitN k b = k (b / 8) / 2 ^ (b % 8) % 2 := rfl;rw [<- hB] at hbit;have h01 := zqov k b;generalize bitN k b = B at *;clear hB hx0 hx1;have hend : ∀ b : Nat, 255 - c = b -> ((c + 1 < 256 /\ Value.int .i64 ((b : Int) - 1) = .int .i64 ((255 - (c + 1) : Nat) : Int)) \/ (c + 1 = 256 /\ Value.int .i64 ((b : Int) - 1) = .int .i64 (-1))) := fun b hb => by
    by_cases h : b = 0
    ·exact .inr ⟨by omega, by rw [h]; rfl⟩
    ·exact .inl ⟨by omega, by congr 1; omega⟩
   have HE : Hid _ := hend b hb;clear hend
   rcases h01 with rfl | rfl
   all_goals
    go_wp2_with fail
    (refine (hsq _).mono ?_; rintro e w2 ⟨rfl, hb⟩; replace fa : zqe w2 (w.heap.size) = some (.cells (ints .u64 5 a) 136) := zqc hb (by exact zqh); have lfa := zqa fa; replace fk : zqe w2 (w.heap.size + 1) = some (.cells (ints .u8 32 k) 29) := zqc hb (by exact zqh); have lfk := zqa fk; replace fr : zqe w2 (w.heap.size + 1 + 1) = some (.cells (ints .u64 5 zqd) 136) := zqc hb (by exact zqh); have lfr := zqa fr; replace fp : zqe w2 (w1.heap.size) = some (.cells (ints .u64 5 (pwF a k c)) 136) := zqc hb (by exact zqh); have lfp := zqa fp; replace hG : Below w.heap.size w w2 := Grew.trans (by exact zqf) hb; clear hb)
   go_wp2_with fail
   ·go_wp2
    go_roundw
    case rel => exact ⟨c + 1, by omega, HE.out, ⟨by exact zqf, by exact zqh, by exact zqh, by exact zqh, by rw [Z.out, if_neg (by decide)]; exact zqh⟩⟩
    case measure => simp [intOf] <;> omega
   ·go_wp2_with fail
    (refine (hmu _).mono ?_; rintro e w3 ⟨rfl, hb⟩; replace fa : zqe w3 (w.heap.size) = some (.cells (ints .u64 5 a) 136) := zqc hb (by exact zqh); have lfa := zqa fa; replace fk : zqe w3 (w.heap.size + 1) = some (.cells (ints .u8 32 k) 29) := zqc hb (by exact zqh); have lfk := zqa fk; replace fr : zqe w3 (w.heap.size + 1 + 1) = some (.cells (ints .u64 5 zqd) 136) := zqc hb (by exact zqh); have lfr := zqa fr; replace fp : zqe w3 (w1.heap.size) = some (.cells (ints .u64 5 (mulF (pwF a k c) (pwF a k c))) 136) := zqc hb (by exact zqh); have lfp := zqa fp; replace hG : Below w.heap.size w w3 := Grew.trans (by exact zqf) hb; clear hb)
    go_wp2
    go_roundw
    case rel => exact ⟨c + 1, by omega, HE.out, ⟨by exact zqf, by exact zqh, by exact zqh, by exact zqh, by rw [Z.out]; (first | rw [if_pos rfl] | simp only [if_true]); exact zqh⟩⟩
    case measure => simp [intOf] <;> omega
  ·go_wp2
   refine zqag rfl _ 136 _ (0, 0) _ rfl (zqq _ fr) Tryz.underlying136 rfl (by rw [zqi]; kernel_rfl) rfl ⟨rfl, by exact zqf⟩
def knum (k : Nat -> Int) : Nat -> Nat
 | 0 => 0
 | j + 1 => knum k j + 256 ^ j * (k j).toNat
theorem zqme (k : Nat -> Int) (hk : Bytes 32 k) : ∀ j, j <= 32 -> knum k j < 256 ^ j
 | 0, _ => by simp [knum]
 | j + 1, h => by
  have h1 := zqme k hk j (by omega);have h2 := hk j (by omega);have h3 : (k j).toNat <= 255 := by omega
  have h4 := Nat.mul_le_mul_left (256 ^ j) h3;rw [knum, Nat.pow_succ]
  omega
theorem zqne (k : Nat -> Int) (j : Nat) : ∀ m, j < m -> ∃ r, knum k m = knum k j + 256 ^ j * ((k j).toNat + 256 * r)
 | 0, h => by omega
 | m + 1, h => by
  rcases (by omega : j = m \/ j < m) with rfl | h'
  ·exact ⟨0, by rw [knum]; simp⟩
  ·obtain ⟨r, hr⟩ := zqne k j m h'
   refine ⟨r + 256 ^ (m - j - 1) * (k m).toNat, ?_⟩;rw [knum, hr];have e : 256 ^ m = 256 ^ j * (256 * 256 ^ (m - j - 1)) := by
    rw [<- Nat.pow_succ', <- Nat.pow_add]; congr 1; omega
   rw [e]
   grind
theorem zq0l (k : Nat -> Int) (hk : Bytes 32 k) (j : Nat) (hj : j < 32) : knum k 32 / 256 ^ j % 256 = (k j).toNat := by
 obtain ⟨r, hr⟩ := zqne k j 32 hj;have h1 := zqme k hk j (by omega);have h2 := hk j hj;rw [hr, Nat.add_mul_div_left _ _ (Nat.pow_pos (by decide)), Nat.div_eq_of_lt h1]
 omega
theorem zqua (k : Nat -> Int) (hk : Bytes 32 k) (i : Nat) (hi : i < 256) : (knum k 32 / 2 ^ i % 2 : Nat) = (bitN k i).toNat := by
 have h := zq0l k hk (i / 8) (by omega);have h2 := hk (i / 8) (by omega);unfold bitN;have e : 2 ^ i = 256 ^ (i / 8) * 2 ^ (i % 8) := by
  rw [show (256 : Nat) = 2 ^ 8 from rfl, <- Nat.pow_mul, <- Nat.pow_add]; congr 1; omega
 rw [e, <- Nat.div_div_eq_div_mul];generalize knum k 32 / 256 ^ (i / 8) = X at *;generalize k (i / 8) = y at *
 rcases (by omega : i % 8 = 0 \/ i % 8 = 1 \/ i % 8 = 2 \/ i % 8 = 3 \/ i % 8 = 4 \/ i % 8 = 5 \/ i % 8 = 6 \/ i % 8 = 7) with h' | h' | h' | h' | h' | h' | h' | h' <;> rw [h'] <;> simp only [Nat.reducePow, Int.reducePow] <;> omega
def exN (k : Nat -> Int) : Nat -> Nat
 | 0 => 0
 | c + 1 => 2 * exN k c + (bitN k (255 - c)).toNat
theorem zq73 (k : Nat -> Int) (hk : Bytes 32 k) : ∀ c, c <= 256 -> exN k c = knum k 32 / 2 ^ (256 - c)
 | 0, _ => by
  have := zqme k hk 32 (by omega);rw [exN];exact (Nat.div_eq_of_lt this).symm
 | c + 1, h => by
  have ih := zq73 k hk c (by omega);have hb := zqua k hk (255 - c) (by omega);rw [exN, ih, <- hb, show 256 - (c + 1) = 255 - c by omega, show 256 - c = (255 - c) + 1 by omega, Nat.pow_succ, <- Nat.div_div_eq_div_mul]
  omega
theorem zrb3 (k : Nat -> Int) (hk : Bytes 32 k) : exN k 256 = knum k 32 := by rw [zq73 k hk 256 (by omega)]; simp
theorem zrkm (X y : Int) : (X % 57896044618658097711785492504343953926634992332820282019728792003956564819949 * (X % 57896044618658097711785492504343953926634992332820282019728792003956564819949) * y) % 57896044618658097711785492504343953926634992332820282019728792003956564819949 = (X * X * y) % 57896044618658097711785492504343953926634992332820282019728792003956564819949 := by
 have h : (X % 57896044618658097711785492504343953926634992332820282019728792003956564819949 * (X % 57896044618658097711785492504343953926634992332820282019728792003956564819949)) % 57896044618658097711785492504343953926634992332820282019728792003956564819949 = (X * X) % 57896044618658097711785492504343953926634992332820282019728792003956564819949 := by rw [zql2, zqtu]
 rw [<- zql2 (X % 57896044618658097711785492504343953926634992332820282019728792003956564819949 * (X % 57896044618658097711785492504343953926634992332820282019728792003956564819949)) y, h, zql2]
theorem zre4 (a k : Nat -> Int) : ∀ c, nv (pwF a k c) = nv a ^ exN k c % 57896044618658097711785492504343953926634992332820282019728792003956564819949
 | 0 => by rw [pwF, zq1b, exN, Int.pow_zero]; rfl
 | c + 1 => by
  have ih := zre4 a k c;have e : nv a ^ (2 * exN k c) = nv a ^ exN k c * nv a ^ exN k c := by rw [Nat.two_mul, Int.pow_add]
  rw [pwF, exN]
  rcases zqov k (255 - c) with h | h
  ·rw [if_neg (by rw [h]; decide), h, zql1, ih, zql2, zqtu]
   show _ = nv a ^ (2 * exN k c) % _
   rw [e]
  ·rw [if_pos h, h, zql1, zql1, ih, zql2, zrkm]
   show _ = nv a ^ (2 * exN k c + 1) % _
   rw [Int.pow_succ, e]
theorem zqur (a k : Nat -> Int) (hk : Bytes 32 k) : nv (pwF a k 256) = nv a ^ knum k 32 % 57896044618658097711785492504343953926634992332820282019728792003956564819949 := by
 rw [zre4, zrb3 k hk]
def zqzl : Nat -> Int := keyV (nv (zqaq (minus (upd zqd 0 0) (upd zqd 0 2))))
def invF (a : Nat -> Int) : Nat -> Int := pwF a zqzl 256
theorem zqy8 : knum zqzl 32 = undo := by kernel_rfl
theorem zqlh (a k : Nat -> Int) (ha : zq8 18014398509481984 a) : zq8 18014398509481984 (pwF a k 256) := zqb5 (zqol a k ha 256)
theorem zqgo (a : Nat -> Int) (ha : zq8 18014398509481984 a) : zq8 18014398509481984 (invF a) := zqlh a zqzl ha
theorem zqzk (a : Nat -> Int) : nv (invF a) = nv a ^ undo % 57896044618658097711785492504343953926634992332820282019728792003956564819949 := by
 unfold invF;rw [zqur a zqzl (zqc4 _), zqy8]
set_option maxHeartbeats 400000 in
theorem zqm8 (a : Nat -> Int) (w : World) (ha : zq8 18014398509481984 a) :
  Calls Tryz.prog 120 #[.agg (ints .u64 5 a)] w (Rt w (.agg (ints .u64 5 (invF a)))) := by
 have h0 := zqew 0 (by decide) (by decide);have h2 := zqew 2 (by decide) (by decide);have hp : ∀ w, Calls Tryz.prog 146 #[.agg (ints .u64 5 a), .agg (ints .u8 32 (keyV (nv (zqaq (minus (upd zqd 0 0) (upd zqd 0 2))))))] w (Rt w (.agg (ints .u64 5 (invF a)))) := fun w => zqp3 a zqzl w ha (zqc4 _);have hG := Grew.refl w
 go_enter Tryz.func120, Tryz.ntmps120
 go_wp2_with fail
 ((first | (with_reducible refine zqav 6 zqb zqb zqb zqb zqb ?_) | refine zqan 6 zqb zqb zqb zqb zqb ?_); simp only [List.take_succ_cons, List.take_zero]; (repeat (first | go_big_quiet_skip | (go_big_quiet_want; go_big_quiet_op; first | go_big_quiet_on | (apply Exists.intro; refine ⟨fun _ => ?_, ?_⟩; (focus (first | (with_reducible exact Calls.of_more (zqf0 _ _ (by exact zqa8))) | (with_reducible exact Calls.of_more (add_any _ _ _ (by exact zqa8) (by exact zqa8))) | (with_reducible exact Calls.of_more (zqi8 _ _ _ (by exact zqa8) (by exact zqa8))) | (with_reducible exact Calls.of_more (mul_any _ _ _ (by exact zqa8) (by exact zqa8))) | (with_reducible exact Calls.of_more (zqd0 _ _ (by exact zqa8))) | (with_reducible exact Calls.of_more (times_any _ _ _ (by exact zqa8) ⟨by decide, by decide⟩)) | (with_reducible exact Calls.of_more (zqcq _ _ (by decide) (by decide))) | (with_reducible exact Calls.of_more (zq21 _ _)) | (with_reducible exact Calls.of_more (hp _)))); go_big_quiet_on)))); refine wpQuiet_nil ?_; rintro _ ⟨mq, rfl⟩)
 (refine zqt (i := 6) (fuel := 0) zqb rfl ?_; intro K hK; go_simp; refine hK _ _ ?_; clear hK K)
 (refine wpAny_done zqb ?_ _)
 go_wp2;refine zqag rfl _ 136 _ (0, 0) _ rfl (by simp [go_sem]) Tryz.underlying136 rfl (by rw [zqi]; kernel_rfl) rfl ⟨rfl, by exact zqf⟩
theorem zqpo (a b : Nat -> Int) (w : World) (ha : zq8 18014398509481984 a) (hb : zq8 18014398509481984 b) (h : nv a = nv b) :
  Calls Tryz.prog 258 #[.agg (ints .u64 5 a), .agg (ints .u64 5 b)] w (Rt w (.bool true)) := by
 have := zqxw a b w ha hb;rw [decide_eq_true h] at this;exact this
theorem zq3y : undo = (undo - 1) + 1 := by unfold undo; rfl
theorem inv_zero {a : Nat -> Int} (h : nv a = 0) : nv (invF a) = 0 := by
 rw [zqzk, h, zq3y, Int.pow_succ, Int.mul_zero]; rfl
theorem zrbj {a : Nat -> Int} (h : nv a ≠ 0) : nv a * nv (invF a) % 57896044618658097711785492504343953926634992332820282019728792003956564819949 = 1 := by
 have hb := zq0u a;rw [zqzk, zqtu];exact zqm7 _ (by omega) (by omega)
theorem zq8o {a : Nat -> Int} (h : nv a ≠ 0) : nv (mulF a (invF a)) = nv (upd zqd 0 1) := by
 rw [zql1, zrbj h, zq1b]
theorem zqs8 : nv (mulF (invF (upd zqd 0 2)) (upd zqd 0 2)) = nv (upd zqd 0 1) := by
 have h := zq8o (a := upd zqd 0 2) (by rw [zqos 2 (by decide) (by decide)]; decide);rw [zql1, Int.mul_comm, <- zql1];exact h
theorem zqm0 : Bytes 32 (upd zqd 0 255) := fun i _ => by unfold upd zqd; split <;> omega
theorem zrdt : same 32 (keyV (nv (pwF (upd zqd 0 2) (upd zqd 0 255) 256))) (upd zqd 0 19) = true := by
 have e : nv (pwF (upd zqd 0 2) (upd zqd 0 255) 256) = 19 := by
  rw [zqur _ _ zqm0, show knum (upd zqd 0 255) 32 = 255 by kernel_rfl, zqos 2 (by decide) (by decide)]
  decide +kernel
 have h : same 32 (keyV 19) (upd zqd 0 19) = true := by kernel_rfl
 exact (congrArg (fun x => same 32 (keyV x) (upd zqd 0 19)) e).trans h
set_option maxHeartbeats 1000000 in
theorem zqxu (w : World) :
  Calls Tryz.prog 259 #[] w (Rt w (.bool true)) := by
 have s1 := zrdt;have h2 := zqdb;have hG := Grew.refl w
 go_enter Tryz.func259, Tryz.ntmps259
 go_wp2_with fail
 (refine (zqvy _).mono ?_; rintro e w1 ⟨rfl, hb⟩; replace hG : Below w.heap.size w w1 := Grew.trans (by exact zqf) hb; clear hb)
 go_wp2_with fail
 (refine (zqcq 2 _ (by decide) (by decide)).mono ?_; rintro e w2 ⟨rfl, hb⟩; replace hG : Below w.heap.size w w2 := Grew.trans (by exact zqf) hb; clear hb)
 go_wp2_with fail
 (refine (zqp3 _ _ _ zqdb zqm0).mono ?_; rintro e w3 ⟨rfl, hb⟩; replace hG : Below w.heap.size w w3 := Grew.trans (by exact zqf) hb; clear hb)
 go_wp2_with fail
 (refine (zqf0 _ _ (zqlh _ _ zqdb)).mono ?_; rintro e w4 ⟨rfl, hb⟩; replace hG : Below w.heap.size w w4 := Grew.trans (by exact zqf) hb; clear hb)
 go_wp2_with fail
 (refine (zqcq 2 _ (by decide) (by decide)).mono ?_; rintro e w5 ⟨rfl, hb⟩; replace hG : Below w.heap.size w w5 := Grew.trans (by exact zqf) hb; clear hb)
 go_wp2_with fail
 (refine (zqm8 _ _ zqdb).mono ?_; rintro e w6 ⟨rfl, hb⟩; replace hG : Below w.heap.size w w6 := Grew.trans (by exact zqf) hb; clear hb)
 go_wp2_with fail
 (refine (zqcq 2 _ (by decide) (by decide)).mono ?_; rintro e w7 ⟨rfl, hb⟩; replace hG : Below w.heap.size w w7 := Grew.trans (by exact zqf) hb; clear hb)
 go_wp2_with fail
 (refine (mul_any _ _ _ (zqgo _ zqdb) zqdb).mono ?_; rintro e w8 ⟨rfl, hb⟩; replace hG : Below w.heap.size w w8 := Grew.trans (by exact zqf) hb; clear hb)
 go_wp2_with fail
 (refine (zqcq 1 _ (by decide) (by decide)).mono ?_; rintro e w9 ⟨rfl, hb⟩; replace hG : Below w.heap.size w w9 := Grew.trans (by exact zqf) hb; clear hb)
 go_wp2_with fail
 (refine (zqpo _ _ _ (zqbr _ _ (zqgo _ zqdb) zqdb) zqio zqs8).mono ?_; rintro e w10 ⟨rfl, hb⟩; replace hG : Below w.heap.size w w10 := Grew.trans (by exact zqf) hb; clear hb)
 go_wp2;go_ret;exact ⟨rfl, by exact zqf⟩
end Go.Proofs.YtfglcifnjaknnaaGreatDoor
