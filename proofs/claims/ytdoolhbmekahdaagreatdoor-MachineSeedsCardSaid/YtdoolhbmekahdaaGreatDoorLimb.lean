/- Limb -/
import Derived.Test.YtdoolhbmekahdaaGreatDoorMem
import Derived.Test.YtdoolhbmekahdaaGreatDoorBase
namespace Go.Proofs.YtdoolhbmekahdaaGreatDoor
open Go.RowKit
set_option linter.unusedVariables false
set_option linter.unusedSimpArgs false
theorem wraps_u64 (n : Int) (h₀ : 0 ≤ n) (h₁ : n < 2 ^ 64) : IntKind.u64.wrap n = n := by rw [IntKind.wrap_u64]; omega
theorem u64_and51 (x : Int) (h0 : 0 ≤ x) (h1 : x < 2 ^ 64) : bits .and .u64 x 2251799813685247 = x % 2251799813685248 := bits_mask .u64 64 (by decide) wraps_u64 51 (by decide) x h0 h1
def carryF (f : Nat → Int) : Nat → Int := fun i => if i = 0 then f 0 % 2251799813685248 + 19 * (f 4 / 2251799813685248) else f i % 2251799813685248 + f (i - 1) / 2251799813685248
def Under (b : Int) (f : Nat → Int) : Prop := ∀ i, i < 5 → 0 ≤ f i ∧ f i ≤ b
set_option maxHeartbeats 400000 in
theorem carry_any (f : Nat → Int) (w : World) (hf : Under 288230376151711744 f) :
  Calls Tryz.prog 369 #[.agg (ints .u64 5 f)] w fun e w' => e = .returned (.agg (ints .u64 5 (carryF f))) ∧ Below w.heap.size w w' := by
 obtain ⟨a0, b0⟩ := hf 0 (by decide)
 obtain ⟨a1, b1⟩ := hf 1 (by decide)
 obtain ⟨a2, b2⟩ := hf 2 (by decide)
 obtain ⟨a3, b3⟩ := hf 3 (by decide)
 obtain ⟨a4, b4⟩ := hf 4 (by decide)
 have m0 := u64_and51 (f 0) a0 (by omega)
 have m1 := u64_and51 (f 1) a1 (by omega)
 have m2 := u64_and51 (f 2) a2 (by omega)
 have m3 := u64_and51 (f 3) a3 (by omega)
 have m4 := u64_and51 (f 4) a4 (by omega)
 clear hf
 go_enter Tryz.func369, Tryz.ntmps369
 go_wp2
 refine ret_row rfl _ 386 _ (0, 0) _ rfl (by simp [go_sem]; rfl) Tryz.underlying386 rfl (by rw [ints_size]; kernel_rfl) rfl ⟨?_, by exact grew_auto⟩
 congr 2
 refine ints_congr fun i hi => ?_
 rcases (by omega : i = 0 ∨ i = 1 ∨ i = 2 ∨ i = 3 ∨ i = 4) with rfl | rfl | rfl | rfl | rfl <;> rfl
def plus (a b : Nat → Int) : Nat → Int := fun i => a i + b i
set_option maxHeartbeats 400000 in
theorem add_any (a b : Nat → Int) (w : World) (ha : Under 18014398509481984 a) (hb : Under 18014398509481984 b) :
  Calls Tryz.prog 363 #[.agg (ints .u64 5 a), .agg (ints .u64 5 b)] w fun e w' => e = .returned (.agg (ints .u64 5 (carryF (plus a b)))) ∧ Below w.heap.size w w' := by
 have hc : Under 288230376151711744 (plus a b) := fun i hi => by have := ha i hi; have := hb i hi; unfold plus; omega
 go_enter Tryz.func363, Tryz.ntmps363
 go_wp2
 go_loopw [6] (fun i wr => ∃ k : Nat, ∃ m : More, k ≤ 5 ∧ i = .int .i64 k ∧ wr = more (((w.alloc (.cells (ints .u64 5 (mix (plus a b) a k)) 386)).alloc (.cells (ints .u64 5 b) 386)).alloc (.cells (ints .u64 5 nought) 386)) m) (fun i _ => 5 - (intOf i).toNat)
 case atStart => exact ⟨0, _, by omega, rfl, by rw [mix_zero]; exact (more_self _).symm⟩
 case round =>
  obtain ⟨k, m, hk, rfl, rfl⟩ := hrel
  by_cases hlt : k < 5
  ·obtain ⟨a0, a1⟩ := ha k hlt
   obtain ⟨b0, b1⟩ := hb k hlt
   have hm := mix_at (plus a b) a k
   go_wp2
   ((first | (with_reducible refine wp_region_tail_on 8 (by kernel_rfl) (by kernel_rfl) (by kernel_rfl) (by kernel_rfl) (by kernel_rfl) ?_) | refine wp_region_tail_more 8 (by kernel_rfl) (by kernel_rfl) (by kernel_rfl) (by kernel_rfl) (by kernel_rfl) ?_); simp only [List.take_succ_cons, List.take_zero]; (repeat (first | go_big_quiet_skip | (go_big_quiet_want; go_big_quiet_op; first | go_big_quiet_on | (apply Exists.intro; refine ⟨fun _ => ?_, ?_⟩; (focus (fail)); go_big_quiet_on)))); refine wpQuiet_nil ?_; rintro _ ⟨mq, rfl⟩)
   (refine tail_one (i := 8) (fuel := 0) (by kernel_rfl) rfl ?_; intro K hK; go_simp; refine hK _ _ ?_; clear hK K)
   (refine wpAny_done (by kernel_rfl) ?_ _)
   go_wp2
   go_roundw
   case rel => exact ⟨k + 1, _, by omega, by go_num, by rw [← mix_succ]; rfl⟩
   case measure => simp [intOf]; omega
  ·obtain rfl : k = 5 := by omega
   rw [ints_mix]
   have hG := Grew.refl w
   have fr : True := trivial
   go_wp2_with fail
   (refine (carry_any _ _ hc).mono ?_; rintro e w1 ⟨rfl, hb⟩; replace fr : objAt w1 (w.heap.size + 1 + 1) = some (.cells (ints .u64 5 nought) 386) := keep_below hb (by exact keep_auto); have lfr := lt_of_objAt fr; replace hG : Below w.heap.size w w1 := Grew.trans (by exact grew_auto) hb; clear hb)
   go_wp2
   refine ret_row rfl _ 386 _ (0, 0) _ rfl (by simp [go_sem, fr]) Tryz.underlying386 rfl (by rw [ints_size]; kernel_rfl) rfl ⟨rfl, by exact grew_auto⟩
def modl : Nat → Int := fun i => if i = 0 then 2251799813685229 else 2251799813685247
def minus (a b : Nat → Int) : Nat → Int := fun i => a i + (16 * modl i - b i)
theorem modl_lit : ints .u64 5 (upd (upd (upd (upd (upd nought 0 2251799813685229) 1 2251799813685247) 2 2251799813685247) 3 2251799813685247) 4 2251799813685247) = ints .u64 5 modl := by
 refine ints_congr fun i hi => ?_
 rcases (by omega : i = 0 ∨ i = 1 ∨ i = 2 ∨ i = 3 ∨ i = 4) with rfl | rfl | rfl | rfl | rfl <;> rfl
theorem modl_bd (i : Nat) : 2251799813685229 ≤ modl i ∧ modl i ≤ 2251799813685247 := by unfold modl; split <;> omega
set_option maxHeartbeats 400000 in
theorem sub_any (a b : Nat → Int) (w : World) (ha : Under 18014398509481984 a) (hb : Under 18014398509481984 b) :
  Calls Tryz.prog 364 #[.agg (ints .u64 5 a), .agg (ints .u64 5 b)] w fun e w' => e = .returned (.agg (ints .u64 5 (carryF (minus a b)))) ∧ Below w.heap.size w w' := by
 have hc : Under 288230376151711744 (minus a b) := fun i hi => by have := ha i hi; have := hb i hi; have := modl_bd i; unfold minus; omega
 have hl := modl_lit
 go_enter Tryz.func364, Tryz.ntmps364
 go_wp2
 clear hl
 go_loopw [8] (fun i wr => ∃ k : Nat, ∃ m : More, k ≤ 5 ∧ i = .int .i64 k ∧ wr = more ((((w.alloc (.cells (ints .u64 5 (mix (minus a b) a k)) 386)).alloc (.cells (ints .u64 5 b) 386)).alloc (.cells (ints .u64 5 nought) 386)).alloc (.cells (ints .u64 5 modl) 386)) m) (fun i _ => 5 - (intOf i).toNat)
 case atStart => exact ⟨0, _, by omega, rfl, by rw [mix_zero]; exact (more_self _).symm⟩
 case round =>
  obtain ⟨k, m, hk, rfl, rfl⟩ := hrel
  by_cases hlt : k < 5
  ·obtain ⟨a0, a1⟩ := ha k hlt
   obtain ⟨b0, b1⟩ := hb k hlt
   obtain ⟨c0, c1⟩ := modl_bd k
   have hm := mix_at (minus a b) a k
   go_wp2
   ((first | (with_reducible refine wp_region_tail_on 13 (by kernel_rfl) (by kernel_rfl) (by kernel_rfl) (by kernel_rfl) (by kernel_rfl) ?_) | refine wp_region_tail_more 13 (by kernel_rfl) (by kernel_rfl) (by kernel_rfl) (by kernel_rfl) (by kernel_rfl) ?_); simp only [List.take_succ_cons, List.take_zero]; (repeat (first | go_big_quiet_skip | (go_big_quiet_want; go_big_quiet_op; first | go_big_quiet_on | (apply Exists.intro; refine ⟨fun _ => ?_, ?_⟩; (focus (fail)); go_big_quiet_on)))); refine wpQuiet_nil ?_; rintro _ ⟨mq, rfl⟩)
   (refine tail_one (i := 13) (fuel := 0) (by kernel_rfl) rfl ?_; intro K hK; go_simp; refine hK _ _ ?_; clear hK K)
   (refine wpAny_done (by kernel_rfl) ?_ _)
   go_wp2
   go_roundw
   case rel => exact ⟨k + 1, _, by omega, by go_num, by rw [← mix_succ]; rfl⟩
   case measure => simp [intOf]; omega
  ·obtain rfl : k = 5 := by omega
   rw [ints_mix]
   have hG := Grew.refl w
   have fr : True := trivial
   go_wp2_with fail
   (refine (carry_any _ _ hc).mono ?_; rintro e w1 ⟨rfl, hb⟩; replace fr : objAt w1 (w.heap.size + 1 + 1) = some (.cells (ints .u64 5 nought) 386) := keep_below hb (by exact keep_auto); have lfr := lt_of_objAt fr; replace hG : Below w.heap.size w w1 := Grew.trans (by exact grew_auto) hb; clear hb)
   go_wp2
   refine ret_row rfl _ 386 _ (0, 0) _ rfl (by simp [go_sem, fr]) Tryz.underlying386 rfl (by rw [ints_size]; kernel_rfl) rfl ⟨rfl, by exact grew_auto⟩
theorem small_any (n : Int) (w : World) (h0 : 0 ≤ n) (h1 : n ≤ 4294967295) :
  Calls Tryz.prog 342 #[.int .u32 n] w fun e w' => e = .returned (.agg (ints .u64 5 (upd nought 0 n))) ∧ Below w.heap.size w w' := by
 go_enter Tryz.func342, Tryz.ntmps342
 go_wp2
 refine ret_row rfl _ 386 _ (0, 0) _ rfl (by simp [go_sem]) Tryz.underlying386 rfl (by rw [ints_size]; kernel_rfl) rfl ⟨rfl, by exact grew_auto⟩
def overF (g : Nat → Int) : Nat → Int
 | 0 => (g 0 + 19) / 2251799813685248
 | k + 1 => (g (k + 1) + overF g k) / 2251799813685248
def restF (g : Nat → Int) : Nat → Int
 | 0 => 19 * overF g 4
 | k + 1 => (restF g k + g k) / 2251799813685248
def digF (g : Nat → Int) : Nat → Int := fun k => (restF g k + g k) % 2251799813685248
theorem carry_0 (f : Nat → Int) : carryF f 0 = f 0 % 2251799813685248 + 19 * (f 4 / 2251799813685248) := rfl
theorem carry_1 (f : Nat → Int) : carryF f 1 = f 1 % 2251799813685248 + f 0 / 2251799813685248 := rfl
theorem carry_2 (f : Nat → Int) : carryF f 2 = f 2 % 2251799813685248 + f 1 / 2251799813685248 := rfl
theorem carry_3 (f : Nat → Int) : carryF f 3 = f 3 % 2251799813685248 + f 2 / 2251799813685248 := rfl
theorem carry_4 (f : Nat → Int) : carryF f 4 = f 4 % 2251799813685248 + f 3 / 2251799813685248 := rfl
theorem carry_bd (f : Nat → Int) (hf : Under 18014398509481984 f) : ∀ i, i < 5 → 0 ≤ carryF f i ∧ carryF f i ≤ 2251799813685399 := by
 intro i hi
 obtain ⟨a0, b0⟩ := hf 0 (by decide)
 obtain ⟨a1, b1⟩ := hf 1 (by decide)
 obtain ⟨a2, b2⟩ := hf 2 (by decide)
 obtain ⟨a3, b3⟩ := hf 3 (by decide)
 obtain ⟨a4, b4⟩ := hf 4 (by decide)
 rcases (by omega : i = 0 ∨ i = 1 ∨ i = 2 ∨ i = 3 ∨ i = 4) with rfl | rfl | rfl | rfl | rfl
 ·rw [carry_0]; omega
 ·rw [carry_1]; omega
 ·rw [carry_2]; omega
 ·rw [carry_3]; omega
 ·rw [carry_4]; omega
theorem over_bd (g : Nat → Int) (hg : ∀ i, i < 5 → 0 ≤ g i ∧ g i ≤ 2251799813685399) : ∀ k, k < 5 → 0 ≤ overF g k ∧ overF g k ≤ 1 := by
 intro k
 induction k with
 | zero => intro _; have := hg 0 (by decide); unfold overF; omega
 | succ k ih => intro hk; have := ih (by omega); have := hg (k + 1) hk; unfold overF; omega
theorem rest_bd (g : Nat → Int) (hg : ∀ i, i < 5 → 0 ≤ g i ∧ g i ≤ 2251799813685399) : ∀ k, k ≤ 5 → 0 ≤ restF g k ∧ restF g k ≤ 19 := by
 intro k
 induction k with
 | zero => intro _; have := over_bd g hg 4 (by decide); unfold restF; omega
 | succ k ih => intro hk; have := ih (by omega); have := hg k (by omega); unfold restF; omega
set_option maxHeartbeats 400000 in
theorem least_any (f : Nat → Int) (w : World) (hf : Under 18014398509481984 f) :
  Calls Tryz.prog 347 #[.agg (ints .u64 5 f)] w fun e w' => e = .returned (.agg (ints .u64 5 (digF (carryF f)))) ∧ Below w.heap.size w w' := by
 have hc : Under 288230376151711744 f := fun i hi => by have := hf i hi; omega
 have hg := carry_bd f hf
 have ho := over_bd _ hg
 have hr := rest_bd _ hg
 have hG := Grew.refl w
 have fe : True := trivial
 have fr : True := trivial
 go_enter Tryz.func347, Tryz.ntmps347
 go_wp2_with fail
 (refine (carry_any _ _ hc).mono ?_; rintro e w1 ⟨rfl, hb⟩; replace fe : objAt w1 (w.heap.size) = some (.cells (ints .u64 5 f) 386) := keep_below hb (by exact keep_auto); have lfe := lt_of_objAt fe; replace fr : objAt w1 (w.heap.size + 1) = some (.cells (ints .u64 5 nought) 386) := keep_below hb (by exact keep_auto); have lfr := lt_of_objAt fr; replace hG : Below w.heap.size w w1 := Grew.trans (by exact grew_auto) hb; clear hb)
 obtain ⟨a0, b0⟩ := hg 0 (by decide)
 go_wp2
 go_loop [3, 17] (fun o i => ∃ k : Nat, k ≤ 4 ∧ i = .int .i64 k ∧ o = .int .u64 (overF (carryF f) k)) (fun _ i => 4 - (intOf i).toNat)
 case atStart => exact ⟨0, by omega, rfl, rfl⟩
 case round =>
  obtain ⟨k, hk, rfl, rfl⟩ := hrel
  obtain ⟨o0, o1⟩ := ho k (by omega)
  by_cases hlt : k < 4
  ·obtain ⟨c0, c1⟩ := hg (1 + k) (by omega)
   have h5 : 1 + k < 5 := by omega
   go_wp2
   go_round
   case rel => exact ⟨k + 1, by omega, by go_num, by rw [overF, Nat.add_comm k 1]⟩
   case measure => simp [intOf]; omega
  ·obtain rfl : k = 4 := by omega
   clear hlt
   go_wp2
   go_loopw [6, 29] (fun r i wr => ∃ k : Nat, k ≤ 5 ∧ i = .int .i64 k ∧ r = .int .u64 (restF (carryF f) k) ∧ wr = w1.setRow w.heap.size (ints .u64 5 (mix (digF (carryF f)) (carryF f) k))) (fun _ i _ => 5 - (intOf i).toNat)
   case atStart => exact ⟨0, by omega, rfl, rfl, by rw [mix_zero]⟩
   case round =>
    obtain ⟨k, hk, rfl, rfl, rfl⟩ := hrel
    obtain ⟨r0, r1⟩ := hr k (by omega)
    by_cases hlt : k < 5
    ·obtain ⟨c0, c1⟩ := hg k (by omega)
     have m0 := u64_and51 (restF (carryF f) k + carryF f k) (by omega) (by omega)
     go_wp2
     go_roundw
     case rel => exact ⟨k + 1, by omega, by go_num, rfl, by rw [setRow_setRow, ← mix_succ]; rfl⟩
     case measure => simp [intOf]; omega
    ·obtain rfl : k = 5 := by omega
     rw [ints_mix]
     clear hlt
     go_wp2
     refine ret_row rfl _ 386 _ (0, 0) _ rfl (by simp [go_sem, fr]) Tryz.underlying386 rfl (by rw [ints_size]; kernel_rfl) rfl ⟨rfl, by exact grew_auto⟩
def wordD (d : Nat → Int) : Nat → Int := fun j => if j = 0 then (d 0 + d 1 * 2251799813685248) % 18446744073709551616 else if j = 1 then (d 1 / 8192 + d 2 * 274877906944) % 18446744073709551616 else if j = 2 then (d 2 / 67108864 + d 3 * 33554432) % 18446744073709551616 else d 3 / 549755813888 + d 4 * 4096
def keyD (d : Nat → Int) : Nat → Int := fun i => wordD d (i / 8) / 2 ^ (i % 8 * 8) % 256
theorem or_add (i : Nat) (lo hi : Int) (h0 : 0 ≤ lo) (h1 : lo < 2 ^ i) (h2 : 0 ≤ hi) (h3 : hi < 2 ^ 64) (h4 : hi % 2 ^ i = 0) (h5 : lo < 2 ^ 64) : bits .or .u64 lo hi = lo + hi := by
 have e : bits .or .u64 lo hi = bits .or .u64 hi lo := by unfold bits; simp only [BitVec.or_comm]
 rw [e, bits_join .u64 64 (by decide) wraps_u64 i hi lo h2 h4 h3 h0 h1 h5]
 omega
theorem word_lit (d : Nat → Int) (hd : ∀ i, 0 ≤ d i ∧ d i < 2251799813685248) :
  ints .u64 4 (upd (upd (upd (upd nought 0 (bits .or .u64 (d 0) (IntKind.u64.wrap (d 1 * 2251799813685248)))) 1 (bits .or .u64 (d 1 / 8192) (IntKind.u64.wrap (d 2 * 274877906944)))) 2 (bits .or .u64 (d 2 / 67108864) (IntKind.u64.wrap (d 3 * 33554432)))) 3 (bits .or .u64 (d 3 / 549755813888) (d 4 * 4096)))
   = ints .u64 4 (wordD d) := by
 obtain ⟨a0, b0⟩ := hd 0
 obtain ⟨a1, b1⟩ := hd 1
 obtain ⟨a2, b2⟩ := hd 2
 obtain ⟨a3, b3⟩ := hd 3
 obtain ⟨a4, b4⟩ := hd 4
 refine ints_congr fun i hi => ?_
 have u : ∀ (x : Int), IntKind.u64.wrap x = x % 18446744073709551616 := IntKind.wrap_u64
 rcases (by omega : i = 0 ∨ i = 1 ∨ i = 2 ∨ i = 3) with rfl | rfl | rfl | rfl
 ·show bits .or .u64 (d 0) (IntKind.u64.wrap (d 1 * 2251799813685248)) = (d 0 + d 1 * 2251799813685248) % 18446744073709551616
  rw [u, or_add 51 _ _ a0 (by omega) (by omega) (by omega) (by omega) (by omega)]
  omega
 ·show bits .or .u64 (d 1 / 8192) (IntKind.u64.wrap (d 2 * 274877906944)) = (d 1 / 8192 + d 2 * 274877906944) % 18446744073709551616
  rw [u, or_add 38 _ _ (by omega) (by omega) (by omega) (by omega) (by omega) (by omega)]
  omega
 ·show bits .or .u64 (d 2 / 67108864) (IntKind.u64.wrap (d 3 * 33554432)) = (d 2 / 67108864 + d 3 * 33554432) % 18446744073709551616
  rw [u, or_add 25 _ _ (by omega) (by omega) (by omega) (by omega) (by omega) (by omega)]
  omega
 ·show bits .or .u64 (d 3 / 549755813888) (d 4 * 4096) = d 3 / 549755813888 + d 4 * 4096
  rw [or_add 12 _ _ (by omega) (by omega) (by omega) (by omega) (by omega) (by omega)]
theorem word_bd (d : Nat → Int) (hd : ∀ i, 0 ≤ d i ∧ d i < 2251799813685248) (j : Nat) : 0 ≤ wordD d j ∧ wordD d j ≤ 18446744073709551615 := by
 obtain ⟨a3, b3⟩ := hd 3
 obtain ⟨a4, b4⟩ := hd 4
 unfold wordD
 split
 ·omega
 ·split
  ·omega
  ·split <;> omega
theorem dig_lt (g : Nat → Int) (i : Nat) : 0 ≤ digF g i ∧ digF g i < 2251799813685248 := by unfold digF; omega
set_option maxHeartbeats 400000 in
theorem key_any (f : Nat → Int) (w : World) (hf : Under 18014398509481984 f) :
  Calls Tryz.prog 308 #[.agg (ints .u64 5 f)] w fun e w' => e = .returned (.agg (ints .u8 32 (keyD (digF (carryF f))))) ∧ Below w.heap.size w w' := by
 have hd := dig_lt (carryF f)
 have hl := word_lit _ hd
 have hwd := word_bd _ hd
 obtain ⟨a0, b0⟩ := hd 0
 obtain ⟨a1, b1⟩ := hd 1
 obtain ⟨a2, b2⟩ := hd 2
 obtain ⟨a3, b3⟩ := hd 3
 obtain ⟨a4, b4⟩ := hd 4
 clear hd
 have hG := Grew.refl w
 have fe : True := trivial
 have fr : True := trivial
 go_enter Tryz.func308, Tryz.ntmps308
 go_wp2_with fail
 (refine (least_any _ _ hf).mono ?_; rintro e w1 ⟨rfl, hb⟩; replace fe : objAt w1 (w.heap.size) = some (.cells (ints .u64 5 f) 386) := keep_below hb (by exact keep_auto); have lfe := lt_of_objAt fe; replace fr : objAt w1 (w.heap.size + 1) = some (.cells (ints .u8 32 nought) 27) := keep_below hb (by exact keep_auto); have lfr := lt_of_objAt fr; replace hG : Below w.heap.size w w1 := Grew.trans (by exact grew_auto) hb; clear hb)
 go_wp2
 clear hl a0 a1 a2 a3 a4 b0 b1 b2 b3 b4
 go_loopw [36] (fun i wr => ∃ k : Nat, ∃ m : More, k ≤ 32 ∧ i = .int .i64 k ∧ wr = more (((w1.setRow w.heap.size (ints .u64 5 (digF (carryF f)))).alloc (.cells (ints .u64 4 (wordD (digF (carryF f)))) 419)).alloc (.cells (ints .u8 32 (part' (keyD (digF (carryF f))) k)) 27)) m) (fun i _ => 32 - (intOf i).toNat)
 case atStart => exact ⟨0, _, by omega, rfl, by rw [part_zero]; exact (more_self _).symm⟩
 case round =>
  obtain ⟨k, m, hk, rfl, rfl⟩ := hrel
  by_cases hlt : k < 32
  ·have h8 : k / 8 < 4 := by omega
   obtain ⟨c0, c1⟩ := hwd (k / 8)
   go_wp2
   go_roundw
   case rel => exact ⟨k + 1, _, by omega, by go_num, by rw [← part_succ]; rfl⟩
   case measure => simp [intOf]; omega
  ·obtain rfl : k = 32 := by omega
   rw [ints_part]
   clear hlt
   go_wp2
   refine ret_row rfl (w.heap.size + 1) 27 (ints .u8 32 (keyD (digF (carryF f)))) (0, 0) _ rfl ?_ Tryz.underlying27 rfl (by rw [ints_size]; kernel_rfl) rfl ⟨rfl, ?_⟩
   ·exact keep_more _ (keep_alloc _ (keep_alloc _ (keep_row _ (keep_setRow _ _ fr (by simp)))))
   ·refine Grew.more ?_ _
    refine Grew.alloc ?_ _
    refine Grew.alloc ?_ _
    refine Grew.setRow ?_ _ _ (by omega)
    exact Grew.setRow hG _ _ (by omega)
def wsum (k : Nat → Int) (s : Nat) : Nat → Int
 | 0 => 0
 | j + 1 => wsum k s j + k (s + j) * 2 ^ (8 * j)
theorem wsum_bd (k : Nat → Int) (s : Nat) (hk : Bytes 32 k) (hs : s + 8 ≤ 32) : ∀ j, j ≤ 8 → 0 ≤ wsum k s j ∧ wsum k s j < 2 ^ (8 * j) := by
 intro j
 induction j with
 | zero => intro _; simp [wsum]
 | succ j ih =>
  intro hj
  obtain ⟨h0, h1⟩ := ih (by omega)
  obtain ⟨c0, c1⟩ := hk (s + j) (by omega)
  have e : (2 : Int) ^ (8 * (j + 1)) = 256 * 2 ^ (8 * j) := by rw [Nat.mul_add, Int.pow_add]; omega
  have hp : (0 : Int) < 2 ^ (8 * j) := Int.pow_pos (by decide)
  rw [e]
  unfold wsum
  generalize (2 : Int) ^ (8 * j) = m at *
  have hm0 : 0 ≤ k (s + j) * m := Int.mul_nonneg c0 (by omega)
  have hm1 : k (s + j) * m ≤ 255 * m := Int.mul_le_mul_of_nonneg_right c1 (by omega)
  omega
theorem word_step (k : Nat → Int) (s j : Nat) (hk : Bytes 32 k) (hs : s + 8 ≤ 32) (hj : j < 8) : bits .or .u64 (wsum k s j) (IntKind.u64.wrap (k (s + j) * 2 ^ (8 * j))) = wsum k s (j + 1) := by
 obtain ⟨h0, h1⟩ := wsum_bd k s hk hs j (by omega)
 obtain ⟨c0, c1⟩ := hk (s + j) (by omega)
 have hle : (2 : Int) ^ (8 * j) ≤ 2 ^ 56 := by
  rcases (by omega : j = 0 ∨ j = 1 ∨ j = 2 ∨ j = 3 ∨ j = 4 ∨ j = 5 ∨ j = 6 ∨ j = 7) with rfl | rfl | rfl | rfl | rfl | rfl | rfl | rfl <;> decide
 have hp : (0 : Int) < 2 ^ (8 * j) := Int.pow_pos (by decide)
 have hm : k (s + j) * 2 ^ (8 * j) % 2 ^ (8 * j) = 0 := Int.mul_emod_left _ _
 have hm0 : 0 ≤ k (s + j) * 2 ^ (8 * j) := Int.mul_nonneg c0 (by omega)
 have hm1 : k (s + j) * 2 ^ (8 * j) ≤ 255 * 2 ^ (8 * j) := Int.mul_le_mul_of_nonneg_right c1 (by omega)
 have hw : IntKind.u64.wrap (k (s + j) * 2 ^ (8 * j)) = k (s + j) * 2 ^ (8 * j) := wraps_u64 _ hm0 (by omega)
 rw [hw, or_add (8 * j) _ _ h0 h1 hm0 (by omega) hm (by omega)]
 rfl
set_option maxHeartbeats 400000 in
theorem word_any (k : Nat → Int) (s : Nat) (w : World) (hk : Bytes 32 k) (hs : s + 8 ≤ 32) :
  Calls Tryz.prog 346 #[.agg (ints .u8 32 k), .int .i64 s] w fun e w' => e = .returned (.int .u64 (wsum k s 8)) ∧ Below w.heap.size w w' := by
 go_enter Tryz.func346, Tryz.ntmps346
 go_wp2
 go_loop [5, 7] (fun v i => ∃ j : Nat, j ≤ 8 ∧ i = .int .i64 j ∧ v = .int .u64 (wsum k s j)) (fun _ i => 8 - (intOf i).toNat)
 case atStart => exact ⟨0, by omega, rfl, rfl⟩
 case round =>
  obtain ⟨j, hj, rfl, rfl⟩ := hrel
  by_cases hlt : j < 8
  ·have h32 : s + j < 32 := by omega
   obtain ⟨c0, c1⟩ := hk (s + j) h32
   have hw := word_step k s j hk hs hlt
   have H : Hid (bits .or .u64 (wsum k s j) (IntKind.u64.wrap (k (s + j) * 2 ^ (8 * j))) = wsum k s (j + 1)) := hw
   clear hw
   go_wp2
   go_round
   case rel => exact ⟨j + 1, by omega, by go_num, by rw [H.out]⟩
   case measure => simp [intOf]; omega
  ·obtain rfl : j = 8 := by omega
   clear hlt
   go_wp2
   go_ret
   exact ⟨rfl, by exact grew_auto⟩
def ofF (k : Nat → Int) : Nat → Int := fun i => if i = 0 then wsum k 0 8 % 2251799813685248 else if i = 1 then wsum k 6 8 / 8 % 2251799813685248 else if i = 2 then wsum k 12 8 / 64 % 2251799813685248 else if i = 3 then wsum k 19 8 / 2 % 2251799813685248 else wsum k 24 8 / 4096 % 2251799813685248
theorem of_lit (k : Nat → Int) : ints .u64 5 (upd (upd (upd (upd (upd nought 0 (wsum k 0 8 % 2251799813685248)) 1 (wsum k 6 8 / 8 % 2251799813685248)) 2 (wsum k 12 8 / 64 % 2251799813685248)) 3 (wsum k 19 8 / 2 % 2251799813685248)) 4 (wsum k 24 8 / 4096 % 2251799813685248)) = ints .u64 5 (ofF k) := by
 refine ints_congr fun i hi => ?_
 rcases (by omega : i = 0 ∨ i = 1 ∨ i = 2 ∨ i = 3 ∨ i = 4) with rfl | rfl | rfl | rfl | rfl <;> rfl
theorem of_under (k : Nat → Int) (i : Nat) : 0 ≤ ofF k i ∧ ofF k i < 2251799813685248 := by
 unfold ofF
 split
 ·omega
 ·split
  ·omega
  ·split
   ·omega
   ·split <;> omega
set_option maxHeartbeats 400000 in
theorem of_any (k : Nat → Int) (w : World) (hk : Bytes 32 k) :
  Calls Tryz.prog 307 #[.agg (ints .u8 32 k)] w fun e w' => e = .returned (.agg (ints .u64 5 (ofF k))) ∧ Below w.heap.size w w' := by
 obtain ⟨a0, b0⟩ := wsum_bd k 0 hk (by decide) 8 (by decide)
 obtain ⟨a1, b1⟩ := wsum_bd k 6 hk (by decide) 8 (by decide)
 obtain ⟨a2, b2⟩ := wsum_bd k 12 hk (by decide) 8 (by decide)
 obtain ⟨a3, b3⟩ := wsum_bd k 19 hk (by decide) 8 (by decide)
 obtain ⟨a4, b4⟩ := wsum_bd k 24 hk (by decide) 8 (by decide)
 have m0 := u64_and51 (wsum k 0 8) a0 (by omega)
 have m1 := u64_and51 (wsum k 6 8 / 8) (by omega) (by omega)
 have m2 := u64_and51 (wsum k 12 8 / 64) (by omega) (by omega)
 have m3 := u64_and51 (wsum k 19 8 / 2) (by omega) (by omega)
 have m4 := u64_and51 (wsum k 24 8 / 4096) (by omega) (by omega)
 clear b0 b1 b2 b3 b4
 have hl := of_lit k
 go_enter Tryz.func307, Tryz.ntmps307
 go_wp2
 ((first | (with_reducible refine wp_region_tail_on 20 (by kernel_rfl) (by kernel_rfl) (by kernel_rfl) (by kernel_rfl) (by kernel_rfl) ?_) | refine wp_region_tail_more 20 (by kernel_rfl) (by kernel_rfl) (by kernel_rfl) (by kernel_rfl) (by kernel_rfl) ?_); simp only [List.take_succ_cons, List.take_zero]; (repeat (first | go_big_quiet_skip | (go_big_quiet_want; go_big_quiet_op; first | go_big_quiet_on | (apply Exists.intro; refine ⟨fun _ => ?_, ?_⟩; (focus (first | (with_reducible exact Calls.of_more (word_any k 0 _ hk (by decide))) | (with_reducible exact Calls.of_more (word_any k 6 _ hk (by decide))) | (with_reducible exact Calls.of_more (word_any k 12 _ hk (by decide))) | (with_reducible exact Calls.of_more (word_any k 19 _ hk (by decide))) | (with_reducible exact Calls.of_more (word_any k 24 _ hk (by decide))))); go_big_quiet_on)))); refine wpQuiet_nil ?_; rintro _ ⟨mq, rfl⟩)
 (refine tail_one (i := 20) (fuel := 0) (by kernel_rfl) rfl ?_; intro K hK; go_simp; refine hK _ _ ?_; clear hK K)
 (refine wpAny_done (by kernel_rfl) ?_ _)
 go_wp2
 refine ret_row rfl (w.heap.size + 1) 386 (ints .u64 5 (ofF k)) (0, 0) _ rfl (by exact keep_auto) Tryz.underlying386 rfl (by rw [ints_size]; kernel_rfl) rfl ⟨rfl, by exact grew_auto⟩
end Go.Proofs.YtdoolhbmekahdaaGreatDoor
namespace Go.Proofs.YtdoolhbmekahdaaGreatDoor
set_option linter.unusedVariables false
set_option linter.unusedSimpArgs false
def valE (f : Nat → Int) : Int := f 0 + f 1 * 2251799813685248 + f 2 * 5070602400912917605986812821504 + f 3 * 11417981541647679048466287755595961091061972992 + f 4 * 25711008708143844408671393477458601640355247900524685364822016
theorem val_carry (f : Nat → Int) : valE (carryF f) % 57896044618658097711785492504343953926634992332820282019728792003956564819949 = valE f % 57896044618658097711785492504343953926634992332820282019728792003956564819949 := by
 unfold valE
 rw [carry_0, carry_1, carry_2, carry_3, carry_4]
 omega
theorem dig_bd (g : Nat → Int) (i : Nat) : 0 ≤ digF g i ∧ digF g i < 2251799813685248 := by unfold digF; omega
theorem over_val (g : Nat → Int) : ∃ c : Int, valE g + 19 = c + 57896044618658097711785492504343953926634992332820282019728792003956564819968 * overF g 4 ∧ 0 ≤ c ∧ c < 57896044618658097711785492504343953926634992332820282019728792003956564819968 := by
 have h0 : overF g 0 = (g 0 + 19) / 2251799813685248 := rfl
 have h1 : overF g 1 = (g 1 + overF g 0) / 2251799813685248 := rfl
 have h2 : overF g 2 = (g 2 + overF g 1) / 2251799813685248 := rfl
 have h3 : overF g 3 = (g 3 + overF g 2) / 2251799813685248 := rfl
 have h4 : overF g 4 = (g 4 + overF g 3) / 2251799813685248 := rfl
 refine ⟨valE g + 19 - 57896044618658097711785492504343953926634992332820282019728792003956564819968 * overF g 4, by omega, ?_, ?_⟩ <;> unfold valE <;> omega
theorem rest_val (g : Nat → Int) : valE (digF g) + 57896044618658097711785492504343953926634992332820282019728792003956564819968 * restF g 5 = valE g + 19 * overF g 4 := by
 have h0 : restF g 0 = 19 * overF g 4 := rfl
 have h1 : restF g 1 = (restF g 0 + g 0) / 2251799813685248 := rfl
 have h2 : restF g 2 = (restF g 1 + g 1) / 2251799813685248 := rfl
 have h3 : restF g 3 = (restF g 2 + g 2) / 2251799813685248 := rfl
 have h4 : restF g 4 = (restF g 3 + g 3) / 2251799813685248 := rfl
 have h5 : restF g 5 = (restF g 4 + g 4) / 2251799813685248 := rfl
 unfold valE digF
 omega
theorem val_bd (d : Nat → Int) (hd : ∀ i, 0 ≤ d i ∧ d i < 2251799813685248) : 0 ≤ valE d ∧ valE d < 57896044618658097711785492504343953926634992332820282019728792003956564819968 := by
 have := hd 0; have := hd 1; have := hd 2; have := hd 3; have := hd 4
 unfold valE
 omega
theorem val_dig (g : Nat → Int) (hg : ∀ i, i < 5 → 0 ≤ g i ∧ g i ≤ 2251799813685399) : valE (digF g) = valE g % 57896044618658097711785492504343953926634992332820282019728792003956564819949 := by
 obtain ⟨o0, o1⟩ := over_bd g hg 4 (by decide)
 obtain ⟨c, hc, c0, c1⟩ := over_val g
 have hr := rest_val g
 obtain ⟨v0, v1⟩ := val_bd _ (dig_bd g)
 obtain ⟨r0, r1⟩ := rest_bd g hg 5 (by decide)
 have hv : 0 ≤ valE g ∧ valE g < 115792089237316195423570985008687907853269984665640564039457584007913129639898 := by
  have := hg 0 (by decide); have := hg 1 (by decide); have := hg 2 (by decide); have := hg 3 (by decide); have := hg 4 (by decide)
  unfold valE; omega
 rcases (by omega : overF g 4 = 0 ∨ overF g 4 = 1) with h | h <;> rw [h] at hc hr <;> omega
theorem val_least (f : Nat → Int) (hf : Under 18014398509481984 f) : valE (digF (carryF f)) = valE f % 57896044618658097711785492504343953926634992332820282019728792003956564819949 := by
 rw [val_dig _ (carry_bd f hf), val_carry]
def digN (v : Int) : Nat → Int := fun i => if i = 0 then v % 2251799813685248 else if i = 1 then v / 2251799813685248 % 2251799813685248 else if i = 2 then v / 5070602400912917605986812821504 % 2251799813685248 else if i = 3 then v / 11417981541647679048466287755595961091061972992 % 2251799813685248 else v / 25711008708143844408671393477458601640355247900524685364822016 % 2251799813685248
def keyN (v : Int) : Nat → Int := keyD (digN v)
theorem digN_of (d : Nat → Int) (hd : ∀ i, 0 ≤ d i ∧ d i < 2251799813685248) (i : Nat) (hi : i < 5) : d i = digN (valE d) i := by
 obtain ⟨a0, b0⟩ := hd 0
 obtain ⟨a1, b1⟩ := hd 1
 obtain ⟨a2, b2⟩ := hd 2
 obtain ⟨a3, b3⟩ := hd 3
 obtain ⟨a4, b4⟩ := hd 4
 rcases (by omega : i = 0 ∨ i = 1 ∨ i = 2 ∨ i = 3 ∨ i = 4) with rfl | rfl | rfl | rfl | rfl
 ·show d 0 = valE d % 2251799813685248
  unfold valE; omega
 ·show d 1 = valE d / 2251799813685248 % 2251799813685248
  unfold valE; omega
 ·show d 2 = valE d / 5070602400912917605986812821504 % 2251799813685248
  unfold valE; omega
 ·show d 3 = valE d / 11417981541647679048466287755595961091061972992 % 2251799813685248
  unfold valE; omega
 ·show d 4 = valE d / 25711008708143844408671393477458601640355247900524685364822016 % 2251799813685248
  unfold valE; omega
theorem keyD_congr (d e : Nat → Int) (h : ∀ i, i < 5 → d i = e i) : keyD d = keyD e := by
 have hw : wordD d = wordD e := by
  funext j
  unfold wordD
  rw [h 0 (by decide), h 1 (by decide), h 2 (by decide), h 3 (by decide), h 4 (by decide)]
 unfold keyD
 rw [hw]
theorem key_val (f : Nat → Int) (hf : Under 18014398509481984 f) : keyD (digF (carryF f)) = keyN (valE f % 57896044618658097711785492504343953926634992332820282019728792003956564819949) := by
 rw [← val_least f hf]
 exact keyD_congr _ _ (digN_of _ (dig_bd _))
end Go.Proofs.YtdoolhbmekahdaaGreatDoor
