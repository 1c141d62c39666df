/- Prime -/

namespace Go.Proofs.YtdoolhbmekahdaaGreatDoor
set_option linter.unusedVariables false
def IsPrime (n : Nat) : Prop := 2 ≤ n ∧ ∀ d, d ∣ n → d = 1 ∨ d = n
def pmf : Nat → Nat → Nat → Nat → Nat
 | 0, _, _, n => 1 % n
 | f + 1, b, e, n => bif e % 2 == 1 then pmf f (b * b % n) (e / 2) n * b % n else pmf f (b * b % n) (e / 2) n
theorem pow_modl (a k n : Nat) : (a % n) ^ k % n = a ^ k % n := (Nat.pow_mod a k n).symm
theorem pmf_is (n : Nat) : ∀ f b e, e < 2 ^ f → pmf f b e n = b ^ e % n
 | 0, b, e, h => by
  obtain rfl : e = 0 := by simpa using h
  simp [pmf]
 | f + 1, b, e, h => by
  have ih := pmf_is n f (b * b % n) (e / 2) (by rw [Nat.pow_succ] at h; omega)
  have e1 : (b * b % n) ^ (e / 2) % n = b ^ (2 * (e / 2)) % n := by
   rw [pow_modl, Nat.pow_mul, Nat.pow_two]
  unfold pmf
  rw [ih, e1]
  by_cases ho : e % 2 = 1
  ·have : (e % 2 == 1) = true := by simp [ho]
   rw [this, cond_true, Nat.mod_mul_mod, ← Nat.pow_succ]
   congr 2; omega
  ·have : (e % 2 == 1) = false := by simp [ho]
   rw [this, cond_false]
   congr 2; omega
theorem least {P : Nat → Prop} [DecidablePred P] : ∀ n, P n → ∃ d, P d ∧ ∀ k, k < d → ¬ P k := by
 intro n
 induction n using Nat.strongRecOn with
 | _ n ih =>
  intro hn
  by_cases h : ∃ k, k < n ∧ P k
  ·obtain ⟨k, hk, hp⟩ := h
   exact ih k hk hp
  ·exact ⟨n, hn, fun k hk hp => h ⟨k, hk, hp⟩⟩
theorem prime_factor : ∀ m, 2 ≤ m → ∃ q, IsPrime q ∧ q ∣ m := by
 intro m
 induction m using Nat.strongRecOn with
 | _ m ih =>
  intro hm
  by_cases h : ∃ d, d ∣ m ∧ d ≠ 1 ∧ d ≠ m
  ·obtain ⟨d, hd, h1, h2⟩ := h
   have hle := Nat.le_of_dvd (by omega) hd
   have h0 : d ≠ 0 := fun e => by subst e; have := Nat.eq_zero_of_zero_dvd hd; omega
   obtain ⟨q, hq, hqd⟩ := ih d (by omega) (by omega)
   exact ⟨q, hq, Nat.dvd_trans hqd hd⟩
  ·refine ⟨m, ⟨hm, fun d hd => ?_⟩, Nat.dvd_refl m⟩
   by_cases h1 : d = 1
   ·exact .inl h1
   ·by_cases h2 : d = m
    ·exact .inr h2
    ·exact absurd ⟨d, hd, h1, h2⟩ h
theorem prime_mul {q a b : Nat} (hq : IsPrime q) (h : q ∣ a * b) : q ∣ a ∨ q ∣ b := by
 by_cases ha : q ∣ a
 ·exact .inl ha
 ·right
  have hg : Nat.gcd q a = 1 := by
   rcases hq.2 _ (Nat.gcd_dvd_left q a) with h1 | h1
   ·exact h1
   ·exact absurd (h1 ▸ Nat.gcd_dvd_right q a) ha
  exact (Nat.Coprime.dvd_of_dvd_mul_left hg h)
theorem prime_list {q : Nat} (hq : IsPrime q) : ∀ L : List Nat, (∀ r ∈ L, IsPrime r) → q ∣ L.foldr (· * ·) 1 → q ∈ L
 | [], _, h => by
  have := Nat.le_of_dvd (by decide) h
  have := hq.1
  simp at *
  omega
 | r :: L, hL, h => by
  rcases prime_mul hq h with h | h
  ·rcases (hL r (by simp)).2 q h with e | e
   ·have := hq.1; omega
   ·simp [e]
  ·exact List.mem_cons_of_mem _ (prime_list hq L (fun r hr => hL r (by simp [hr])) h)
theorem pigeon : ∀ (n : Nat) (f : Nat → Nat), (∀ i, i < n → f i < n) → (∀ i j, i < j → j < n → f i ≠ f j) → ∀ y, y < n → ∃ i, i < n ∧ f i = y := by
 intro n
 induction n with
 | zero => intro f _ _ y hy; omega
 | succ n ih =>
  intro f hf hinj y hy
  -- the value of the last one is taken out
  let g : Nat → Nat := fun i => if f i < f n then f i else f i - 1
  have hg : ∀ i, i < n → g i < n := fun i hi => by
   have h1 := hf i (by omega)
   have h2 := hf n (by omega)
   have h3 := hinj i n hi (by omega)
   simp only [g]
   split <;> omega
  have hgi : ∀ i j, i < j → j < n → g i ≠ g j := fun i j hij hj => by
   have h1 := hinj i j hij (by omega)
   have h2 := hinj i n (by omega) (by omega)
   have h3 := hinj j n (by omega) (by omega)
   simp only [g]
   split <;> split <;> omega
  by_cases hyn : y = f n
  ·exact ⟨n, by omega, hyn.symm⟩
  ·have hfn := hf n (by omega)
   obtain ⟨i, hi, hgy⟩ := ih g hg hgi (if y < f n then y else y - 1) (by split <;> omega)
   refine ⟨i, by omega, ?_⟩
   have h2 := hinj i n hi (by omega)
   simp only [g] at hgy
   revert hgy
   split <;> split <;> omega
section
variable {n g N : Nat}
theorem pow_one_mul (h : g ^ N % n = 1 % n) (k r : Nat) : g ^ (N * k + r) % n = g ^ r % n := by
 rw [Nat.pow_add, Nat.pow_mul, Nat.mul_mod, Nat.pow_mod, h, ← Nat.pow_mod, Nat.one_pow, ← Nat.mul_mod, Nat.one_mul]
theorem ord_dvd {d : Nat} (hd0 : 0 < d) (hd : g ^ d % n = 1 % n) (hmin : ∀ k, k < d → ¬ (0 < k ∧ g ^ k % n = 1 % n)) (k : Nat) (hk : g ^ k % n = 1 % n) : d ∣ k := by
 have h1 : g ^ (k % d) % n = 1 % n := by
  rw [← hk, ← pow_one_mul hd (k / d) (k % d), Nat.div_add_mod]
 by_cases h0 : k % d = 0
 ·exact Nat.dvd_of_mod_eq_zero h0
 ·exact absurd ⟨by omega, h1⟩ (hmin (k % d) (Nat.mod_lt _ hd0))
theorem order (hn : 2 ≤ n) (hN : 0 < N) (h1 : g ^ N % n = 1 % n) (hq : ∀ q, IsPrime q → q ∣ N → g ^ (N / q) % n ≠ 1 % n) : ∀ k, 0 < k → k < N → g ^ k % n ≠ 1 % n := by
 obtain ⟨d, ⟨hd0, hd⟩, hmin⟩ := least (P := fun k => 0 < k ∧ g ^ k % n = 1 % n) N ⟨hN, h1⟩
 obtain ⟨m, hm⟩ := ord_dvd hd0 hd hmin N h1
 have hdN : d = N := by
  rcases Nat.lt_or_ge m 2 with h | h
  ·have : m = 1 := by
    rcases (by omega : m = 0 ∨ m = 1) with e | e
    ·subst e; simp at hm; omega
    ·exact e
   subst this; omega
  ·exfalso
   obtain ⟨q, hqp, c, hc⟩ := prime_factor m h
   have hq0 : 0 < q := by have := hqp.1; omega
   have e : N / q = d * c := by
    rw [hm, hc, show d * (q * c) = q * (d * c) by rw [Nat.mul_left_comm], Nat.mul_div_cancel_left _ hq0]
   refine hq q hqp ⟨d * c, by rw [hm, hc, Nat.mul_left_comm]⟩ ?_
   rw [e]
   have := pow_one_mul hd c 0
   simpa using this
 intro k hk0 hk h
 exact hmin k (by omega) ⟨hk0, h⟩
theorem powers (hn : 2 ≤ n) (hN : N = n - 1) (h1 : g ^ N % n = 1) (hord : ∀ k, 0 < k → k < N → g ^ k % n ≠ 1) : ∀ x, 0 < x → x < n → ∃ i, i < N ∧ g ^ i % n = x := by
 have hone : 1 % n = 1 := Nat.mod_eq_of_lt (by omega)
 have hback : ∀ i, i ≤ N → (g ^ i % n) * (g ^ (N - i) % n) % n = 1 := fun i hi => by
  rw [← Nat.mul_mod, ← Nat.pow_add, show i + (N - i) = N by omega, h1]
 have hpos : ∀ i, i ≤ N → 0 < g ^ i % n := fun i hi => by
  rcases Nat.eq_zero_or_pos (g ^ i % n) with h | h
  ·have := hback i hi
   rw [h, Nat.zero_mul] at this
   simp at this
  ·exact h
 have hdist : ∀ i j, i < j → j < N → g ^ i % n ≠ g ^ j % n := fun i j hij hj he => by
  have h2 := hback i (by omega)
  rw [he, ← Nat.mul_mod, ← Nat.pow_add, show j + (N - i) = N * 1 + (j - i) by omega, pow_one_mul (h1.trans hone.symm)] at h2
  exact hord (j - i) (by omega) (by omega) h2
 intro x hx0 hx
 obtain ⟨i, hi, he⟩ := pigeon N (fun i => g ^ i % n - 1) (fun i hi => by
   have := hpos i (by omega)
   have := Nat.mod_lt (g ^ i) (show n > 0 by omega)
   omega) (fun i j hij hj he => by
   have := hpos i (by omega)
   have := hpos j (by omega)
   exact hdist i j hij hj (by omega)) (x - 1) (by omega)
 refine ⟨i, hi, ?_⟩
 have := hpos i (by omega)
 omega
end
theorem lucas (n g : Nat) (L : List Nat) (h2 : 2 ≤ n) (hl : n < 2 ^ 256) (hL : L.foldr (· * ·) 1 = n - 1) (hp : ∀ q ∈ L, IsPrime q) (h1 : pmf 256 g (n - 1) n = 1) (hq : ∀ q ∈ L, pmf 256 g ((n - 1) / q) n ≠ 1) :
  ∀ x, 0 < x → x < n → ∃ i, i < n - 1 ∧ g ^ i % n = x := by
 have hone : 1 % n = 1 := Nat.mod_eq_of_lt (by omega)
 rw [pmf_is n 256 g (n - 1) (by omega)] at h1
 refine powers h2 rfl h1 ?_
 have := order (n := n) (g := g) (N := n - 1) h2 (by omega) (h1.trans hone.symm) fun q hqp hd => by
  have hm := prime_list hqp L hp (by rw [hL]; exact hd)
  have h3 := hq q hm
  rw [pmf_is n 256 g ((n - 1) / q) (Nat.lt_of_le_of_lt (Nat.div_le_self _ _) (by omega))] at h3
  rw [hone]; exact h3
 intro k hk0 hk
 have := this k hk0 hk
 rw [hone] at this
 exact this
theorem lucas_prime {n g : Nat} (h2 : 2 ≤ n) (h1 : g ^ (n - 1) % n = 1) (h : ∀ x, 0 < x → x < n → ∃ i, i < n - 1 ∧ g ^ i % n = x) : IsPrime n := by
 refine ⟨h2, fun d hd => ?_⟩
 have hle := Nat.le_of_dvd (by omega) hd
 have h0 : d ≠ 0 := fun e => by subst e; have := Nat.eq_zero_of_zero_dvd hd; omega
 by_cases he : d = n
 ·exact .inr he
 ·left
  obtain ⟨i, hi, hx⟩ := h d (by omega) (by omega)
  have h3 : d * (g ^ (n - 1 - i)) % n = 1 := by
   rw [← hx, Nat.mod_mul_mod, ← Nat.pow_add, show i + (n - 1 - i) = n - 1 by omega, h1]
  have h4 : d ∣ d * (g ^ (n - 1 - i)) % n := by
   rw [Nat.dvd_mod_iff hd]
   exact Nat.dvd_mul_right _ _
  rw [h3] at h4
  exact Nat.dvd_one.1 h4
theorem lucas_fermat {n g : Nat} (h2 : 2 ≤ n) (h1 : g ^ (n - 1) % n = 1) (h : ∀ x, 0 < x → x < n → ∃ i, i < n - 1 ∧ g ^ i % n = x) (x : Nat) (hx0 : 0 < x) (hx : x < n) : x ^ (n - 1) % n = 1 := by
 obtain ⟨i, _, rfl⟩ := h x hx0 hx
 rw [pow_modl, ← Nat.pow_mul, Nat.mul_comm, Nat.pow_mul, Nat.pow_mod, h1, Nat.one_pow]
 exact Nat.mod_eq_of_lt (by omega)
theorem small_prime (n s : Nat) (h2 : 2 ≤ n) (hs : n < s * s) (h : (List.range s).all (fun d => decide (d < 2) || n % d != 0) = true) (hsn : s ≤ n) : IsPrime n := by
 have hno : ∀ d, 2 ≤ d → d < s → ¬ d ∣ n := fun d hd hds hdv => by
  have := List.all_eq_true.1 h d (List.mem_range.2 hds)
  simp only [Bool.or_eq_true, decide_eq_true_eq, bne_iff_ne] at this
  rcases this with h' | h'
  ·omega
  ·exact h' (Nat.mod_eq_zero_of_dvd hdv)
 refine ⟨h2, fun d hd => ?_⟩
 obtain ⟨c, hc⟩ := hd
 by_cases h1 : d = 1
 ·exact .inl h1
 ·right
  have hd0 : d ≠ 0 := fun e => by subst e; simp at hc; omega
  have hc0 : c ≠ 0 := fun e => by subst e; simp at hc; omega
  by_cases hds : d < s
  ·exact absurd ⟨c, hc⟩ (hno d (by omega) hds)
  ·by_cases hc1 : c = 1
   ·subst hc1; omega
   ·have hcs : c < s := by
     rcases Nat.lt_or_ge c s with h' | h'
     ·exact h'
     ·have := Nat.mul_le_mul (Nat.le_of_not_lt hds) h'
      omega
    exact absurd ⟨d, by rw [hc, Nat.mul_comm]⟩ (hno c (by omega) hcs)
theorem prime_8574133 : IsPrime 8574133 := small_prime 8574133 2929 (by decide) (by decide) (by decide +kernel) (by decide)
theorem prime_small {n : Nat} (s : Nat) (h : (decide (2 ≤ n) && decide (n < s * s) && decide (s ≤ n) && (List.range s).all (fun d => decide (d < 2) || n % d != 0)) = true) : IsPrime n := by
 simp only [Bool.and_eq_true, decide_eq_true_eq] at h
 exact small_prime n s h.1.1.1 h.1.1.2 h.2 h.1.2
theorem prime_two : IsPrime 2 := ⟨by decide, fun d hd => by have := Nat.le_of_dvd (by decide) hd; rcases (by omega : d = 0 ∨ d = 1 ∨ d = 2) with rfl | rfl | rfl <;> simp_all⟩
theorem prime_three : IsPrime 3 := ⟨by decide, fun d hd => by have := Nat.le_of_dvd (by decide) hd; rcases (by omega : d = 0 ∨ d = 1 ∨ d = 2 ∨ d = 3) with rfl | rfl | rfl | rfl <;> simp_all <;> omega⟩
structure Lucas (n g : Nat) : Prop where
 two : 2 ≤ n
 one : g ^ (n - 1) % n = 1
 all : ∀ x, 0 < x → x < n → ∃ i, i < n - 1 ∧ g ^ i % n = x
theorem lucas_is (n g : Nat) (L : List Nat) (hp : ∀ q ∈ L, IsPrime q) (h : (decide (2 ≤ n) && decide (n < 2 ^ 256) && decide (L.foldr (· * ·) 1 = n - 1) && decide (pmf 256 g (n - 1) n = 1) && L.all fun q => decide (pmf 256 g ((n - 1) / q) n ≠ 1)) = true) :
  Lucas n g := by
 simp only [Bool.and_eq_true, decide_eq_true_eq, List.all_eq_true] at h
 obtain ⟨⟨⟨⟨h2, hl⟩, hL⟩, h1⟩, hq⟩ := h
 refine ⟨h2, ?_, lucas n g L h2 hl hL hp h1 hq⟩
 rw [← pmf_is n 256 g (n - 1) (by omega)]; exact h1
theorem prime_lucas {n : Nat} (g : Nat) (L : List Nat) (hp : ∀ q ∈ L, IsPrime q) (h : (decide (2 ≤ n) && decide (n < 2 ^ 256) && decide (L.foldr (· * ·) 1 = n - 1) && decide (pmf 256 g (n - 1) n = 1) && L.all fun q => decide (pmf 256 g ((n - 1) / q) n ≠ 1)) = true) : IsPrime n := by
 obtain ⟨a, b, c⟩ : Lucas n g := lucas_is n g L hp h
 exact lucas_prime a b c
theorem prime_65147 : IsPrime 65147 := prime_small 256 (by decide +kernel)
theorem prime_353 : IsPrime 353 := prime_small 19 (by decide +kernel)
theorem prime_57467 : IsPrime 57467 := prime_small 240 (by decide +kernel)
theorem prime_132049 : IsPrime 132049 := prime_small 364 (by decide +kernel)
theorem prime_1923133 : IsPrime 1923133 := prime_small 1387 (by decide +kernel)
theorem prime_31 : IsPrime 31 := prime_small 6 (by decide +kernel)
theorem prime_107 : IsPrime 107 := prime_small 11 (by decide +kernel)
theorem prime_223 : IsPrime 223 := prime_small 15 (by decide +kernel)
theorem prime_4153 : IsPrime 4153 := prime_small 65 (by decide +kernel)
theorem prime_430751 : IsPrime 430751 := prime_small 657 (by decide +kernel)
theorem prime_31757755568855353 : IsPrime 31757755568855353 := prime_lucas 10 [2, 2, 2, 3, 31, 107, 223, 4153, 430751] (by
 intro q hq
 simp only [List.mem_cons, List.not_mem_nil, or_false] at hq
 rcases hq with rfl | rfl | rfl | rfl | rfl | rfl | rfl | rfl | rfl
 ·exact prime_two
 ·exact prime_two
 ·exact prime_two
 ·exact prime_three
 ·exact prime_31
 ·exact prime_107
 ·exact prime_223
 ·exact prime_4153
 ·exact prime_430751) (by decide +kernel)
theorem prime_5 : IsPrime 5 := prime_small 3 (by decide +kernel)
theorem prime_75707 : IsPrime 75707 := prime_small 276 (by decide +kernel)
theorem prime_7 : IsPrime 7 := prime_small 3 (by decide +kernel)
theorem prime_19 : IsPrime 19 := prime_small 5 (by decide +kernel)
theorem prime_47 : IsPrime 47 := prime_small 7 (by decide +kernel)
theorem prime_127 : IsPrime 127 := prime_small 12 (by decide +kernel)
theorem prime_1919519569386763 : IsPrime 1919519569386763 := prime_lucas 2 [2, 3, 7, 19, 47, 47, 127, 8574133] (by
 intro q hq
 simp only [List.mem_cons, List.not_mem_nil, or_false] at hq
 rcases hq with rfl | rfl | rfl | rfl | rfl | rfl | rfl | rfl
 ·exact prime_two
 ·exact prime_three
 ·exact prime_7
 ·exact prime_19
 ·exact prime_47
 ·exact prime_47
 ·exact prime_127
 ·exact prime_8574133) (by decide +kernel)
theorem prime_13 : IsPrime 13 := prime_small 4 (by decide +kernel)
theorem prime_2437 : IsPrime 2437 := prime_small 50 (by decide +kernel)
theorem prime_569003 : IsPrime 569003 := prime_small 755 (by decide +kernel)
theorem prime_2773320623 : IsPrime 2773320623 := prime_lucas 5 [2, 2437, 569003] (by
 intro q hq
 simp only [List.mem_cons, List.not_mem_nil, or_false] at hq
 rcases hq with rfl | rfl | rfl
 ·exact prime_two
 ·exact prime_2437
 ·exact prime_569003) (by decide +kernel)
theorem prime_72106336199 : IsPrime 72106336199 := prime_lucas 7 [2, 13, 2773320623] (by
 intro q hq
 simp only [List.mem_cons, List.not_mem_nil, or_false] at hq
 rcases hq with rfl | rfl | rfl
 ·exact prime_two
 ·exact prime_13
 ·exact prime_2773320623) (by decide +kernel)
theorem prime_75445702479781427272750846543864801 : IsPrime 75445702479781427272750846543864801 := prime_lucas 7 [2, 2, 2, 2, 2, 3, 3, 5, 5, 75707, 72106336199, 1919519569386763] (by
 intro q hq
 simp only [List.mem_cons, List.not_mem_nil, or_false] at hq
 rcases hq with rfl | rfl | rfl | rfl | rfl | rfl | rfl | rfl | rfl | rfl | rfl | rfl
 ·exact prime_two
 ·exact prime_two
 ·exact prime_two
 ·exact prime_two
 ·exact prime_two
 ·exact prime_three
 ·exact prime_three
 ·exact prime_5
 ·exact prime_5
 ·exact prime_75707
 ·exact prime_72106336199
 ·exact prime_1919519569386763) (by decide +kernel)
theorem prime_74058212732561358302231226437062788676166966415465897661863160754340907 : IsPrime 74058212732561358302231226437062788676166966415465897661863160754340907 := prime_lucas 2 [2, 3, 353, 57467, 132049, 1923133, 31757755568855353, 75445702479781427272750846543864801] (by
 intro q hq
 simp only [List.mem_cons, List.not_mem_nil, or_false] at hq
 rcases hq with rfl | rfl | rfl | rfl | rfl | rfl | rfl | rfl
 ·exact prime_two
 ·exact prime_three
 ·exact prime_353
 ·exact prime_57467
 ·exact prime_132049
 ·exact prime_1923133
 ·exact prime_31757755568855353
 ·exact prime_75445702479781427272750846543864801) (by decide +kernel)
theorem bigp_lucas : Lucas 57896044618658097711785492504343953926634992332820282019728792003956564819949 2 := lucas_is 57896044618658097711785492504343953926634992332820282019728792003956564819949 2 [2, 2, 3, 65147, 74058212732561358302231226437062788676166966415465897661863160754340907] (by
 intro q hq
 simp only [List.mem_cons, List.not_mem_nil, or_false] at hq
 rcases hq with rfl | rfl | rfl | rfl | rfl
 ·exact prime_two
 ·exact prime_two
 ·exact prime_three
 ·exact prime_65147
 ·exact prime_74058212732561358302231226437062788676166966415465897661863160754340907) (by decide +kernel)
def undo : Nat := 57896044618658097711785492504343953926634992332820282019728792003956564819947
theorem Lucas.undo {n g : Nat} (h : Lucas n g) {e : Nat} (he : e + 1 = n - 1) (x : Nat) (h0 : 0 < x) (hx : x < n) : x * x ^ e % n = 1 := by
 rw [Nat.mul_comm, ← Nat.pow_succ, Nat.succ_eq_add_one, he]
 exact lucas_fermat h.two h.one h.all x h0 hx
theorem Lucas.undo_int {n g : Nat} (h : Lucas n g) {e : Nat} (he : e + 1 = n - 1) (x : Int) (h0 : 0 < x) (hx : x < n) : x * x ^ e % (n : Int) = 1 := by
 obtain ⟨X, rfl⟩ := Int.eq_ofNat_of_zero_le (Int.le_of_lt h0)
 have := h.undo he X (by omega) (by omega)
 exact_mod_cast this
theorem undo_is : undo + 1 = 57896044618658097711785492504343953926634992332820282019728792003956564819949 - 1 := rfl
theorem fermat_int (x : Int) (h0 : 0 < x) (hx : x < 57896044618658097711785492504343953926634992332820282019728792003956564819949) : x * x ^ undo % 57896044618658097711785492504343953926634992332820282019728792003956564819949 = 1 := bigp_lucas.undo_int undo_is x h0 hx
attribute [irreducible] undo
end Go.Proofs.YtdoolhbmekahdaaGreatDoor
