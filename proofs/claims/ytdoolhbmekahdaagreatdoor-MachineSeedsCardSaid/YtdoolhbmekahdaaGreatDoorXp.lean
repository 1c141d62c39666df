/- Xp -/
import Derived.Test.YtdoolhbmekahdaaGreatDoorR9
import Derived.Test.YtdoolhbmekahdaaGreatDoorMa
import Derived.Test.YtdoolhbmekahdaaGreatDoorMat
import Derived.Test.YtdoolhbmekahdaaGreatDoorInv
namespace Go.Proofs.YtdoolhbmekahdaaGreatDoor
namespace Mc
open Go.RowKit
set_option linter.unusedVariables false
set_option linter.unusedSimpArgs false
set_option maxRecDepth 100000
section
variable {T : Nat → Int}
noncomputable def frc {α : Type} (n : Nat) (f : Nat → α) : α := Nat.rec (f 0) (fun m _ => f (Nat.succ m)) n
theorem frc_eq {α : Type} (n : Nat) (f : Nat → α) : frc n f = f n := by cases n <;> rfl
noncomputable def rN (k j x : Nat) : Nat := Nat.add (Nat.div x k) (Nat.mul (Nat.mod x k) j)
noncomputable def s0N (x : Nat) : Nat := Nat.xor (Nat.xor (rN 128 33554432 x) (rN 262144 16384 x)) (Nat.div x 8)
noncomputable def s1N (x : Nat) : Nat := Nat.xor (Nat.xor (rN 131072 32768 x) (rN 524288 8192 x)) (Nat.div x 1024)
noncomputable def g0N (x : Nat) : Nat := Nat.xor (Nat.xor (rN 4 1073741824 x) (rN 8192 524288 x)) (rN 4194304 1024 x)
noncomputable def g1N (x : Nat) : Nat := Nat.xor (Nat.xor (rN 64 67108864 x) (rN 2048 2097152 x)) (rN 33554432 128 x)
noncomputable def chN (e f g : Nat) : Nat := Nat.xor (Nat.land e f) (Nat.land (Nat.sub 4294967295 e) g)
noncomputable def maN (a b c : Nat) : Nat := Nat.lor (Nat.lor (Nat.land a b) (Nat.land a c)) (Nat.land b c)
noncomputable def tabN (n : Nat) : (a b c d e f g h i j k l m o p q : Nat) → List Nat :=
 Nat.rec (fun a b c d e f g h i j k l m o p q => [a, b, c, d, e, f, g, h, i, j, k, l, m, o, p, q])
  (fun _ ih a b c d e f g h i j k l m o p q => a :: frc (Nat.mod (Nat.add (Nat.add (Nat.add (s1N p) j) (s0N b)) a) 4294967296) (fun r => ih b c d e f g h i j k l m o p q r)) n
noncomputable def rndN (l : List Nat) : List Nat → (a b c d e f g h : Nat) → List Nat :=
 List.rec (fun _ a b c d e f g h => [a, b, c, d, e, f, g, h])
  (fun w _ ih ks a b c d e f g h => List.rec [] (fun k ks' _ =>
   frc (Nat.add (Nat.add (Nat.add h (g1N e)) (Nat.add (chN e f g) k)) w) fun t =>
   frc (Nat.mod (Nat.add t (Nat.add (g0N a) (maN a b c))) 4294967296) fun x =>
   frc (Nat.mod (Nat.add d t) 4294967296) fun y => ih ks' x a b c y e f g) ks) l
def kN : List Nat := [1116352408, 1899447441, 3049323471, 3921009573, 961987163, 1508970993, 2453635748, 2870763221, 3624381080, 310598401, 607225278, 1426881987, 1925078388, 2162078206, 2614888103, 3248222580, 3835390401, 4022224774, 264347078, 604807628, 770255983, 1249150122, 1555081692, 1996064986, 2554220882, 2821834349, 2952996808, 3210313671, 3336571891, 3584528711, 113926993, 338241895, 666307205, 773529912, 1294757372, 1396182291, 1695183700, 1986661051, 2177026350, 2456956037, 2730485921, 2820302411, 3259730800, 3345764771, 3516065817, 3600352804, 4094571909, 275423344, 430227734, 506948616, 659060556, 883997877, 958139571, 1322822218, 1537002063, 1747873779, 1955562222, 2024104815, 2227730452, 2361852424, 2428436474, 2756734187, 3204031479, 3329325298]
def addL : List Nat → List Nat → List Nat
 | a :: l, b :: m => Nat.mod (Nat.add a b) 4294967296 :: addL l m
 | _, _ => []
noncomputable def wds (n : Nat) : List Nat → List Nat := Nat.rec (fun _ => []) (fun _ ih l => match l with
 | a :: b :: c :: d :: l => frc (Nat.add (Nat.mul (Nat.add (Nat.mul (Nat.add (Nat.mul a 256) b) 256) c) 256) d) fun w => w :: ih l
 | _ => []) n
noncomputable def frcL {α : Type} (l : List Nat) : (List Nat → α) → α := List.rec (fun f => f []) (fun a _ ih f => frc a fun x => ih fun r => f (x :: r)) l
noncomputable def cmpN (H W : List Nat) : List Nat := match W, H with
 | [a, b, c, d, e, f, g, h, i, j, k, l, m, o, p, q], [A, B, C, D, E, F, G, I] => addL H (rndN (tabN 48 a b c d e f g h i j k l m o p q) kN A B C D E F G I)
 | _, _ => []
noncomputable def goN (n : Nat) : List Nat → List Nat → List Nat := Nat.rec (fun H _ => H) (fun _ ih H l => match l with
 | a :: b :: c :: d :: e :: f :: g :: h :: i :: j :: k :: l :: m :: o :: p :: q :: r => frcL (cmpN H [a, b, c, d, e, f, g, h, i, j, k, l, m, o, p, q]) fun H => ih H r
 | _ => []) n
def sqN : List Nat := [1779033703, 3144134277, 1013904242, 2773480762, 1359893119, 2600822924, 528734635, 1541459225]
def unw : List Nat → List Nat
 | [] => []
 | w :: l => Nat.div w 16777216 :: Nat.mod (Nat.div w 65536) 256 :: Nat.mod (Nat.div w 256) 256 :: Nat.mod w 256 :: unw l
def padN (n : Nat) : List Nat := 128 :: (List.replicate ((119 - n % 64) % 64) 0 ++ [8 * n / 72057594037927936 % 256, 8 * n / 281474976710656 % 256, 8 * n / 1099511627776 % 256, 8 * n / 4294967296 % 256, 8 * n / 16777216 % 256, 8 * n / 65536 % 256, 8 * n / 256 % 256, 8 * n % 256])
noncomputable def shaN (l : List Nat) : List Nat := frc l.length fun n => frc (Nat.div (Nat.add n (9 + (119 - n % 64) % 64)) 64) fun k => unw (goN k sqN (wds (Nat.mul 16 k) (l ++ padN n)))
def shortN (n : Nat) (k h : List Nat) : List Nat := match Nat.ble n 64 with | true => k | false => h
noncomputable def macN (k s : List Nat) : List Nat := frcL (shortN k.length k (shaN k)) fun k => frcL (k ++ List.replicate (64 - k.length) 0) fun b => shaN (b.map (Nat.xor 92) ++ shaN (b.map (Nat.xor 54) ++ s))
noncomputable def labN (n s i : List Nat) : List Nat := macN (macN n s) (i ++ [1])
noncomputable def mulP (a b : Nat) : Nat := Nat.mod (Nat.mul a b) 57896044618658097711785492504343953926634992332820282019728792003956564819949
noncomputable def addP (a b : Nat) : Nat := Nat.add a b
noncomputable def subP (a b : Nat) : Nat := Nat.sub (Nat.add a 115792089237316195423570985008687907853269984665640564039457584007913129639898) b
noncomputable def stpN {α : Type} (u a b c e : Nat) (f : Nat → Nat → Nat → Nat → α) : α :=
 frc (addP a b) fun A => frc (subP a b) fun B => frc (mulP A A) fun AA => frc (mulP B B) fun BB => frc (subP AA BB) fun E =>
 frc (mulP (subP c e) A) fun DA => frc (mulP (addP c e) B) fun CB =>
 frc (addP DA CB) fun x => frc (subP DA CB) fun y =>
 frc (mulP AA BB) fun x2 => frc (mulP E (addP AA (Nat.mul 121665 E))) fun z2 => frc (mulP x x) fun x3 => frc (mulP u (mulP y y)) fun z3 => f x2 z2 x3 z3
noncomputable def ldN {α : Type} (u K : Nat) (n : Nat) : (a b c e : Nat) → (Nat → Nat → α) → α := Nat.rec (fun a b c e f => f a b)
 (fun n ih a b c e f => Nat.rec (stpN u a b c e fun a b c e => ih a b c e f) (fun _ _ => stpN u c e a b fun c e a b => ih a b c e f) (Nat.mod (Nat.shiftRight K n) 2)) n
noncomputable def powN (n : Nat) : Nat → Nat → Nat → Nat := Nat.rec (fun e x r => r) (fun _ ih e x r => frc (mulP x x) fun y => Nat.rec (ih (Nat.div e 2) y r) (fun _ _ => frc (mulP r x) fun s => ih (Nat.div e 2) y s) (Nat.mod e 2)) n
theorem frcL_eq {α : Type} : ∀ (l : List Nat) (f : List Nat → α), frcL l f = f l
 | [], f => rfl
 | a :: l, f => by
  show frc a (fun x => frcL l fun r => f (x :: r)) = _
  rw [frc_eq, frcL_eq l]
theorem rN_is (n : Nat) (hn : n ≤ 32) (x : Nat) (hx : x < 2 ^ 32) : rot (n : Int) (x : Int) = ((rN (2 ^ n) (2 ^ (32 - n)) x : Nat) : Int) ∧ rN (2 ^ n) (2 ^ (32 - n)) x < 2 ^ 32 := rot_nat n hn x hx
theorem xor3 {X Y Z : Int} {x y z : Nat} (hx : X = (x : Int) ∧ x < 2 ^ 32) (hy : Y = (y : Int) ∧ y < 2 ^ 32) (hz : Z = (z : Int) ∧ z < 2 ^ 32) : bits .xor .u32 (bits .xor .u32 X Y) Z = ((Nat.xor (Nat.xor x y) z : Nat) : Int) ∧ Nat.xor (Nat.xor x y) z < 2 ^ 32 := by
 rw [hx.1, hy.1, hz.1, u32_xor _ _ hx.2 hy.2, u32_xor _ _ (Nat.xor_lt_two_pow hx.2 hy.2) hz.2]
 exact ⟨rfl, Nat.xor_lt_two_pow (Nat.xor_lt_two_pow hx.2 hy.2) hz.2⟩
theorem s0N_is {x : Nat} (hx : x < 2 ^ 32) : sm0 (x : Int) = ((s0N x : Nat) : Int) ∧ s0N x < 2 ^ 32 := by
 unfold sm0 s0N
 exact xor3 (rN_is 7 (by decide) x hx) (rN_is 18 (by decide) x hx) ⟨(Int.natCast_ediv x 8).symm, Nat.lt_of_le_of_lt (Nat.div_le_self _ _) hx⟩
theorem s1N_is {x : Nat} (hx : x < 2 ^ 32) : sm1 (x : Int) = ((s1N x : Nat) : Int) ∧ s1N x < 2 ^ 32 := by
 unfold sm1 s1N
 exact xor3 (rN_is 17 (by decide) x hx) (rN_is 19 (by decide) x hx) ⟨(Int.natCast_ediv x 1024).symm, Nat.lt_of_le_of_lt (Nat.div_le_self _ _) hx⟩
theorem g0N_is {x : Nat} (hx : x < 2 ^ 32) : gr0 (x : Int) = ((g0N x : Nat) : Int) ∧ g0N x < 2 ^ 32 := by
 unfold gr0 g0N
 exact xor3 (rN_is 2 (by decide) x hx) (rN_is 13 (by decide) x hx) (rN_is 22 (by decide) x hx)
theorem g1N_is {x : Nat} (hx : x < 2 ^ 32) : gr1 (x : Int) = ((g1N x : Nat) : Int) ∧ g1N x < 2 ^ 32 := by
 unfold gr1 g1N
 exact xor3 (rN_is 6 (by decide) x hx) (rN_is 11 (by decide) x hx) (rN_is 25 (by decide) x hx)
theorem chN_is {e f g : Nat} (he : e < 2 ^ 32) (hf : f < 2 ^ 32) (hg : g < 2 ^ 32) : chs (e : Int) (f : Int) (g : Int) = ((chN e f g : Nat) : Int) := by
 have e1 : (4294967295 - (e : Int)) = ((4294967295 - e : Nat) : Int) := by omega
 have h1 : 4294967295 - e < 2 ^ 32 := by omega
 unfold chs
 rw [e1, u32_and _ _ he hf, u32_and _ _ h1 hg, u32_xor _ _ (Nat.and_lt_two_pow _ hf) (Nat.and_lt_two_pow _ hg)]
 rfl
theorem maN_is {a b c : Nat} (ha : a < 2 ^ 32) (hb : b < 2 ^ 32) (hc : c < 2 ^ 32) : maj (a : Int) (b : Int) (c : Int) = ((maN a b c : Nat) : Int) := by
 have h1 : a &&& b < 2 ^ 32 := Nat.and_lt_two_pow _ hb
 have h2 : a &&& c < 2 ^ 32 := Nat.and_lt_two_pow _ hc
 unfold maj
 rw [u32_and _ _ ha hb, u32_and _ _ ha hc, u32_and _ _ hb hc, u32_or _ _ h1 h2, u32_or _ _ (Nat.or_lt_two_pow h1 h2) (Nat.and_lt_two_pow _ hc)]
 rfl
def Tl (f : Nat → Int) (t : Nat) (l : List Nat) : Prop := ∀ (i x : Nat), l[i]? = some x → f (t + i) = (x : Int) ∧ x < 2 ^ 32
theorem Tl.tail {f : Nat → Int} {t a : Nat} {l : List Nat} (h : Tl f t (a :: l)) : Tl f (t + 1) l := fun i x hx => by
 have := h (i + 1) x (by rw [List.getElem?_cons_succ]; exact hx)
 rw [show t + 1 + i = t + (i + 1) by omega]; exact this
theorem Tl.cons {f : Nat → Int} {t a : Nat} {l : List Nat} (h : Tl f (t + 1) l) (ha : f t = (a : Int) ∧ a < 2 ^ 32) : Tl f t (a :: l) := fun i x hx => by
 cases i with
 | zero => rw [List.getElem?_cons_zero] at hx; cases hx; exact ha
 | succ i =>
  rw [List.getElem?_cons_succ] at hx
  have := h i x hx
  rw [show t + (i + 1) = t + 1 + i by omega]; exact this
theorem Tl.nil {f : Nat → Int} {t : Nat} : Tl f t [] := fun i x hx => by rw [List.getElem?_nil] at hx; cases hx
theorem Tl.put {f : Nat → Int} {t : Nat} {l m : List Nat} (h : Tl f t l) (k : Tl f (t + l.length) m) : Tl f t (l ++ m) := fun i x hx => by
 by_cases hi : i < l.length
 ·rw [List.getElem?_append_left hi] at hx; exact h i x hx
 ·rw [List.getElem?_append_right (by omega)] at hx
  have := k _ x hx
  rw [show t + l.length + (i - l.length) = t + i by omega] at this
  exact this
theorem tab_is {W : Nat → Int} : ∀ (n t : Nat) (a b c d e f g z v u k l m o p q : Nat), (∀ j, t + 16 ≤ j → j < t + 16 + n → W j = (sm1 (W (j - 2)) + W (j - 7) + sm0 (W (j - 15)) + W (j - 16)) % 4294967296) → Tl W t [a, b, c, d, e, f, g, z, v, u, k, l, m, o, p, q] → Tl W t (tabN n a b c d e f g z v u k l m o p q) ∧ (tabN n a b c d e f g z v u k l m o p q).length = n + 16
 | 0, t, a, b, c, d, e, f, g, z, v, u, k, l, m, o, p, q, _, h => ⟨h, rfl⟩
 | n + 1, t, a, b, c, d, e, f, g, z, v, u, k, l, m, o, p, q, hW, h => by
  have h0 := h 0 a rfl
  have h1 := h 1 b rfl
  have h9 := h 9 u rfl
  have h14 := h 14 p rfl
  obtain ⟨r, hr⟩ : ∃ r, r = Nat.mod (Nat.add (Nat.add (Nat.add (s1N p) u) (s0N b)) a) 4294967296 := ⟨_, rfl⟩
  have eq1 : tabN (n + 1) a b c d e f g z v u k l m o p q = a :: tabN n b c d e f g z v u k l m o p q r := by
   show a :: frc _ _ = _
   rw [frc_eq, ← hr]
   rfl
  have hw : W (t + 16) = (r : Int) ∧ r < 2 ^ 32 := by
   have := hW (t + 16) (by omega) (by omega)
   rw [show t + 16 - 2 = t + 14 by omega, show t + 16 - 7 = t + 9 by omega, show t + 16 - 15 = t + 1 by omega, show t + 16 - 16 = t + 0 by omega, h14.1, h9.1, h1.1, h0.1, (s1N_is h14.2).1, (s0N_is h1.2).1] at this
   rw [this, hr]
   show _ = (((s1N p + u + s0N b + a) % 4294967296 : Nat) : Int) ∧ (s1N p + u + s0N b + a) % 4294967296 < 2 ^ 32
   omega
  have ht : Tl W (t + 1) [b, c, d, e, f, g, z, v, u, k, l, m, o, p, q, r] := Tl.put (l := [b, c, d, e, f, g, z, v, u, k, l, m, o, p, q]) h.tail (Tl.cons Tl.nil (by rw [show t + 1 + [b, c, d, e, f, g, z, v, u, k, l, m, o, p, q].length = t + 16 from rfl]; exact hw))
  have ih := tab_is n (t + 1) b c d e f g z v u k l m o p q r (fun j h1 h2 => hW j (by omega) (by omega)) ht
  rw [eq1]
  exact ⟨ih.1.cons h0, by rw [List.length_cons, ih.2]⟩
theorem rnd_is {W v0 : Nat → Int} : ∀ (ws ks : List Nat) (t : Nat) (a b c d e f g z : Nat), Tl W t ws → Tl cubeF t ks → ks.length = ws.length → Tl (runR W v0 t) 0 [a, b, c, d, e, f, g, z] → Tl (runR W v0 (t + ws.length)) 0 (rndN ws ks a b c d e f g z) ∧ (rndN ws ks a b c d e f g z).length = 8
 | [], ks, t, a, b, c, d, e, f, g, z, _, _, _, h => ⟨h, rfl⟩
 | w :: ws, [], t, a, b, c, d, e, f, g, z, _, _, hl, _ => by cases hl
 | w :: ws, k :: ks, t, a, b, c, d, e, f, g, z, hw, hk, hl, hs => by
  have s0 := hs 0 a rfl
  have s1 := hs 1 b rfl
  have s2 := hs 2 c rfl
  have s3 := hs 3 d rfl
  have s4 := hs 4 e rfl
  have s5 := hs 5 f rfl
  have s6 := hs 6 g rfl
  have s7 := hs 7 z rfl
  have hw0 := hw 0 w rfl
  have hk0 := hk 0 k rfl
  obtain ⟨u, hu⟩ : ∃ u, u = Nat.add (Nat.add (Nat.add z (g1N e)) (Nat.add (chN e f g) k)) w := ⟨_, rfl⟩
  obtain ⟨x, hx⟩ : ∃ x, x = Nat.mod (Nat.add u (Nat.add (g0N a) (maN a b c))) 4294967296 := ⟨_, rfl⟩
  obtain ⟨y, hy⟩ : ∃ y, y = Nat.mod (Nat.add d u) 4294967296 := ⟨_, rfl⟩
  have e1 : rndN (w :: ws) (k :: ks) a b c d e f g z = rndN ws ks x a b c y e f g := by
   have eq2 : rndN (w :: ws) (k :: ks) a b c d e f g z = frc (Nat.add (Nat.add (Nat.add z (g1N e)) (Nat.add (chN e f g) k)) w) fun u => frc (Nat.mod (Nat.add u (Nat.add (g0N a) (maN a b c))) 4294967296) fun x => frc (Nat.mod (Nat.add d u) 4294967296) fun y => rndN ws ks x a b c y e f g := rfl
   rw [eq2, frc_eq, frc_eq, frc_eq, ← hu, ← hx, ← hy]
  simp only [Nat.zero_add, Nat.add_zero] at s0 s1 s2 s3 s4 s5 s6 s7 hw0 hk0
  have t1 : tOne W t (runR W v0 t) = ((u % 4294967296 : Nat) : Int) := by
   unfold tOne
   rw [s7.1, s4.1, s5.1, s6.1, hw0.1, hk0.1, (g1N_is s4.2).1, chN_is s4.2 s5.2 s6.2, hu]
   show _ = (((z + g1N e + (chN e f g + k) + w) % 4294967296 : Nat) : Int)
   omega
  have t2 : tTwo (runR W v0 t) = (((g0N a + maN a b c) % 4294967296 : Nat) : Int) := by
   unfold tTwo
   rw [s0.1, s1.1, s2.1, (g0N_is s0.2).1, maN_is s0.2 s1.2 s2.2]
   omega
  have hx1 : x = (u + (g0N a + maN a b c)) % 4294967296 := hx
  have hy1 : y = (d + u) % 4294967296 := hy
  have r : ∀ i, runR W v0 (t + 1) i = if i = 0 then (tOne W t (runR W v0 t) + tTwo (runR W v0 t)) % 4294967296 else if i = 4 then (runR W v0 t 3 + tOne W t (runR W v0 t)) % 4294967296 else runR W v0 t (i - 1) := fun i => rfl
  have hn : Tl (runR W v0 (t + 1)) 0 [x, a, b, c, y, e, f, g] := by
   refine Tl.cons (Tl.cons (Tl.cons (Tl.cons (Tl.cons (Tl.cons (Tl.cons (Tl.cons Tl.nil ?_) ?_) ?_) ?_) ?_) ?_) ?_) ?_ <;> rw [r] <;> simp only [Nat.reduceAdd, Nat.reduceEqDiff, Nat.reduceSub, if_true, if_false, ite_true, ite_false, reduceIte]
   ·exact s6
   ·exact s5
   ·exact s4
   ·rw [t1, s3.1, hy1]; omega
   ·exact s2
   ·exact s1
   ·exact s0
   ·rw [t1, t2, hx1]; omega
  have ih := rnd_is (W := W) (v0 := v0) ws ks (t + 1) x a b c y e f g hw.tail hk.tail (by simpa using hl) hn
  rw [e1, List.length_cons, show t + (ws.length + 1) = t + 1 + ws.length by omega]
  exact ih
theorem kN_is : Tl cubeF 0 kN := fun i x hx => by
 have hi : i < 64 := by
  have : kN.length = 64 := rfl
  rcases Nat.lt_or_ge i 64 with h | h
  ·exact h
  ·rw [List.getElem?_eq_none (by omega)] at hx; cases hx
 have : ∀ i : Fin 64, cubeF (0 + i.val) = ((kN.getD i.val 0 : Nat) : Int) ∧ kN.getD i.val 0 < 2 ^ 32 := by decide +kernel
 have h := this ⟨i, hi⟩
 rw [List.getD_eq_getElem?_getD, hx] at h
 exact h
theorem addL_get : ∀ (l m : List Nat) (i x : Nat), (addL l m)[i]? = some x → ∃ a b, l[i]? = some a ∧ m[i]? = some b ∧ x = (a + b) % 4294967296
 | [], m, i, x, h => by simp [addL] at h
 | a :: l, [], i, x, h => by simp [addL] at h
 | a :: l, b :: m, 0, x, h => by
  simp only [addL, List.getElem?_cons_zero, Option.some.injEq] at h
  exact ⟨a, b, rfl, rfl, h.symm⟩
 | a :: l, b :: m, i + 1, x, h => by
  simp only [addL, List.getElem?_cons_succ] at h
  exact addL_get l m i x h
theorem addL_len : ∀ (l m : List Nat), l.length = m.length → (addL l m).length = l.length
 | [], m, h => rfl
 | a :: l, [], h => by cases h
 | a :: l, b :: m, h => by simp only [addL, List.length_cons]; rw [addL_len l m (by simpa using h)]
theorem sch_at (B : Nat → Int) : ∀ n i, i < n → sch B n i = sch B (i + 1) i
 | 0, i, h => by omega
 | n + 1, i, h => by
  by_cases e : i = n
  ·rw [e]
  ·have : sch B (n + 1) i = sch B n i := by show upd _ _ _ _ = _; unfold upd; rw [if_neg e]
   rw [this, sch_at B n i (by omega)]
theorem sch_is (B : Nat → Int) (n i : Nat) (h : i < n) : sch B n i = nextW B (sch B i) i := by
 rw [sch_at B n i h]
 show upd _ _ _ _ = _
 unfold upd
 rw [if_pos rfl]
theorem sch_next (B : Nat → Int) (j : Nat) (h1 : 16 ≤ j) (h2 : j < 64) : sch B 64 j = (sm1 (sch B 64 (j - 2)) + sch B 64 (j - 7) + sm0 (sch B 64 (j - 15)) + sch B 64 (j - 16)) % 4294967296 := by
 rw [sch_is B 64 j h2]
 unfold nextW
 rw [if_neg (by omega), sch_at B 64 (j - 2) (by omega), sch_at B 64 (j - 7) (by omega), sch_at B 64 (j - 15) (by omega), sch_at B 64 (j - 16) (by omega),
  sch_at B j (j - 2) (by omega), sch_at B j (j - 7) (by omega), sch_at B j (j - 15) (by omega), sch_at B j (j - 16) (by omega)]
theorem sch_first (B : Nat → Int) (j : Nat) (h : j < 16) : sch B 64 j = wd B j := by
 rw [sch_is B 64 j (by omega)]
 unfold nextW
 rw [if_pos h]
theorem cmp_is {H B : Nat → Int} {a b c d e f g z v u k l m o p q A' B' C' D' E' F' G' H' : Nat} (hW : ∀ (i x : Nat), [a, b, c, d, e, f, g, z, v, u, k, l, m, o, p, q][i]? = some x → wd B i = (x : Int) ∧ x < 2 ^ 32) (hH : Tl H 0 [A', B', C', D', E', F', G', H']) :
  Tl (cmp H B) 0 (cmpN [A', B', C', D', E', F', G', H'] [a, b, c, d, e, f, g, z, v, u, k, l, m, o, p, q]) ∧ (cmpN [A', B', C', D', E', F', G', H'] [a, b, c, d, e, f, g, z, v, u, k, l, m, o, p, q]).length = 8 := by
 have h16 : Tl (sch B 64) 0 [a, b, c, d, e, f, g, z, v, u, k, l, m, o, p, q] := fun i x hx => by
  have hi : i < 16 := by
   rcases Nat.lt_or_ge i 16 with h | h
   ·exact h
   ·rw [List.getElem?_eq_none (by simpa using h)] at hx; cases hx
  rw [Nat.zero_add, sch_first B i hi]
  exact hW i x hx
 obtain ⟨t1, t2⟩ := tab_is (W := sch B 64) 48 0 a b c d e f g z v u k l m o p q (fun j h1 h2 => sch_next B j (by omega) (by omega)) h16
 obtain ⟨r1, r2⟩ := rnd_is (W := sch B 64) (v0 := H) _ kN 0 A' B' C' D' E' F' G' H' t1 kN_is (by rw [t2]; rfl) hH
 rw [t2] at r1
 refine ⟨fun i x hx => ?_, ?_⟩
 ·obtain ⟨y, z, hy, hz, rfl⟩ := addL_get _ _ _ _ hx
  have h1 := (hH i y hy).1
  have h2 := (r1 i z hz).1
  unfold cmp
  rw [h1, h2]
  omega
 ·show (addL _ _).length = 8
  rw [addL_len _ _ (by rw [r2]; rfl)]
  rfl
theorem len8 (l : List Nat) (h : l.length = 8) : ∃ a b c d e f g h, l = [a, b, c, d, e, f, g, h] := by
 rcases l with _ | ⟨a, _ | ⟨b, _ | ⟨c, _ | ⟨d, _ | ⟨e, _ | ⟨f, _ | ⟨g, _ | ⟨i, _ | ⟨j, l⟩⟩⟩⟩⟩⟩⟩⟩⟩ <;> first | exact ⟨_, _, _, _, _, _, _, _, rfl⟩ | (simp only [List.length_cons, List.length_nil] at h; omega)
theorem go_is {T : Nat → Int} : ∀ (n j : Nat) (H l : List Nat), Tl (absH (AA T j)) 0 H → H.length = 8 → Tl (wd T) (16 * j) l → l.length = 16 * n → Tl (absH (AA T (j + n))) 0 (goN n H l) ∧ (goN n H l).length = 8
 | 0, j, H, l, hH, h8, _, _ => ⟨hH, h8⟩
 | n + 1, j, H, l, hH, h8, hl, hn => by
  match l, hl, hn with
  | a :: b :: c :: d :: e :: f :: g :: z :: v :: u :: k :: l :: m :: o :: p :: q :: r, hl, hn =>
   obtain ⟨A', B', C', D', E', F', G', H', rfl⟩ := len8 H h8
   have hW : ∀ (i x : Nat), [a, b, c, d, e, f, g, z, v, u, k, l, m, o, p, q][i]? = some x → wd (fun i => T (64 * j + i)) i = (x : Int) ∧ x < 2 ^ 32 := fun i x hx => by
    have hi : i < [a, b, c, d, e, f, g, z, v, u, k, l, m, o, p, q].length := by
     rcases Nat.lt_or_ge i [a, b, c, d, e, f, g, z, v, u, k, l, m, o, p, q].length with h | h
     ·exact h
     ·rw [List.getElem?_eq_none h] at hx; cases hx
    have := hl i x (by rw [show a :: b :: c :: d :: e :: f :: g :: z :: v :: u :: k :: l :: m :: o :: p :: q :: r = [a, b, c, d, e, f, g, z, v, u, k, l, m, o, p, q] ++ r from rfl, List.getElem?_append_left hi]; exact hx)
    have e : wd (fun i => T (64 * j + i)) i = wd T (16 * j + i) := by
     unfold wd
     simp only []
     rw [show 64 * j + 4 * i = 4 * (16 * j + i) by omega, show 64 * j + (4 * i + 1) = 4 * (16 * j + i) + 1 by omega, show 64 * j + (4 * i + 2) = 4 * (16 * j + i) + 2 by omega, show 64 * j + (4 * i + 3) = 4 * (16 * j + i) + 3 by omega]
    rw [e]; exact this
   obtain ⟨c1, c2⟩ := cmp_is hW hH
   have e1 : absH (AA T (j + 1)) = cmp (absH (AA T j)) (fun i => T (64 * j + i)) := absH_thr _ _
   rw [← e1] at c1
   have ht : Tl (wd T) (16 * (j + 1)) r := fun i x hx => by
    have := hl (16 + i) x (by rw [show a :: b :: c :: d :: e :: f :: g :: z :: v :: u :: k :: l :: m :: o :: p :: q :: r = [a, b, c, d, e, f, g, z, v, u, k, l, m, o, p, q] ++ r from rfl, List.getElem?_append_right (by simp)]; simpa using hx)
    rw [show 16 * (j + 1) + i = 16 * j + (16 + i) by omega]; exact this
   have ih := go_is (T := T) n (j + 1) _ r c1 c2 ht (by simp only [List.length_cons] at hn; omega)
   have e2 : goN (n + 1) [A', B', C', D', E', F', G', H'] (a :: b :: c :: d :: e :: f :: g :: z :: v :: u :: k :: l :: m :: o :: p :: q :: r) = goN n (cmpN [A', B', C', D', E', F', G', H'] [a, b, c, d, e, f, g, z, v, u, k, l, m, o, p, q]) r := by
    show frcL _ _ = _
    rw [frcL_eq]
    rfl
   rw [e2, show j + (n + 1) = j + 1 + n by omega]
   exact ih
theorem wds_is {T : Nat → Int} (hT : ∀ i, 0 ≤ T i ∧ T i ≤ 255) : ∀ (n t : Nat) (l : List Nat), (∀ (i x : Nat), l[i]? = some x → T (4 * t + i) = (x : Int)) → l.length = 4 * n → Tl (wd T) t (wds n l) ∧ (wds n l).length = n
 | 0, t, l, h, hn => ⟨Tl.nil, rfl⟩
 | n + 1, t, [], h, hn => by simp at hn
 | n + 1, t, [_], h, hn => by simp at hn; omega
 | n + 1, t, [_, _], h, hn => by simp at hn; omega
 | n + 1, t, [_, _, _], h, hn => by simp at hn; omega
 | n + 1, t, a :: b :: c :: d :: l, h, hn => by
  have ih := wds_is hT n (t + 1) l (fun i x hx => by
   have := h (i + 4) x (by simpa using hx)
   rw [show 4 * (t + 1) + i = 4 * t + (i + 4) by omega]; exact this) (by simp only [List.length_cons] at hn; omega)
  have e : wds (n + 1) (a :: b :: c :: d :: l) = Nat.add (Nat.mul (Nat.add (Nat.mul (Nat.add (Nat.mul a 256) b) 256) c) 256) d :: wds n l := by
   have eq2 : wds (n + 1) (a :: b :: c :: d :: l) = frc (Nat.add (Nat.mul (Nat.add (Nat.mul (Nat.add (Nat.mul a 256) b) 256) c) 256) d) fun w => w :: wds n l := rfl
   rw [eq2, frc_eq]
  rw [e]
  refine ⟨ih.1.cons ?_, by rw [List.length_cons, ih.2]⟩
  have h0 := h 0 a rfl
  have h1 := h 1 b rfl
  have h2 := h 2 c rfl
  have h3 := h 3 d rfl
  have b0 := hT (4 * t + 0)
  have b1 := hT (4 * t + 1)
  have b2 := hT (4 * t + 2)
  have b3 := hT (4 * t + 3)
  rw [h0] at b0; rw [h1] at b1; rw [h2] at b2; rw [h3] at b3
  unfold wd
  rw [show 4 * t = 4 * t + 0 from rfl, h0, show 4 * t + 0 + 1 = 4 * t + 1 from rfl, h1, show 4 * t + 0 + 2 = 4 * t + 2 from rfl, h2, show 4 * t + 0 + 3 = 4 * t + 3 from rfl, h3]
  show _ = ((((a * 256 + b) * 256 + c) * 256 + d : Nat) : Int) ∧ ((a * 256 + b) * 256 + c) * 256 + d < 2 ^ 32
  omega
def bl (s : ByteArray) : List Nat := s.data.toList.map UInt8.toNat
theorem bl_append (a b : ByteArray) : bl (a ++ b) = bl a ++ bl b := by simp [bl]
theorem bl_len (a : ByteArray) : (bl a).length = a.size := by simp [bl]
theorem bl_get (a : ByteArray) (i x : Nat) (h : (bl a)[i]? = some x) : byteAt a i = (x : Int) := by
 unfold bl at h
 rw [byteAt_list]
 rw [List.getElem?_map] at h
 cases e : a.data.toList[i]? with
 | none => rw [e] at h; cases h
 | some b => rw [e] at h; cases h; rfl
theorem bl_zeros (k : Nat) : bl (zerosB k) = List.replicate k 0 := by simp [bl, zeros_list]
theorem bl_str (n : Nat) (f : Nat → Int) (h : Bytes n f) : bl (strOf n f) = (List.range n).map fun i => (f i).toNat := by
 have hl := strOf_list n f
 rw [ByteArray.toList_eq] at hl
 unfold bl
 rw [hl, List.map_map]
 refine List.map_congr_left fun i hi => ?_
 have := h i (List.mem_range.1 hi)
 show (f i).toNat % 256 = _
 omega
theorem bl_pad (n : Nat) : bl (padB n) = padN n := by
 unfold padB padN
 rw [bl_append, bl_append, bl_zeros, bl_str 8 _ (told_bytes n)]
 rw [show bl ⟨#[128]⟩ = [128] from rfl, List.append_assoc, List.singleton_append]
 congr 2
 show [(toldF n 0).toNat, (toldF n 1).toNat, (toldF n 2).toNat, (toldF n 3).toNat, (toldF n 4).toNat, (toldF n 5).toNat, (toldF n 6).toNat, (toldF n 7).toNat] = _
 simp only [List.cons.injEq, and_true]
 refine ⟨?_, ?_, ?_, ?_, ?_, ?_, ?_, ?_⟩
 ·show (8 * (n : Int) / 72057594037927936 % 256).toNat = _; omega
 ·show (8 * (n : Int) / 281474976710656 % 256).toNat = _; omega
 ·show (8 * (n : Int) / 1099511627776 % 256).toNat = _; omega
 ·show (8 * (n : Int) / 4294967296 % 256).toNat = _; omega
 ·show (8 * (n : Int) / 16777216 % 256).toNat = _; omega
 ·show (8 * (n : Int) / 65536 % 256).toNat = _; omega
 ·show (8 * (n : Int) / 256 % 256).toNat = _; omega
 ·show (8 * (n : Int) / 1 % 256).toNat = _; omega
theorem sq_is : Tl (absH (AA T 0)) 0 sqN := fun i x hx => by
 have hi : i < 8 := by
  have : sqN.length = 8 := rfl
  rcases Nat.lt_or_ge i 8 with h | h
  ·exact h
  ·rw [List.getElem?_eq_none (by omega)] at hx; cases hx
 have : ∀ i : Fin 8, (sqF (0 + i.val) + 0) % 4294967296 = ((sqN.getD i.val 0 : Nat) : Int) ∧ sqN.getD i.val 0 < 2 ^ 32 := by decide +kernel
 have h := this ⟨i, hi⟩
 rw [List.getD_eq_getElem?_getD, hx] at h
 exact h
theorem sha_is (s : ByteArray) : bl (strOf 32 (shaF s)) = shaN (bl s) := by
 obtain ⟨n, hn⟩ : ∃ n, n = s.size := ⟨_, rfl⟩
 obtain ⟨k, hk⟩ : ∃ k, k = (n + (9 + (119 - n % 64) % 64)) / 64 := ⟨_, rfl⟩
 have hk64 : n + (9 + (119 - n % 64) % 64) = 64 * k := by omega
 have e : shaN (bl s) = unw (goN k sqN (wds (16 * k) (bl s ++ padN n))) := by
  unfold shaN
  rw [bl_len, frc_eq, frc_eq, ← hn]
  show unw (goN ((n + (9 + (119 - n % 64) % 64)) / 64) sqN (wds (16 * ((n + (9 + (119 - n % 64) % 64)) / 64)) (bl s ++ padN n))) = _
  rw [← hk]
 have hf : bl (fullB s) = bl s ++ padN n := by unfold fullB; rw [bl_append, bl_pad, ← hn]
 have hsz : (fullB s).size = 64 * k := by rw [← bl_len, hf, List.length_append, bl_len, ← bl_pad, bl_len, padB_size, ← hn, hk64]
 obtain ⟨w1, w2⟩ := wds_is (T := byteAt (fullB s)) (fun i => byteAt_bd _ i) (16 * k) 0 (bl s ++ padN n) (fun i x hx => by
  rw [← hf] at hx
  rw [show 4 * 0 + i = i by omega]
  exact bl_get _ _ _ hx) (by rw [← hf, bl_len, hsz]; omega)
 obtain ⟨g1, g2⟩ := go_is (T := byteAt (fullB s)) k 0 sqN _ sq_is rfl w1 w2
 rw [e, bl_str 32 _ (sha_bytes s)]
 have hF : ∀ i, shaF s i = absH (AA (byteAt (fullB s)) (0 + k)) (0 + i / 4) / 2 ^ (24 - i % 4 * 8) % 256 := fun i => by
  unfold shaF
  rw [hsz, Nat.mul_div_cancel_left k (by decide), Nat.zero_add, Nat.zero_add]
 obtain ⟨a, b, c, d, e, f, g, h, he⟩ := len8 _ g2
 rw [he] at g1 ⊢
 have A := g1 0 a rfl
 have B := g1 1 b rfl
 have C := g1 2 c rfl
 have D := g1 3 d rfl
 have E := g1 4 e rfl
 have F := g1 5 f rfl
 have G := g1 6 g rfl
 have H := g1 7 h rfl
 generalize absH (AA (byteAt (fullB s)) (0 + k)) = V at *
 have hw : ∀ (q w : Nat), V (0 + q) = (w : Int) ∧ w < 2 ^ 32 → (shaF s (4 * q)).toNat = Nat.div w 16777216 ∧ (shaF s (4 * q + 1)).toNat = Nat.mod (Nat.div w 65536) 256 ∧ (shaF s (4 * q + 2)).toNat = Nat.mod (Nat.div w 256) 256 ∧ (shaF s (4 * q + 3)).toNat = Nat.mod w 256 := fun q w hw => by
  rw [hF, hF, hF, hF, show 4 * q / 4 = q by omega, show (4 * q + 1) / 4 = q by omega, show (4 * q + 2) / 4 = q by omega, show (4 * q + 3) / 4 = q by omega, show 4 * q % 4 = 0 by omega, show (4 * q + 1) % 4 = 1 by omega, show (4 * q + 2) % 4 = 2 by omega, show (4 * q + 3) % 4 = 3 by omega, hw.1]
  show ((w : Int) / 16777216 % 256).toNat = w / 16777216 ∧ ((w : Int) / 65536 % 256).toNat = w / 65536 % 256 ∧ ((w : Int) / 256 % 256).toNat = w / 256 % 256 ∧ ((w : Int) / 1 % 256).toNat = w % 256
  omega
 have rng : (List.range 32).map (fun i => (shaF s i).toNat) = (List.range 8).flatMap fun q => [(shaF s (4 * q)).toNat, (shaF s (4 * q + 1)).toNat, (shaF s (4 * q + 2)).toNat, (shaF s (4 * q + 3)).toNat] := rfl
 rw [rng]
 have st : ∀ (q w : Nat), V (0 + q) = (w : Int) ∧ w < 2 ^ 32 → [(shaF s (4 * q)).toNat, (shaF s (4 * q + 1)).toNat, (shaF s (4 * q + 2)).toNat, (shaF s (4 * q + 3)).toNat] = unw [w] := fun q w h => by
  obtain ⟨h1, h2, h3, h4⟩ := hw q w h
  rw [h1, h2, h3, h4]
  rfl
 have e8 : ∀ F : Nat → List Nat, (List.range 8).flatMap F = F 0 ++ (F 1 ++ (F 2 ++ (F 3 ++ (F 4 ++ (F 5 ++ (F 6 ++ F 7)))))) := fun F => by simp [show List.range 8 = [0, 1, 2, 3, 4, 5, 6, 7] from rfl]
 rw [e8, st 0 a A, st 1 b B, st 2 c C, st 3 d D, st 4 e E, st 5 f F, st 6 g G, st 7 h H]
 rfl
theorem bl_each (s : ByteArray) (c : Nat) (hc : c < 256) : bl (eachB s c) = (bl s).map (Nat.xor c) := by
 have hb : ∀ (i x : Nat), (bl s)[i]? = some x → eachF s c i = ((Nat.xor c x : Nat) : Int) ∧ Nat.xor c x < 256 := fun i x hx => by
  have h1 := bl_get s i x hx
  have h2 := byteAt_bd s i
  have h3 : x < 256 := by omega
  unfold eachF
  rw [h1, u8_xor x c h3 hc, Nat.xor_comm]
  exact ⟨rfl, Nat.xor_lt_two_pow (n := 8) hc h3⟩
 have hB : Bytes s.size (eachF s c) := fun i hi => by
  have hi' : i < (bl s).length := by rw [bl_len]; exact hi
  have hx : (bl s)[i]? = some (bl s)[i] := List.getElem?_eq_getElem hi'
  have := hb i _ hx
  omega
 unfold eachB
 rw [bl_str _ _ hB]
 apply List.ext_getElem?
 intro i
 rw [List.getElem?_map, List.getElem?_map]
 by_cases hi : i < s.size
 ·have hi' : i < (bl s).length := by rw [bl_len]; exact hi
  have hx : (bl s)[i]? = some (bl s)[i] := List.getElem?_eq_getElem hi'
  rw [List.getElem?_range hi, hx]
  simp only [Option.map_some]
  rw [(hb i _ hx).1]
  rfl
 ·rw [List.getElem?_eq_none (by simpa using hi), List.getElem?_eq_none (by rw [bl_len]; omega)]
  rfl
theorem mac_is (key s : ByteArray) : bl (strOf 32 (macF key s)) = macN (bl key) (bl s) := by
 obtain ⟨k, hk⟩ : ∃ k, k = shortN (bl key).length (bl key) (shaN (bl key)) := ⟨_, rfl⟩
 have h1 : bl (shortB key) = k := by
  unfold shortB
  rw [hk, bl_len]
  unfold shortN
  by_cases h : 64 < key.size
  ·rw [if_pos h, sha_is]
   cases hb : Nat.ble key.size 64 with
   | true => rw [Nat.ble_eq] at hb; omega
   | false => rfl
  ·rw [if_neg h]
   cases hb : Nat.ble key.size 64 with
   | true => rfl
   | false => exact absurd (show Nat.ble key.size 64 = true by rw [Nat.ble_eq]; omega) (by rw [hb]; decide)
 have h2 : bl (blockB key) = k ++ List.replicate (64 - k.length) 0 := by
  unfold blockB
  rw [bl_append, bl_zeros, h1, ← bl_len, h1]
 have e92 : bl (eachB (blockB key) 92) = (bl (blockB key)).map (Nat.xor 92) := bl_each _ 92 (by decide)
 have e54 : bl (eachB (blockB key) 54) = (bl (blockB key)).map (Nat.xor 54) := bl_each _ 54 (by decide)
 unfold macF
 rw [sha_is, bl_append, sha_is, bl_append, e92, e54, h2]
 unfold macN
 rw [frcL_eq, frcL_eq, ← hk]
theorem lab_is (name secret info : ByteArray) : bl (strOf 32 (labelF name secret info)) = labN (bl name) (bl secret) (bl info) := by
 unfold labelF oneF labN
 rw [mac_is, mac_is, bl_append]
 rfl
theorem key_is (f : Nat → Int) (l : List Nat) (hf : Bytes 32 f) (h : bl (strOf 32 f) = l) : ints .u8 32 f = (l.map fun (b : Nat) => Value.int .u8 (b : Int)).toArray := by
 rw [bl_str 32 f hf] at h
 rw [← h, List.map_map]
 unfold ints
 apply Array.ext
 ·simp
 ·intro i h1 h2
  have hi : i < 32 := by simpa using h1
  have := hf i hi
  simp only [Array.getElem_ofFn, List.getElem_toArray, List.getElem_map, List.getElem_range, Function.comp]
  congr 1
  omega
end
open Edw in
theorem red_p (x : Nat) : red ((x % 57896044618658097711785492504343953926634992332820282019728792003956564819949 : Nat) : Int) = red (x : Int) := by
 rw [Int.natCast_emod]
 exact red_mod _
open Edw in
theorem mulP_red (a b : Nat) : red ((mulP a b : Nat) : Int) = red (a : Int) * red (b : Int) := by
 show red ((a * b % 57896044618658097711785492504343953926634992332820282019728792003956564819949 : Nat) : Int) = _
 rw [red_p, Int.natCast_mul, red_mul]
theorem mulP_lt (a b : Nat) : mulP a b < 57896044618658097711785492504343953926634992332820282019728792003956564819949 := Nat.mod_lt _ (by decide)
open Edw in
theorem addP_red (a b : Nat) : red ((addP a b : Nat) : Int) = red (a : Int) + red (b : Int) := by
 show red ((a + b : Nat) : Int) = _
 rw [Int.natCast_add, red_add]
open Edw in
theorem subP_red (a b : Nat) (hb : b < 57896044618658097711785492504343953926634992332820282019728792003956564819949) : red ((subP a b : Nat) : Int) = red (a : Int) - red (b : Int) := by
 have e : ((subP a b : Nat) : Int) = (a : Int) - (b : Int) + 115792089237316195423570985008687907853269984665640564039457584007913129639898 := by
  show ((a + 115792089237316195423570985008687907853269984665640564039457584007913129639898 - b : Nat) : Int) = _
  omega
 rw [← red_sub, e]
 exact (red_eq _ _).2 (by omega)
open Edw in
theorem stpN_is {α : Type} (u a b c e : Nat) (ha : a < 57896044618658097711785492504343953926634992332820282019728792003956564819949) (hb : b < 57896044618658097711785492504343953926634992332820282019728792003956564819949) (hc : c < 57896044618658097711785492504343953926634992332820282019728792003956564819949) (he : e < 57896044618658097711785492504343953926634992332820282019728792003956564819949) (f : Nat → Nat → Nat → Nat → α) :
  ∃ x2 z2 x3 z3, stpN u a b c e f = f x2 z2 x3 z3 ∧ x2 < 57896044618658097711785492504343953926634992332820282019728792003956564819949 ∧ z2 < 57896044618658097711785492504343953926634992332820282019728792003956564819949 ∧ x3 < 57896044618658097711785492504343953926634992332820282019728792003956564819949 ∧ z3 < 57896044618658097711785492504343953926634992332820282019728792003956564819949 ∧ red (x2 : Int) = dblX (red (a : Int)) (red (b : Int)) ∧ red (z2 : Int) = dblZ (red (a : Int)) (red (b : Int)) ∧
   red (x3 : Int) = difX (red (a : Int)) (red (b : Int)) (red (c : Int)) (red (e : Int)) ∧ red (z3 : Int) = difZ (red (u : Int)) (red (a : Int)) (red (b : Int)) (red (c : Int)) (red (e : Int)) := by
 simp only [stpN, frc_eq]
 refine ⟨_, _, _, _, rfl, mulP_lt _ _, mulP_lt _ _, mulP_lt _ _, mulP_lt _ _, ?_, ?_, ?_, ?_⟩
 ·simp only [mulP_red, addP_red, subP_red _ _ hb, dblX]
 ·have e5 : red ((Nat.mul 121665 (subP (mulP (addP a b) (addP a b)) (mulP (subP a b) (subP a b))) : Nat) : Int) = 121665 * red ((subP (mulP (addP a b) (addP a b)) (mulP (subP a b) (subP a b)) : Nat) : Int) := by
   show red ((121665 * subP (mulP (addP a b) (addP a b)) (mulP (subP a b) (subP a b)) : Nat) : Int) = _
   rw [Int.natCast_mul, red_mul]
   congr 1
  rw [mulP_red, addP_red, e5, subP_red _ _ (mulP_lt _ _)]
  simp only [mulP_red, addP_red, subP_red _ _ hb, dblZ, dblE]
 ·simp only [mulP_red, addP_red, subP_red _ _ hb, subP_red _ _ he, subP_red _ _ (mulP_lt _ _), difX]
 ·simp only [mulP_red, addP_red, subP_red _ _ hb, subP_red _ _ he, subP_red _ _ (mulP_lt _ _), difZ]
open Edw in
theorem ldN_is {α : Type} (u K : Nat) (f : Nat → Nat → α) : ∀ (n : Nat) (a b c e : Nat), n ≤ 256 → a < 57896044618658097711785492504343953926634992332820282019728792003956564819949 → b < 57896044618658097711785492504343953926634992332820282019728792003956564819949 → c < 57896044618658097711785492504343953926634992332820282019728792003956564819949 → e < 57896044618658097711785492504343953926634992332820282019728792003956564819949 → Edw.runN (red (u : Int)) K (256 - n) = ⟨red (a : Int), red (b : Int), red (c : Int), red (e : Int)⟩ →
  ∃ x z, ldN u K n a b c e f = f x z ∧ x < 57896044618658097711785492504343953926634992332820282019728792003956564819949 ∧ z < 57896044618658097711785492504343953926634992332820282019728792003956564819949 ∧ red (x : Int) = (Edw.runN (red (u : Int)) K 256).a ∧ red (z : Int) = (Edw.runN (red (u : Int)) K 256).b
 | 0, a, b, c, e, _, ha, hb, hc, he, h => ⟨a, b, rfl, ha, hb, by rw [h], by rw [h]⟩
 | n + 1, a, b, c, e, hn, ha, hb, hc, he, h => by
  have hr : Edw.runN (red (u : Int)) K (256 - n) = Edw.stp (red (u : Int)) (Edw.bitN K n) ⟨red (a : Int), red (b : Int), red (c : Int), red (e : Int)⟩ := by
   rw [show 256 - n = (256 - (n + 1)) + 1 by omega]
   show Edw.stp (red (u : Int)) (Edw.bitN K (255 - (256 - (n + 1)))) (Edw.runN (red (u : Int)) K (256 - (n + 1))) = _
   rw [h, show 255 - (256 - (n + 1)) = n by omega]
  have hm : Nat.mod (Nat.shiftRight K n) 2 = K / 2 ^ n % 2 := by
   show (K >>> n) % 2 = _
   rw [Nat.shiftRight_eq_div_pow]
  have hb01 : K / 2 ^ n % 2 = 0 ∨ K / 2 ^ n % 2 = 1 := Nat.mod_two_eq_zero_or_one _
  rcases hb01 with h0 | h0
  ·have e1 : ldN u K (n + 1) a b c e f = stpN u a b c e fun a b c e => ldN u K n a b c e f := by
    show Nat.rec (motive := fun _ => α) _ _ (Nat.mod (Nat.shiftRight K n) 2) = _
    rw [hm, h0]
    rfl
   have hbit : Edw.bitN K n = false := by unfold Edw.bitN; rw [h0]; rfl
   obtain ⟨x2, z2, x3, z3, e2, l1, l2, l3, l4, r1, r2, r3, r4⟩ := stpN_is u a b c e ha hb hc he (fun a b c e => ldN u K n a b c e f)
   rw [e1, e2]
   exact ldN_is u K f n x2 z2 x3 z3 (by omega) l1 l2 l3 l4 (by rw [hr, hbit, r1, r2, r3, r4]; rfl)
  ·have e1 : ldN u K (n + 1) a b c e f = stpN u c e a b fun c e a b => ldN u K n a b c e f := by
    show Nat.rec (motive := fun _ => α) _ _ (Nat.mod (Nat.shiftRight K n) 2) = _
    rw [hm, h0]
    rfl
   have hbit : Edw.bitN K n = true := by unfold Edw.bitN; rw [h0]; rfl
   obtain ⟨x2, z2, x3, z3, e2, l1, l2, l3, l4, r1, r2, r3, r4⟩ := stpN_is u c e a b hc he ha hb (fun c e a b => ldN u K n a b c e f)
   rw [e1, e2]
   exact ldN_is u K f n x3 z3 x2 z2 (by omega) l3 l4 l1 l2 (by rw [hr, hbit, r1, r2, r3, r4]; rfl)
noncomputable def tvO (K u : Nat) : Option Nat := ldN u K 256 1 0 (Nat.mod u 57896044618658097711785492504343953926634992332820282019728792003956564819949) 1 fun a b => match b with
 | 0 => some 0
 | b + 1 => frc (powN 255 57896044618658097711785492504343953926634992332820282019728792003956564819947 (Nat.succ b) 1) fun t => match Nat.beq (mulP (Nat.succ b) t) 1 with
  | true => some (mulP a t)
  | false => none
open Edw in
theorem gp_zmul (x : Gp) : (0 : Gp) * x = 0 := by grind
open Edw in
theorem tv_is {K u x : Nat} (h : tvO K u = some x) : tv K (u : Int) = (x : Int) := by
 have hu : red ((Nat.mod u 57896044618658097711785492504343953926634992332820282019728792003956564819949 : Nat) : Int) = red (u : Int) := red_p u
 obtain ⟨a, b, e, ha, hb, ra, rb⟩ := ldN_is u K (fun a b => match b with
  | 0 => some 0
  | b + 1 => frc (powN 255 57896044618658097711785492504343953926634992332820282019728792003956564819947 (Nat.succ b) 1) fun t => match Nat.beq (mulP (Nat.succ b) t) 1 with
   | true => some (mulP a t)
   | false => none) 256 1 0 (Nat.mod u 57896044618658097711785492504343953926634992332820282019728792003956564819949) 1 (Nat.le_refl _) (by decide) (by decide) (Nat.mod_lt _ (by decide)) (by decide) (by
    rw [hu, Nat.sub_self]
    show (⟨1, 0, red (u : Int), 1⟩ : Edw.St Gp) = _
    rw [show red ((1 : Nat) : Int) = 1 from red_one, show red ((0 : Nat) : Int) = 0 from red_zero])
 unfold tvO at h
 rw [e] at h
 have ht : tv K (u : Int) = gval (red (a : Int) * finv (red (b : Int))) := by unfold Edw.tv Edw.lad; rw [ra, rb]
 cases b with
 | zero =>
  simp only [Option.some.injEq] at h
  rw [ht, show red ((0 : Nat) : Int) = 0 from red_zero, gp.inv_zero, ← h]
  have : red (a : Int) * 0 = (0 : Gp) := by grind
  rw [this, ← red_zero]
  rfl
 | succ b =>
  simp only [frc_eq] at h
  split at h
  ·rename_i hq
   simp only [Option.some.injEq] at h
   replace hq := Nat.eq_of_beq_eq_true hq
   generalize powN 255 57896044618658097711785492504343953926634992332820282019728792003956564819947 (Nat.succ b) 1 = t at *
   have h1 : red ((b + 1 : Nat) : Int) * red (t : Int) = 1 := by
    rw [← mulP_red, show mulP (b + 1) t = 1 from hq]
    exact red_one
   have hne : red ((b + 1 : Nat) : Int) ≠ 0 := fun e0 => by
    rw [e0] at h1
    exact gp.fld.one (h1.symm.trans (gp_zmul _))
   have h2 := gp.mul_inv _ hne
   have h3 : finv (red ((b + 1 : Nat) : Int)) = red (t : Int) := by
    generalize red ((b + 1 : Nat) : Int) = B at *
    generalize red (t : Int) = T at *
    generalize finv B = I at *
    grind
   rw [ht, h3, ← mulP_red]
   have hl : mulP a t < 57896044618658097711785492504343953926634992332820282019728792003956564819949 := mulP_lt _ _
   rw [← h]
   unfold gval
   rw [gnat_red]
   omega
  ·cases h
end Mc
end Go.Proofs.YtdoolhbmekahdaaGreatDoor
