/- The sum of a text, told in words: the table of a block, the rounds, the blocks. -/
import Derived.Test.YtdihaffopfbnnaaDoorSw
namespace Go.Proofs.YtdihaffopfbnnaaDoor
open Go.RowKit
set_option linter.unusedVariables false
set_option linter.unusedSimpArgs false

def cubeL : List Int := [1116352408, 1899447441, 3049323471, 3921009573, 961987163, 1508970993, 2453635748, 2870763221, 3624381080, 310598401, 607225278, 1426881987, 1925078388, 2162078206, 2614888103, 3248222580, 3835390401, 4022224774, 264347078, 604807628, 770255983, 1249150122, 1555081692, 1996064986, 2554220882, 2821834349, 2952996808, 3210313671, 3336571891, 3584528711, 113926993, 338241895, 666307205, 773529912, 1294757372, 1396182291, 1695183700, 1986661051, 2177026350, 2456956037, 2730485921, 2820302411, 3259730800, 3345764771, 3516065817, 3600352804, 4094571909, 275423344, 430227734, 506948616, 659060556, 883997877, 958139571, 1322822218, 1537002063, 1747873779, 1955562222, 2024104815, 2227730452, 2361852424, 2428436474, 2756734187, 3204031479, 3329325298]
def squareL : List Int := [1779033703, 3144134277, 1013904242, 2773480762, 1359893119, 2600822924, 528734635, 1541459225]
def cubeF : Nat → Int := fun i => cubeL.getD i 0
def sqF : Nat → Int := fun i => squareL.getD i 0
/-- each a word -/
def Words (n : Nat) (f : Nat → Int) : Prop := ∀ i, i < n → W32 (f i)
theorem listB {l : List Int} (h : (l.all fun x => decide (0 ≤ x ∧ x < 4294967296)) = true) (i : Nat) : W32 (l.getD i 0) := by
  rw [List.getD_eq_getElem?_getD]
  cases e : l[i]? with
  | none => exact ⟨by decide, by decide⟩
  | some x => exact of_decide_eq_true (p := 0 ≤ x ∧ x < 4294967296) (List.all_eq_true.1 h _ (List.mem_of_getElem? e))
theorem cube_w32 (i : Nat) : W32 (cubeF i) := listB (by decide) i
theorem sq_w32 (i : Nat) : W32 (sqF i) := listB (by decide) i

/-- a word of a block -/
def wd (B : Nat → Int) (t : Nat) : Int := B (4 * t) * 16777216 + B (4 * t + 1) * 65536 + B (4 * t + 2) * 256 + B (4 * t + 3)
def nextW (B w : Nat → Int) (t : Nat) : Int := if t < 16 then wd B t else (sm1 (w (t - 2)) + w (t - 7) + sm0 (w (t - 15)) + w (t - 16)) % 4294967296
def sch (B : Nat → Int) : Nat → Nat → Int
  | 0 => nought
  | t + 1 => upd (sch B t) t (nextW B (sch B t) t)
theorem nextW_w32 (B w : Nat → Int) (hB : Bytes 64 B) (t : Nat) : W32 (nextW B w t) := by
  unfold nextW
  split
  · have := hB (4 * t) (by omega); have := hB (4 * t + 1) (by omega); have := hB (4 * t + 2) (by omega); have := hB (4 * t + 3) (by omega)
    unfold wd W32; omega
  · exact w32_mod _
theorem sch_words (B : Nat → Int) (hB : Bytes 64 B) : ∀ t i, W32 (sch B t i)
  | 0, i => ⟨by simp [sch, nought], by simp [sch, nought]⟩
  | t + 1, i => by
    unfold sch upd
    split
    · exact nextW_w32 B _ hB t
    · exact sch_words B hB t i
theorem wd_or (B : Nat → Int) (hB : Bytes 64 B) (t : Nat) (ht : t < 16) :
    bits .or .u32 (bits .or .u32 (bits .or .u32 (B (4 * t) * 16777216) (B (4 * t + 1) * 65536)) (B (4 * t + 2) * 256)) (B (4 * t + 3)) = wd B t := by
  have h0 := hB (4 * t) (by omega); have h1 := hB (4 * t + 1) (by omega); have h2 := hB (4 * t + 2) (by omega); have h3 := hB (4 * t + 3) (by omega)
  unfold wd
  rw [bits_join .u32 32 (by decide) wraps_u32 24 _ (B (4 * t + 1) * 65536) (by omega) (by omega) (by omega) (by omega) (by omega) (by omega),
    bits_join .u32 32 (by decide) wraps_u32 16 _ (B (4 * t + 2) * 256) (by omega) (by omega) (by omega) (by omega) (by omega) (by omega),
    bits_join .u32 32 (by decide) wraps_u32 8 _ (B (4 * t + 3)) (by omega) (by omega) (by omega) (by omega) (by omega) (by omega)]
/-- choice and majority -/
def chs (e f g : Int) : Int := bits .xor .u32 (bits .and .u32 e f) (bits .and .u32 (4294967295 - e) g)
def maj (a b c : Int) : Int := bits .or .u32 (bits .or .u32 (bits .and .u32 a b) (bits .and .u32 a c)) (bits .and .u32 b c)
theorem u32_not (x : Int) (h : W32 x) : bits .xor .u32 4294967295 x = 4294967295 - x := by
  obtain ⟨a, rfl, ha⟩ := h.nat
  have e : (4294967295 : Nat) ^^^ a = 4294967295 - a := by
    have h1 := @BitVec.toNat_not 32 (BitVec.ofNat 32 a)
    have h2 : (BitVec.ofNat 32 a).toNat = a := by rw [BitVec.toNat_ofNat]; exact Nat.mod_eq_of_lt ha
    rw [h2] at h1
    rw [← BitVec.allOnes_xor, BitVec.toNat_xor, BitVec.toNat_allOnes, h2] at h1
    have h3 : (4294967295 : Nat) = 2 ^ 32 - 1 := by decide
    rw [h3, h1]
  have h := u32_xor 4294967295 a (by decide) ha
  rw [e] at h
  rw [show ((4294967295 : Int)) = ((4294967295 : Nat) : Int) from rfl, h]
  omega
theorem w32_not {x : Int} (h : W32 x) : W32 (4294967295 - x) := ⟨by have := h.2; omega, by have := h.1; omega⟩
theorem w32_chs {e f g : Int} (he : W32 e) (hf : W32 f) (hg : W32 g) : W32 (chs e f g) := w32_xor (w32_and he hf) (w32_and (w32_not he) hg)
theorem w32_maj {a b c : Int} (ha : W32 a) (hb : W32 b) (hc : W32 c) : W32 (maj a b c) := w32_or (w32_or (w32_and ha hb) (w32_and ha hc)) (w32_and hb hc)
theorem maj_xor {a b c : Int} (ha : W32 a) (hb : W32 b) (hc : W32 c) : bits .xor .u32 (bits .xor .u32 (bits .and .u32 a b) (bits .and .u32 a c)) (bits .and .u32 b c) = maj a b c := by
  obtain ⟨x, rfl, hx⟩ := ha.nat
  obtain ⟨y, rfl, hy⟩ := hb.nat
  obtain ⟨z, rfl, hz⟩ := hc.nat
  have h1 : x &&& y < 2 ^ 32 := Nat.and_lt_two_pow _ hy
  have h2 : x &&& z < 2 ^ 32 := Nat.and_lt_two_pow _ hz
  have h3 : y &&& z < 2 ^ 32 := Nat.and_lt_two_pow _ hz
  unfold maj
  rw [u32_and _ _ hx hy, u32_and _ _ hx hz, u32_and _ _ hy hz, u32_xor _ _ h1 h2, u32_or _ _ h1 h2, u32_xor _ _ (Nat.xor_lt_two_pow h1 h2) h3, u32_or _ _ (Nat.or_lt_two_pow h1 h2) h3]
  congr 1
  apply Nat.eq_of_testBit_eq
  intro i
  simp only [Nat.testBit_xor, Nat.testBit_or, Nat.testBit_and]
  cases x.testBit i <;> cases y.testBit i <;> cases z.testBit i <;> rfl
/-- one round -/
def tOne (W : Nat → Int) (t : Nat) (s : Nat → Int) : Int := (s 7 + gr1 (s 4) + chs (s 4) (s 5) (s 6) + cubeF t + W t) % 4294967296
def tTwo (s : Nat → Int) : Int := (gr0 (s 0) + maj (s 0) (s 1) (s 2)) % 4294967296
def rnd (W : Nat → Int) (t : Nat) (s : Nat → Int) : Nat → Int := fun i => if i = 0 then (tOne W t s + tTwo s) % 4294967296 else if i = 4 then (s 3 + tOne W t s) % 4294967296 else s (i - 1)
def runR (W s : Nat → Int) : Nat → Nat → Int
  | 0 => s
  | t + 1 => rnd W t (runR W s t)
theorem runR_words (W s : Nat → Int) (hs : Words 8 s) : ∀ t, Words 8 (runR W s t)
  | 0 => hs
  | t + 1 => fun i hi => by
    unfold runR rnd
    split
    · exact w32_mod _
    · split
      · exact w32_mod _
      · exact runR_words W s hs t _ (by omega)
/-- one block more: of the words themselves, and of what was added to the first ones -/
def cmp (H B : Nat → Int) : Nat → Int := fun i => (H i + runR (sch B 64) H 64 i) % 4294967296
def absH (A : Nat → Int) : Nat → Int := fun i => (sqF i + A i) % 4294967296
def thr (A B : Nat → Int) : Nat → Int := fun i => (A i + runR (sch B 64) (absH A) 64 i) % 4294967296
theorem absH_words (A : Nat → Int) : Words 8 (absH A) := fun i _ => w32_mod _
theorem absH_thr (A B : Nat → Int) : absH (thr A B) = cmp (absH A) B := by
  funext i
  show (sqF i + (A i + runR (sch B 64) (absH A) 64 i) % 4294967296) % 4294967296 = ((sqF i + A i) % 4294967296 + runR (sch B 64) (absH A) 64 i) % 4294967296
  omega
theorem ret_u32 {x y : Int} (h : x = y) : Ending.returned (.int .u32 x) = .returned (.int .u32 y) := by rw [h]
theorem tOne_is (W : Nat → Int) (t : Nat) (s : Nat → Int) : ((s 7 + gr1 (s 4) + chs (s 4) (s 5) (s 6) + cubeF t) % 4294967296 + W t) % 4294967296 = tOne W t s := by unfold tOne; omega
theorem tTwo_is (s : Nat → Int) : (gr0 (s 0) + maj (s 0) (s 1) (s 2)) % 4294967296 = tTwo s := rfl
theorem w32_tOne (W : Nat → Int) (t : Nat) (s : Nat → Int) : W32 (tOne W t s) := w32_mod _
theorem w32_tTwo (s : Nat → Int) : W32 (tTwo s) := w32_mod _
attribute [irreducible] chs maj tOne tTwo
end Go.Proofs.YtdihaffopfbnnaaDoor
