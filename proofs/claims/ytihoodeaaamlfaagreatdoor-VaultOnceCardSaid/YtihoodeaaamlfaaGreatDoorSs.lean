/- Ss -/
import Derived.Test.YtihoodeaaamlfaaGreatDoorSq
import Derived.Laws.Bits64b
import Derived.Lib.BitFns
import Derived.Deep.LoopGhost
import Derived.Deep.CutRange
set_option linter.unusedVariables false
set_option linter.unusedSimpArgs false
set_option maxRecDepth 100000
set_option maxHeartbeats 4000000
namespace Go.Proofs.YtihoodeaaamlfaaGreatDoor
open Go.RowKit
def RndAt (w : World) (s : Nat) (x : Nat) : Prop := objAt w s = some (.cells #[.int .u64 (x : Int)] 125)
theorem zqbk (s X : Nat) (w : World) (hs : RndAt w s X) (hX : X < 18446744073709551616) :
  Calls Tryz.prog 65 #[.pointer (some ⟨s, 0, none⟩)] w fun r w' => ∃ Y : Nat, r = .returned (.int .u64 (Y : Int)) /\ Y < 18446744073709551616 /\ RndAt w' s Y /\ Kept s s w w' := by
 obtain ⟨A, hA⟩ : ∃ A : Nat, A = X ^^^ (X * 8192 % 18446744073709551616) := ⟨_, rfl⟩
 obtain ⟨B, hB⟩ : ∃ B : Nat, B = A ^^^ (A / 128) := ⟨_, rfl⟩
 obtain ⟨C, hC⟩ : ∃ C : Nat, C = B ^^^ (B * 131072 % 18446744073709551616) := ⟨_, rfl⟩
 have lA : A < 18446744073709551616 := by rw [hA]; exact Nat.xor_lt_two_pow (n := 64) (by omega) (by omega)
 have lB : B < 18446744073709551616 := by rw [hB]; exact Nat.xor_lt_two_pow (n := 64) (by omega) (by omega)
 have lC : C < 18446744073709551616 := by rw [hC]; exact Nat.xor_lt_two_pow (n := 64) (by omega) (by omega)
 have e1 : bits .xor .u64 (X : Int) (IntKind.u64.wrap ((X : Int) * 8192)) = (A : Int) := by
  rw [IntKind.wrap_u64, show ((X : Int) * 8192 % 18446744073709551616) = ((X * 8192 % 18446744073709551616 : Nat) : Int) by omega, bits_xor_u64_nat _ _ hX (by omega), hA]
 have e2 : bits .xor .u64 (A : Int) ((A : Int) / 128) = (B : Int) := by
  rw [show ((A : Int) / 128) = ((A / 128 : Nat) : Int) by omega, bits_xor_u64_nat _ _ lA (by omega), hB]
 have e3 : bits .xor .u64 (B : Int) (IntKind.u64.wrap ((B : Int) * 131072)) = (C : Int) := by
  rw [IntKind.wrap_u64, show ((B : Int) * 131072 % 18446744073709551616) = ((B * 131072 % 18446744073709551616 : Nat) : Int) by omega, bits_xor_u64_nat _ _ lB (by omega), hC]
 clear hA hB hC;have hso : objAt w s = some (.cells #[.int .u64 (X : Int)] 125) := hs;have ls := lt_of_objAt hso;clear hs
 go_enter Tryz.func65, Tryz.ntmps65
 go_wp2_with fail
 go_region
 have h2 : objAt (w.setRow s #[.int .u64 (A : Int)]).drew s = some (.cells #[.int .u64 (A : Int)] 125) := keep_row _ hso;have HK : Hid (Kept s s w (w.setRow s #[.int .u64 (A : Int)]).drew) := (Kept.row _ (.inl rfl)).drew;clear hso ls e1;generalize (w.setRow s #[.int .u64 (A : Int)]).drew = w2 at *;have ls := lt_of_objAt h2;go_wp2_with fail
 go_region
 have h3 : objAt (w2.setRow s #[.int .u64 (B : Int)]).drew s = some (.cells #[.int .u64 (B : Int)] 125) := keep_row _ h2;replace HK : Hid (Kept s s w (w2.setRow s #[.int .u64 (B : Int)]).drew) := (HK.out.trans (Kept.row _ (.inl rfl)) (.inl rfl)).drew;clear h2 ls e2;generalize (w2.setRow s #[.int .u64 (B : Int)]).drew = w3 at *;have ls := lt_of_objAt h3;go_wp2_with fail
 go_region
 have h4 : objAt (w3.setRow s #[.int .u64 (C : Int)]).drew s = some (.cells #[.int .u64 (C : Int)] 125) := keep_row _ h3;replace HK : Hid (Kept s s w (w3.setRow s #[.int .u64 (C : Int)]).drew) := (HK.out.trans (Kept.row _ (.inl rfl)) (.inl rfl)).drew;clear h3 ls e3;generalize (w3.setRow s #[.int .u64 (C : Int)]).drew = w4 at *;have ls := lt_of_objAt h4;go_wp2;go_ret;exact ⟨C, rfl, lC, h4, HK.out⟩
theorem zqav (x : Nat) (h0 : 1 <= x) (h1 : x < 256) : 2 ^ Lib.bitLen x <= 2 * x /\ Lib.bitLen x <= 8 := by
 have h : ∀ y : Fin 256, 1 <= y.val -> 2 ^ Lib.bitLen y.val <= 2 * y.val /\ Lib.bitLen y.val <= 8 := by decide +kernel
 exact h ⟨x, h1⟩ h0
theorem tabX {P : ByteArray -> Prop} {X : ByteArray} (h : X = Lib.len8tab) (p : ∀ T, T = Lib.len8tab -> P T) : P X := p X h
theorem len64_u32 (x : Nat) (w : World) (h : x < 256) :
  Calls Tryz.prog 50 #[.int .u64 x] w fun r w' => r = .returned (.int .i64 ((Lib.bitLen x : Nat) : Int)) /\ w' = w := by
 have h1 : ¬ ((4294967296 : Int) <= (x : Int)) := by omega
 have h2 : ¬ ((65536 : Int) <= (x : Int)) := by omega
 have h3 : ¬ ((256 : Int) <= (x : Int)) := by omega
 go_enter Tryz.func50, Tryz.ntmps50
 go_upto_region 10 with (fail)
 refine tabX (P := fun X => Code.wp _ (Code.region 10 #[_, _, _, { dst := some 22, op := Op.index _ (Operand.const (Value.string X)) (Operand.tmp 21), type := _, pos := _, after := _, guard := none }, _, _, _] false) _ _ _) (by decide +kernel) ?_
 intro T hT
 show Code.wp _ _ _ _ _
 have hz : (x : Int) < (T.size : Int) := by rw [hT, Lib.len8tab_size]; omega
 have hx0 : (0 : Int) <= (x : Int) := by omega
 have HT := hidS hT;have hm : (x : Int) % 256 = (x : Int) := by omega
 clear hT;go_wp2;go_ret;refine ⟨congrArg Ending.returned (congrArg (Value.int IntKind.i64) ?_), rfl⟩;have hT := HT.out;subst hT;have e : ((Lib.len8tab[x]'(by omega)).toNat : Int) = ((Lib.bitLen x : Nat) : Int) := by
  have h5 := Lib.len8_of (x : Int) (by omega) (by omega);rw [Int.toNat_natCast] at h5;rw [<- h5];unfold Lib.len8;rw [Int.toNat_natCast, getElem?_pos Lib.len8tab x (by omega)]
  rfl
 rw [e];have l := Lib.bitLen_le8' (x : Int) (by omega) (by omega);rw [Int.toNat_natCast] at l;unfold wrap64
 omega
theorem len_u32 (x : Nat) (w : World) (h : x < 256) :
  Calls Tryz.prog 34 #[.int .u64 x] w fun r w' => r = .returned (.int .i64 ((Lib.bitLen x : Nat) : Int)) /\ w' = w := by
 go_enter Tryz.func34, Tryz.ntmps34
 go_wp2_with fail;refine (len64_u32 x _ h).mono ?_
 rintro e _ ⟨rfl, rfl⟩;go_wp2;go_ret;exact ⟨rfl, rfl⟩
theorem zqbc (n : Nat) (w : World) (h0 : 1 <= n) (h : n < 256) :
  Calls Tryz.prog 64 #[.int .i64 n] w fun r w' => ∃ M : Nat, r = .returned (.int .u64 (M : Int)) /\ 1 <= M /\ M <= 2 * n /\ w' = w := by
 obtain ⟨hl, hk⟩ := zqav n h0 h;have cL : ∀ W : World, Calls Tryz.prog 34 #[.int .u64 n] W fun r w' => r = .returned (.int .i64 ((Lib.bitLen n : Nat) : Int)) /\ w' = W := fun W => len_u32 n W h;have hp := Nat.one_le_two_pow (n := Lib.bitLen n);generalize Lib.bitLen n = L at *;obtain ⟨M, hM⟩ : ∃ M : Nat, M = 2 ^ L := ⟨_, rfl⟩
 have e2 : IntKind.u64.wrap ((2 : Int) ^ L) = (M : Int) := by
  rw [IntKind.wrap_u64, show ((2 : Int) ^ L) = ((2 ^ L : Nat) : Int) by push_cast; rfl, <- hM]
  omega
 have e3 : IntKind.u64.wrap (n : Int) = (n : Int) := by rw [IntKind.wrap_u64]; omega
 rw [<- hM] at hl hp;have HM := hidS hM;clear hM
 go_enter Tryz.func64, Tryz.ntmps64
 go_wp2_with fail;refine (cL _).mono ?_
 rintro e _ ⟨rfl, rfl⟩;go_wp2;go_ret;exact ⟨M, rfl, hp, hl, rfl⟩
theorem Kept.two {s g : Nat} {w w' : World} (h : Kept s s w w') : Kept g s w w' := ⟨h.os, h.tape, h.output, h.size, fun k hk _ h2 => h.block k hk h2 h2⟩
theorem RndAt.ne {w : World} {g s k : Nat} {d : Array Int} (hs : RndAt w s k) (hS : SrtAt w g d) : g ≠ s := fun e => by
 obtain ⟨cur, h, -⟩ := hS;unfold RndAt at hs;rw [e, hs] at h
 cases h
theorem RndAt.row {w : World} {g s k : Nat} {c : Array Value} (hs : RndAt w s k) (h : s ≠ g) : RndAt (w.setRow g c).drew s k := (Kept.row (b := g) (g := g) (k := g) (w := w) c (.inl rfl)).obj hs h h
theorem zqau (g c a b : Nat) (d : Array Int) (w : World) (hS : SrtAt w g d) (hab : a <= b) (hb : b <= d.size) (hn : d.size < 256) :
  Calls Tryz.prog 42 #[.slice (some ⟨g, 0, none⟩) d.size c, .int .i64 a, .int .i64 b] w fun r w' => r = .returned (.tuple #[]) /\ ∃ d', Go.Sort.PermIn a b d d' /\ SrtAt w' g d' /\ Kept g g w w' := by
 by_cases h8 : 8 <= b - a
 case neg =>
  have h8' : ¬ ((8 : Int) <= (b : Int) - (a : Int)) := by omega
  go_enter Tryz.func42, Tryz.ntmps42
  go_wp2
  go_end0
  exact ⟨rfl, d, Go.Sort.permIn_refl d a b, hS, Kept.refl _ _ _⟩
 case pos =>
  obtain ⟨n, hn'⟩ : ∃ n, n = b - a := ⟨_, rfl⟩
  obtain ⟨q, hq⟩ : ∃ q, q = n / 4 := ⟨_, rfl⟩
  obtain ⟨i0, hi0⟩ : ∃ i, i = a + q * 2 - 1 := ⟨_, rfl⟩
  obtain ⟨i2, hi2⟩ : ∃ i, i = a + q * 2 + 1 := ⟨_, rfl⟩
  have e0 : (b : Int) - (a : Int) = (n : Int) := by omega
  have e1 : (n : Int).tdiv 4 = (q : Int) := by rw [hq]; rfl
  have e2 : (a : Int) + (q : Int) * 2 - 1 = (i0 : Int) := by omega
  have e3 : (a : Int) + (q : Int) * 2 + 1 = (i2 : Int) := by omega
  have f1 : (q : Int) <= 1000000 := by omega
  have f2 : (q : Int) * 2 <= 3000000 := by omega
  have f3 : (a : Int) + (q : Int) * 2 <= 3000000 := by omega
  have f4 : (0 : Int) <= (q : Int) := by omega
  have h8' : (8 : Int) <= (n : Int) := by omega
  have r1 : a <= i0 := by omega
  have r2 : i0 <= i2 := by omega
  have r3 : i2 < b := by omega
  have n1 : a + n = b := by omega
  have n2 : n < 256 := by omega
  have n3 : 1 <= n := by omega
  have w1 : IntKind.u64.wrap (n : Int) = (n : Int) := by rw [IntKind.wrap_u64]; omega
  have cN : ∀ W : World, Calls Tryz.prog 64 #[.int .i64 n] W fun r w' => ∃ M : Nat, r = .returned (.int .u64 (M : Int)) /\ 1 <= M /\ M <= 2 * n /\ w' = W := fun W => zqbc n W n3 n2;have HS0 : Hid (SrtAt (w.alloc (.cells #[.int .u64 (n : Int)] 125)) g d) := hS.below (Grew.alloc (Grew.refl _) _);have HR0 : Hid (RndAt (w.alloc (.cells #[.int .u64 (n : Int)] 125)) w.heap.size n) := objAt_alloc_at _ _ _ rfl;have hgs := HR0.out.ne HS0.out;have HK0 : Hid (Kept g w.heap.size w (w.alloc (.cells #[.int .u64 (n : Int)] 125))) := Kept.of (Grew.alloc (Grew.refl _) _);clear hS hn' hq hi0 hi2
  go_enter Tryz.func42, Tryz.ntmps42
  go_wp2_with fail;refine (cN _).mono ?_
  rintro e _ ⟨M, rfl, m1, m2, rfl⟩;clear cN;generalize w.alloc (.cells #[.int .u64 (n : Int)] 125) = w1 at *;obtain ⟨s, hs⟩ : ∃ s, s = w.heap.size := ⟨_, rfl⟩
  rw [<- hs] at HR0 hgs HK0;have HSS := hidS hs;obtain ⟨m, hm⟩ : ∃ m, m = M - 1 := ⟨_, rfl⟩
  have em : IntKind.u64.wrap ((M : Int) - 1) = (m : Int) := by rw [IntKind.wrap_u64]; omega
  have m3 : m + 1 = M := by omega
  have M3 := hidS m3;clear hm m3
  try rw [<- hs]
  clear hs;go_wp2_with fail
  go_loopw [9] (fun v wr => ∃ (t X : Nat) (dk : Array Int), v = .int .i64 (t : Int) /\ i0 <= t /\ t <= i2 + 1 /\ X < 18446744073709551616 /\ RndAt wr s X /\ SrtAt wr g dk /\ Go.Sort.PermIn a b d dk /\ Kept g s w wr) (fun v _ => i2 + 1 - (intOf v).toNat)
  case atStart => exact ⟨i0, n, d, by go_num, Nat.le_refl _, by omega, by omega, HR0.out, HS0.out, Go.Sort.permIn_refl d a b, HK0.out⟩
  case round =>
   clear HR0 HS0 HK0;obtain ⟨t, X, dk, rfl, ht0, ht1, hX, hR, hSk, hP, hK⟩ := hrel;have HS := hidS hSk;have HP := hidS hP;have HK := hidS hK;have HR := hidS hR;clear hSk hP hK hR
   by_cases ht : t <= i2
   ·have ht' : (t : Int) <= (i2 : Int) := by omega
    go_wp2_with fail;refine (zqbk s X _ HR.out hX).mono ?_
    rintro e w5 ⟨Y, rfl, hY, hR5, hK5⟩;replace HS := hidS (HS.out.kept hK5 hgs hgs);replace HK := hidS (HK.out.trans (hK5.two (g := g)) (.inl rfl));replace HR := hidS hR5;clear hR5 hK5;obtain ⟨o, ho⟩ : ∃ o, o = Y &&& m := ⟨_, rfl⟩
    have eo : bits .and .u64 (Y : Int) (m : Int) = (o : Int) := by
     have := M3.out;rw [bits_and_u64_nat _ _ hY (by omega), ho]
    have ho2 : o <= m := by rw [ho]; exact Nat.and_le_right
    have ho3 : (o : Int) <= 1000 := by have := M3.out; omega
    have ho5 : o < 2 * n := by have := M3.out; omega
    clear ho
    by_cases hon : n <= o
    ·have hon' : (n : Int) <= (o : Int) := by omega
     obtain ⟨o2, ho4⟩ : ∃ x, x = o - n := ⟨_, rfl⟩
     have e5 : (o : Int) - (n : Int) = (o2 : Int) := by omega
     obtain ⟨p, hp⟩ : ∃ p, p = a + o2 := ⟨_, rfl⟩
     have ep : (a : Int) + (o2 : Int) = (p : Int) := by omega
     have hp1 : a <= p := by omega
     have hp2 : p < b := by omega
     clear ho4 hp;have hsk : dk.size = d.size := HP.out.1;obtain ⟨cur, hg, hcc⟩ := HS.out;have HC := hidS hcc;have lg := lt_of_objAt hg;clear hcc;obtain ⟨x0, hx0⟩ : ∃ x, x = dk[t]! := ⟨_, rfl⟩
     obtain ⟨x1, hx1⟩ : ∃ x, x = dk[p]! := ⟨_, rfl⟩
     have l0 := HC.out.2 t (by omega);have l1 := HC.out.2 p (by omega);rw [<- hx0] at l0;rw [<- hx1] at l1;have l9 := zqd (a := t) (by have := HC.out.1; omega) l1;have HS5 := hidS (SrtAt.swap hg HC.out.1 HC.out.2 (i := t) (j := p) (by omega) (by omega));rw [<- hx0, <- hx1] at HS5;have b0 : (t : Int) < (d.size : Int) := by omega
     have b1 : (p : Int) < (d.size : Int) := by omega
     have z0 : (0 : Int) <= (t : Int) := by omega
     have z1 : (0 : Int) <= (p : Int) := by omega
     clear hx0 hx1;have HQ := hidS (Go.Sort.permIn_trans _ _ _ a b HP.out (Go.Sort.swp_permIn dk a b t p (by omega) (by omega) hp1 hp2 (by omega)));go_wp2_with fail
     go_region
     go_wp2
     go_roundw
     case rel => first | exact ⟨t + 1, Y, Go.Sort.swp dk t p, by go_num, by omega, by omega, hY, HR.out.row (Ne.symm hgs), HS5.out.drew, HQ.out, (HK.out.trans (Kept.row _ (.inl rfl)) (.inl rfl)).drew⟩ | ((repeat' apply Exists.intro) <;> first | exact ⟨⟨t + 1, Y, Go.Sort.swp dk t p, by go_num, by omega, by omega, hY, HR.out.row (Ne.symm hgs), HS5.out.drew, HQ.out, (HK.out.trans (Kept.row _ (.inl rfl)) (.inl rfl)).drew⟩, rfl⟩ | exact undef)
     case measure => (simp [intOf] <;> omega)
    ·have hon' : ¬ ((n : Int) <= (o : Int)) := by omega
     obtain ⟨p, hp⟩ : ∃ p, p = a + o := ⟨_, rfl⟩
     have ep : (a : Int) + (o : Int) = (p : Int) := by omega
     have hp1 : a <= p := by omega
     have hp2 : p < b := by omega
     clear hp;have hsk : dk.size = d.size := HP.out.1;obtain ⟨cur, hg, hcc⟩ := HS.out;have HC := hidS hcc;have lg := lt_of_objAt hg;clear hcc;obtain ⟨x0, hx0⟩ : ∃ x, x = dk[t]! := ⟨_, rfl⟩
     obtain ⟨x1, hx1⟩ : ∃ x, x = dk[p]! := ⟨_, rfl⟩
     have l0 := HC.out.2 t (by omega);have l1 := HC.out.2 p (by omega);rw [<- hx0] at l0;rw [<- hx1] at l1;have l9 := zqd (a := t) (by have := HC.out.1; omega) l1;have HS5 := hidS (SrtAt.swap hg HC.out.1 HC.out.2 (i := t) (j := p) (by omega) (by omega));rw [<- hx0, <- hx1] at HS5;have b0 : (t : Int) < (d.size : Int) := by omega
     have b1 : (p : Int) < (d.size : Int) := by omega
     have z0 : (0 : Int) <= (t : Int) := by omega
     have z1 : (0 : Int) <= (p : Int) := by omega
     clear hx0 hx1;have HQ := hidS (Go.Sort.permIn_trans _ _ _ a b HP.out (Go.Sort.swp_permIn dk a b t p (by omega) (by omega) hp1 hp2 (by omega)));go_wp2_with fail
     go_region
     go_wp2
     go_roundw
     case rel => first | exact ⟨t + 1, Y, Go.Sort.swp dk t p, by go_num, by omega, by omega, hY, HR.out.row (Ne.symm hgs), HS5.out.drew, HQ.out, (HK.out.trans (Kept.row _ (.inl rfl)) (.inl rfl)).drew⟩ | ((repeat' apply Exists.intro) <;> first | exact ⟨⟨t + 1, Y, Go.Sort.swp dk t p, by go_num, by omega, by omega, hY, HR.out.row (Ne.symm hgs), HS5.out.drew, HQ.out, (HK.out.trans (Kept.row _ (.inl rfl)) (.inl rfl)).drew⟩, rfl⟩ | exact undef)
     case measure => (simp [intOf] <;> omega)
   ·have ht' : ¬ ((t : Int) <= (i2 : Int)) := by omega
    go_wp2
    go_end0
    refine ⟨rfl, dk, HP.out, HS.out, ?_⟩;have h1 := HK.out;exact ⟨h1.os, h1.tape, h1.output, h1.size, fun k hk h2 _ => h1.block k hk h2 (by have := HSS.out; omega)⟩
theorem zqbd {h : Go.Sort.Hint} (e : zqn h = 2) : h = .decreasing := by cases h <;> simp [zqn] at e ⊢
set_option maxHeartbeats 8000000 in
theorem zqbs : ∀ (N g c a b limit : Nat) (d : Array Int) (w : World), b - a < N -> SrtAt w g d -> a <= b -> b <= d.size -> d.size < 256 -> limit <= 64 -> Go.Sort.Below Go.Sort.ltInt a b d ->
  Calls Tryz.prog 33 #[.slice (some ⟨g, 0, none⟩) d.size c, .int .i64 a, .int .i64 b, .int .i64 limit] w fun r w' => r = .returned (.tuple #[]) /\ ∃ R, Go.Sort.PermIn a b d R /\ Go.Sort.SortedIn Go.Sort.ltInt a b R /\ SrtAt w' g R /\ Kept g g w w' := by
 intro N
 induction N with
 | zero => intro _ _ _ _ _ _ _ h; exact absurd h (Nat.not_lt_zero _)
 | succ N ih =>
  intro g c a b limit d w hN hS hab hb hn hlimit hBel0
  go_enter Tryz.func33, Tryz.ntmps33
  go_wp2_with fail
  go_loopg [1, 2, 3, 8, 9] (b - a) (fun k s1 s2 s3 s8 s9 wr => ∃ (a1 b1 lim : Nat) (wb wp : Bool) (dk : Array Int), s1 = .int .i64 (a1 : Int) /\ s2 = .int .i64 (b1 : Int) /\ s3 = .int .i64 (lim : Int) /\ s8 = .bool wb /\ s9 = .bool wp /\
   a1 <= b1 /\ b1 <= d.size /\ b1 - a1 <= k /\ k <= b - a /\ lim <= 64 /\ dk.size = d.size /\ Go.Sort.Below Go.Sort.ltInt a1 b1 dk /\ SrtAt wr g dk /\ Kept g g w wr /\ Hid (∀ R, Go.Sort.PermIn a1 b1 dk R -> Go.Sort.SortedIn Go.Sort.ltInt a1 b1 R -> Go.Sort.PermIn a b d R /\ Go.Sort.SortedIn Go.Sort.ltInt a b R))
  case atStart => exact ⟨a, b, limit, true, true, d, rfl, rfl, rfl, rfl, rfl, hab, hb, Nat.le_refl _, Nat.le_refl _, hlimit, rfl, hBel0, hS, Kept.refl _ _ _, fun R h1 h2 => ⟨h1, h2⟩⟩
  case round =>
   obtain ⟨a1, b1, lim, wb, wp, dk, rfl, rfl, rfl, rfl, rfl, hab1, hb1, hk, hkN, hlim, hds, hB0, hS0, hK0, HF⟩ := hrel;have HB := hidS hB0;have HS := hidS hS0;have HK := hidS hK0;have HI := hidS ih;clear hS hBel0 hB0 hS0 hK0 ih
   by_cases h12 : b1 - a1 <= 12
   ·have h12z : (b1 : Int) - (a1 : Int) <= 12 := by omega
    have hc := insertion_u32 g c a1 b1 dk _ HS.out hab1 (by omega) (by omega);rw [hds] at hc;go_wp2_with (go_at_call 40; refine hc.mono ?_; rintro e w1 ⟨rfl, hS1, hK1⟩)
    (try simp only [Exit.inBlock, Exit.then]); refine bodyPost_ret (results_none rfl _ _ _) rfl ?_
    have p := Go.Sort.insertionSort_holds Go.Sort.swo_ltInt dk a1 b1 hab1 (by omega);have q := HF.out _ p.1 p.2;exact ⟨rfl, _, q.1, q.2, hS1, HK.out.trans hK1 (.inl rfl)⟩
   ·have h12z : ¬ ((b1 : Int) - (a1 : Int) <= 12) := by omega
    by_cases hl0 : lim = 0
    ·subst hl0
     have hc := zqa9 g c a1 b1 dk _ HS.out hab1 (by omega) (by omega);rw [hds] at hc;go_wp2_with (go_at_call 41; refine hc.mono ?_; rintro e w1 ⟨rfl, hS1, hK1⟩)
     (try simp only [Exit.inBlock, Exit.then]); refine bodyPost_ret (results_none rfl _ _ _) rfl ?_
     have p := Go.Sort.heapSort_holds Go.Sort.swo_ltInt dk a1 b1 hab1 (by omega);have q := HF.out _ p.1 p.2;exact ⟨rfl, _, q.1, q.2, hS1, HK.out.trans hK1 (.inl rfl)⟩
    ·have hl0z : ¬ ((lim : Int) = 0) := by omega
     go_upto_if 35 with fail
     go_cut [3] from 19 to 133 (fun s3 wc => ∃ (l2 : Nat) (d1 : Array Int), s3 = .int .i64 (l2 : Int) /\ l2 <= 64 /\ Go.Sort.PermIn a1 b1 dk d1 /\ SrtAt wc g d1 /\ Kept g g w wc)
     case first =>
      cases wb
      ·have hc := zqau g c a1 b1 dk _ HS.out hab1 (by omega) (by omega)
       rw [hds] at hc;go_wp2_with (go_at_call 42; refine hc.mono ?_; rintro e w1 ⟨rfl, d1, hP1, hS1, hK1⟩)
       go_meet
       case rel =>
        refine ⟨lim - 1, d1, ?_, by omega, hP1, hS1, HK.out.trans hK1 (.inl rfl)⟩
        congr 1
        omega
      ·go_wp2_with fail
       go_meet
       case rel => exact ⟨lim, dk, rfl, hlim, Go.Sort.permIn_refl dk a1 b1, HS.out, HK.out⟩
     case rest =>
      obtain ⟨l2, d1, rfl, hl2, hP1, hS1, hK1⟩ := hcut;have HP1 := hidS hP1;have HS1 := hidS hS1;have HK1 := hidS hK1;have s1 : d1.size = d.size := hP1.1.trans hds;clear hP1 hS1 hK1 HS HK;have hc := zqaj g c a1 b1 d1 wc HS1.out (by omega) (by omega) (by omega);obtain ⟨p0, h0, hC⟩ : ∃ p0 h0, Go.Sort.choosePivot Go.Sort.ltInt d1 a1 b1 = (p0, h0) := ⟨_, _, rfl⟩
      obtain ⟨c1, c2⟩ := Go.Sort.choosePivot_holds Go.Sort.ltInt d1 a1 b1 (by omega);rw [hC] at hc c1 c2;rw [s1] at hc;have HCC := hidS hC;clear hC
      go_upto_if 50 with (go_at_call 43; refine hc.mono ?_; rintro e w2 ⟨rfl, hB2⟩)
      have HS2 := hidS (HS1.out.below (hB2));have HK2 := hidS (HK1.out.trans (Kept.of (b := g) (g := g) hB2) (.inl rfl));clear HS1 HK1 hB2 hc
      go_cut [11, 12] from 19 to 133 (fun s11 s12 wc => ∃ (p : Nat) (h : Go.Sort.Hint) (d2 : Array Int), s11 = .int .i64 (p : Int) /\ s12 = .int .i64 (zqn h) /\ a1 <= p /\ p < b1 /\ Go.Sort.PermIn a1 b1 dk d2 /\ SrtAt wc g d2 /\ Kept g g w wc)
      case first =>
       by_cases hh : h0 = .decreasing
       ·have hcode : zqn h0 = 2 := by rw [hh]; rfl
        have hc := zqaa g c a1 b1 d1 w2 HS2.out hab1 (by omega) (by omega);rw [s1] at hc;go_wp2_with (go_at_call 44; refine hc.mono ?_; rintro e w3 ⟨rfl, hS3, hK3⟩)
        go_meet
        case rel =>
         refine ⟨(b1 - 1) - (p0 - a1), .increasing, _, ?_, rfl, by omega, by omega, Go.Sort.permIn_trans _ _ _ a1 b1 HP1.out (Go.Sort.reverseRange_holds d1 a1 b1 hab1 (by omega)), hS3, HK2.out.trans hK3 (.inl rfl)⟩
         congr 1
         omega
       ·have hcode : ¬ (zqn h0 = 2) := fun h => hh (zqbd h)
        go_wp2_with fail
        go_meet
        case rel => exact ⟨p0, h0, d1, rfl, rfl, c1, c2, HP1.out, HS2.out, HK2.out⟩
      case rest =>
       obtain ⟨p, h, d2, rfl, rfl, hp1, hp2, hP2, hS2, hK2⟩ := hcut;have HP2 := hidS hP2;have HS3 := hidS hS2;have HK3 := hidS hK2;have s2 : d2.size = d.size := hP2.1.trans hds;clear hP2 hS2 hK2 HS2 HK2 HP1 HCC c1 c2 s1
       go_upto_region 15 with fail
       go_cut [12, 68] from 19 to 133 (fun s12 s68 wx => s12 = .int .i64 (zqn h) /\ ∃ B : Bool, s68 = .bool B /\ wx = wc)
       case first =>
        cases wb <;> cases wp <;> cases hh3 : h <;>
         (go_wp2_with fail
          go_meet
          exact ⟨by rw [hh3], _, rfl, rfl⟩)
       case rest =>
        obtain ⟨rfl, B, rfl, rfl⟩ := hcut
        go_upto_if 68 with fail
        go_cut [] from 19 to 133 (fun wx => ∃ d3, Go.Sort.PermIn a1 b1 dk d3 /\ SrtAt wx g d3 /\ Kept g g w wx)
        case first =>
         cases B
         ·go_wp2_with fail
          go_meet
          case rel => exact ⟨d2, HP2.out, HS3.out, HK3.out⟩
         ·have hc := zqad g c a1 b1 d2 wc HS3.out (by omega) (by omega) (by omega)
          obtain ⟨q1, q2⟩ := Go.Sort.partialInsertionSort_holds Go.Sort.swo_ltInt d2 a1 b1 (by omega) (by omega) (HB.out.perm (by omega) HP2.out);obtain ⟨d3, B3, hx⟩ : ∃ d3 B3, Go.Sort.partialInsertionSort Go.Sort.ltInt d2 a1 b1 = (d3, B3) := ⟨_, _, rfl⟩
          rw [hx] at hc q1 q2;rw [s2] at hc;clear hx;have HQ1 := hidS q1;have HQ2 := hidS q2;clear q1 q2
          cases B3
          ·go_wp2_with (go_at_call 45; refine hc.mono ?_; rintro e w4 ⟨rfl, hS4, hK4⟩)
           go_meet
           case rel => exact ⟨d3, Go.Sort.permIn_trans _ _ _ a1 b1 HP2.out HQ1.out, hS4, HK3.out.trans hK4 (.inl rfl)⟩
          ·go_wp2_with (go_at_call 45; refine hc.mono ?_; rintro e w4 ⟨rfl, hS4, hK4⟩)
           (try simp only [Exit.inBlock, Exit.then]); refine bodyPost_ret (results_none rfl _ _ _) rfl ?_
           have q := HF.out d3 (Go.Sort.permIn_trans _ _ _ a1 b1 HP2.out HQ1.out) (by first | exact HQ2.out rfl | exact HQ2.out trivial);exact ⟨rfl, d3, q.1, q.2, hS4, HK3.out.trans hK4 (.inl rfl)⟩
        case rest =>
         obtain ⟨d3, hP3, hS3, hK3⟩ := hcut;have HP3 := hidS hP3;have HS4 := hidS hS3;have HK4 := hidS hK3;have s3 : d3.size = d.size := hP3.1.trans hds;have B3 := HB.out.perm (by omega) hP3;have HB3 := hidS B3;clear hP3 hS3 hK3 HS3 HK3 HP2 s2 B3
         go_upto_region 17 with fail
         go_cut [87] from 19 to 133 (fun s87 wx => s87 = .bool (decide (0 < a1) && !Go.Sort.ltInt d3[a1 - 1]! d3[p]!) /\ SrtAt wx g d3 /\ Kept g g w wx)
         case first =>
          obtain ⟨cur, hg, hcc⟩ := HS4.out;have HC := hidS hcc;have HKc := HK4;have lg := lt_of_objAt hg;clear hcc;have l1 := HC.out.2 p (by omega);obtain ⟨x1, hx1⟩ : ∃ x, x = d3[p]! := ⟨_, rfl⟩
          rw [<- hx1] at l1;have b1' : (p : Int) < (d.size : Int) := by omega
          have z1 : (0 : Int) <= (p : Int) := by omega
          by_cases ha0 : 0 < a1
          ·have ha0z : (0 : Int) < (a1 : Int) := by omega
           obtain ⟨u, hu⟩ : ∃ u, u = a1 - 1 := ⟨_, rfl⟩
           have eu : (a1 : Int) - 1 = (u : Int) := by omega
           have l0 := HC.out.2 u (by omega);obtain ⟨x0, hx0⟩ : ∃ x, x = d3[u]! := ⟨_, rfl⟩
           rw [<- hx0] at l0;have b0 : (u : Int) < (d.size : Int) := by omega
           have z0 : (0 : Int) <= (u : Int) := by omega
           have HX : Hid (x0 = d3[u]! /\ x1 = d3[p]! /\ u = a1 - 1) := ⟨hx0, hx1, hu⟩
           clear hx0 hx1 hu
           by_cases hl : x0 < x1
           ·have hl2 := hl
            have cL : ∀ W : World, Calls Tryz.prog 46 #[.int .u32 x0, .int .u32 x1] W (Rt W (.bool true)) := fun W => by have := lessC (x0) (x1) W; simpa only [hl, decide_true] using this
            have HL := hidS hl;clear hl hl2;go_wp2_with fail
            ((first | (with_reducible refine wp_region_on zqa zqa ?_) | refine wp_region_more zqa zqa ?_); (refine zAa ?_); refine wpQuiet_nil ?_; rintro _ ⟨mq, rfl⟩)
            replace HKc := hidS (HKc.out.trans (Kept.of (below_more wc mq)) (.inl rfl));have HSn := hidS (HS4.out.below (below_more wc mq));go_wp2_with fail
            go_meet
            case rel => exact ⟨by rw [<- HX.out.2.2, <- HX.out.1, <- HX.out.2.1]; simp [Go.Sort.ltInt, ha0, HL.out], HSn.out, HKc.out⟩
           ·have hl2 := hl
            have cL : ∀ W : World, Calls Tryz.prog 46 #[.int .u32 x0, .int .u32 x1] W (Rt W (.bool false)) := fun W => by have := lessC (x0) (x1) W; simpa only [hl, decide_false] using this
            have HL := hidS hl;clear hl hl2;go_wp2_with fail
            ((first | (with_reducible refine wp_region_on zqa zqa ?_) | refine wp_region_more zqa zqa ?_); (refine zAa ?_); refine wpQuiet_nil ?_; rintro _ ⟨mq, rfl⟩)
            replace HKc := hidS (HKc.out.trans (Kept.of (below_more wc mq)) (.inl rfl));have HSn := hidS (HS4.out.below (below_more wc mq));go_wp2_with fail
            go_meet
            case rel => exact ⟨by rw [<- HX.out.2.2, <- HX.out.1, <- HX.out.2.1]; simp [Go.Sort.ltInt, ha0]; first | exact HL.out | exact Int.not_lt.1 HL.out, HSn.out, HKc.out⟩
          ·have ha0z : ¬ ((0 : Int) < (a1 : Int)) := by omega
           clear hx1;have cL := fun W : World => lessC 0 0 W;go_wp2_with fail;clear ha0z;have ha0z : ¬ ((0 : Int) < (a1 : Int)) := by omega
           ((first | (with_reducible refine wp_region_on zqa zqa ?_) | refine wp_region_more zqa zqa ?_); (refine zAa ?_); refine wpQuiet_nil ?_; rintro _ ⟨mq, rfl⟩)
           replace HKc := hidS (HKc.out.trans (Kept.of (below_more wc mq)) (.inl rfl));have HSn := hidS (HS4.out.below (below_more wc mq));go_wp2_with fail
           go_meet
           case rel => exact ⟨by simp [ha0], HSn.out, HKc.out⟩
         case rest =>
          obtain ⟨rfl, hS5, hK5⟩ := hcut;have HS5 := hidS hS5;have HK5 := hidS hK5;clear hS5 hK5 HS4 HK4
          cases h87 : (decide (0 < a1) && !Go.Sort.ltInt d3[a1 - 1]! d3[p]!)
          ·have H87 := hidS h87
           clear h87;have hc := zqa1 g c a1 b1 p d3 wc HS5.out (by omega) (by omega) hp1 hp2 (by omega);obtain ⟨mid, ap, d4, hx⟩ : ∃ mid ap d4, Go.Sort.partition Go.Sort.ltInt d3 a1 b1 p = (mid, ap, d4) := ⟨_, _, _, rfl⟩
           obtain ⟨r1, r2, r3, r4, r5, r6, r7⟩ := Go.Sort.round_part Go.Sort.swo_ltInt (Go.Sort.partition_holds Go.Sort.ltInt) hp1 hp2 (show b1 <= d3.size by omega) HB3.out hx;rw [hx] at hc;rw [s3] at hc;have HR4 := hidS r4;have HR5 := hidS r5;have HR6 := hidS r6;have HR7 := hidS r7;clear hx r4 r5 r6 r7
           go_upto_if 113 with (go_at_call 48; refine hc.mono ?_; rintro e w7 ⟨rfl, hS7, hK7⟩)
           have HS7 := hidS hS7;have HK7 := hidS (HK5.out.trans hK7 (.inl rfl));clear hS7 hK7 HS5 HK5 hc
           by_cases h4 : mid - a1 < b1 - mid
           ·have h4z : (mid : Int) - (a1 : Int) < (b1 : Int) - (mid : Int) := by omega
            have hih := HI.out g c a1 mid l2 d4 w7 (by omega) HS7.out (by omega) (by omega) (by omega) hl2 HR4.out;rw [r3, s3] at hih;go_wp2_with (go_at_call 33; refine hih.mono ?_; rintro e w8 ⟨rfl, L, hPL, hQL, hS8, hK8⟩)
            go_roundg (b1 - (mid + 1))
            case measure => omega
            case rel =>
             have q := HR6.out L hPL hQL;exact ⟨mid + 1, b1, l2, _, ap, L, by simp, rfl, rfl, rfl, rfl, by omega, by omega, Nat.le_refl _, by omega, hl2, by rw [hPL.1, r3, s3], q.1, hS8, HK7.out.trans hK8 (.inl rfl), fun R h1 h2 => HF.out R (Go.Sort.permIn_trans _ _ _ a1 b1 HP3.out (q.2 R h1 h2).1) (q.2 R h1 h2).2⟩
           ·have h4z : ¬ ((mid : Int) - (a1 : Int) < (b1 : Int) - (mid : Int)) := by omega
            have hih := HI.out g c (mid + 1) b1 l2 d4 w7 (by omega) HS7.out (by omega) (by omega) (by omega) hl2 HR5.out;rw [r3, s3] at hih;go_wp2_with (go_at_call 33; refine hih.mono ?_; rintro e w8 ⟨rfl, L, hPL, hQL, hS8, hK8⟩)
            go_roundg (mid - a1)
            case measure => omega
            case rel =>
             have q := HR7.out L hPL hQL;exact ⟨a1, mid, l2, _, ap, L, rfl, rfl, rfl, rfl, rfl, by omega, by omega, Nat.le_refl _, by omega, hl2, by rw [hPL.1, r3, s3], q.1, hS8, HK7.out.trans hK8 (.inl rfl), fun R h1 h2 => HF.out R (Go.Sort.permIn_trans _ _ _ a1 b1 HP3.out (q.2 R h1 h2).1) (q.2 R h1 h2).2⟩
          ·have h87' := h87
           simp only [Bool.and_eq_true, decide_eq_true_eq, Bool.not_eq_true'] at h87'
           have H87 := hidS h87';clear h87 h87';have hc := zqan g c a1 b1 p d3 wc HS5.out (by omega) (by omega) hp1 hp2 (by omega);obtain ⟨mid, d4, hx⟩ : ∃ mid d4, Go.Sort.partitionEqual Go.Sort.ltInt d3 a1 b1 p = (mid, d4) := ⟨_, _, rfl⟩
           obtain ⟨r1, r2, r3, r4, r5⟩ := Go.Sort.round_eq Go.Sort.swo_ltInt (Go.Sort.partitionEqual_holds Go.Sort.ltInt) H87.out.1 hp1 hp2 (show b1 <= d3.size by omega) HB3.out H87.out.2 hx;rw [hx] at hc;rw [s3] at hc;have HR4 := hidS r4;have HR5 := hidS r5;clear hx r4 r5;go_wp2_with (go_at_call 47; refine hc.mono ?_; rintro e w7 ⟨rfl, hS7, hK7⟩)
           go_roundg (b1 - mid)
           case measure => omega
           case rel => exact ⟨mid, b1, l2, wb, wp, d4, rfl, rfl, rfl, rfl, rfl, r2, hb1, Nat.le_refl _, by omega, hl2, by rw [r3, s3], HR4.out, hS7, HK5.out.trans hK7 (.inl rfl), fun R h1 h2 => HF.out R (Go.Sort.permIn_trans _ _ _ a1 b1 HP3.out (HR5.out R h1 h2).1) (HR5.out R h1 h2).2⟩
abbrev srtN : Nat := 256
theorem sort_u32 (g c : Nat) (d : Array Int) (w : World) (hS : SrtAt w g d) (hn : d.size < 256) :
  Calls Tryz.prog 24 #[.slice (some ⟨g, 0, none⟩) d.size c] w fun r w' => r = .returned (.tuple #[]) /\ ∃ R, Go.Sort.PermIn 0 d.size d R /\ Go.Sort.SortedIn Go.Sort.ltInt 0 d.size R /\ SrtAt w' g R /\ Kept g g w w' := by
 have hl : Lib.bitLen d.size <= 8 := by
  rcases Nat.eq_zero_or_pos d.size with h | h
  ·rw [h]; decide
  ·exact (zqav d.size h hn).2
 have cL : ∀ W : World, Calls Tryz.prog 34 #[.int .u64 d.size] W fun r w' => r = .returned (.int .i64 ((Lib.bitLen d.size : Nat) : Int)) /\ w' = W := fun W => len_u32 d.size W hn;have e3 : IntKind.u64.wrap (d.size : Int) = (d.size : Int) := by rw [IntKind.wrap_u64]; omega
 have cP := zqbs (d.size + 1) g c 0 d.size (Lib.bitLen d.size) d w (by omega) hS (Nat.zero_le _) (Nat.le_refl _) hn (by omega) (.inl rfl);generalize Lib.bitLen d.size = L at *;have HP := hidS cP;clear cP
 go_enter Tryz.func24, Tryz.ntmps24
 go_wp2_with fail;refine (cL _).mono ?_
 rintro e _ ⟨rfl, rfl⟩;go_wp2_with fail;refine HP.out.mono ?_
 rintro e w3 ⟨rfl, hR⟩;go_wp2
 first | go_end0 | ((try simp only [Exit.inBlock, Exit.then]); refine bodyPost_ret (results_none rfl _ _ _) rfl ?_)
 exact ⟨rfl, hR⟩
end Go.Proofs.YtihoodeaaamlfaaGreatDoor
