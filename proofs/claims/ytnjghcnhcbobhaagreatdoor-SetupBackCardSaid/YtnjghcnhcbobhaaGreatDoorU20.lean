/- U20 -/
import Derived.Test.YtnjghcnhcbobhaaGreatDoorU19
import Derived.Test.YtnjghcnhcbobhaaGreatDoorB17
import Derived.Test.YtnjghcnhcbobhaaGreatDoorC16
import Derived.Test.YtnjghcnhcbobhaaGreatDoorL13
import Derived.Test.YtnjghcnhcbobhaaGreatDoorQ13
set_option linter.unusedVariables false
set_option linter.unusedSimpArgs false
set_option maxRecDepth 100000
set_option maxHeartbeats 4000000
namespace Go.Proofs.YtnjghcnhcbobhaaGreatDoor
open Go.RowKit Go.Extern
attribute [local go_sem high] zqe9
def KSlF (B n : Nat) (u : Value) : Prop := ∃ oa c, u = .slice oa n c /\ ∀ ad, oa = some ad -> B <= ad.block
def UpAt (w : World) (v : Value) (s l : Int) (n : Nat) (P : Nat -> Nat -> Int) (t : Nat -> Int) : Prop := ∃ oa c, v = .agg (uvC s l (.slice oa n c) t) /\ K32At w oa n P
theorem UpAt.later {w w' : World} {v : Value} {s l : Int} {n : Nat} {P : Nat -> Nat -> Int} {t : Nat -> Int} (h : UpAt w v s l n P t) (hb : Below w.heap.size w w') : UpAt w' v s l n P t := by
 obtain ⟨oa, c, e, hp⟩ := h;exact ⟨oa, c, e, hp.later hb⟩
end Go.Proofs.YtnjghcnhcbobhaaGreatDoor
namespace Go.Proofs.YtnjghcnhcbobhaaGreatDoor
open Go.RowKit Go.Extern
end Go.Proofs.YtnjghcnhcbobhaaGreatDoor
namespace Go.Proofs.YtnjghcnhcbobhaaGreatDoor
open Go.RowKit Go.Extern
theorem zqz7 {s l : Int} {b : Value} {t t' : Nat -> Int} (h : ∀ i, i < 32 -> t i = t' i) : uvC s l b t = uvC s l b t' := by
 unfold uvC;rw [zqa5 h]
theorem UpAt.congr {w : World} {v : Value} {s l : Int} {n : Nat} {P P' : Nat -> Nat -> Int} {t t' : Nat -> Int} (h : UpAt w v s l n P t) (hP : ∀ j, j < n -> ∀ i, i < 32 -> P j i = P' j i) (ht : ∀ i, i < 32 -> t i = t' i) : UpAt w v s l n P' t' := by
 obtain ⟨oa, c, rfl, hp⟩ := h;exact ⟨oa, c, by rw [zqz7 ht], hp.congr2 hP⟩
theorem UpAt.zero {w : World} {v : Value} {P P' : Nat -> Nat -> Int} {t : Nat -> Int} (h : UpAt w v 0 0 0 P t) : UpAt w v 0 0 0 P' t := by
 obtain ⟨oa, c, rfl, -⟩ := h;exact ⟨oa, c, rfl, .inl rfl⟩
theorem zq83 (S : ByteArray) (n : Nat) (h : 32 * n <= S.size) : ksN S (n : Int) = ((32 * n : Nat) : Int) := by unfold ksN; omega
theorem zrge (S : ByteArray) (n : Nat) (h : S.size < 32 * n) : ∃ k : Nat, ksN S (n : Int) = (k : Int) /\ S.size < k := ⟨(S.size / 32 + 1) * 32, by unfold ksN; omega, by omega⟩
theorem zq29 (S : ByteArray) {E : Int} (h : E ≠ 0) : enE S E = E := by unfold enE; rw [if_neg (fun h2 => h h2.1)]
theorem zq1t (S : ByteArray) (a k : Nat) (ha : a <= S.size) (h : S.size - a < k) : tkT (S.extract a S.size) 0 (k : Int) = ⟨#[]⟩ /\ tkS (S.extract a S.size) 0 (k : Int) = S.extract a S.size /\ tkE (S.extract a S.size) 0 (k : Int) = 1 := by
 have hs : (S.extract a S.size).size = S.size - a := by rw [ByteArray.size_extract]; omega
 obtain ⟨e1, e2⟩ := zq8c (S := S.extract a S.size) (E := 0) (n := (k : Int)) (.inr (by omega));exact ⟨e1, e2, zq2e _ k (by omega)⟩
end Go.Proofs.YtnjghcnhcbobhaaGreatDoor
namespace Go.Proofs.YtnjghcnhcbobhaaGreatDoor
open Go.RowKit Go.Extern
def qSt (S : ByteArray) (E : Int) : Nat -> ByteArray × Int
 | 0 => (S, E)
 | j + 1 => (tkS (tkS (qSt S E j).1 (qSt S E j).2 4) (tkE (qSt S E j).1 (qSt S E j).2 4) 4, tkE (tkS (qSt S E j).1 (qSt S E j).2 4) (tkE (qSt S E j).1 (qSt S E j).2 4) 4)
def qN (S : ByteArray) (E : Int) (j : Nat) : Int := beK (tkT (qSt S E j).1 (qSt S E j).2 4) (tkT (qSt S E j).1 (qSt S E j).2 4).size
def qI (S : ByteArray) (E : Int) (j : Nat) : Int := beK (tkT (tkS (qSt S E j).1 (qSt S E j).2 4) (tkE (qSt S E j).1 (qSt S E j).2 4) 4) (tkT (tkS (qSt S E j).1 (qSt S E j).2 4) (tkE (qSt S E j).1 (qSt S E j).2 4) 4).size
theorem zq71 (S : ByteArray) (E : Int) : 0 <= beK (tkT S E 4) (tkT S E 4).size /\ beK (tkT S E 4) (tkT S E 4).size < 4294967296 := zqtd _ (by
 have := zqg6 S E 4
 omega)
theorem zrf0 (S : ByteArray) (E : Int) (j : Nat) : 0 <= qN S E j /\ qN S E j < 4294967296 := zq71 _ _
theorem zrkv (S : ByteArray) (E : Int) (j : Nat) : 0 <= qI S E j /\ qI S E j < 4294967296 := zq71 _ _
theorem SeAt.oth {g : Nat} {w w' : World} {oa : Option Addr} {n : Nat} {N I : Nat -> Int} (h : SeAt w oa n N I) (hO : Oth g w w') (hne : ∀ ad, oa = some ad -> ad.block ≠ g) : SeAt w' oa n N I := by
 obtain ⟨cs, hb⟩ := hO;exact (h.aside g hne cs).later (by rw [zqs]; exact hb)
theorem zqvj {g : Nat} {S S1 : ByteArray} {E E1 : Int} {M : Nat} {w : World} (E3 : Int) (h3 : (if E1 = 0 then 4 else E1) = E3) (hS : tkS S E 2 = S1) (hE : tkE S E 2 = E1) (hV : beK (tkT S E 2) (tkT S E 2).size = (M : Int)) (hR : RdAt w g S E) (hM : ¬ (2 <= M /\ M <= 1024)) (hb : M <= 65535) :
  Calls Tryz.prog 72 #[.pointer (some ⟨g, 0, none⟩)] w fun e w' => e = .returned (.slice none 0 0) /\ RdAt w' g (S1) (E3) /\ Oth g w w' := by
 replace h3 := hid1 h3;have e2 : min (max (2 : Int) 0) 8 = 2 := by decide
 have cN := zqrq 2 hR;rw [e2, hS, hE, hV] at cN;clear hS hE hV e2
 go_enter Tryz.func72, Tryz.ntmps72
 go_wp2_with fail;refine cN.mono ?_
 rintro e w1 ⟨rfl, HR, HO⟩;replace HR := hid1 HR;clear cN hR;have hNw : IntKind.i64.wrap (M : Int) = (M : Int) := wrap_small (by omega) (by omega);have hc := fun W => zqv0 (M : Int) W (by omega);go_wp2_with fail;refine (hc _).mono ?_
 rintro e w2 ⟨rfl, hb⟩;replace HR := hid1 (HR.out.later hb);replace HO := HO.later hb;go_wp2_with fail;refine (zqlw _ HR.out (ErV.num _ 4 (by decide))).mono ?_
 rintro e w3 ⟨rfl, HR2, HO2⟩;rw [h3.out] at HR2;go_wp2;go_ret;exact ⟨rfl, HR2, HO.trans HO2⟩
theorem zqzn {g : Nat} {S S1 : ByteArray} {E E1 : Int} {M : Nat} {w : World} (hS : tkS S E 2 = S1) (hE : tkE S E 2 = E1) (hV : beK (tkT S E 2) (tkT S E 2).size = (M : Int)) (hR : RdAt w g S E) (hM : 2 <= M /\ M <= 1024) :
  Calls Tryz.prog 72 #[.pointer (some ⟨g, 0, none⟩)] w fun e w' => ∃ oa c, e = .returned (.slice oa M c) /\ SeAt w' oa M (qN S1 E1) (qI S1 E1) /\ (∀ ad, oa = some ad -> w.heap.size <= ad.block) /\ RdAt w' g ((qSt S1 E1 M).1) ((qSt S1 E1 M).2) /\ Oth g w w' := by
 have e2 : min (max (2 : Int) 0) 8 = 2 := by decide
 have cN := zqrq 2 hR;rw [e2, hS, hE, hV] at cN;clear hS hE hV e2
 go_enter Tryz.func72, Tryz.ntmps72
 go_wp2_with fail;refine cN.mono ?_
 rintro e w1 ⟨rfl, HR, HO⟩;replace HR := hid1 HR;clear cN hR;have hNw : IntKind.i64.wrap (M : Int) = (M : Int) := wrap_small (by omega) (by omega);have hc := fun W => zqp7 (M : Int) W (by omega);go_wp2_with fail;refine (hc _).mono ?_
 rintro e w2 ⟨rfl, hb⟩;replace HR := hid1 (HR.out.later hb);replace HO := HO.later hb;clear hb hc;have lg0 := HR.out.lt;go_wp2_with fail;have hO1 : Hid (Oth g w2 w2) := by
  obtain ⟨v, h1, _⟩ := HR.out;exact Oth.refl h1
 go_loopw [4, 15] (fun v i wr => ∃ (k : Nat) (v0 : Value), v0 = v /\ k <= M /\ i = .int .i64 k /\ Hid (RdAt wr g (qSt S1 E1 k).1 (qSt S1 E1 k).2) /\ Hid (Oth g w2 wr) /\ Hid (wr.ownsRow w2.heap.size 63 2 v0 k (seL (qN S1 E1) (qI S1 E1) k))) (fun _ i _ => M - (intOf i).toNat)
 case atStart => exact ⟨0, _, rfl, by omega, rfl, HR, hO1, World.ownsRow_nil _ _ _ _⟩
 case round =>
  clear HR hO1;obtain ⟨k, v0, rfl, hk, rfl, HR, HO1, OWN⟩ := hrel
  by_cases hlt : k < M
  ·have hi1 : (k : Int) < (M : Int) := by omega
   have HX : Hid (qN S1 E1 k = beK (tkT (qSt S1 E1 k).1 (qSt S1 E1 k).2 4) (tkT (qSt S1 E1 k).1 (qSt S1 E1 k).2 4).size) := rfl;have HY : Hid (qI S1 E1 k = beK (tkT (tkS (qSt S1 E1 k).1 (qSt S1 E1 k).2 4) (tkE (qSt S1 E1 k).1 (qSt S1 E1 k).2 4) 4) (tkT (tkS (qSt S1 E1 k).1 (qSt S1 E1 k).2 4) (tkE (qSt S1 E1 k).1 (qSt S1 E1 k).2 4) 4).size) := rfl;have HST : Hid (qSt S1 E1 (k + 1) = (tkS (tkS (qSt S1 E1 k).1 (qSt S1 E1 k).2 4) (tkE (qSt S1 E1 k).1 (qSt S1 E1 k).2 4) 4, tkE (tkS (qSt S1 E1 k).1 (qSt S1 E1 k).2 4) (tkE (qSt S1 E1 k).1 (qSt S1 E1 k).2 4) 4)) := rfl;obtain ⟨hx0, hx1⟩ := zrf0 S1 E1 k;obtain ⟨hy0, hy1⟩ := zrkv S1 E1 k;rw [HX.out] at hx0 hx1;rw [HY.out] at hy0 hy1;have e4 : min (max (4 : Int) 0) 8 = 4 := by decide
   have cN := zqrq 4 HR.out;have cK := fun (W : World) (h : RdAt W g (tkS (qSt S1 E1 k).1 (qSt S1 E1 k).2 4) (tkE (qSt S1 E1 k).1 (qSt S1 E1 k).2 4)) => zqrq 4 h;rw [e4] at cN cK;clear e4 HR;generalize (qSt S1 E1 k).1 = s at *;generalize (qSt S1 E1 k).2 = e at *;generalize beK (tkT s e 4) (tkT s e 4).size = x at *;generalize tkS s e 4 = s1 at *;generalize tkE s e 4 = e1 at *;generalize beK (tkT s1 e1 4) (tkT s1 e1 4).size = y at *;generalize tkS s1 e1 4 = s2 at *;generalize tkE s1 e1 4 = e2 at *;have hwx : IntKind.u32.wrap x = x := by rw [IntKind.wrap_u32]; omega
   have hwy : IntKind.u32.wrap y = y := by rw [IntKind.wrap_u32]; omega
   go_wp2_with fail;refine cN.mono ?_
   rintro e9 w3 ⟨rfl, HR2, HO2⟩;replace HR2 := hid1 HR2;have OWN2 := hid1 (HO2.own lg0 OWN.out);replace HO1 := hid1 (HO1.out.trans HO2);clear OWN HO2 cN;go_wp2_with fail;refine (cK _ HR2.out).mono ?_
   rintro e9 w4 ⟨rfl, HR3, HO3⟩;replace HR3 := hid1 (RdAt.later HR3 (Grew.alloc (Grew.refl w4) (.cells #[.int .u32 x, .int .u32 y] 63)));have OWN3 := World.ownsRow.alloc (HO3.own lg0 OWN2.out) (.cells #[.int .u32 x, .int .u32 y] 63);replace HO1 := hid1 ((HO1.out.trans HO3).later (Grew.alloc (Grew.refl w4) (.cells #[.int .u32 x, .int .u32 y] 63)));have hsz : w2.heap.size <= (w4.alloc (.cells #[.int .u32 x, .int .u32 y] 63)).heap.size := HO1.out.size;have hbk := zq1d OWN3;obtain ⟨g3, c3, w7, hr3, own7, hgr⟩ := zqwi (w4.alloc (.cells #[.int .u32 x, .int .u32 y] 63)) w2.heap.size _ k (qN S1 E1) (qI S1 E1) w4.heap.size _ _ OWN3 (by omega) (by rw [HX.out, HY.out]; exact zqh _ _ _ rfl) hsz;have OWN7 := hid1 own7;have HR7 : Hid (RdAt w7 g (qSt S1 E1 (k + 1)).1 (qSt S1 E1 (k + 1)).2) := by
    rw [HST.out];exact HR3.out.grown hgr (fun r e => ⟨by have := (hbk r e).1; omega, _, _, (hbk r e).2.choose_spec, by decide⟩)
   have HO7 : Hid (Oth g w2 w7) := HO1.out.grown hgr (fun r e => (hbk r e).1);clear own7 hgr hbk HR3 OWN3 HO1 HO3 OWN2 HR2 cK;go_wp2
   go_roundw
   case rel => first | exact ⟨k + 1, _, rfl, by omega, by go_num, HR7, HO7, OWN7⟩ | ((repeat' apply Exists.intro) <;> first | exact ⟨⟨k + 1, _, rfl, by omega, by go_num, HR7, HO7, OWN7⟩, rfl⟩ | exact undef)
   case measure => (simp [intOf]; omega)
  ·obtain rfl : k = M := by omega
   have hi1 : ¬ ((k : Int) < (k : Int)) := by omega
   obtain ⟨oa, c, rfl, -, hP, hB⟩ := zqqg OWN.out;have HP := hid1 hP;have HO9 := hid1 (HO.trans HO1.out);have hsz0 := HO.size;have HB9 : Hid (∀ ad, oa = some ad -> w.heap.size <= ad.block) := fun ad e => Nat.le_trans hsz0 (hB ad e).1;clear OWN hP HO HO1 hB;go_wp2;go_ret
   first | exact ⟨_, _, rfl, HP.out, HB9.out, HR.out, HO9.out⟩ | exact ⟨_, ⟨_, rfl⟩, HP.out, HB9.out, HR.out, HO9.out⟩
def StAt (w : World) (v : Value) (n : Nat) (N I f : Nat -> Int) (m : Nat) (P : Nat -> Nat -> Int) (t : Nat -> Int) : Prop := ∃ oa ob c d, v = .agg (stC (.slice oa n c) f (.slice ob m d) t) /\ SeAt w oa n N I /\ K32At w ob m P
theorem StAt.later {w w' : World} {v : Value} {n m : Nat} {N I f t : Nat -> Int} {P : Nat -> Nat -> Int} (h : StAt w v n N I f m P t) (hb : Below w.heap.size w w') : StAt w' v n N I f m P t := by
 obtain ⟨oa, ob, c, d, e, h1, h2⟩ := h;exact ⟨oa, ob, c, d, e, h1.later hb, h2.later hb⟩
theorem StAt.zero (w : World) (N I : Nat -> Int) (P : Nat -> Nat -> Int) : StAt w (.agg (stC (.slice none 0 0) zqe (.slice none 0 0) zqe)) 0 N I zqe 0 P zqe := ⟨none, none, 0, 0, rfl, .inl rfl, .inl rfl⟩
theorem zqh5 (S S1 S2 S3 S4 S5 : ByteArray) (E0 E1 E2 E3 E4 E5 X : Int) (n m : Nat) (N I f t : Nat -> Int) (P : Nat -> Nat -> Int) (w : World) (hS : S.size <= 100000) (hE0 : E0 = if S.size < 4 then 1 else 0) (cH : ∀ (g : Nat) (W : World), RdAt W g S E0 -> Calls Tryz.prog 48 #[.pointer (some ⟨g, 0, none⟩), .int .u64 2] W fun e w' => e = .returned (.tuple #[]) /\ RdAt w' g S1 E1 /\ Oth g W w') (cS : ∀ (g : Nat) (W : World), RdAt W g S1 E1 -> Calls Tryz.prog 72 #[.pointer (some ⟨g, 0, none⟩)] W fun e w' => ∃ oa c, e = .returned (.slice oa n c) /\ SeAt w' oa n N I /\ (∀ ad, oa = some ad -> W.heap.size <= ad.block) /\ RdAt w' g S2 E2 /\ Oth g W w') (cF : ∀ (g : Nat) (W : World), RdAt W g S2 E2 -> Calls Tryz.prog 73 #[.pointer (some ⟨g, 0, none⟩)] W fun e w' => e = .returned (.agg (ints .u8 32 f)) /\ RdAt w' g S3 E3 /\ Oth g W w') (cP : ∀ (g : Nat) (W : World), RdAt W g S3 E3 -> Calls Tryz.prog 74 #[.pointer (some ⟨g, 0, none⟩), .int .i64 (2 * (n : Int) - 2)] W fun e w' => ∃ ob d, e = .returned (.slice ob m d) /\ K32At w' ob m P /\ (∀ ad, ob = some ad -> W.heap.size <= ad.block) /\ RdAt w' g S4 E4 /\ Oth g W w') (cT : ∀ (g : Nat) (W : World), RdAt W g S4 E4 -> Calls Tryz.prog 73 #[.pointer (some ⟨g, 0, none⟩)] W fun e w' => e = .returned (.agg (ints .u8 32 t)) /\ RdAt w' g S5 E5 /\ Oth g W w') (hn : n <= 1024) (hm : m <= 10000) (hN : ∀ j, j < n -> 0 <= N j /\ N j < 4294967296) (hX : X = if enE S5 E5 = 0 then chkE n N m else enE S5 E5) :
  Calls Tryz.prog 28 #[.string S] w fun e w' => ∃ v u, e = .returned (.tuple #[v, u]) /\ StAt w' v (if X = 0 then n else 0) N I (if X = 0 then f else zqe) (if X = 0 then m else 0) P (if X = 0 then t else zqe) /\ ErV w' u (X) /\ Below w.heap.size w w' := by
 replace hX := hid1 hX;replace hE0 := hid1 hE0;have hbig : ¬ ((131072 : Int) < (S.size : Int)) := by omega
 go_enter Tryz.func28, Tryz.ntmps28
 go_wp2_with fail;refine (zq2v _ _).mono ?_
 rintro e w1 ⟨rfl, rfl⟩;have fr : zqd ((w.alloc (.cells (stC (.slice none 0 0) zqe (.slice none 0 0) zqe) 47)).alloc (.cells #[.string S, .nilIface] 161)) w.heap.size = some (.cells (stC (.slice none 0 0) zqe (.slice none 0 0) zqe) 47) := zqj _ (zqh _ _ _ rfl);have HR := hid1 (RdAt.over (w.alloc (.cells (stC (.slice none 0 0) zqe (.slice none 0 0) zqe) 47)) S);have hG : Below w.heap.size w ((w.alloc (.cells (stC (.slice none 0 0) zqe (.slice none 0 0) zqe) 47)).alloc (.cells #[.string S, .nilIface] 161)) := Grew.alloc (Grew.alloc (Grew.refl _) _) _;have hz : (w.alloc (.cells (stC (.slice none 0 0) zqe (.slice none 0 0) zqe) 47)).heap.size = w.heap.size + 1 := by simp
 rw [hz] at HR;go_wp2_with fail;generalize (w.alloc (.cells (stC (.slice none 0 0) zqe (.slice none 0 0) zqe) 47)).alloc (.cells #[.string S, .nilIface] 161) = w1 at *;have hne : w.heap.size ≠ w.heap.size + 1 := by omega
 have hgl : w.heap.size <= w.heap.size + 1 := by omega
 have hg2 : w.heap.size + 1 < w1.heap.size := HR.out.lt;clear hz;generalize w.heap.size + 1 = g at *;refine (zran HR.out).mono ?_
 rintro e w1 ⟨rfl, rfl⟩;refine zrap (S.size < 4) ?ga ?gb
 case' ga =>
  intro hs;have hsi : (S.size : Int) < 4 := by omega
  have q0 : E0 = 1 := by rw [hE0.out, if_pos hs]
  go_wp2_with fail;refine (zqlw _ HR.out (ErV.num _ 1 (by decide))).mono ?_
  rintro e w2 ⟨rfl, HR2, HO⟩;rw [if_pos rfl, <- q0] at HR2;replace HR := hid1 HR2;replace fr := HO.keep fr hne;replace hG := HO.below hG hgl;clear HR2 HO;go_wp2_with fail
 case' gb =>
  intro hs;have hsi : ¬ ((S.size : Int) < 4) := by omega
  have q0 : E0 = 0 := by rw [hE0.out, if_neg hs]
  rw [<- q0] at HR;obtain ⟨w2, rfl⟩ : ∃ x, x = w1 := ⟨_, rfl⟩
  go_wp2_with fail
 all_goals
  refine (cH _ _ HR.out).mono ?_
  rintro e w3 ⟨rfl, HR3, HO⟩;replace fr := HO.keep fr hne;replace hG := HO.below hG hgl;replace HR := hid1 HR3;clear HR3 HO;go_wp2_with fail;have hgw := zqa fr;have hgg := HR.out.lt;refine (cS _ _ HR.out).mono ?_
  rintro e w4 ⟨oa, c, rfl, hP, hoa, HR3, HO⟩;have hob : Hid (∀ ad, oa = some ad -> ad.block ≠ w.heap.size) := fun ad e => by have := hoa ad e; omega
  have hog : Hid (∀ ad, oa = some ad -> ad.block ≠ g) := fun ad e => by have := hoa ad e; omega
  have HP := hid1 hP;clear hoa hP hgw hgg;replace fr := HO.keep fr hne;replace hG := HO.below hG hgl;replace HR := hid1 HR3;clear HR3 HO;go_wp2_with fail;refine (cF _ _ HR.out).mono ?_
  rintro e w5 ⟨rfl, HR3, HO⟩;replace HP := hid1 (HP.out.oth HO hog.out);replace fr := HO.keep fr hne;replace hG := HO.below hG hgl;replace HR := hid1 HR3;clear HR3 HO;go_wp2_with fail;refine (zqi0 (n : Int) _ (by omega) (by omega)).mono ?_
  rintro e w5b ⟨rfl, hb⟩;replace fr := zqc hb fr;replace hG := Grew.trans hG hb;replace HR := hid1 (HR.out.later hb);replace HP := hid1 (HP.out.later hb);clear hb;go_wp2_with fail;have hgw := zqa fr;refine (cP _ _ HR.out).mono ?_
  rintro e w6 ⟨ob, d, rfl, hK, hkl, HR3, HO⟩;have hkb : Hid (∀ ad, ob = some ad -> ad.block ≠ w.heap.size) := fun ad e => by have := hkl ad e; omega
  replace HP := hid1 (HP.out.oth HO hog.out);have HK := hid1 hK;clear hkl hK hgw;replace fr := HO.keep fr hne;replace hG := HO.below hG hgl;replace HR := hid1 HR3;clear HR3 HO;go_wp2_with fail;refine (cT _ _ HR.out).mono ?_
  rintro e w7 ⟨rfl, HR3, HO⟩;replace HP := hid1 (HP.out.oth HO hog.out);replace HK := hid1 (HO.keys HR.out HK.out);replace fr := HO.keep fr hne;replace hG := HO.below hG hgl;replace HR := hid1 HR3;clear HR3 HO;go_wp2_with fail;have fb : zqd (w7.alloc (.cells (stC (.slice oa n c) f (.slice ob m d) t) 47)) w7.heap.size = some (.cells (stC (.slice oa n c) f (.slice ob m d) t) 47) := zqh _ _ _ rfl;replace fr := zqj (.cells (stC (.slice oa n c) f (.slice ob m d) t) 47) fr;replace hG := Grew.alloc hG (.cells (stC (.slice oa n c) f (.slice ob m d) t) 47);replace HR := hid1 (RdAt.later HR.out (Grew.alloc (Grew.refl w7) (.cells (stC (.slice oa n c) f (.slice ob m d) t) 47)));replace HP := hid1 (HP.out.later (Grew.alloc (Grew.refl w7) (.cells (stC (.slice oa n c) f (.slice ob m d) t) 47)))
  replace HK := hid1 (HK.out.later (Grew.alloc (Grew.refl w7) (.cells (stC (.slice oa n c) f (.slice ob m d) t) 47)));generalize w7.alloc (.cells (stC (.slice oa n c) f (.slice ob m d) t) 47) = w8 at *;generalize w7.heap.size = gb at *;have lfb := zqa fb;have lfr := zqa fr;have lg := HR.out.lt;have cE := fun (W : World) (hb : Below w8.heap.size w8 W) => zrfo (HR.out.later hb);have cC := fun (W : World) (hb : Below w8.heap.size w8 W) => zqj0 oa ob n c m d f t N I W (by omega) (by omega) (HP.out.later hb) hN
  refine zqe2 (fun k => k == 1 || k == 3 || k == 5) (fun k => match k with | 1 => fun u => ESh u | 3 => fun u => ESh u | 5 => fun u => ESh u | _ => fun _ => True) (fun k => match k with | 1 => fun u w => ErV w u (enE S5 E5) | 3 => fun u w => ErV w u (chkE n N m) | 5 => fun u w => ErV w u X | _ => fun _ _ => True) (fun k => match k with | 1 => .nilIface | 3 => .nilIface | 5 => .nilIface | _ => undef) (fun i hi => ?_) zqb zqb ?_
  ·simp only [Bool.or_eq_true, beq_iff_eq] at hi
   rcases hi with (rfl | rfl) | rfl
   ·exact .inl rfl
   ·exact .inl rfl
   ·exact .inl rfl
  (first | refine zqy rfl ?_ | (refine zqo rfl ?_; apply Exists.intro))
  refine zqo rfl ⟨undef, ?_⟩
  (first | refine zqy rfl ?_ | (refine zqo rfl ?_; apply Exists.intro))
  refine zqo rfl ⟨undef, ?_⟩
  (first | refine zqy rfl ?_ | (refine zqo rfl ?_; apply Exists.intro))
  refine zqo rfl ⟨undef, ?_⟩
  (first | refine zqy rfl ?_ | (refine zqo rfl ?_; apply Exists.intro))
  refine zqb8 ?_
  intro γ gv hsv hinj hbase;obtain ⟨u1, e1⟩ : ∃ u1, gv 1 = u1 := ⟨_, rfl⟩
  obtain ⟨u2, e2⟩ : ∃ u2, gv 3 = u2 := ⟨_, rfl⟩
  obtain ⟨U, e3⟩ : ∃ U, gv 5 = U := ⟨_, rfl⟩
  have h1 : ESh u1 := e1 ▸ hsv 1 rfl;have h2 : ESh u2 := e2 ▸ hsv 3 rfl;have hbd := fun W : World => zrdy u1 u2 h1 h2 W
  (repeat (first | (refine zq0 rfl ?_; ((first | go_big_quiet_skip | (go_big_quiet_want; go_big_quiet_op; go_big_quiet_on)); refine wpQuiet_nil ?_)) | ((first | refine zqm rfl (fun _ => rfl) ?_); ((first | go_big_quiet_skip | (go_big_quiet_want; go_big_quiet_op; go_big_quiet_on)); refine wpQuiet_nil ?_)) | refine zqn rfl (fun _ => rfl) ?_))
  refine rel_callv #[.pointer (some ⟨g, 0, none⟩)] (enters_of Tryz.func52 zqb rfl) rfl e1 rfl rfl rfl rfl (zqbl (zqe8 _ _)) (by first | kernel_rfl | simp [go_sem]) ?_ ?_
  ·intro W hC hF
   obtain ⟨mm, rfl⟩ := hC;refine (cE _ (zql w8 mm)).mono ?_
   rintro e w9 ⟨u, rfl, hu, hb9⟩;exact ⟨_, rfl, hu.shape, hu, hb9⟩
  ((first | go_big_quiet_skip | (go_big_quiet_want; go_big_quiet_op; go_big_quiet_on)); refine wpQuiet_nil ?_)
  (repeat (first | (refine zq0 rfl ?_; ((first | go_big_quiet_skip | (go_big_quiet_want; go_big_quiet_op; go_big_quiet_on)); refine wpQuiet_nil ?_)) | ((first | refine zqm rfl (fun _ => rfl) ?_); ((first | go_big_quiet_skip | (go_big_quiet_want; go_big_quiet_op; go_big_quiet_on)); refine wpQuiet_nil ?_)) | refine zqn rfl (fun _ => rfl) ?_))
  refine rel_callv #[.agg (stC (.slice oa n c) f (.slice ob m d) t)] (enters_of Tryz.func20 zqb rfl) rfl e2 rfl rfl rfl rfl (fits_one (zqe8 _ _) (zqe8 _ _) rfl rfl (zqbl (zqe8 _ _))) (by first | kernel_rfl | simp [go_sem]) ?_ ?_
  ·intro W hC hF
   obtain ⟨mm, rfl⟩ := hC;refine (cC _ (zql w8 mm)).mono ?_
   rintro e w9 ⟨u, rfl, hu, hb9⟩;exact ⟨_, rfl, hu.shape, hu, hb9⟩
  ((first | go_big_quiet_skip | (go_big_quiet_want; go_big_quiet_op; go_big_quiet_on)); refine wpQuiet_nil ?_)
  (repeat (first | (refine zq0 rfl ?_; ((first | go_big_quiet_skip | (go_big_quiet_want; go_big_quiet_op; go_big_quiet_on)); refine wpQuiet_nil ?_)) | ((first | refine zqm rfl (fun _ => rfl) ?_ | ((try simp only [Nat.zero_add, Nat.reduceAdd]); apply zqb7 zq5; (focus rfl); (focus (intro W; simp only [List.map_toArray, List.map_cons, List.map_nil]; first | (with_reducible exact hbd W) | exact hbd W)); (focus (exact zqve)))); ((first | go_big_quiet_skip | (go_big_quiet_want; go_big_quiet_op; go_big_quiet_on)); refine wpQuiet_nil ?_)) | refine zqn rfl (fun _ => rfl) ?_))
  refine rel_callv #[.slice (some ⟨γ 4, 0, none⟩) 2 2] (enters_of Tryz.func51 zqb rfl) rfl e3 rfl rfl rfl rfl (by exact zqve) (by first | kernel_rfl | simp [go_sem]) ?_ ?_
  ·intro W hC hF
   obtain ⟨mm, rfl⟩ := hC;have hE9 : Full (γ 4) #[u1, u2] 29 (more w8 mm) := known hF (List.mem_cons_self ..) (by decide +kernel);have hEb : ErV (more w8 mm) u2 (chkE n N m) := known hF (List.mem_cons_of_mem _ (List.mem_cons_self ..)) (by decide +kernel);have hEa : ErV (more w8 mm) u1 (enE S5 E5) := known hF (List.mem_cons_of_mem _ (List.mem_cons_of_mem _ (List.mem_cons_self ..))) (by decide +kernel);refine (zqwn _ u1 u2 _ hE9 h1 h2).mono ?_
   rintro e w9 ⟨rfl, rfl⟩;exact ⟨_, rfl, (ErV.first hEa hEb).shape, hX.out ▸ ErV.first hEa hEb, Grew.refl _⟩
  ((first | go_big_quiet_skip | (go_big_quiet_want; go_big_quiet_op; go_big_quiet_on)); refine wpQuiet_nil ?_)
  (repeat (first | (refine zq0 rfl ?_; ((first | go_big_quiet_skip | (go_big_quiet_want; go_big_quiet_op; go_big_quiet_on)); refine wpQuiet_nil ?_)) | ((first | refine zqm rfl (fun _ => rfl) ?_); ((first | go_big_quiet_skip | (go_big_quiet_want; go_big_quiet_op; go_big_quiet_on)); refine wpQuiet_nil ?_)) | refine zqn rfl (fun _ => rfl) ?_))
  (refine zqcg ?_; rintro _ ⟨mq, rfl⟩ hF; simp only [List.forall_mem_cons] at hF; obtain ⟨f5, -, -, -, -⟩ := hF)
  have hfv := hid1 f5;replace fr := zqp mq fr;replace fb := zqp mq fb;replace hG := Grew.more hG mq;replace HP := hid1 (HP.out.later (zql w8 mq));replace HK := hid1 (HK.out.later (zql w8 mq));clear cE cC f5 hinj hbase hsv e1 e2 e3 lfb lfr lg hbd h1 h2 HR;generalize more w8 mq = w9 at *;have lfb := zqa fb;have lfr := zqa fr
  by_cases hX0 : X = 0
  ·rw [hX0] at hfv
   rcases hfv with ⟨-, rfl⟩ | ⟨h0, -⟩
   ·have HP9 := hid1 (HP.out.aside w.heap.size (fun ad e => hob.out ad e) (stC (.slice oa n c) f (.slice ob m d) t))
    have HK9 := hid1 (HK.out.aside fr (fun ad e => hkb.out ad e) (stC (.slice oa n c) f (.slice ob m d) t));go_wp2;refine zqbo rfl _ 47 (stC (.slice oa n c) f (.slice ob m d) t) (0, 0) _ _ rfl rfl (zqv _ fr) Tryz.underlying47 rfl (by rw [stC_size]; kernel_rfl) rfl ?_
    exact ⟨_, _, rfl, by first | exact ⟨oa, ob, c, d, rfl, HP9.out, HK9.out⟩ | (rw [if_pos hX0, if_pos hX0, if_pos hX0, if_pos hX0]; exact ⟨oa, ob, c, d, rfl, HP9.out, HK9.out⟩), .inl ⟨by first | rfl | exact hX0, rfl⟩, Grew.setRow hG _ _ (Nat.le_refl _)⟩
   ·exact absurd rfl h0
  ·obtain ⟨t', x, rfl, hw⟩ := hfv.out.wrap hX0
   go_wp2_with fail;refine (wrap_any _ _ _ _).mono ?_
   rintro e w10 ⟨rfl, rfl⟩;have hw9 := hid1 (hw ⟨#[115, 101, 116, 117, 112]⟩);replace fr := zqj (.cells #[.string ⟨#[115, 101, 116, 117, 112]⟩, .iface t' x] 167) fr;replace hG := Grew.alloc hG (.cells #[.string ⟨#[115, 101, 116, 117, 112]⟩, .iface t' x] 167);clear hw lfb lfr;generalize (Value.iface 165 (.pointer (some ⟨w9.heap.size, 0, none⟩))) = fv at *;generalize w9.alloc (.cells #[.string ⟨#[115, 101, 116, 117, 112]⟩, .iface t' x] 167) = w10 at *;have lfr := zqa fr;go_wp2;refine zqbo rfl _ 47 (stC (.slice none 0 0) zqe (.slice none 0 0) zqe) (0, 0) _ _ rfl rfl (zqv _ fr) Tryz.underlying47 rfl (by rw [stC_size]; kernel_rfl) rfl ?_
   exact ⟨_, _, rfl, by first | (rw [if_neg hX0, if_neg hX0, if_neg hX0, if_neg hX0]; exact StAt.zero _ _ _ _) | exact StAt.zero _ _ _ _, hw9.out.put fr (by decide) _, Grew.setRow hG _ _ (Nat.le_refl _)⟩
end Go.Proofs.YtnjghcnhcbobhaaGreatDoor
namespace Go.Proofs.YtnjghcnhcbobhaaGreatDoor
open Go.RowKit Go.Extern
theorem zq1q {a b : Value} {f f' t t' : Nat -> Int} (hf : ∀ i, i < 32 -> f i = f' i) (ht : ∀ i, i < 32 -> t i = t' i) : stC a f b t = stC a f' b t' := by
 unfold stC;rw [zqa5 hf, zqa5 ht]
theorem StAt.congr {w : World} {v : Value} {n m : Nat} {N N' I I' f f' t t' : Nat -> Int} {P P' : Nat -> Nat -> Int} (h : StAt w v n N I f m P t) (hN : ∀ j, j < n -> N j = N' j) (hI : ∀ j, j < n -> I j = I' j) (hf : ∀ i, i < 32 -> f i = f' i) (hP : ∀ j, j < m -> ∀ i, i < 32 -> P j i = P' j i) (ht : ∀ i, i < 32 -> t i = t' i) : StAt w v n N' I' f' m P' t' := by
 obtain ⟨oa, ob, c, d, rfl, h1, h2⟩ := h;exact ⟨oa, ob, c, d, by rw [zq1q hf ht], h1.congr hN hI, h2.congr2 hP⟩
theorem StAt.none {w : World} {v : Value} {N N' I I' f t : Nat -> Int} {P P' : Nat -> Nat -> Int} (h : StAt w v 0 N I f 0 P t) : StAt w v 0 N' I' f 0 P' t := by
 obtain ⟨oa, ob, c, d, rfl, -, -⟩ := h;exact ⟨oa, ob, c, d, rfl, .inl rfl, .inl rfl⟩
theorem zqre (S : ByteArray) (a : Nat) : ∀ j, a + 8 * j <= S.size -> qSt (S.extract a S.size) 0 j = (S.extract (a + 8 * j) S.size, 0)
 | 0, _ => rfl
 | j + 1, h => by
  have ih := zqre S a j (by omega);obtain ⟨-, e2, e3⟩ := zqi2 S (a + 8 * j) 4 (by omega);obtain ⟨-, f2, f3⟩ := zqi2 S (a + 8 * j + 4) 4 (by omega)
  show (tkS (tkS (qSt _ 0 j).1 (qSt _ 0 j).2 4) (tkE (qSt _ 0 j).1 (qSt _ 0 j).2 4) 4, tkE (tkS (qSt _ 0 j).1 (qSt _ 0 j).2 4) (tkE (qSt _ 0 j).1 (qSt _ 0 j).2 4) 4) = _
  rw [ih]
  show (tkS (tkS _ 0 ((4 : Nat) : Int)) (tkE _ 0 ((4 : Nat) : Int)) ((4 : Nat) : Int), tkE (tkS _ 0 ((4 : Nat) : Int)) (tkE _ 0 ((4 : Nat) : Int)) ((4 : Nat) : Int)) = _
  rw [e2, e3, f2, f3, show a + 8 * j + 4 + 4 = a + 8 * (j + 1) by omega]
theorem zqqf (S : ByteArray) (a : Nat) (ha : a <= S.size) : ∀ j, S.size < a + 8 * j -> (qSt (S.extract a S.size) 0 j).2 = 1
 | 0, h => by omega
 | j + 1, h => by
  show tkE (tkS (qSt _ 0 j).1 (qSt _ 0 j).2 4) (tkE (qSt _ 0 j).1 (qSt _ 0 j).2 4) 4 = 1
  by_cases h1 : S.size < a + 8 * j
  ·have ih := zqqf S a ha j h1
   rw [ih];obtain ⟨-, -, e3⟩ := zqgj (S := (qSt (S.extract a S.size) 0 j).1) (E := 1) 4 (by decide);rw [e3];exact (zqgj 4 (by decide)).2.2
  ·rw [zqre S a j (by omega)]
   by_cases h2 : S.size < a + 8 * j + 4
   ·have e3 := zq2e (S.extract (a + 8 * j) S.size) 4 (by rw [ByteArray.size_extract]; omega)
    show tkE _ (tkE (S.extract (a + 8 * j) S.size) 0 ((4 : Nat) : Int)) 4 = 1
    rw [e3];exact (zqgj 4 (by decide)).2.2
   ·obtain ⟨-, e2, e3⟩ := zqi2 S (a + 8 * j) 4 (by omega)
    show tkE (tkS (S.extract (a + 8 * j) S.size) 0 ((4 : Nat) : Int)) (tkE (S.extract (a + 8 * j) S.size) 0 ((4 : Nat) : Int)) ((4 : Nat) : Int) = 1
    rw [e2, e3];exact zq2e _ 4 (by rw [ByteArray.size_extract]; omega)
theorem zrlh (S : ByteArray) (a j : Nat) (h : a + 8 * (j + 1) <= S.size) : qN (S.extract a S.size) 0 j = beK (S.extract (a + 8 * j) (a + 8 * j + 4)) (S.extract (a + 8 * j) (a + 8 * j + 4)).size := by
 obtain ⟨e1, -, -⟩ := zqi2 S (a + 8 * j) 4 (by omega);unfold qN;rw [zqre S a j (by omega)]
 show beK (tkT _ 0 ((4 : Nat) : Int)) (tkT _ 0 ((4 : Nat) : Int)).size = _
 rw [e1]
theorem zrls (S : ByteArray) (a j : Nat) (h : a + 8 * (j + 1) <= S.size) : qI (S.extract a S.size) 0 j = beK (S.extract (a + 8 * j + 4) (a + 8 * j + 4 + 4)) (S.extract (a + 8 * j + 4) (a + 8 * j + 4 + 4)).size := by
 obtain ⟨-, e2, e3⟩ := zqi2 S (a + 8 * j) 4 (by omega);obtain ⟨f1, -, -⟩ := zqi2 S (a + 8 * j + 4) 4 (by omega);unfold qI;rw [zqre S a j (by omega)]
 show beK (tkT (tkS _ 0 ((4 : Nat) : Int)) (tkE _ 0 ((4 : Nat) : Int)) ((4 : Nat) : Int)) (tkT (tkS _ 0 ((4 : Nat) : Int)) (tkE _ 0 ((4 : Nat) : Int)) ((4 : Nat) : Int)).size = _
 rw [e2, e3, f1]
def z2 (S : ByteArray) (n : Nat) : ByteArray × Int := qSt (S.extract 4 S.size) 0 n
def z3 (S : ByteArray) (n : Nat) : ByteArray × Int := (tkS (z2 S n).1 (z2 S n).2 32, tkE (z2 S n).1 (z2 S n).2 32)
def z4 (S : ByteArray) (n : Nat) : ByteArray × Int := (tkS (z3 S n).1 (z3 S n).2 (ksN (z3 S n).1 ((2 * n - 2 : Nat) : Int)), tkE (z3 S n).1 (z3 S n).2 (ksN (z3 S n).1 ((2 * n - 2 : Nat) : Int)))
def z5 (S : ByteArray) (n : Nat) : ByteArray × Int := (tkS (z4 S n).1 (z4 S n).2 32, tkE (z4 S n).1 (z4 S n).2 32)
theorem zrga {S : ByteArray} {n : Nat} (h : (z2 S n).2 = 1) : (z3 S n).2 = 1 := by show tkE _ (z2 S n).2 32 = 1; rw [h]; exact (zqgj 32 (by decide)).2.2
theorem zq7u {S : ByteArray} {n : Nat} (h : (z3 S n).2 = 1) : (z4 S n).2 = 1 := by show tkE _ (z3 S n).2 _ = 1; rw [h]; exact (zqgj _ (by decide)).2.2
theorem zq0d {S : ByteArray} {n : Nat} (h : (z4 S n).2 = 1) : (z5 S n).2 = 1 := by show tkE _ (z4 S n).2 32 = 1; rw [h]; exact (zqgj 32 (by decide)).2.2
theorem zrao {S : ByteArray} {n : Nat} (h : 4 + 8 * n <= S.size) : z2 S n = (S.extract (4 + 8 * n) S.size, 0) := zqre S 4 n h
theorem zrbn {S : ByteArray} {n : Nat} (h : 36 + 8 * n <= S.size) : z3 S n = (S.extract (36 + 8 * n) S.size, 0) := by
 obtain ⟨-, e2, e3⟩ := zqi2 S (4 + 8 * n) 32 (by omega);unfold z3;rw [zrao (by omega)]
 show (tkS _ 0 ((32 : Nat) : Int), tkE _ 0 ((32 : Nat) : Int)) = _
 rw [e2, e3, show 4 + 8 * n + 32 = 36 + 8 * n by omega]
theorem zrct {S : ByteArray} {n : Nat} (h2 : 2 <= n) (h : 72 * n - 28 <= S.size) : z4 S n = (S.extract (72 * n - 28) S.size, 0) := by
 obtain ⟨-, e2, e3⟩ := zqi2 S (36 + 8 * n) (32 * (2 * n - 2)) (by omega);unfold z4;rw [zrbn (by omega)]
 show (tkS (S.extract (36 + 8 * n) S.size) 0 (ksN (S.extract (36 + 8 * n) S.size) _), tkE (S.extract (36 + 8 * n) S.size) 0 (ksN (S.extract (36 + 8 * n) S.size) _)) = _
 rw [zq83 (S.extract (36 + 8 * n) S.size) (2 * n - 2) (by rw [ByteArray.size_extract]; omega), e2, e3, show 36 + 8 * n + 32 * (2 * n - 2) = 72 * n - 28 by omega]
theorem zrlo {S : ByteArray} {n : Nat} (h2 : 2 <= n) (h : 72 * n + 4 <= S.size) : z5 S n = (S.extract (72 * n + 4) S.size, 0) := by
 obtain ⟨-, e2, e3⟩ := zqi2 S (72 * n - 28) 32 (by omega);unfold z5;rw [zrct h2 (by omega)]
 show (tkS _ 0 ((32 : Nat) : Int), tkE _ 0 ((32 : Nat) : Int)) = _
 rw [e2, e3, show 72 * n - 28 + 32 = 72 * n + 4 by omega]
theorem zq6g {S : ByteArray} {n : Nat} (h2 : 2 <= n) (h4 : 4 <= S.size) (h : S.size < 72 * n + 4) : (z5 S n).2 = 1 := by
 by_cases c1 : S.size < 4 + 8 * n
 ·exact zq0d (zq7u (zrga (zqqf S 4 h4 n c1)))
 by_cases c2 : S.size < 36 + 8 * n
 ·refine zq0d (zq7u ?_)
  obtain ⟨-, -, e3⟩ := zq1t S (4 + 8 * n) 32 (by omega) (by omega);unfold z3;rw [zrao (by omega)]
  show tkE (S.extract (4 + 8 * n) S.size) 0 ((32 : Nat) : Int) = 1
  exact e3
 by_cases c3 : S.size < 72 * n - 28
 ·refine zq0d ?_
  obtain ⟨k, hk, hlt⟩ := zrge (S.extract (36 + 8 * n) S.size) (2 * n - 2) (by rw [ByteArray.size_extract]; omega);rw [ByteArray.size_extract] at hlt;obtain ⟨-, -, e3⟩ := zq1t S (36 + 8 * n) k (by omega) (by omega);unfold z4;rw [zrbn (by omega)]
  show tkE (S.extract (36 + 8 * n) S.size) 0 (ksN (S.extract (36 + 8 * n) S.size) _) = 1
  rw [hk, e3]
 ·obtain ⟨-, -, e3⟩ := zq1t S (72 * n - 28) 32 (by omega) (by omega)
  have e4 : tkE (S.extract (72 * n - 28) S.size) 0 32 = 1 := e3;have hz := zrct (S := S) h2 (show 72 * n - 28 <= S.size by omega)
  show tkE (z4 S n).1 (z4 S n).2 32 = 1
  rw [hz];exact e4
theorem zqnt (S : ByteArray) (w : World) (hS : S.size <= 30000) :
  Calls Tryz.prog 28 #[.string S] w fun e w' => ∃ v u, e = .returned (.tuple #[v, u]) /\ StAt w' v (if scE S = 0 then seN S else 0) (sNm S) (sId S) (if scE S = 0 then sFr S else zqe) (if scE S = 0 then 2 * seN S - 2 else 0) (sPk S) (if scE S = 0 then sTg S else zqe) /\ ErV w' u (scE S) /\ Below w.heap.size w w' := by
 have hbad : ∀ (E0 E1 : Int) (S1 : ByteArray), E0 = (if S.size < 4 then 1 else 0) -> E1 ≠ 0 -> tkS S E0 2 = S1 -> hd3 (hd2 (tkE S E0 2) (beK (tkT S E0 2) (tkT S E0 2).size)) (beK (tkT S E0 2) (tkT S E0 2).size) 2 = E1 -> scE S = E1 ->
   Calls Tryz.prog 28 #[.string S] w fun e w' => ∃ v u, e = .returned (.tuple #[v, u]) /\ StAt w' v (if scE S = 0 then seN S else 0) (sNm S) (sId S) (if scE S = 0 then sFr S else zqe) (if scE S = 0 then 2 * seN S - 2 else 0) (sPk S) (if scE S = 0 then sTg S else zqe) /\ ErV w' u (scE S) /\ Below w.heap.size w w' := fun E0 E1 S1 h0 h1 hs he hp => by
  obtain ⟨b1, b2, b3⟩ := zqgj (S := S1) (E := E1) 2 h1;obtain ⟨k1, k2, k3⟩ := zqgj (S := S1) (E := E1) 32 h1;obtain ⟨p1, p2, p3⟩ := zqgj (S := S1) (E := E1) (ksN S1 (2 * ((0 : Nat) : Int) - 2)) h1;have hz := zqu4 S E0 2;rw [hs] at hz;have := zqh5 S S1 S1 S1 S1 S1 E0 E1 E1 E1 E1 E1 (scE S) 0 0 (sNm S) (sId S) _ _ (sPk S) w (by omega) h0
   (fun g W hR => by have h := zq2i 2 hR; rw [hs, he] at h; exact h)
   (fun g W hR => (zqvj (M := 0) E1 (by rw [if_neg h1]) b2 b3 (by rw [b1]; rfl) hR (by omega) (by omega)).mono fun e w' ⟨e1, e2, e3⟩ => ⟨none, 0, e1, .inl rfl, fun ad h => (by cases h), e2, e3⟩)
   (fun g W hR => by
    have h := zqnr hR;rw [k1, k2, k3] at h;exact h)
   (fun g W hR => by
    have h := zqou (2 * ((0 : Nat) : Int) - 2) hR (by omega);rw [p1, p2, p3] at h;exact h.mono fun e w' ⟨oa, c, e1, _, e3, e4⟩ => ⟨oa, c, e1, .inl rfl, e3, e4⟩)
   (fun g W hR => by
    have h := zqnr hR;rw [k1, k2, k3] at h;exact h)
   (by decide) (by decide) (fun j hj => by omega) (by rw [zq29 _ h1, if_neg h1, hp])
  refine this.mono ?_
  rintro e w' ⟨v, u, he, hB, hu, hb⟩;refine ⟨v, u, he, ?_, hu, hb⟩;have hz : ¬ (scE S = 0) := by rw [hp]; exact h1
  simp only [if_neg hz] at hB ⊢
  exact hB.none
 by_cases c1 : S.size < 4
 ·obtain ⟨a1, a2, a3⟩ := zqgj (S := S) (E := 1) 2 (by decide)
  refine hbad 1 1 S (by rw [if_pos c1]) (by decide) a2 ?_ (by unfold scE; rw [if_pos c1])
  rw [a1, a3]
  rfl
 obtain ⟨a1, a2, a3⟩ := zqi2 S 0 2 (by omega);rw [zqvy] at a1 a2 a3;have hb0 := zqd7 S 0;have hb1 := zqd7 S 1;have hV := zq9l S (by omega);have q1 : (byteAt S 0 * 256 + byteAt S 1) / 256 = byteAt S 0 := by omega
 have q2 : (byteAt S 0 * 256 + byteAt S 1) % 256 = byteAt S 1 := by omega
 have hE0 : (0 : Int) = if S.size < 4 then 1 else 0 := by rw [if_neg c1]
 have hH : hd3 (hd2 (tkE S 0 2) (beK (tkT S 0 2) (tkT S 0 2).size)) (beK (tkT S 0 2) (tkT S 0 2).size) 2 = if byteAt S 0 = 1 then (if byteAt S 1 = 2 then 0 else 14) else 3 := by
  rw [show (2 : Int) = ((2 : Nat) : Int) from rfl, a1, a3, hV];unfold hd3 hd2;rw [q1, q2]
  by_cases h0 : byteAt S 0 = 1 <;> by_cases h1 : byteAt S 1 = 2 <;> simp [h0, h1]
 have hS1 : tkS S 0 2 = S.extract 2 S.size := by
  rw [show (2 : Int) = ((2 : Nat) : Int) from rfl, a2]
 by_cases c2 : byteAt S 0 = 1
 case neg =>
  refine hbad 0 3 _ hE0 (by decide) hS1 (by rw [hH, if_neg c2]) ?_
  unfold scE; rw [if_neg c1, if_pos c2]
 by_cases c3 : byteAt S 1 = 2
 case neg =>
  refine hbad 0 14 _ hE0 (by decide) hS1 (by rw [hH, if_pos c2, if_neg c3]) ?_
  unfold scE; rw [if_neg c1, if_neg (fun h => h c2), if_pos c3]
 rw [if_pos c2, if_pos c3] at hH;obtain ⟨b1, b2, b3⟩ := zqi2 S 2 2 (by omega);obtain ⟨n, hn⟩ : ∃ n, seN S = n := ⟨_, rfl⟩
 have hnI : seNI S = (n : Int) := by rw [<- hn]; exact (zrgm S).symm
 have hnb : n <= 65535 := by have := zq7z S; omega
 have cH : ∀ (g : Nat) (W : World), RdAt W g S 0 -> Calls Tryz.prog 48 #[.pointer (some ⟨g, 0, none⟩), .int .u64 2] W fun e w' => e = .returned (.tuple #[]) /\ RdAt w' g (S.extract 2 S.size) 0 /\ Oth g W w' := fun g W hR => by
  have h := zq2i 2 hR;rw [hS1, hH] at h;exact h
 have hPs : tkS (S.extract 2 S.size) 0 2 = S.extract 4 S.size := b2;have hPe : tkE (S.extract 2 S.size) 0 2 = 0 := b3;have hPv : beK (tkT (S.extract 2 S.size) 0 2) (tkT (S.extract 2 S.size) 0 2).size = (n : Int) := by
  rw [show (2 : Int) = ((2 : Nat) : Int) from rfl, b1];exact hnI
 have hsc : ∀ x, (if n < 2 \/ 1024 < n then (4 : Int) else if S.size < 72 * n + 4 then 1 else if 72 * n + 4 < S.size then 2 else dupN (sNm S) n) = x -> scE S = x := fun x h => by
  unfold scE;rw [if_neg c1, if_neg (fun h => h c2), if_neg (fun h => h c3), hn];exact h
 rw [hn]
 by_cases c4 : 2 <= n /\ n <= 1024
 case neg =>
  have hp : scE S = 4 := hsc 4 (by rw [if_pos (by omega)]);obtain ⟨k1, k2, k3⟩ := zqgj (S := S.extract 4 S.size) (E := 4) 32 (by decide);obtain ⟨p1, p2, p3⟩ := zqgj (S := S.extract 4 S.size) (E := 4) (ksN (S.extract 4 S.size) (2 * ((0 : Nat) : Int) - 2)) (by decide);have h4s : (S.extract 4 S.size).size <= 30000 := by rw [ByteArray.size_extract]; omega
  have := zqh5 S _ (S.extract 4 S.size) (S.extract 4 S.size) (S.extract 4 S.size) (S.extract 4 S.size) 0 0 4 4 4 4 (scE S) 0 0 (sNm S) (sId S) _ _ (sPk S) w (by omega) hE0 cH
   (fun g W hR => (zqvj 4 (by rw [if_pos rfl]) hPs hPe hPv hR c4 hnb).mono fun e w' ⟨e1, e2, e3⟩ => ⟨none, 0, e1, .inl rfl, fun ad h => (by cases h), e2, e3⟩)
   (fun g W hR => by
    have h := zqnr hR;rw [k1, k2, k3] at h;exact h)
   (fun g W hR => by
    have h := zqou (2 * ((0 : Nat) : Int) - 2) hR h4s;rw [p1, p2, p3] at h;exact h.mono fun e w' ⟨oa, c, e1, _, e3, e4⟩ => ⟨oa, c, e1, .inl rfl, e3, e4⟩)
   (fun g W hR => by
    have h := zqnr hR;rw [k1, k2, k3] at h;exact h)
   (by decide) (by decide) (fun j hj => by omega) (by rw [zq29 _ (by decide), if_neg (by decide), hp])
  refine this.mono ?_
  rintro e w' ⟨v, u, he, hB, hu, hb⟩;refine ⟨v, u, he, ?_, hu, hb⟩;have hz : ¬ (scE S = 0) := by rw [hp]; decide
  simp only [if_neg hz] at hB ⊢
  exact hB.none
 have h4s : (S.extract 4 S.size).size <= 30000 := by rw [ByteArray.size_extract]; omega
 have e2n : (2 * (n : Int) - 2) = ((2 * n - 2 : Nat) : Int) := by omega
 have hle : (z3 S n).1.size <= 30000 := by
  refine Nat.le_trans (zqu4 _ _ _) ?_
  have : ∀ j, (qSt (S.extract 4 S.size) 0 j).1.size <= (S.extract 4 S.size).size := fun j => by
   induction j with
   | zero => exact Nat.le_refl _
   | succ j ih => exact Nat.le_trans (zqu4 _ _ _) (Nat.le_trans (zqu4 _ _ _) ih)
  exact Nat.le_trans (this n) h4s
 have cP : ∀ (g : Nat) (W : World), RdAt W g (z3 S n).1 (z3 S n).2 -> Calls Tryz.prog 74 #[.pointer (some ⟨g, 0, none⟩), .int .i64 (2 * (n : Int) - 2)] W fun e w' => ∃ ob d, e = .returned (.slice ob ((tkT (z3 S n).1 (z3 S n).2 (ksN (z3 S n).1 ((2 * n - 2 : Nat) : Int))).size / 32) d) /\ K32At w' ob ((tkT (z3 S n).1 (z3 S n).2 (ksN (z3 S n).1 ((2 * n - 2 : Nat) : Int))).size / 32) (fun i j => byteAt (tkT (z3 S n).1 (z3 S n).2 (ksN (z3 S n).1 ((2 * n - 2 : Nat) : Int))) (32 * i + j)) /\ (∀ ad, ob = some ad -> W.heap.size <= ad.block) /\ RdAt w' g (z4 S n).1 (z4 S n).2 /\ Oth g W w' := fun g W hR => by
  have h := zqou (2 * (n : Int) - 2) hR hle;rw [e2n] at h ⊢;exact h
 have hmb : (tkT (z3 S n).1 (z3 S n).2 (ksN (z3 S n).1 ((2 * n - 2 : Nat) : Int))).size / 32 <= 10000 := by
  have := zqg6 (z3 S n).1 (z3 S n).2 (ksN (z3 S n).1 ((2 * n - 2 : Nat) : Int));have h2 : ksN (z3 S n).1 ((2 * n - 2 : Nat) : Int) <= 32 * 3000 := by unfold ksN; omega
  omega
 have hchk : ∀ N : Nat -> Int, chkE n N (2 * n - 2) = dupN N n := fun N => by
  unfold chkE;rw [if_neg (by omega)]
  by_cases hd : Twice N n
  ·rw [zqf0 hd, if_pos rfl]
  ·rw [zqgq hd, if_neg (by decide), if_neg (fun h => h rfl)]
 have hT3 : 72 * n - 28 <= S.size -> tkT (z3 S n).1 (z3 S n).2 (ksN (z3 S n).1 ((2 * n - 2 : Nat) : Int)) = S.extract (36 + 8 * n) (36 + 8 * n + 32 * (2 * n - 2)) := fun h => by
  obtain ⟨r1, -, -⟩ := zqi2 S (36 + 8 * n) (32 * (2 * n - 2)) (by omega);rw [zrbn (by omega)]
  show tkT (S.extract (36 + 8 * n) S.size) 0 (ksN (S.extract (36 + 8 * n) S.size) _) = _
  rw [zq83 (S.extract (36 + 8 * n) S.size) (2 * n - 2) (by rw [ByteArray.size_extract]; omega), r1]
 have hm : 72 * n - 28 <= S.size -> (S.extract (36 + 8 * n) (36 + 8 * n + 32 * (2 * n - 2))).size / 32 = 2 * n - 2 := fun h => by rw [ByteArray.size_extract]; omega
 have hqN : 72 * n - 28 <= S.size -> ∀ j, j < n -> qN (S.extract 4 S.size) 0 j = sNm S j := fun h j hj => zrlh S 4 j (by omega);have hX : scE S = if enE (z5 S n).1 (z5 S n).2 = 0 then chkE n (qN (S.extract 4 S.size) 0) ((tkT (z3 S n).1 (z3 S n).2 (ksN (z3 S n).1 ((2 * n - 2 : Nat) : Int))).size / 32) else enE (z5 S n).1 (z5 S n).2 := by
  by_cases c5 : S.size < 72 * n + 4
  ·rw [zq6g c4.1 (by omega) c5, zq29 _ (by decide), if_neg (by decide)]
   exact hsc 1 (by rw [if_neg (by omega), if_pos c5])
  have hsz : (S.extract (72 * n + 4) S.size).size = S.size - (72 * n + 4) := by rw [ByteArray.size_extract]; omega
  rw [zrlo c4.1 (by omega)]
  by_cases c6 : 72 * n + 4 < S.size
  ·have hen : enE (S.extract (72 * n + 4) S.size) 0 = 2 := by unfold enE; rw [if_pos ⟨rfl, by rw [hsz]; omega⟩]
   rw [hen, if_neg (by decide)];exact hsc 2 (by rw [if_neg (by omega), if_neg c5, if_pos c6])
  ·have hen : enE (S.extract (72 * n + 4) S.size) 0 = 0 := by unfold enE; rw [if_neg (fun h => h.2 (by rw [hsz]; omega))]
   rw [hen, if_pos rfl, hT3 (by omega), hm (by omega), hchk, zqn6 (hqN (by omega))];exact hsc _ (by rw [if_neg (by omega), if_neg c5, if_neg c6])
 have := zqh5 S _ (z2 S n).1 (z3 S n).1 (z4 S n).1 (z5 S n).1 0 0 (z2 S n).2 (z3 S n).2 (z4 S n).2 (z5 S n).2 (scE S) n _ _ _ _ _ _ w (by omega) hE0 cH
  (fun g W hR => zqzn hPs hPe hPv hR c4)
  (fun g W hR => zqnr hR) cP (fun g W hR => zqnr hR) c4.2 hmb (fun j hj => zrf0 _ _ _) hX
 refine this.mono ?_
 rintro e w' ⟨v, u, he, hB, hu, hb⟩;refine ⟨v, u, he, ?_, hu, hb⟩
 by_cases h0 : scE S = 0
 ·obtain ⟨-, -, -, -, -, hs9, -⟩ := zq5f h0
  rw [hn] at hs9;rw [hT3 (by omega), hm (by omega)] at hB
  simp only [if_pos h0] at hB ⊢
  refine hB.congr (hqN (by omega)) (fun j hj => zrls S 4 j (by omega)) (fun i hi => ?_) (fun j hj i hi => ?_) (fun i hi => ?_)
  ·obtain ⟨k1, -, -⟩ := zqi2 S (4 + 8 * n) 32 (by omega)
   have hT : tkT (z2 S n).1 (z2 S n).2 32 = S.extract (4 + 8 * n) (4 + 8 * n + 32) := by rw [zrao (by omega)]; exact k1
   rw [hT];unfold sFr putT;rw [hn, if_pos ⟨Nat.zero_le _, by rw [ByteArray.size_extract]; omega⟩, Nat.sub_zero, zqas _ _ _ _ (by omega) (by omega)]
  ·unfold sPk
   rw [hn, zqas _ _ _ _ (by omega) (by omega)]
   congr 1
   omega
  ·obtain ⟨k1, -, -⟩ := zqi2 S (72 * n - 28) 32 (by omega)
   have hT : tkT (z4 S n).1 (z4 S n).2 32 = S.extract (72 * n - 28) (72 * n - 28 + 32) := by rw [zrct c4.1 (by omega)]; exact k1
   rw [hT];unfold sTg putT;rw [hn, if_pos ⟨Nat.zero_le _, by rw [ByteArray.size_extract]; omega⟩, Nat.sub_zero, zqas _ _ _ _ (by omega) (by omega)]
 ·simp only [if_neg h0] at hB ⊢
  exact hB.none
end Go.Proofs.YtnjghcnhcbobhaaGreatDoor
namespace Go.Proofs.YtnjghcnhcbobhaaGreatDoor
open Go.RowKit Go.Extern
attribute [local go_sem high] zqe9
theorem zqzd {n m : Nat} {N : Nat -> Int} (h : n < 2 \/ 1024 < n) : chkE n N m = 4 := if_pos h
theorem zqw0 {n m : Nat} {N : Nat -> Int} (h : ¬ (n < 2 \/ 1024 < n)) (h2 : Twice N n) : chkE n N m = 15 := by
 unfold chkE;rw [if_neg h, if_pos (zqf0 h2)]
theorem zqz9 {n m : Nat} {N : Nat -> Int} (h : ¬ (n < 2 \/ 1024 < n)) (h2 : ¬ Twice N n) (h3 : m ≠ 2 * n - 2) : chkE n N m = 6 := by
 unfold chkE;rw [if_neg h, zqgq h2, if_neg (by decide), if_pos h3]
theorem zrc8 (a b : Int) (w : World) : (binOp .neq 119 (.agg #[.int .u32 a, .int .u32 b]) (.agg #[.int .u32 a, .int .u32 b])).run Tryz.prog w = .ok (.bool false) w := by
 have h : ∀ c : Int, (c == c) = true := fun c => by simp
 simp [go_sem, h]
theorem zqjl (oa ob pa pb : Option Addr) (n c c2 m d d2 : Nat) (f t N I : Nat -> Int) (P : Nat -> Nat -> Int) (w : World) (hn : n <= 2000) (hm : m <= 5000) (hA : SeAt w oa n N I) (hB : SeAt w ob n N I) (kA : K32At w pa m P) (kB : K32At w pb m P) :
  Calls Tryz.prog 29 #[.agg (stC (.slice oa n c) f (.slice pa m d) t), .agg (stC (.slice ob n c2) f (.slice pb m d2) t)] w (Rt w (.bool true)) := by
 have HA : Hid (SeAt w oa n N I) := hA;have HB : Hid (SeAt w ob n N I) := hB;have KA : Hid (K32At w pa m P) := kA;have KB : Hid (K32At w pb m P) := kB;clear hA hB kA kB
 go_enter Tryz.func29, Tryz.ntmps29
 have hst := zqeb 32 t;have hsf := zqeb 32 f;go_wp2_with fail;have fa : zqd ((w.alloc (.cells (stC (.slice oa n c) f (.slice pa m d) t) 53)).alloc (.cells (stC (.slice ob n c2) f (.slice pb m d2) t) 53)) w.heap.size = some (.cells (stC (.slice oa n c) f (.slice pa m d) t) 53) := zqj _ (zqh _ _ _ rfl);have fb : zqd ((w.alloc (.cells (stC (.slice oa n c) f (.slice pa m d) t) 53)).alloc (.cells (stC (.slice ob n c2) f (.slice pb m d2) t) 53)) (w.heap.size + 1) = some (.cells (stC (.slice ob n c2) f (.slice pb m d2) t) 53) := zqh _ _ _ (by simp);have hG0 : Below w.heap.size w ((w.alloc (.cells (stC (.slice oa n c) f (.slice pa m d) t) 53)).alloc (.cells (stC (.slice ob n c2) f (.slice pb m d2) t) 53)) := Grew.alloc (Grew.alloc (Grew.refl _) _) _
 have HA1 : Hid (SeAt ((w.alloc (.cells (stC (.slice oa n c) f (.slice pa m d) t) 53)).alloc (.cells (stC (.slice ob n c2) f (.slice pb m d2) t) 53)) oa n N I) := HA.out.later hG0;have HB1 : Hid (SeAt ((w.alloc (.cells (stC (.slice oa n c) f (.slice pa m d) t) 53)).alloc (.cells (stC (.slice ob n c2) f (.slice pb m d2) t) 53)) ob n N I) := HB.out.later hG0;have KA1 : Hid (K32At ((w.alloc (.cells (stC (.slice oa n c) f (.slice pa m d) t) 53)).alloc (.cells (stC (.slice ob n c2) f (.slice pb m d2) t) 53)) pa m P) := KA.out.later hG0;have KB1 : Hid (K32At ((w.alloc (.cells (stC (.slice oa n c) f (.slice pa m d) t) 53)).alloc (.cells (stC (.slice ob n c2) f (.slice pb m d2) t) 53)) pb m P) := KB.out.later hG0;generalize (w.alloc (.cells (stC (.slice oa n c) f (.slice pa m d) t) 53)).alloc (.cells (stC (.slice ob n c2) f (.slice pb m d2) t) 53) = w1 at *;generalize w.heap.size + 1 = gb at *
 have la0 := zqa fa;have lb0 := zqa fb
 go_loopw [40] (fun i wr => ∃ k : Nat, k <= n /\ i = .int .i64 k /\ (∃ q, wr = more w1 q)) (fun i _ => n - (intOf i).toNat)
 case atStart => exact ⟨0, by omega, rfl, ⟨⟨w1.drawn, #[]⟩, by simp [more]⟩⟩
 case round =>
  obtain ⟨i, hi, rfl, ⟨q0, rfl⟩⟩ := hrel;have fa1 := zqp q0 fa;have fb1 := zqp q0 fb;have la := zqa fa1;have lb := zqa fb1
  by_cases hlt : i < n
  ·have hi1 : (i : Int) < (n : Int) := by omega
   have hi0 : (0 : Int) <= (i : Int) := by omega
   obtain ⟨ad, rfl, -⟩ := HA1.out.blk (by omega);obtain ⟨bd, rfl, -⟩ := HB1.out.blk (by omega);have l1 := fun q : More => (HA1.out.later (zql w1 q)).load_rse hlt;have l2 := fun q : More => (HB1.out.later (zql w1 q)).load_rse hlt;have hnq := zrc8 (N i) (I i);generalize N i = x at *;generalize I i = y at *;go_wp2_with fail
   ((first | (with_reducible refine zq9 zqb zqb ?_) | refine zq2 zqb zqb ?_); (repeat (first | go_big_quiet_skip | (go_big_quiet_want; go_big_quiet_op; go_big_quiet_on))); refine wpQuiet_nil ?_; rintro _ ⟨mq, rfl⟩)
   clear l1 l2 fa1 fb1 la lb;go_wp2
   go_roundw
   case rel => first | exact ⟨i + 1, by omega, by go_num, ⟨mq, rfl⟩⟩ | ((repeat' apply Exists.intro) <;> first | exact ⟨⟨i + 1, by omega, by go_num, ⟨mq, rfl⟩⟩, rfl⟩ | exact undef)
   case measure => (simp [intOf]; omega)
  ·obtain rfl : i = n := by omega
   have hi1 : ¬ ((i : Int) < (i : Int)) := by omega
   go_wp2_with fail
   go_loopw [58] (fun i wr => ∃ k : Nat, k <= m /\ i = .int .i64 k /\ (∃ q, wr = more w1 q)) (fun i _ => m - (intOf i).toNat)
   case atStart => exact ⟨0, by omega, rfl, ⟨q0, rfl⟩⟩
   case round =>
    clear fa1 fb1 la lb;obtain ⟨j, hj, rfl, ⟨q1, rfl⟩⟩ := hrel;have fa1 := zqp q1 fa;have fb1 := zqp q1 fb;have la := zqa fa1;have lb := zqa fb1
    by_cases hlt : j < m
    ·have hi1 : (j : Int) < (m : Int) := by omega
     have hi0 : (0 : Int) <= (j : Int) := by omega
     obtain ⟨ad, rfl⟩ := KA1.out.addr (by omega);obtain ⟨bd, rfl⟩ := KB1.out.addr (by omega);have l1 := fun q : More => KA1.out.loadB hlt (zql w1 q);have l2 := fun q : More => KB1.out.loadB hlt (zql w1 q);have hsm := zqeb 32 (P j);generalize P j = y at *;go_wp2_with fail
     ((first | (with_reducible refine zq9 zqb zqb ?_) | refine zq2 zqb zqb ?_); (repeat (first | go_big_quiet_skip | (go_big_quiet_want; go_big_quiet_op; go_big_quiet_on))); refine wpQuiet_nil ?_; rintro _ ⟨mq, rfl⟩)
     clear l1 l2 fa1 fb1 la lb;go_wp2
     go_roundw
     case rel => first | exact ⟨j + 1, by omega, by go_num, ⟨mq, rfl⟩⟩ | ((repeat' apply Exists.intro) <;> first | exact ⟨⟨j + 1, by omega, by go_num, ⟨mq, rfl⟩⟩, rfl⟩ | exact undef)
     case measure => (simp [intOf]; omega)
    ·obtain rfl : j = m := by omega
     have hi1 : ¬ ((j : Int) < (j : Int)) := by omega
     go_wp2;go_ret;exact ⟨rfl, Grew.more hG0 _⟩
def RowTy (w : World) (oa : Option Addr) (T : TypeId) : Prop := ∀ ad, oa = some ad -> ∃ cs fr, zqd w ad.block = some (.cells cs T fr)
theorem RowTy.later {w w' : World} {oa : Option Addr} {T : TypeId} (h : RowTy w oa T) (hb : Below w.heap.size w w') : RowTy w' oa T := fun ad e => by
 obtain ⟨cs, fr, hg⟩ := h ad e;exact ⟨cs, fr, zqc hb hg⟩
theorem RowTy.ne {w : World} {oa : Option Addr} {T T' : TypeId} {g : Nat} {cs : Array Value} {fr : Nat × Nat} (h : RowTy w oa T) (hg : zqd w g = some (.cells cs T' fr)) (hne : T' ≠ T) : ∀ ad, oa = some ad -> ad.block ≠ g := fun ad e eb => by
 obtain ⟨cs', fr', h'⟩ := h ad e;rw [eb, hg] at h'
 cases h'
 exact hne rfl
theorem zq2q {w : World} {base n : Nat} {v : Value} {xs : List Value} {T : TypeId} {s : Nat} (h : w.ownsRow base T s v n xs) {oa : Option Addr} {m c : Nat} (e : v = .slice oa m c) : RowTy w oa T := fun ad e1 => by
 subst e e1
 rcases h.2 with ⟨h1, _⟩ | ⟨g, cap, cur, h1, _, hg, _⟩
 ·cases h1
 ·cases h1
  exact ⟨cur, _, hg⟩
def KTAt (n : Nat) (F : Nat -> Nat -> Int) (u : Value) (w : World) : Prop := ∀ oa c, u = .slice oa n c -> K32At w oa n F /\ RowTy w oa 43
theorem zqpd (n : Nat) (F : Nat -> Nat -> Int) (u : Value) : Stab (KTAt n F u) none := fun w w' h e oa c hu => ⟨(h oa c hu).1.later e, (h oa c hu).2.later e⟩
theorem zqjn (n : Nat) (F : Nat -> Nat -> Int) (u : Value) (g' : Nat) : Stab (KTAt n F u) (some (g', 53)) := fun w w' h ⟨old, cs', t', h1, ⟨_, h2⟩, e⟩ oa c hu => by
 subst e;subst h2;obtain ⟨h3, h4⟩ := h oa c hu;refine ⟨h3.aside h1 (h4.ne h1 (by decide)) _, fun ad e => ?_⟩;obtain ⟨cs, fr, hg⟩ := h4 ad e;exact ⟨cs, fr, zqk _ _ hg (h4.ne h1 (by decide) ad e)⟩
theorem zquu {P : Prop} (h : P := by first | exact zqab | ((repeat (refine zqfa ⟨by (first | exact zqbd _ _ _ _ | exact zqjn _ _ _ _ | exact zqpd _ _ _ | exact zqcy _ _ _ | exact zqbn _ _ _), by (first | exact zqbd _ _ _ _ | exact zqjn _ _ _ _ | exact zqpd _ _ _ | exact zqcy _ _ _ | exact zqbn _ _ _)⟩ ?_)); exact zqbl (by (first | exact zqbd _ _ _ _ | exact zqjn _ _ _ _ | exact zqpd _ _ _ | exact zqcy _ _ _ | exact zqbn _ _ _)))) : P := h
theorem Oth.put {g : Nat} {w w' : World} (h : Oth g w w') (cs : Array Value) : Oth g w (w'.setRow g cs) := by
 obtain ⟨c1, h1⟩ := h;have h2 := zqgp h1 g cs;rw [setRow_setRow] at h2;exact ⟨cs, h2⟩
theorem K32At.oth {w w' : World} {oa : Option Addr} {n g : Nat} {F : Nat -> Nat -> Int} {cs : Array Value} {t : TypeId} {fr : Nat × Nat} (h : K32At w oa n F) (hO : Oth g w w') (hg : zqd w g = some (.cells cs t fr)) (hne : ∀ ad, oa = some ad -> ad.block ≠ g) : K32At w' oa n F := by
 obtain ⟨c1, h1⟩ := hO;exact (h.aside hg hne c1).later (by rw [zqs]; exact h1)
theorem zqso (oa : Option Addr) (n c : Nat) (F : Nat -> Nat -> Int) (w : World) (hn : n <= 1000) (hK : K32At w oa n F) :
  Calls Tryz.prog 56 #[.slice oa n c] w fun e w' => ∃ oa2 c2, e = .returned (.slice oa2 n c2) /\ K32At w' oa2 n F /\ ((∀ ad, oa2 = some ad -> w.heap.size <= ad.block) /\ RowTy w' oa2 43) /\ Below w.heap.size w w' := by
 have HK : Hid (K32At w oa n F) := hK;clear hK
 go_enter Tryz.func56, Tryz.ntmps56
 go_wp2_with fail
 go_loopw [8, 3, 5] (fun i v _ wr => ∃ (j : Nat) (v0 : Value), v0 = v /\ j <= n /\ i = .int .i64 j /\ Below w.heap.size w wr /\ Hid (wr.ownsRow w.heap.size 43 32 v0 j (k32L F j))) (fun i _ _ _ => n - (intOf i).toNat)
 case atStart => exact ⟨0, _, rfl, by omega, rfl, Grew.refl _, World.ownsRow_nil _ _ _ _⟩
 case round =>
  obtain ⟨j, v0, rfl, hj, rfl, hM, OWN⟩ := hrel
  by_cases hlt : j < n
  ·obtain ⟨ad, rfl⟩ := HK.out.addr (by omega)
   have l1 := HK.out.loadK hlt hM;have hi1 : (j : Int) < (n : Int) := by omega
   have hi0 : (0 : Int) <= (j : Int) := by omega
   have hsz := hM.size;obtain ⟨g3, c3, w3, hr3, own3, hb3, -⟩ := zqyv w ((wr.alloc (.cells (ints .u8 32 (F j)) 44)).alloc (.cells (ints .u8 32 (F j)) 43)) w.heap.size _ j F (wr.alloc (.cells (ints .u8 32 (F j)) 44)).heap.size _ _ (World.ownsRow.alloc (World.ownsRow.alloc OWN.out _) _) (by omega) (zqh _ _ _ rfl) (Grew.alloc (Grew.alloc hM _) _) (Nat.le_refl _) (by simp; omega);have OWN3 : Hid (w3.ownsRow w.heap.size 43 32 (.slice (some ⟨g3, 0, none⟩) (j + 1) c3) (j + 1) (k32L F (j + 1))) := own3;have hx : (wr.alloc (.cells (ints .u8 32 (F j)) 44)).heap.size = wr.heap.size + 1 := by simp
   rw [hx] at hr3;clear own3 OWN;go_wp2
   go_roundw
   case rel => exact ⟨j + 1, _, rfl, by omega, by go_num, hb3, OWN3⟩
   case measure => (simp [intOf] <;> omega)
  ·obtain rfl : j = n := by omega
   obtain ⟨oa2, c2, rfl, -, hK2⟩ := zqft OWN.out;have HK2 : Hid (K32At wr oa2 j F) := hK2;have HB2 : Hid ((∀ ad, oa2 = some ad -> w.heap.size <= ad.block) /\ RowTy wr oa2 43) := ⟨zqmp OWN.out rfl, zq2q OWN.out rfl⟩
   clear OWN hK2;go_wp2;go_ret;exact ⟨oa2, c2, rfl, HK2, HB2.out, hM⟩
theorem zqk1 (oa ob : Option Addr) (n c m d : Nat) (f t : Nat -> Int) (N I : Nat -> Int) (P : Nat -> Nat -> Int) (w : World) (hn : n <= 2000) (hm : m <= 1000) (hP : SeAt w oa n N I) (hK : K32At w ob m P) :
  Calls Tryz.prog 15 #[.agg (stC (.slice oa n c) f (.slice ob m d) t)] w fun e w' => ∃ v, e = .returned (v) /\ StAt w' v n N I f m P t /\ Below w.heap.size w w' := by
 have HP : Hid (SeAt w oa n N I) := hP;have HK : Hid (K32At w ob m P) := hK;clear hP hK
 go_enter Tryz.func15, Tryz.ntmps15
 go_wp2_with fail;have fb : zqd ((w.alloc (.cells (stC (.slice oa n c) f (.slice ob m d) t) 47)).alloc (.cells (stC (.slice none 0 0) zqe (.slice none 0 0) zqe) 53)) w.heap.size = some (.cells (stC (.slice oa n c) f (.slice ob m d) t) 47) := zqj _ (zqh _ _ _ rfl);have fr : zqd ((w.alloc (.cells (stC (.slice oa n c) f (.slice ob m d) t) 47)).alloc (.cells (stC (.slice none 0 0) zqe (.slice none 0 0) zqe) 53)) (w.heap.size + 1) = some (.cells (stC (.slice none 0 0) zqe (.slice none 0 0) zqe) 53) := zqh _ _ _ (by simp);have hG : Below w.heap.size w ((w.alloc (.cells (stC (.slice oa n c) f (.slice ob m d) t) 47)).alloc (.cells (stC (.slice none 0 0) zqe (.slice none 0 0) zqe) 53)) := Grew.alloc (Grew.alloc (Grew.refl _) _) _
 generalize (w.alloc (.cells (stC (.slice oa n c) f (.slice ob m d) t) 47)).alloc (.cells (stC (.slice none 0 0) zqe (.slice none 0 0) zqe) 53) = w1 at *;have hgr : w.heap.size <= w.heap.size + 1 := by omega
 have hgn : w.heap.size < w.heap.size + 1 := by omega
 generalize w.heap.size + 1 = gr at *;have lb := zqa fb;have lr := zqa fr;have cK := fun (W : World) (hb : Below w1.heap.size w1 W) => zqso ob m d P W hm ((HK.out.later hG).later hb);refine zqe2 (fun k => k == 4) (fun k => match k with | 4 => fun u => KSlF w1.heap.size m u | _ => fun _ => True) (fun k => match k with | 4 => fun u w => KTAt m P u w | _ => fun _ _ => True) (fun k => match k with | 4 => .slice none m 0 | _ => undef) (fun i hi => ?_) zqb zqb ?_
 ·simp only [Bool.or_eq_true, beq_iff_eq] at hi
  subst hi;exact ⟨none, 0, rfl, fun _ h => by cases h⟩
 iterate 4 (first | refine zqy rfl ?_ | (refine zqo rfl ?_; apply Exists.intro))
 refine zqo rfl ⟨undef, ?_⟩
 iterate 5 (first | refine zqy rfl ?_ | (refine zqo rfl ?_; apply Exists.intro))
 refine zqb8 ?_
 intro γ gv hsv hinj hbase;obtain ⟨ok, kk, e1, hob⟩ := hsv 4 rfl
 (repeat (first | (refine zq0 rfl ?_; ((first | go_big_quiet_skip | (go_big_quiet_want; go_big_quiet_op; go_big_quiet_on)); refine wpQuiet_nil ?_)) | ((first | refine zqm rfl (fun _ => rfl) ?_ | (apply zqae; (focus rfl); (focus rfl); (focus rfl); (focus (intro W hC hF; (skip); go_big_quiet_want; go_big_quiet_op; (first | go_big_quiet_on | (apply Exists.intro; refine ⟨fun _ => ?_, ?_⟩; (focus ((fail))); go_big_quiet_on)); exact wpQuiet_nil rfl)); (focus (first | exact fun _ => ⟨rfl, rfl⟩ | exact fun h => absurd h (by decide))))); ((first | go_big_quiet_skip | (go_big_quiet_want; go_big_quiet_op; go_big_quiet_on)); refine wpQuiet_nil ?_)) | refine zqn rfl (fun _ => rfl) ?_))
 refine rel_callv #[.slice ob m d] (enters_of Tryz.func56 zqb rfl) rfl e1 rfl rfl rfl rfl (zqbl (zqpd _ _ _)) (by first | kernel_rfl | simp [go_sem]) ?_ ?_
 ·intro W hC hF
  obtain ⟨mm, rfl⟩ := hC;refine (cK _ (zql w1 mm)).mono ?_
  rintro e w9 ⟨ob9, cb9, rfl, hK9, hB9, hb9⟩;exact ⟨_, rfl, ⟨_, _, rfl, fun ad e => Nat.le_trans (zql w1 mm).size (hB9.1 ad e)⟩, (fun oa2 c2 e2 => by cases e2; exact ⟨hK9, hB9.2⟩), hb9⟩
 ((first | go_big_quiet_skip | (go_big_quiet_want; go_big_quiet_op; go_big_quiet_on)); refine wpQuiet_nil ?_)
 (repeat (first | (refine zq0 rfl ?_; ((first | go_big_quiet_skip | (go_big_quiet_want; go_big_quiet_op; go_big_quiet_on)); refine wpQuiet_nil ?_)) | ((first | refine zqm rfl (fun _ => rfl) ?_ | ((try simp only [Nat.zero_add, Nat.reduceAdd]); apply zqbz _ _ zq5; (focus rfl); (focus (intro W; (first | exact zqcl _ | exact zqb1 _ | exact zero_num _ | exact zqbx _ | exact zqbf _ | exact zqbi _ | exact zero_rset _))); (focus (first | exact zqbg _ _ _ | exact stC_size _ _ _ _ | exact zqbu _ _ | rfl)); (focus (exact zquu))) | (apply zqae; (focus rfl); (focus rfl); (focus rfl); (focus (intro W hC hF; (skip); go_big_quiet_want; go_big_quiet_op; (first | go_big_quiet_on | (apply Exists.intro; refine ⟨fun _ => ?_, ?_⟩; (focus ((fail))); go_big_quiet_on)); exact wpQuiet_nil rfl)); (focus (first | exact fun _ => ⟨rfl, rfl⟩ | exact fun h => absurd h (by decide))))); ((first | go_big_quiet_skip | (go_big_quiet_want; go_big_quiet_op; go_big_quiet_on)); refine wpQuiet_nil ?_)) | refine zqn rfl (fun _ => rfl) ?_ | ((try simp only [Nat.zero_add, Nat.reduceAdd]); apply zqbt (zqbe (hbase _)); (focus rfl); (focus rfl); (focus rfl); (focus (first | exact zqai _ | exact zqao _ _ | exact zqag _ | rfl)); rotate_left 3; (focus (exact zqeg)); rotate_right 3; (focus kernel_rfl); (focus (first | exact zqi _ _ _ | exact stC_size _ _ _ _ | rfl)); (focus (first | exact zqbb _ _ _ | exact zq56 _ _ _ _ _ _ _ _ | exact zqb5 _ _ _ _ | kernel_rfl)); (focus (decide +kernel)); (focus (exact zquu)))))
 (refine zqcg ?_; rintro _ ⟨mq, rfl⟩ hF; simp only [List.forall_mem_cons] at hF; obtain ⟨fo, -, f4, -⟩ := hF)
 obtain ⟨hK4, hY4⟩ := f4 _ _ rfl;replace hG := Grew.more hG mq;replace fr := zqp mq fr;replace fb := zqp mq fb;replace fo : zqd (more w1 mq) (γ 8) = some (.cells (stC (.slice none 0 0) f (.slice ok m kk) t) 53) := fo;have hgo : w1.heap.size <= γ 8 := hbase 8;replace hob : Hid (∀ ad, ok = some ad -> ad.block ≠ gr) := fun ad e => by have := hob ad e; omega
 have hW1 : w1.heap.size <= (more w1 mq).heap.size := (zql w1 mq).size;clear f4 hinj hbase hsv e1 lb cK;have hgg : gr < γ 8 := by omega
 clear hW1 hgo lr;generalize γ 8 = go at *;generalize more w1 mq = w2 at *;clear γ gv;have hKo : Hid (∀ ad, ok = some ad -> ad.block ≠ go) := hY4.ne fo (by decide);have HK4 := hid1 hK4;have lo := zqa fo;have fo0 := fo;have hO : Hid (Oth go w2 w2) := Oth.refl fo;have lb := zqa fb;clear hK4 hY4;go_wp2_with fail
 go_loopw [17] (fun i wr => ∃ (k : Nat) (v0 : Value), k <= n /\ i = .int .i64 k /\ Below w.heap.size w wr /\ Hid (Oth go w2 wr) /\ zqd wr gr = some (.cells (stC (.slice none 0 0) zqe (.slice none 0 0) zqe) 53) /\ zqd wr go = some (.cells (stC v0 f (.slice ok m kk) t) 53) /\ w2.heap.size <= wr.heap.size /\ Hid (wr.ownsRow w2.heap.size 119 2 v0 k (seL N I k))) (fun i _ => n - (intOf i).toNat)
 case atStart => exact ⟨0, _, by omega, rfl, hG, hO, fr, fo, Nat.le_refl _, World.ownsRow_nil _ _ _ _⟩
 case round =>
  clear hG fr fo fb hO lb;obtain ⟨k, v0, hk, rfl, hG, HO, fr, fo, hsz, OWN⟩ := hrel;have lr2 := zqa fr;have lo2 := zqa fo
  by_cases hlt : k < n
  ·have hi1 : (k : Int) < (n : Int) := by omega
   have hi0 : (0 : Int) <= (k : Int) := by omega
   obtain ⟨ad, rfl, -⟩ := HP.out.blk (by omega);have hl := (HP.out.later hG).load_se hlt;have hb2 : Below wr.heap.size wr ((wr.alloc (.cells #[.int .u32 (N k), .int .u32 (I k)] 63)).alloc (.cells #[.int .u32 (N k), .int .u32 (I k)] 119)) := Grew.alloc (Grew.alloc (Grew.refl _) _) _;have OWN1 := World.ownsRow.alloc (World.ownsRow.alloc OWN.out (.cells #[.int .u32 (N k), .int .u32 (I k)] 63)) (.cells #[.int .u32 (N k), .int .u32 (I k)] 119);have hbk := zq1d OWN1;have hszB : w2.heap.size <= ((wr.alloc (.cells #[.int .u32 (N k), .int .u32 (I k)] 63)).alloc (.cells #[.int .u32 (N k), .int .u32 (I k)] 119)).heap.size := Nat.le_trans hsz hb2.size
   obtain ⟨g3, c3, w7, hr3, own7, hgr7⟩ := zqts ((wr.alloc (.cells #[.int .u32 (N k), .int .u32 (I k)] 63)).alloc (.cells #[.int .u32 (N k), .int .u32 (I k)] 119)) w2.heap.size _ k N I (wr.heap.size + 1) _ _ OWN1 (by omega) (zqh _ _ _ (by simp)) hszB;have hG7 := (Grew.alloc (Grew.alloc hG (.cells #[.int .u32 (N k), .int .u32 (I k)] 63)) (.cells #[.int .u32 (N k), .int .u32 (I k)] 119)).grown hgr7 (by have := hG.size; have := hb2.size; omega) (fun r e => by have := (hbk r e).1; have := hG.size; omega);have HO7 := (HO.out.later hb2).grown hgr7 (fun r e => (hbk r e).1)
   have fr7 : zqd w7 gr = some (.cells (stC (.slice none 0 0) zqe (.slice none 0 0) zqe) 53) := (hgr7.block _ (by have := hb2.size; omega) (fun e => by have := (hbk _ e.symm).1; omega)).trans (zqj (.cells #[.int .u32 (N k), .int .u32 (I k)] 119) (zqj (.cells #[.int .u32 (N k), .int .u32 (I k)] 63) fr));have fo7 : zqd w7 go = _ := (hgr7.block _ (by have := hb2.size; omega) (fun e => by have := (hbk _ e.symm).1; omega)).trans (zqj (.cells #[.int .u32 (N k), .int .u32 (I k)] 119) (zqj (.cells #[.int .u32 (N k), .int .u32 (I k)] 63) fo));have lo7 := zqa fo7;have OWN7 : Hid ((w7.setRow go (stC (.slice (some ⟨g3, 0, none⟩) (k + 1) c3) f (.slice ok m kk) t)).ownsRow w2.heap.size 119 2 (.slice (some ⟨g3, 0, none⟩) (k + 1) c3) (k + 1) (seL N I (k + 1))) := zqg0 own7 lo
   have hG8 := Grew.setRow hG7 go (stC (.slice (some ⟨g3, 0, none⟩) (k + 1) c3) f (.slice ok m kk) t) (by omega);have HO8 := hid1 (HO7.put (stC (.slice (some ⟨g3, 0, none⟩) (k + 1) c3) f (.slice ok m kk) t));have fr8 := zqk go (stC (.slice (some ⟨g3, 0, none⟩) (k + 1) c3) f (.slice ok m kk) t) fr7 (by omega);have fo8 := zqv (stC (.slice (some ⟨g3, 0, none⟩) (k + 1) c3) f (.slice ok m kk) t) fo7;have hsz8 : w2.heap.size <= (w7.setRow go (stC (.slice (some ⟨g3, 0, none⟩) (k + 1) c3) f (.slice ok m kk) t)).heap.size := by rw [zqs]; exact Nat.le_trans hszB hgr7.size
   clear own7 hgr7 OWN OWN1 hszB hbk hb2 HO7 hG7;generalize N k = x at *;generalize I k = y at *;go_wp2
   go_roundw
   case rel => first | exact ⟨k + 1, _, by omega, by go_num, hG8, HO8, fr8, fo8, hsz8, OWN7⟩ | ((repeat' apply Exists.intro) <;> first | exact ⟨⟨k + 1, _, by omega, by go_num, hG8, HO8, fr8, fo8, hsz8, OWN7⟩, rfl⟩ | exact undef)
   case measure => (simp [intOf]; omega)
  ·obtain rfl : k = n := by omega
   have hi1 : ¬ ((k : Int) < (k : Int)) := by omega
   obtain ⟨oa2, c2, rfl, -, hP2, hB2⟩ := zqqg OWN.out;have HP2 : Hid (SeAt (wr.setRow gr (stC (.slice oa2 k c2) f (.slice ok m kk) t)) oa2 k N I) := hP2.aside _ (fun ad e => by have := (hB2 ad e).1; omega) _;have HK2 := hid1 ((HK4.out.oth HO.out fo0 hKo.out).aside fr hob.out (stC (.slice oa2 k c2) f (.slice ok m kk) t));clear OWN hP2 hB2 HO;go_wp2;refine zqak rfl _ 53 _ (0, 0) _ rfl (zqv _ fr) Tryz.underlying53 rfl (by rw [stC_size]; kernel_rfl) rfl ?_
   first | exact ⟨_, rfl, ⟨_, _, _, _, rfl, HP2.out, HK2.out⟩, Grew.setRow hG _ _ hgr⟩ | exact ⟨⟨_, rfl⟩, ⟨_, _, _, _, rfl, HP2.out, HK2.out⟩, Grew.setRow hG _ _ hgr⟩
end Go.Proofs.YtnjghcnhcbobhaaGreatDoor
namespace Go.Proofs.YtnjghcnhcbobhaaGreatDoor
open Go.RowKit Go.Extern
attribute [local go_sem high] zqe9
theorem SeAt.same {B : Nat} {w w' : World} {oa : Option Addr} {n : Nat} {N I : Nat -> Int} (h : SeAt w oa n N I) (hk : ∀ m o, m < B -> zqd w m = some o -> zqd w' m = some o) (hB : ∀ ad, oa = some ad -> ad.block < B) : SeAt w' oa n N I := by
 rcases h with h | ⟨ad, ho, hl, hc⟩
 ·exact .inl h
 ·obtain ⟨o, hob⟩ : ∃ o, zqd w ad.block = some o := by unfold zqd; exact ⟨_, Array.getElem?_eq_getElem hl⟩
  have h2 := hk _ _ (hB ad ho) hob;refine .inr ⟨ad, ho, by unfold zqd at h2; exact (Array.getElem?_eq_some_iff.1 h2).1, fun j hj i hi => ?_⟩;have hcell : ∀ a : Addr, a.block = ad.block -> w'.cell? a = w.cell? a := fun a ha => by
   unfold World.cell?;unfold zqd at hob h2;rw [ha, hob, h2]
  rw [hcell _ (by rw [zqe6, zqe6])];exact hc j hj i hi
end Go.Proofs.YtnjghcnhcbobhaaGreatDoor
namespace Go.Proofs.YtnjghcnhcbobhaaGreatDoor
open Go.RowKit Go.Extern
theorem zqzt {n m c c' d d' : Nat} {o o' p p' : Option Addr} {f t : Nat -> Int} (h : (Value.agg (stC (.slice o n c) f (.slice p m d) t)) = .agg (stC (.slice o' n c') f (.slice p' m d') t)) : (o = o' /\ c = c') /\ p = p' /\ d = d' := by
 have h1 := congrArg (fun v => match v with | .agg cs => cs[0]? | _ => none) h;have h2 := congrArg (fun v => match v with | .agg cs => cs[33]? | _ => none) h
 simp only [stC_0] at h1
 simp only [stC_33] at h2
 cases h1
 cases h2
 exact ⟨⟨rfl, rfl⟩, rfl, rfl⟩
theorem zqpb (n m : Nat) (N I f t : Nat -> Int) (P : Nat -> Nat -> Int) (u : Value) : Stab (fun w => ∀ oa ob c d, u = .agg (stC (.slice oa n c) f (.slice ob m d) t) -> SeAt w oa n N I /\ K32At w ob m P) none := fun w w' h e oa ob c d hu => ⟨(h oa ob c d hu).1.later e, (h oa ob c d hu).2.later e⟩
end Go.Proofs.YtnjghcnhcbobhaaGreatDoor
namespace Go.Proofs.YtnjghcnhcbobhaaGreatDoor
open Go.ChangeShapes Go.WideShapes Go.ChangeAt Go.RowKit
theorem one_of {α : Type} (l : List α) (k : Nat) (h : k < l.length) : (l.drop k).take 1 = [l[k]] := by
 rw [List.drop_eq_getElem_cons h]
 rfl
theorem zqte {H : Type} {enc : TypeId × Value -> H} {W : World} {base : Nat} {sp : Nat -> Bool} {held : Bool} {fuel : Nat} {u : Value} {x : DataW H × List MemPlace}
  (h : DataW.trod enc Tryz.prog W base sp held fuel 45 [u] = some x) : ∃ (oa : Option Addr) (n c : Nat) (F : Nat -> Nat -> Int), u = .slice oa n c /\ (∀ i, i < n -> Bytes 32 (F i)) /\ K32At W oa n F := by
 obtain ⟨hsl, hd⟩ := zqiy Tryz.underlying45 h;obtain ⟨oa, n, c, F, hv, hm, hw, hF⟩ := zq1v (n := 32) (k := .u8) Tryz.underlying45 Tryz.underlying44 Tryz.underlying5 zqb zqb (Nat.zero_lt_succ 31) hsl hd;refine ⟨oa, n, c, F, hv, fun i hi j hj => bounds_u8 (hw i hi j hj), ?_⟩
 rcases hF with h | ⟨a, ho, hc⟩
 ·exact .inl h
 ·refine .inr ⟨a, ho, fun w' hb j hj i hi => ?_⟩
  have h1 := hc j hj i hi;rw [hb.cell (cell_lt h1)];exact h1
end Go.Proofs.YtnjghcnhcbobhaaGreatDoor
namespace Go.Proofs.YtnjghcnhcbobhaaGreatDoor
open Go.ChangeShapes Go.WideShapes Go.ChangeAt Go.RowKit
theorem zrgv (a : Value) (f : Nat -> Int) (b : Value) (t : Nat -> Int) (q : Nat) (h : q < 32) : (stC a f b t)[1 + q]? = some (.int .u8 (f q)) := by
 unfold stC;rw [Array.append_assoc, Array.append_assoc, Array.getElem?_append_right (by simp), show 1 + q - (#[a] : Array Value).size = q by simp, Array.getElem?_append_left (by rw [zqi]; exact h), zqap _ _ _ _ h]
theorem zriu (a : Value) (f : Nat -> Int) (b : Value) (t : Nat -> Int) (q : Nat) (h : q < 32) : (stC a f b t)[34 + q]? = some (.int .u8 (t q)) := by
 unfold stC;have hs : ((#[a] : Array Value) ++ ints .u8 32 f ++ (#[b] : Array Value)).size = 34 := by simp [zqi]
 rw [Array.getElem?_append_right (by omega), hs, show 34 + q - 34 = q by omega, zqap _ _ _ _ h]
theorem zqo8 {H : Type} {enc : TypeId × Value -> H} {W : World} {base : Nat} {sp : Nat -> Bool} {held : Bool} {fuel : Nat} {u : Value} {x : DataW H × List MemPlace}
  (h : DataW.trod enc Tryz.prog W base sp held fuel 42 [u] = some x) : ∃ (oa : Option Addr) (n c : Nat) (N I : Nat -> Int), u = .slice oa n c /\ (∀ j, j < n -> 0 <= N j /\ N j < 4294967296) /\ (∀ j, j < n -> 0 <= I j /\ I j < 4294967296) /\ SeAt W oa n N I := by
 obtain ⟨hsl, hd⟩ := zqiy Tryz.underlying42 h;obtain ⟨oa, m, c, rfl, hm, hF⟩ := zqx3 Tryz.underlying42 hsl hd;have c3 : Tryz.prog.cellsOf 63 = 2 := by kernel_rfl
 have c0 : Tryz.prog.cellsOf 22 = 1 := by kernel_rfl
 rw [c3] at hF;have key : m = 0 \/ ∃ a : Addr, oa = some a /\ ∀ i, i < m -> ∃ z y : Int, ((0 <= z /\ z < 4294967296) /\ (0 <= y /\ y < 4294967296)) /\ ∀ j, j < 2 -> W.cell? (a.add (i * 2 + j)) = (#[Value.int .u32 z, Value.int .u32 y] : Array Value)[j]? := by
  rcases hF with h | ⟨a, ho, hc⟩
  ·exact .inl h
  ·refine .inr ⟨a, ho, fun i hi => ?_⟩
   obtain ⟨cs, m', y, hl, hat, hy⟩ := hc i hi;obtain ⟨xs, n', _, _, _, hlen, hf⟩ := DataW.trod_struct Tryz.underlying63 hy;obtain ⟨y0, y1, rfl⟩ : ∃ y0 y1, xs = [y0, y1] := by
    match xs, hlen with
    | [y0, y1], _ => exact ⟨y0, y1, rfl⟩
   have F0 : DataW.trod enc Tryz.prog W base sp held n' 22 ((cs.drop 0).take (Tryz.prog.cellsOf 22)) = some y0 := hf 0 _ rfl;have F1 : DataW.trod enc Tryz.prog W base sp held n' 22 ((cs.drop 1).take (Tryz.prog.cellsOf 22)) = some y1 := hf 1 _ rfl;rw [c0] at F0 F1
   match cs, hl with
   | [u0, u1], _ =>
    obtain ⟨z, ez, -, wz⟩ := DataW.trod_int Tryz.underlying22 F0;obtain ⟨q, eq, -, wq⟩ := DataW.trod_int Tryz.underlying22 F1;have ez' : u0 = .int .u32 z := (List.cons.inj ez).1;have eq' : u1 = .int .u32 q := (List.cons.inj eq).1;subst ez';subst eq';refine ⟨z, q, ⟨zq9a wz, zq9a wq⟩, fun j hj => (hat j hj).trans ?_⟩
    rcases (by omega : j = 0 \/ j = 1) with rfl | rfl <;> rfl
 rcases key with rfl | ⟨a, rfl, hc⟩
 ·exact ⟨oa, 0, c, fun _ => 0, fun _ => 0, rfl, fun j hj => by omega, fun j hj => by omega, .inl rfl⟩
 ·refine ⟨some a, m, c, fun i => if h : i < m then Classical.choose (hc i h) else 0, fun i => if h : i < m then Classical.choose (Classical.choose_spec (hc i h)) else 0, rfl, fun j hj => ?_, fun j hj => ?_, ?_⟩
  ·simp only [hj, dif_pos]
   exact (Classical.choose_spec (Classical.choose_spec (hc j hj))).1.1
  ·simp only [hj, dif_pos]
   exact (Classical.choose_spec (Classical.choose_spec (hc j hj))).1.2
  ·rcases Nat.eq_zero_or_pos m with rfl | hp
   ·exact .inl rfl
   refine .inr ⟨a, rfl, ?_, fun j hj i hi => ?_⟩
   ·have h0 := (Classical.choose_spec (Classical.choose_spec (hc 0 hp))).2 0 (by decide)
    have h1 := cell_lt (h0.trans rfl);rwa [zqe6] at h1
   ·simp only [hj, dif_pos]
    rw [Go.Deep.add_add];exact (Classical.choose_spec (Classical.choose_spec (hc j hj))).2 i hi
theorem zq5e {H : Type} {enc : TypeId × Value -> H} {W : World} {base : Nat} {sp : Nat -> Bool} {held : Bool} {r : Reach} {b0 : Nat} {v : Value} {d : DataW H} {ps : List MemPlace}
  (hval : Value.okWide Tryz.prog W r b0 47 v) (hd : DataW.Trod enc Tryz.prog W base sp held 47 v d ps) :
  ∃ (oa ob : Option Addr) (n c m d' : Nat) (f t N I : Nat -> Int) (P : Nat -> Nat -> Int), v = .agg (stC (.slice oa n c) f (.slice ob m d') t) /\ (∀ j, j < n -> 0 <= N j /\ N j < 4294967296) /\ (∀ j, j < n -> 0 <= I j /\ I j < 4294967296) /\ (∀ j, j < m -> Bytes 32 (P j)) /\ Bytes 32 f /\ Bytes 32 t /\ SeAt W oa n N I /\ K32At W ob m P := by
 unfold Value.okWide at hval;rw [Tryz.underlying47] at hval;obtain ⟨cs, rfl, hsz, _⟩ := hval;rw [show Tryz.prog.cellsOf 47 = 66 by kernel_rfl] at hsz;obtain ⟨fuel, hf⟩ := hd;have hlen : cs.toList.length = 66 := by simpa using hsz
 have hc0 : (Value.agg cs).cells.toList = cs.toList := rfl;rw [hc0] at hf;obtain ⟨xs, n', _, _, _, hxl, hel⟩ := DataW.trod_struct Tryz.underlying47 hf;obtain ⟨y0, y1, y2, y3, rfl⟩ : ∃ y0 y1 y2 y3, xs = [y0, y1, y2, y3] := by
  match xs, hxl with
  | [y0, y1, y2, y3], _ => exact ⟨y0, y1, y2, y3, rfl⟩
 have c0 : Tryz.prog.cellsOf 42 = 1 := by kernel_rfl
 have c2 : Tryz.prog.cellsOf 45 = 1 := by kernel_rfl
 have c3 : Tryz.prog.cellsOf 44 = 32 := by kernel_rfl
 have F0 : DataW.trod enc Tryz.prog W base sp held n' 42 ((cs.toList.drop 0).take (Tryz.prog.cellsOf 42)) = some y0 := hel 0 _ rfl;have F1 : DataW.trod enc Tryz.prog W base sp held n' 44 ((cs.toList.drop 1).take (Tryz.prog.cellsOf 44)) = some y1 := hel 1 _ rfl;have F2 : DataW.trod enc Tryz.prog W base sp held n' 45 ((cs.toList.drop 33).take (Tryz.prog.cellsOf 45)) = some y2 := hel 2 _ rfl;have F3 : DataW.trod enc Tryz.prog W base sp held n' 44 ((cs.toList.drop 34).take (Tryz.prog.cellsOf 44)) = some y3 := hel 3 _ rfl;rw [c0, one_of _ 0 (by omega)] at F0;rw [c3] at F1 F3;rw [c2, one_of _ 33 (by omega)] at F2;obtain ⟨oa, n, c, N, I, es, hN, hI, hS⟩ := zqo8 F0;obtain ⟨f, hff⟩ := zqey (n := 32) (k := .u8) Tryz.underlying44 Tryz.underlying5 zqb (by simp [hsz]) F1;obtain ⟨ob, m, d', P, ep, hP, hK⟩ := zqte F2
 obtain ⟨t, ht⟩ := zqey (n := 32) (k := .u8) Tryz.underlying44 Tryz.underlying5 zqb (by simp [hsz]) F3;have e0 : cs[0]? = some (.slice oa n c) := by rw [<- Array.getElem?_toList, List.getElem?_eq_getElem (by omega)]; exact congrArg some es
 have e2 : cs[33]? = some (.slice ob m d') := by rw [<- Array.getElem?_toList, List.getElem?_eq_getElem (by omega)]; exact congrArg some ep
 refine ⟨oa, ob, n, c, m, d', f, t, N, I, P, ?_, hN, hI, hP, fun i hi => bounds_u8 (hff i hi).2, fun i hi => bounds_u8 (ht i hi).2, hS, hK⟩
 congr 1
 apply Array.ext_getElem?
 intro i
 rcases (by omega : i = 0 \/ (1 <= i /\ i < 33) \/ i = 33 \/ 34 <= i) with rfl | ⟨h1, h2⟩ | rfl | h3
 ·rw [e0, stC_0]
 ·obtain ⟨q, rfl⟩ : ∃ q, i = 1 + q := ⟨i - 1, by omega⟩
  have hq : q < 32 := by omega
  rw [zrgv _ _ _ _ _ hq];have h2 := (hff q hq).1;rw [List.getElem?_take, if_pos hq, List.getElem?_drop] at h2;rw [<- Array.getElem?_toList];exact h2
 ·rw [e2, stC_33]
 ·obtain ⟨q, rfl⟩ : ∃ q, i = 34 + q := ⟨i - 34, by omega⟩
  by_cases hq : q < 32
  ·rw [zriu _ _ _ _ _ hq]
   have h2 := (ht q hq).1;rw [List.getElem?_take, if_pos hq, List.getElem?_drop] at h2;rw [<- Array.getElem?_toList];exact h2
  ·rw [Array.getElem?_eq_none (by omega), Array.getElem?_eq_none (by rw [stC_size]; omega)]
end Go.Proofs.YtnjghcnhcbobhaaGreatDoor
