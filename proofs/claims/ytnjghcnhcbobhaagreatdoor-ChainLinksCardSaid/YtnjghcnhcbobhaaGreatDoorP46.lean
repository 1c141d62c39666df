/-
For every input the law ChainLinks of layer 20 returns true, and each argument reads afterwards as it read before; the listed tables of package sha and the listed handle of errors' type are tied to the program's text.
-/
import Derived.Test.YtnjghcnhcbobhaaGreatDoorY20
import Derived.Test.YtnjghcnhcbobhaaGreatDoorOw
import Derived.Test.YtnjghcnhcbobhaaGreatDoorL13
import Derived.Test.YtnjghcnhcbobhaaGreatDoorV14
import Derived.Test.YtnjghcnhcbobhaaGreatDoorE15
import Derived.Test.YtnjghcnhcbobhaaGreatDoorB17
import Derived.Test.YtnjghcnhcbobhaaGreatDoorU20
import Derived.Test.YtnjghcnhcbobhaaGreatDoorU19
set_option linter.unusedVariables false
set_option linter.unusedSimpArgs false
set_option maxRecDepth 100000
set_option maxHeartbeats 4000000
namespace Go.Proofs.YtnjghcnhcbobhaaGreatDoor
open Go.RowKit Go.Lib
attribute [local go_sem ↓ high] zqog
theorem zqmb (M pp kk yy : Nat -> Int) (s2 : Int) (r : Nat -> Int) (x : ByteArray) (s : Int) (k y p tg : Nat -> Int) (hRS : x.size <= 100000 -> ∀ W : World, Calls Tryz.prog 35 #[.agg (lkC s k y p), .string x] W (Rt W (.agg (ints .u8 32 M)))) (hPS : x.size <= 100000 -> ∀ W : World, Tabs W -> Calls Tryz.prog 36 #[.agg (lkC s k y p), .string x] W (Rt W (.agg (ints .u8 32 M)))) (hV1 : x.size <= 100000 -> ∀ W : World, Tabs W -> Calls Tryz.prog 37 #[.agg (lkC s k y p), .string x, .agg (ints .u8 32 tg)] W (Rt W (.bool (same 32 tg M)))) (hV2 : x.size <= 100000 -> ∀ W : World, Tabs W -> Calls Tryz.prog 37 #[.agg (lkC s k y p), .string x, .agg (ints .u8 32 M)] W (Rt W (.bool true))) (hPN : x.size <= 100000 -> ∀ W : World, Tabs W -> Calls Tryz.prog 38 #[.agg (lkC s k y p), .agg (ints .u8 32 r), .string x] W (Rt W (.agg (lkC s2 kk yy pp)))) (hRN : x.size <= 100000 -> ∀ W : World, Calls Tryz.prog 32 #[.agg (lkC s k y p), .agg (ints .u8 32 r), .string x] W (Rt W (.agg (lkC s2 kk yy pp)))) (aw : ∀ (w : World), Tabs w -> EtAt w -> Calls Tryz.prog 30 #[] w (Rt w (.bool true))) (oa : Option Addr) (n c : Nat) (R : Nat -> Nat -> Int) (X : Nat -> ByteArray) (w : World) (hS : CAt 33 w oa n (fun j => spC (R j) (X j))) (hn9 : n <= c /\ c <= maxLen) (hx9 : x.size <= 9223372036854775807) (hT : Tabs w) (hE : EtAt w) :
  Calls Tryz.prog 6 #[.agg (ints .u8 32 r), .string x, .slice oa n c, .agg (lkC s k y p), .agg (ints .u8 32 tg)] w (Rt w (.bool true)) := by
 unfold maxLen at hn9;have HS : Hid (CAt 33 w oa n (fun j => spC (R j) (X j))) := hS;have HT : Hid (Tabs w) := hT;have HE : Hid (EtAt w) := hE;clear hS hT hE
 go_enter Tryz.func6, Tryz.ntmps6
 go_wp2_with fail;have fr : zqd (((w.alloc (.cells (ints .u8 32 r) 44)).alloc (.cells (lkC s k y p) 79)).alloc (.cells (ints .u8 32 tg) 44)) w.heap.size = some (.cells (ints .u8 32 r) 44) := zqi _ (zqi _ (zqg _ _ _ rfl));have fl : zqd (((w.alloc (.cells (ints .u8 32 r) 44)).alloc (.cells (lkC s k y p) 79)).alloc (.cells (ints .u8 32 tg) 44)) (w.heap.size + 1) = some (.cells (lkC s k y p) 79) := zqi _ (zqg _ _ _ (by simp));have ft : zqd (((w.alloc (.cells (ints .u8 32 r) 44)).alloc (.cells (lkC s k y p) 79)).alloc (.cells (ints .u8 32 tg) 44)) (w.heap.size + 1 + 1) = some (.cells (ints .u8 32 tg) 44) := zqg _ _ _ (by simp);have hG : Below w.heap.size w (((w.alloc (.cells (ints .u8 32 r) 44)).alloc (.cells (lkC s k y p) 79)).alloc (.cells (ints .u8 32 tg) 44)) := Grew.alloc (Grew.alloc (Grew.alloc (Grew.refl _) _) _) _
 generalize ((w.alloc (.cells (ints .u8 32 r) 44)).alloc (.cells (lkC s k y p) 79)).alloc (.cells (ints .u8 32 tg) 44) = w1 at *;generalize w.heap.size + 1 + 1 = gt at *;generalize w.heap.size + 1 = gl at *;refine (aw _ (HT.out.later (hG)) (HE.out.later (hG))).mono ?_
 rintro e w2 ⟨rfl, hb⟩;replace fr := zqc hb fr;replace fl := zqc hb fl;replace ft := zqc hb ft;replace hG := Grew.trans hG hb;clear hb aw
 by_cases hn : (10 : Int) < (n : Int)
 ·go_wp2
  go_ret;exact ⟨rfl, hG⟩
 by_cases hx : (500 : Int) < (x.size : Int)
 ·go_wp2
  go_ret;exact ⟨rfl, hG⟩
 have lr := zqa fr;go_wp2_with fail;refine (zq29 r x R X _ (by omega)).mono ?_
 rintro e w3 ⟨rfl, hb⟩;have hG3 : Below w2.heap.size w2 w3 := hb;clear hb lr;go_wp2_with fail;have fd : zqd ((w3.alloc (.cells (lkN r x R X 0) 81)).alloc (.cells (lkN r x R X 0) 81)) w3.heap.size = some (.cells (lkN r x R X 0) 81) := zqi _ (zqg _ _ _ rfl);have fo : zqd ((w3.alloc (.cells (lkN r x R X 0) 81)).alloc (.cells (lkN r x R X 0) 81)) (w3.heap.size + 1) = some (.cells (lkN r x R X 0) 81) := zqg _ _ _ (by simp);have hlt0 : w2.heap.size <= w3.heap.size := hG3.size;have OWN : Hid (((w3.alloc (.cells (lkN r x R X 0) 81)).alloc (.cells (lkN r x R X 0) 81)).ownsRow (w3.heap.size + 1) 81 97 (.slice (some ⟨w3.heap.size + 1, 0, none⟩) 1 1) 1 (celL (lkN r x R X) 1)) := zqr2 (C := lkN r x R X) (zqwu _ _ _ _ _) fo (Nat.le_refl _);have hG4 := Grew.alloc (Grew.alloc hG3 (.cells (lkN r x R X 0) 81)) (.cells (lkN r x R X 0) 81);clear fo hG3
 generalize (w3.alloc (.cells (lkN r x R X 0) 81)).alloc (.cells (lkN r x R X 0) 81) = w4 at *;generalize w3.heap.size = gd at *;have lfd := zqa fd;have hX0 : Hid (∀ a, a < 0 -> (X a).size <= 500) := fun a h => absurd h (Nat.not_lt_zero _)
 go_loopw [36, 12, 14] (fun i v _ wr => ∃ (j : Nat) (v0 : Value), v0 = v /\ j <= n /\ i = .int .i64 j /\ zqd wr gd = some (.cells (lkN r x R X j) 81) /\ Below w2.heap.size w2 wr /\ Hid (wr.ownsRow (gd + 1) 81 97 v0 (j + 1) (celL (lkN r x R X) (j + 1))) /\ Hid (∀ a, a < j -> (X a).size <= 500)) (fun i _ _ _ => n - (intOf i).toNat)
 case atStart => exact ⟨0, _, rfl, by omega, rfl, fd, hG4, OWN, hX0⟩
 case round =>
  clear hG4 fd lfd OWN hX0;obtain ⟨j, v0, rfl, hj, rfl, fd, hG4, OWN, HX⟩ := hrel;have lfd := zqa fd
  by_cases hlt : j < n
  ·have hi1 : (j : Int) < (n : Int) := by omega
   have hi0 : (0 : Int) <= (j : Int) := by omega
   obtain ⟨ad, rfl, -⟩ := HS.out.blk (by omega);have hGw : Below w.heap.size w wr := Grew.trans hG hG4;have hl : (zqp 85 (.pointer (some (ad.add (j * 33))))).run Tryz.prog wr = .ok (.value (.agg (spC (R j) (X j)))) wr := (HS.out.later hGw).load_cstep (fun j => zqjq _ _) hlt;have hGa := Grew.alloc hG4 (.cells (spC (R j) (X j)) 85)
   by_cases hxl : (500 : Int) < ((X j).size : Int)
   ·have hG9 := Grew.trans hG hGa
    clear hGa hGw OWN HX;go_wp2;go_ret;exact ⟨rfl, hG9⟩
   have cN1 := fun W => zq7j r x R X j W (by omega) (by omega);have HX1 : Hid (∀ a, a < j + 1 -> (X a).size <= 500) := fun a ha => by
    rcases Nat.lt_or_ge a j with h | h
    ·exact HX.out a h
    ·obtain rfl : a = j := by omega
     omega
   have fd1 := zqi (.cells (spC (R j) (X j)) 85) fd;have OWN1 := World.ownsRow.alloc OWN.out (.cells (spC (R j) (X j)) 85);go_wp2_with fail;refine (cN1 _).mono ?_
   rintro e w5 ⟨rfl, hb⟩;have fd2 := zqc hb fd1;have lfd2 := zqa fd2;have OWN2 := zqh2 (zqc2 OWN1 hb) (Nat.lt_succ_self gd) (cs := lkN r x R X (j + 1));have OWN3 := World.ownsRow.alloc OWN2 (.cells (lkN r x R X (j + 1)) 81);have hG5 := Grew.alloc (Grew.setRow (Grew.trans hGa hb) gd (lkN r x R X (j + 1)) hlt0) (.cells (lkN r x R X (j + 1)) 81);have fd3 := zqi (.cells (lkN r x R X (j + 1)) 81) (zqr (lkN r x R X (j + 1)) fd2);have hs4 : gd + 1 <= (w5.setRow gd (lkN r x R X (j + 1))).heap.size := by rw [zq5]; omega
   obtain ⟨g3, c3, w7, hr3, own7, hb7, hk7⟩ := zqrb w2 ((w5.setRow gd (lkN r x R X (j + 1))).alloc (.cells (lkN r x R X (j + 1)) 81)) (gd + 1) _ (j + 1) (lkN r x R X) w5.heap.size _ _ (zqc8 r x R X) (zqwm r x R X) OWN3 (by omega) (zqg _ _ _ (by rw [zq5])) hG5 (by omega) (Nat.le_trans hs4 (by simp));have fd7 := hk7 gd _ (Nat.lt_succ_self gd) fd3;have OWN7 := hid1 own7;clear own7 hk7 OWN3 OWN2 OWN1 OWN hl hGa hGw fd1 fd cN1 hG5 fd3 hs4 hb HX;go_wp2
   go_roundw
   case rel => first | exact ⟨j + 1, _, rfl, by omega, by go_num, fd7, hb7, OWN7, HX1⟩ | ((repeat' apply Exists.intro) <;> first | exact ⟨⟨j + 1, _, rfl, by omega, by go_num, fd7, hb7, OWN7, HX1⟩, rfl⟩ | exact undef)
   case measure => (simp [intOf]; omega)
  ·obtain rfl : j = n := by omega
   have hi1 : ¬ ((j : Int) < (j : Int)) := by omega
   obtain ⟨g0, cw, rfl, hcw, hC, -, -⟩ := zqpf (zqc8 r x R X) OWN.out (Nat.succ_pos j);have HC := hid1 hC;replace fr := zqc hG4 fr;replace fl := zqc hG4 fl;replace ft := zqc hG4 ft;replace hG := Grew.trans hG hG4;clear OWN hC hG4 fd lfd hlt0 hi1 hlt;generalize (⟨g0, 0, none⟩ : Addr) = ad at *;obtain ⟨w6, rfl⟩ : ∃ w6, w6 = wr := ⟨_, rfl⟩
   have cA := zqqc r x oa j c R X w6 (by omega) (by omega) (fun a ha => by have := HX.out a ha; omega) (HS.out.later (hG)) (HT.out.later (hG));have lr := zqa fr;have ll := zqa fl;have lt := zqa ft;go_wp2_with fail;refine cA.mono ?_
   rintro e w8 ⟨bd, c2, rfl, hc2, hD, hb⟩;replace fr := zqc hb fr;replace fl := zqc hb fl;replace ft := zqc hb ft;replace HC := hid1 (HC.out.later hb);have HD := hid1 hD;replace hG := Grew.trans hG hb;clear cA hb hD lr ll lt;go_wp2_with fail
   go_loopw [66, 16, 17] (fun i _ _ wr => ∃ a : Nat, a <= j + 1 /\ i = .int .i64 a /\ Below w8.heap.size w8 wr) (fun i _ _ _ => j + 1 - (intOf i).toNat)
   case atStart => exact ⟨0, by omega, rfl, Grew.refl _⟩
   case round =>
    obtain ⟨a, ha, rfl, hM⟩ := hrel
    by_cases hlt : a < j + 1
    ·have hi1 : (a : Int) < (j : Int) + 1 := by omega
     have hi0 : (0 : Int) <= (a : Int) := by omega
     have hl := (HD.out.later hM).load_link (zqc8 r x R X) hlt;have hM1 := Grew.alloc hM (.cells (lkN r x R X a) 79);have l2 := fun q : More => (HC.out.later (Grew.more hM1 q)).load_rlink (zqc8 r x R X) hlt;have cO := fun W => zrol r x R X a W;have fb : zqd (wr.alloc (.cells (lkN r x R X a) 79)) wr.heap.size = some (.cells (lkN r x R X a) 79) := zqg _ _ _ rfl;go_wp2_with fail;generalize wr.alloc (.cells (lkN r x R X a) 79) = w9 at *;generalize wr.heap.size = gb at *;have lb := zqa fb
     ((first | (with_reducible refine zq8 zqb zqb ?_) | refine zqz zqb zqb ?_); (repeat (first | go_big_quiet_skip | (go_big_quiet_want; go_big_quiet_op; first | go_big_quiet_on | (apply Exists.intro; refine ⟨fun _ => ?_, ?_⟩; (focus ((with_reducible exact Calls.of_more (cO _)))); go_big_quiet_on)))); refine wpQuiet_nil ?_; rintro _ ⟨mq, rfl⟩)
     have hM2 := Grew.more hM1 mq;clear hl l2 cO fb lb hM1;generalize more w9 mq = w10 at *;go_wp2
     go_roundw
     case rel => first | exact ⟨a + 1, by omega, by go_num, hM2⟩ | ((repeat' apply Exists.intro) <;> first | exact ⟨⟨a + 1, by omega, by go_num, hM2⟩, rfl⟩ | exact undef)
     case measure => (simp [intOf] <;> omega)
    ·obtain rfl : a = j + 1 := by omega
     have hi1 : ¬ (((j + 1 : Nat) : Int) < (j : Int) + 1) := by omega
     replace fr := zqc hM fr;replace fl := zqc hM fl;replace ft := zqc hM ft;replace hG := Grew.trans hG hM;clear HC HD hM hlt HX;obtain ⟨w9, rfl⟩ : ∃ w9, w9 = wr := ⟨_, rfl⟩
     have hTT : Hid (Tabs w9) := HT.out.later (hG);have hT2 := fun (W : World) (h : Below w9.heap.size w9 W) => hTT.out.later h;have hxx : x.size <= 100000 := by omega
     have cO1 := fun W => zqpu s k y p W;have cRS := hRS hxx;have cPS := fun (W : World) (h : Below w9.heap.size w9 W) => hPS hxx W (hT2 W h);have cV1 := fun (W : World) (h : Below w9.heap.size w9 W) => hV1 hxx W (hT2 W h);have cV2 := fun (W : World) (h : Below w9.heap.size w9 W) => hV2 hxx W (hT2 W h);have cPN := fun (W : World) (h : Below w9.heap.size w9 W) => hPN hxx W (hT2 W h);have cRN := hRN hxx;have cO2 := fun W => zqpu s2 kk yy pp W;have hsm := zqdu 32 M;clear hRS hPS hV1 hV2 hPN hRN;have lr := zqa fr;have ll := zqa fl;have lt := zqa ft;go_wp2_with fail;refine (cO1 _).mono ?_
     rintro e w10 ⟨rfl, hb⟩;replace fr := zqc hb fr;replace fl := zqc hb fl;replace ft := zqc hb ft;have hW9 : Below w9.heap.size w9 w10 := hb;replace hG := Grew.trans hG hb;clear hb lr ll lt;go_wp2_with fail;refine (cRS _).mono ?_
     rintro e w11 ⟨rfl, hb⟩;replace fr := zqi (.cells (ints .u8 32 M) 44) (zqc hb fr);replace fl := zqi (.cells (ints .u8 32 M) 44) (zqc hb fl);replace ft := zqi (.cells (ints .u8 32 M) 44) (zqc hb ft);have fm : zqd (w11.alloc (.cells (ints .u8 32 M) 44)) w11.heap.size = some (.cells (ints .u8 32 M) 44) := zqg _ _ _ rfl;replace hW9 := Grew.alloc (Grew.trans hW9 hb) (.cells (ints .u8 32 M) 44);replace hG := Grew.alloc (Grew.trans hG hb) (.cells (ints .u8 32 M) 44);clear hb cRS;go_wp2_with fail;generalize w11.alloc (.cells (ints .u8 32 M) 44) = w12 at *;generalize w11.heap.size = gm at *;have lr := zqa fr;have ll := zqa fl;have lt := zqa ft;have lm := zqa fm
     ((first | (with_reducible refine zq8 zqb zqb ?_) | refine zqz zqb zqb ?_); (repeat (first | go_big_quiet_skip | (go_big_quiet_want; go_big_quiet_op; first | go_big_quiet_on | (apply Exists.intro; refine ⟨fun _ => ?_, ?_⟩; (focus (first | (with_reducible exact Calls.of_more (cPS _ (Grew.more hW9 _))) | (with_reducible exact Calls.of_more (cV1 _ (Grew.more hW9 _))) | (with_reducible exact Calls.of_more (cV2 _ (Grew.more hW9 _))) | (with_reducible exact Calls.of_more (cPN _ (Grew.more hW9 _))) | (with_reducible exact Calls.of_more (cO1 _)) | (with_reducible exact Calls.of_more (cO2 _)) | (with_reducible exact Calls.of_more (cRN _)))); go_big_quiet_on)))); refine wpQuiet_nil ?_; rintro _ ⟨mq, rfl⟩)
     replace hG := Grew.more hG mq;go_wp2;go_ret;exact ⟨rfl, hG⟩
theorem zqn4 (aw : ∀ (w : World), Tabs w -> EtAt w -> Calls Tryz.prog 30 #[] w (Rt w (.bool true))) (r : Nat -> Int) (x : ByteArray) (oa : Option Addr) (n c : Nat) (R : Nat -> Nat -> Int) (X : Nat -> ByteArray) (s : Int) (k y p tg : Nat -> Int) (w : World) (hS : CAt 33 w oa n (fun j => spC (R j) (X j))) (hn9 : n <= c /\ c <= maxLen) (ht : Bytes 32 tg) (hx9 : x.size <= 9223372036854775807) (hT : Tabs w) (hE : EtAt w) :
  Calls Tryz.prog 6 #[.agg (ints .u8 32 r), .string x, .slice oa n c, .agg (lkC s k y p), .agg (ints .u8 32 tg)] w (Rt w (.bool true)) :=
 zqmb (macF (strOf 32 y) x) (zqdr p x) (zqcr k r (zqdr p x)) (tagF (zqcr k r (zqdr p x))) (IntKind.u32.wrap (s + 1)) r x s k y p tg
  (fun hx W => zquq s k y p x W hx) (fun hx W hT => zqq1 s k y p x W hx hT) (fun hx W hT => zqil s k y p tg x W hx ht hT)
  (fun hx W hT => by
   have h := zqil s k y p (macF (strOf 32 y) x) x W hx (zqg6 _ _) hT;rw [zqdu] at h;exact h)
  (fun hx W hT => zqsi s k y p r x W hx hT) (fun hx W => zqnu s k y p r x W hx) aw oa n c R X w hS hn9 hx9 hT hE
end Go.Proofs.YtnjghcnhcbobhaaGreatDoor
namespace Go.Proofs.YtnjghcnhcbobhaaGreatDoor
open Go.ChangeShapes Go.WideShapes Go.ChangeAt Go.RowKit
open Go.ChangeMaps (open_string shut_string)
theorem chainLinks_lifted (os : Os) (started : os.Started) (H : Type) (enc : TypeId × Value -> H) :
  ReturnsInHanded {} Tryz.checked os 6 .any (fun w args => (Rows.chainLinksSpec.pre enc Tryz.prog Tryz.f6 [] false w args /\ laidMetH Tryz.prog Rows.chainLinksRow.laid w) /\ sizedMet enc Tryz.prog Tryz.f6 (OpenSpec.ofChange Rows.chainLinksSpec) false w args)
   (Rows.chainLinksSpec.post enc Tryz.prog Tryz.f6 false true false false) := by
 refine returnsInHanded_of_change_and (C := Tryz.checked) (X := fun w _ => laidMetH Tryz.prog Rows.chainLinksRow.laid w) (fun _ _ _ hh h => h.of_heap hh) own started zqb Tryz.func6
  (ChangeSpec.witness_shaped (enc := enc) (C := Tryz.checked) (os := os) (X := fun w _ => laidMetH Tryz.prog Rows.chainLinksRow.laid w) false (hwL os) #[.agg (Array.replicate 32 (.int .u8 0)), .string ⟨#[]⟩, .slice none 0 0, .agg (#[Value.int .u32 0] ++ Array.replicate 96 (Value.int .u8 0)), .agg (Array.replicate 32 (.int .u8 0))] 8 (zq94 os)
   (World.shaped_of_ZipB zqb zqb) zqb zqb zqb
   (zq4h os _)) ?_
 intro W base args ds gs before hval0 hW _ _ hL _;have hval : ∀ (j : Nat) t v, Tryz.f6.params[j]? = some t -> args[j]? = some v -> Value.okWide Tryz.prog W .any base t v := hval0;have hW' := hW;obtain ⟨p, q, hA0, hV, rfl, hfz, hnd⟩ := hW;have hA : DataW.TrodAll enc Tryz.prog W 0 (fun _ => true) true Tryz.f6.params.toList args.toList ds p := hA0;rw [Tryz.params6] at hA hval;obtain ⟨v0, vs0, d0, ds0, p0, q0, hargs, rfl, rfl, h0, r0⟩ := trodAll_cons hA;obtain ⟨v1, vs1, d1, ds1, p1, q1, rfl, rfl, rfl, h1, r1⟩ := trodAll_cons r0;obtain ⟨v2, vs2, d2, ds2, p2, q2, rfl, rfl, rfl, h2, r2⟩ := trodAll_cons r1;obtain ⟨v3, vs3, d3, ds3, p3, q3, rfl, rfl, rfl, h3, r3⟩ := trodAll_cons r2;obtain ⟨v4, vs4, d4, ds4, p4, q4, rfl, rfl, rfl, h4, r4⟩ := trodAll_cons r3;obtain ⟨rfl, rfl, rfl⟩ := trodAll_nil r4;obtain rfl : args = #[v0, v1, v2, v3, v4] := by cases args; simp_all
 obtain ⟨rfl, rfl⟩ := trodVars_none hV;have k0 := h0;have lt0 : ∀ x ∈ p0, x.block < W.heap.size := by obtain ⟨m, hm⟩ := k0; exact DataW.trod_lt m _ _ _ hm
 have k1 := h1;have lt1 : ∀ x ∈ p1, x.block < W.heap.size := by obtain ⟨m, hm⟩ := k1; exact DataW.trod_lt m _ _ _ hm
 have k2 := h2;have lt2 : ∀ x ∈ p2, x.block < W.heap.size := by obtain ⟨m, hm⟩ := k2; exact DataW.trod_lt m _ _ _ hm
 have k3 := h3;have lt3 : ∀ x ∈ p3, x.block < W.heap.size := by obtain ⟨m, hm⟩ := k3; exact DataW.trod_lt m _ _ _ hm
 have k4 := h4;have lt4 : ∀ x ∈ p4, x.block < W.heap.size := by obtain ⟨m, hm⟩ := k4; exact DataW.trod_lt m _ _ _ hm
 obtain ⟨a0, rfl, w0⟩ := zqkc Tryz.underlying44 Tryz.underlying5 zqb zqb (hval 0 44 v0 rfl rfl) h0;obtain ⟨a1, rfl, _, _, w1⟩ := open_string Tryz.underlying9 (hval 1 9 v1 rfl rfl) h1;obtain ⟨oa2, n2, c2, R2, X2, rfl, bn2, br2, m2⟩ := zqof (hval 2 77 v2 rfl rfl) h2;obtain ⟨sl3, kl3, yl3, pl3, rfl, bs3, bk3, by3, bp3⟩ := zq2b (hval 3 79 v3 rfl rfl) h3;obtain ⟨a4, rfl, w4⟩ := zqkc Tryz.underlying44 Tryz.underlying5 zqb zqb (hval 4 44 v4 rfl rfl) h4;clear hA0 hval0;obtain ⟨hT, hE⟩ := zqwb hL
 refine (zqn4 (fun W h hE => zqnr (fun W h hE => zqnc (fun W h hE => zqmm (fun W h hE => zqma (fun W h hE => zql1 (fun W h hE => zqmo (fun W h hE => zqmc (fun W h hE => zqm6 (fun W h hE => zql8 (fun W h hE => zqms (fun W h hE => zqmd (fun W h => zqnh (fun W h => zqmi (fun W h => zql0 (fun W h => zqlp (fun W h => zql3 aw12 W h) W h) W h) W h) W h) W h hE) W h hE) W h hE) W h hE) W h hE) W h hE) W h hE) W h hE) W h hE) W h hE) W h hE) a0 a1 oa2 n2 c2 R2 X2 sl3 kl3 yl3 pl3 a4 W m2 bn2 (zqua w4) (by unfold maxLen at w1; omega) hT hE).mono fun e W' ⟨he, bel⟩ => ?_
 subst he;exact ⟨_, rfl, _, _, _, [], _, [], hW', trodAll_mk1 (shut_bool Tryz.underlying4 _), (trodAll_cons_mk (Below.trod laidOut zqb (of_decide_eq_true zqb) k0 bel lt0) (trodAll_cons_mk (Below.trod laidOut zqb (of_decide_eq_true zqb) k1 bel lt1) (trodAll_cons_mk (Below.trod laidOut zqb (of_decide_eq_true zqb) k2 bel lt2) (trodAll_cons_mk (Below.trod laidOut zqb (of_decide_eq_true zqb) k3 bel lt3) (trodAll_cons_mk (Below.trod laidOut zqb (of_decide_eq_true zqb) k4 bel lt4) trodAll_mk0))))), rfl, bel.frame _, fun h => by cases h⟩
theorem zqjt : joinedFacts Tryz.prog 6 Tryz.f6 (Rows.chainLinksSpec) Rows.chainLinksRow = true := by
 first
 | (unfold joinedFacts; rw [may_enter, make_is, zqv3]; first | (rw [zrjn 6 (by decide)]; kernel_rfl) | kernel_rfl)
 | kernel_rfl
theorem chainLinks_said : Rows.ChainLinksSaid :=
 OpenClaim.holds_of_wide 6 Tryz.f6 rfl rfl rfl rfl rfl rfl rfl ⟨rfl, rfl, rfl, rfl, rfl⟩ rfl rfl rfl rfl rfl zqb Tryz.func6 (by first | exact zqjt | kernel_rfl)
  (of_decide_eq_true zqb) (by unfold Func.isWrapper; first | (rw [if_pos (by decide +kernel)]; kernel_rfl) | (rw [if_neg (by decide +kernel)]; exact ⟨rfl, rfl⟩))
  (fun os started H enc _ => chainLinks_lifted os started H enc)
theorem chainLinks_card : Rows.ChainLinksCardSaid :=
 Claim7.holds_tied_plain_at .later [] _ _ _ _ chainLinks_said (fun _ h => by cases h) zqb (fun _ h => by cases h) chainLinks_row_tie rfl ⟨rfl, rfl⟩ zqb rfl
  (fun f fn hf hfn => by
   obtain rfl : f = 6 := Option.some.inj ((show Tryz.prog.funcNamed "sapwood/sapwoodlaw20.ChainLinks" = some 6 by kernel_rfl).symm.trans hf) |>.symm
   obtain rfl : fn = Tryz.f6 := (Option.some.inj (Tryz.func6.symm.trans hfn)).symm;exact ⟨by kernel_rfl, fun j t ht => by
    rw [Tryz.params6] at ht;have hm : t ∈ [44, 9, 77, 79, 44] := by simpa using Array.mem_of_getElem? ht
    have hall : ([44, 9, 77, 79, 44].all fun u => !Tryz.prog.wantsStandIn u) = true := by kernel_rfl
    exact (show Tryz.prog.wantsStandIn t = false by simpa using List.all_eq_true.1 hall t hm)⟩)
  zqb
end Go.Proofs.YtnjghcnhcbobhaaGreatDoor
