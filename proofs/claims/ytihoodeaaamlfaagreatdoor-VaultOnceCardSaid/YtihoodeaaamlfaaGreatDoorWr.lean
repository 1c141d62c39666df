/- Wr -/
import Derived.Test.YtihoodeaaamlfaaGreatDoorWv
import Derived.Test.YtihoodeaaamlfaaGreatDoorXx
set_option linter.unusedVariables false
set_option linter.unusedSimpArgs false
set_option maxRecDepth 100000
set_option maxHeartbeats 4000000
namespace Go.Proofs.YtihoodeaaamlfaaGreatDoor
open Go.RowKit Go.Maps
set_option maxRecDepth 1000000 in
theorem zqa2 : Mc.KT 4 := Mc.run_true Mc.aw20_KT.one (by decide +kernel)
theorem zqbp {w W : World} {u : Value} {E : Int} (h : ErV w u E) (hb : Below w.heap.size w W) (E' : Int) (h0 : E ≠ 0) : Calls Tryz.prog 8 #[u, .int .i64 E'] W fun e w' => e = .returned (.bool (decide (E = E'))) /\ w' = W := by
 obtain ⟨t, x, l, rfl, hc⟩ := (h.resolve_left (fun h => h0 h.1)).2;exact Is_e E E' l _ W (hc.later hb)
theorem zqbu (w : World) : Sm (w.alloc (.map #[] 0)) w.heap.size (.map []) := World.ownsMap_made w _ _ _
theorem zq0 (aw : ∀ (w : World), Tabs w -> EtAt w -> Calls Tryz.prog 4 #[] w (Rt w (.bool true))) (oa : Option Addr) (n c : Nat) (D I : Nat -> Int) (K : Nat -> Nat -> Int) (w : World) (hb : ∀ j, j < n -> (0 <= D j /\ D j <= 255) /\ (0 <= I j /\ I j < 4294967296)) (hC : CAt 34 w oa n (fun j => vaC (D j) (I j) (K j))) (hT : Tabs w) (hE : EtAt w) :
  Calls Tryz.prog 3 #[.slice oa n c] w (Rt w (.bool true)) := by
 have HC := hidS hC;have HB := hidS hb;have hmm := @run_makeMap Tryz.prog;clear hC hb
 go_enter Tryz.func3, Tryz.ntmps3
 go_wp2_with fail;refine (aw _ hT hE).mono ?_
 rintro e w1 ⟨rfl, hG⟩;clear hT hE aw
 by_cases hbig : (100 : Int) < (n : Int)
 ·go_wp2
  go_ret;exact ⟨rfl, hG⟩
 go_wp2_with fail;refine (zqa7 w1).mono ?_
 rintro e w2 ⟨b, bs, bu, rfl, V, ⟨h1, h2, h3⟩, hb2⟩;have hz1 := hG.size;have hG2 := Grew.alloc (Grew.trans hG hb2) (.map #[] 0);have HV := hidS (V.later (Grew.alloc (Grew.refl w2) (.map #[] 0)));have hM := zqbu w2;have hlb := lt_of_objAt V.o;have hls := World.ownsMap.lt V.s;have hlu := World.ownsMap.lt V.u;have hge : w.heap.size <= b /\ w.heap.size <= bs /\ w.heap.size <= bu /\ w.heap.size <= w2.heap.size := ⟨by omega, by omega, by omega, by have := hb2.size; omega⟩
 have hnt : w2.heap.size ≠ b /\ w2.heap.size ≠ bs /\ w2.heap.size ≠ bu := ⟨by omega, by omega, by omega⟩
 have HM := hidS hM;have HG := hidS hG2;clear V hG hb2 hG2 hM hz1 h1 h2 h3 hlb hls hlu;go_wp2_with fail;clear hmm;generalize w2.alloc (.map #[] 0) = w3 at *;generalize w2.heap.size = bt at *
 go_loopw [20] (fun v wr => ∃ (j : Nat) (S U : DataW Value) (F : Int -> Nat -> Int), v = .int .i64 j /\ j <= n /\ VAt wr b bs bu S U F /\ Sm wr bt U /\ Maps.size S <= 64 /\ Maps.size U <= j /\ Below w.heap.size w wr) (fun v _ => n - (intOf v).toNat)
 case atStart => exact ⟨0, .map [], .map [], fun _ => nought, rfl, Nat.zero_le _, HV.out, HM.out, by decide, by decide, HG.out⟩
 case round =>
  clear HV HM HG;obtain ⟨j, S, U, F, rfl, hj, hV, hM, hS, hU, hG⟩ := hrel
  by_cases hlt : j < n
  ·obtain ⟨ad, rfl, -⟩ := HC.out.blk (by omega)
   obtain ⟨⟨hd0, hd1⟩, hx⟩ := HB.out j hlt;have hl := (HC.out.later hG).load_vact (fun j => zqae _ _ _) hlt;have hi1 : (j : Int) < (n : Int) := by omega
   have hi0 : (0 : Int) <= (j : Int) := by omega
   generalize D j = dk at *;generalize I j = ik at *;generalize K j = Kk at *;have fa : objAt (wr.alloc (.cells (vaC dk ik Kk) 31)) wr.heap.size = some (.cells (vaC dk ik Kk) 31) := objAt_alloc_at _ _ _ rfl;have hA : Below wr.heap.size wr (wr.alloc (.cells (vaC dk ik Kk) 31)) := Grew.alloc (Grew.refl _) _;have hV1 := hV.later hA;have hM1 := hM.later (hA.block _ (World.ownsMap.lt hM));have hG1 := Grew.alloc hG (.cells (vaC dk ik Kk) 31);have hga : w.heap.size <= wr.heap.size := hG.size;have hna : wr.heap.size ∉ [bs, bu, bt] := by
    have := World.ownsMap.lt hV.s; have := World.ownsMap.lt hV.u; have := World.ownsMap.lt hM
    simp
    omega
   have HV := hidS hV1;have HM := hidS hM1;have HG := hidS hG1;clear hV hM hG hA hV1 hM1 hG1
   by_cases hd : dk % 4 < 2
   ·go_wp2_with fail
    generalize wr.alloc (.cells (vaC dk ik Kk) 31) = w4 at *;generalize wr.heap.size = ga at *;have lfa := lt_of_objAt fa;go_wp2_with fail;refine (zqa6 HV.out hx Kk hS).mono ?_
    rintro e w5 ⟨u, S', F', rfl, V5, s5, z5⟩;have HV5 := hidS V5;have HM5 := hidS (z5.map HM.out (by simp; omega));have HG5 := hidS (z5.below HG.out HG.out.size (by simp; omega));clear V5 z5 HV HM HG;go_wp2
    go_roundw
    case rel => first | exact ⟨j + 1, S', U, F', by go_num, by omega, HV5.out, HM5.out, s5, by omega, HG5.out⟩ | ((repeat' apply Exists.intro) <;> first | exact ⟨⟨j + 1, S', U, F', by go_num, by omega, HV5.out, HM5.out, s5, by omega, HG5.out⟩, rfl⟩ | exact undef)
    case measure => (simp [intOf] <;> omega)
   ·have hd2 : 2 <= dk % 4 := by omega
    clear hd;go_wp2_with fail;generalize wr.alloc (.cells (vaC dk ik Kk) 31) = w4 at *;generalize wr.heap.size = ga at *;have lfa := lt_of_objAt fa;go_wp2_with fail;refine (zqaw HV.out hx (by omega)).mono ?_
    rintro e w5 ⟨kv, u, S', U', F', rfl, V5, s5, z5, hp, hcase⟩;have fa5 := z5.keep fa (by simp at hna ⊢; omega);have HV5 := hidS V5;have HM5 := hidS (z5.map HM.out (by simp; omega));have HG5 := hidS (z5.below HG.out HG.out.size (by simp; omega));have HP := hidS hp;have hUt := World.ownsMap.tidy HM.out LK;have hUm := World.ownsMap.isMap HM.out;have hUU := HV.out.hU;clear V5 z5 HV HM HG fa hp lfa
    rcases hcase with ⟨rfl, hu, rfl⟩ | ⟨rfl, hq, hu⟩
    ·have f5 : objAt (w5.alloc (.cells (ints .u8 32 kv) 29)) w5.heap.size = some (.cells (ints .u8 32 kv) 29) := objAt_alloc_at _ _ _ rfl
     have hA5 : Below w5.heap.size w5 (w5.alloc (.cells (ints .u8 32 kv) 29)) := Grew.alloc (Grew.refl _) _;have fa6 := keep_below hA5 fa5;have hV6 := HV5.out.later hA5;have hM6 := HM5.out.later (hA5.block _ (World.ownsMap.lt HM5.out));have hG6 := Grew.alloc HG5.out (.cells (ints .u8 32 kv) 29);have hN6 : bt ∉ [b, bs, bu] := by simp; omega
     have lT : (Instr.lookup 26 (.map (some bt)) (.int .u32 ik) false).run Tryz.prog (w5.alloc (.cells (ints .u8 32 kv) 29)) = .ok (.bool false) (w5.alloc (.cells (ints .u8 32 kv) 29)) := by
      have := zqao hM6 hUU hx;rwa [hu] at this
     obtain ⟨w7, e7, m7, z7⟩ := zqaq (e := 4) Tryz.underlying26 hM6 (by omega) hx (.bool true);have hV7 := hV6.bz z7 (by simp; omega) (by simp; omega) (by simp; omega);have fa7 := z7.keep fa6 (by simp at hna ⊢; omega);have hG7 := z7.below hG6 hG6.size (by simp; omega);have hsU : Maps.size (U.put (klit ik) (.held (.bool true))) <= j + 1 := by
      rw [size_put hUt, hu]
      simp
      omega
     clear hA5 fa5 HV5 HM5 HG5 hV6;have l6 := lt_of_objAt fa6;have l7 := lt_of_objAt fa7;have HV7 := hidS hV7;have HM7 := hidS m7;have HG7 := hidS hG7;clear hV7 m7 hG7 hM6 hG6 z7;go_wp2_with fail
     (have cP := zqg HV7.out hx; rw [if_neg HP.out] at cP; refine cP.mono ?_)
     rintro e w8 ⟨u8, rfl, hu8, hb8⟩;obtain ⟨t8, y8, l8, rfl, hc8⟩ := (hu8.resolve_left (fun h => HP.out h.1)).2;clear hu8 hc8;have hA8 : Below w7.heap.size w7 (w8.alloc (.cells (ints .u8 32 nought) 29)) := Grew.alloc hb8 _;have HV9 := hidS (HV7.out.later hA8);have HM9 := hidS (HM7.out.later (hA8.block _ (World.ownsMap.lt HM7.out)));have HG9 := hidS (Grew.trans HG7.out hA8);clear hA8 hb8;go_wp2_with fail;generalize w8.alloc (.cells (ints .u8 32 nought) 29) = w9 at *;refine (zqh HV9.out (by omega)).mono ?_
     rintro e w10 ⟨o10, c10, rfl, hb10⟩;have HV10 := hidS (HV9.out.later hb10);have HM10 := hidS (HM9.out.later (hb10.block _ (World.ownsMap.lt HM9.out)));have HG10 := hidS (Grew.trans HG9.out hb10);have hs10 : ¬ ((64 : Int) < (Maps.size S' : Int)) := by omega
     clear hb10 HV9 HM9 HG9;go_wp2_with fail;refine (zqv HV10.out (by omega)).mono ?_
     rintro e w11 ⟨o11, c11, rfl, hb11⟩;have HV11 := hidS (HV10.out.later hb11);have hM11 := HM10.out.later (hb11.block _ (World.ownsMap.lt HM10.out));have HG11 := hidS (Grew.trans HG10.out hb11);have hlen := fun ty => lenM (e := 4) Tryz.underlying26 hM11 ty;have HM11 := hidS hM11;clear hb11 hM11 HV10 HM10 HG10;go_wp2
     go_roundw
     case rel => first | exact ⟨j + 1, S', U.put (klit ik) (.held (.bool true)), F', by go_num, by omega, HV11.out, HM11.out, by omega, hsU, HG11.out⟩ | ((repeat' apply Exists.intro) <;> first | exact ⟨⟨j + 1, S', U.put (klit ik) (.held (.bool true)), F', by go_num, by omega, HV11.out, HM11.out, by omega, hsU, HG11.out⟩, rfl⟩ | exact undef)
     case measure => (simp [intOf] <;> omega)
    ·have hq2 := hq.symm
     clear hq;subst hq2;have f5 : objAt (w5.alloc (.cells (ints .u8 32 nought) 29)) w5.heap.size = some (.cells (ints .u8 32 nought) 29) := objAt_alloc_at _ _ _ rfl;have hA5 : Below w5.heap.size w5 (w5.alloc (.cells (ints .u8 32 nought) 29)) := Grew.alloc (Grew.refl _) _;have fa6 := keep_below hA5 fa5;have hV6 := HV5.out.later hA5;have hM6 := HM5.out.later (hA5.block _ (World.ownsMap.lt HM5.out));have hG6 := Grew.alloc HG5.out (.cells (ints .u8 32 nought) 29);have HE6 := hidS (hu.later hA5);have HV7 := hidS hV6;have HM7 := hidS hM6;have HG7 := hidS hG6;have hcmp := same_refl 32 nought;have l5 := lt_of_objAt f5;have l6 := lt_of_objAt fa6;have hsU : Maps.size U <= j + 1 := by omega
     have lT := zqao hM6 hUU hx;clear hA5 fa5 HV5 HM5 HG5 hV6 hM6 hG6
     rcases hh : Maps.has U (klit ik) with _ | _
     ·rw [hh] at lT hu HE6
      obtain ⟨t, y, l, rfl, hc⟩ := (hu.resolve_left (fun h => absurd h.1 (by decide))).2;clear hc;go_wp2_with fail
      (have cP := zqg HV7.out hx; rw [if_neg HP.out] at cP; refine cP.mono ?_)
      rintro e w8 ⟨u8, rfl, hu8, hb8⟩;obtain ⟨t8, y8, l8, rfl, hc8⟩ := (hu8.resolve_left (fun h => HP.out h.1)).2;clear hu8 hc8;have hA8 : Below (w5.alloc (.cells (ints .u8 32 nought) 29)).heap.size (w5.alloc (.cells (ints .u8 32 nought) 29)) (w8.alloc (.cells (ints .u8 32 nought) 29)) := Grew.alloc hb8 _;have HV9 := hidS (HV7.out.later hA8);have HM9 := hidS (HM7.out.later (hA8.block _ (World.ownsMap.lt HM7.out)));have HG9 := hidS (Grew.trans HG7.out hA8);clear hA8 hb8;go_wp2_with fail;generalize w8.alloc (.cells (ints .u8 32 nought) 29) = w9 at *;refine (zqh HV9.out (by omega)).mono ?_
      rintro e w10 ⟨o10, c10, rfl, hb10⟩;have HV10 := hidS (HV9.out.later hb10);have HM10 := hidS (HM9.out.later (hb10.block _ (World.ownsMap.lt HM9.out)));have HG10 := hidS (Grew.trans HG9.out hb10);have hs10 : ¬ ((64 : Int) < (Maps.size S' : Int)) := by omega
      clear hb10 HV9 HM9 HG9;go_wp2_with fail;refine (zqv HV10.out (by omega)).mono ?_
      rintro e w11 ⟨o11, c11, rfl, hb11⟩;have HV11 := hidS (HV10.out.later hb11);have hM11 := HM10.out.later (hb11.block _ (World.ownsMap.lt HM10.out));have HG11 := hidS (Grew.trans HG10.out hb11);have hlen := fun ty => lenM (e := 4) Tryz.underlying26 hM11 ty;have HM11 := hidS hM11;clear hb11 hM11 HV10 HM10 HG10;go_wp2
      go_roundw
      case rel => first | exact ⟨j + 1, S', U, F', by go_num, by omega, HV11.out, HM11.out, by omega, hsU, HG11.out⟩ | ((repeat' apply Exists.intro) <;> first | exact ⟨⟨j + 1, S', U, F', by go_num, by omega, HV11.out, HM11.out, by omega, hsU, HG11.out⟩, rfl⟩ | exact undef)
      case measure => (simp [intOf] <;> omega)
     ·rw [hh] at lT hu HE6
      obtain ⟨t, y, l, rfl, hc⟩ := (hu.resolve_left (fun h => absurd h.1 (by decide))).2;have cIs := fun W hb => zqbp (W := W) HE6.out hb 11 (by decide);clear hc;go_wp2_with fail;refine (cIs _ (Below.refl _ _)).mono ?_
      rintro e _ ⟨rfl, rfl⟩;go_wp2_with fail
      (have cP := zqg HV7.out hx; rw [if_neg HP.out] at cP; refine cP.mono ?_)
      rintro e w8 ⟨u8, rfl, hu8, hb8⟩;obtain ⟨t8, y8, l8, rfl, hc8⟩ := (hu8.resolve_left (fun h => HP.out h.1)).2;clear hu8 hc8;have hA8 : Below (w5.alloc (.cells (ints .u8 32 nought) 29)).heap.size (w5.alloc (.cells (ints .u8 32 nought) 29)) (w8.alloc (.cells (ints .u8 32 nought) 29)) := Grew.alloc hb8 _;have HV9 := hidS (HV7.out.later hA8);have HM9 := hidS (HM7.out.later (hA8.block _ (World.ownsMap.lt HM7.out)));have HG9 := hidS (Grew.trans HG7.out hA8);clear hA8 hb8;go_wp2_with fail;generalize w8.alloc (.cells (ints .u8 32 nought) 29) = w9 at *;refine (zqh HV9.out (by omega)).mono ?_
      rintro e w10 ⟨o10, c10, rfl, hb10⟩;have HV10 := hidS (HV9.out.later hb10);have HM10 := hidS (HM9.out.later (hb10.block _ (World.ownsMap.lt HM9.out)));have HG10 := hidS (Grew.trans HG9.out hb10);have hs10 : ¬ ((64 : Int) < (Maps.size S' : Int)) := by omega
      clear hb10 HV9 HM9 HG9;go_wp2_with fail;refine (zqv HV10.out (by omega)).mono ?_
      rintro e w11 ⟨o11, c11, rfl, hb11⟩;have HV11 := hidS (HV10.out.later hb11);have hM11 := HM10.out.later (hb11.block _ (World.ownsMap.lt HM10.out));have HG11 := hidS (Grew.trans HG10.out hb11);have hlen := fun ty => lenM (e := 4) Tryz.underlying26 hM11 ty;have HM11 := hidS hM11;clear hb11 hM11 HV10 HM10 HG10;go_wp2
      go_roundw
      case rel => first | exact ⟨j + 1, S', U, F', by go_num, by omega, HV11.out, HM11.out, by omega, hsU, HG11.out⟩ | ((repeat' apply Exists.intro) <;> first | exact ⟨⟨j + 1, S', U, F', by go_num, by omega, HV11.out, HM11.out, by omega, hsU, HG11.out⟩, rfl⟩ | exact undef)
      case measure => (simp [intOf] <;> omega)
  ·obtain rfl : j = n := by omega
   go_wp2;go_ret;exact ⟨rfl, hG⟩
end Go.Proofs.YtihoodeaaamlfaaGreatDoor
