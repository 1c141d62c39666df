/- Sq -/
import Derived.Test.YtihoodeaaamlfaaGreatDoorSo
set_option linter.unusedVariables false
set_option linter.unusedSimpArgs false
set_option maxRecDepth 100000
set_option maxHeartbeats 4000000
namespace Go.Proofs.YtihoodeaaamlfaaGreatDoor
open Go.RowKit
theorem zqa1 (g c a b p : Nat) (d : Array Int) (w : World) (hS : SrtAt w g d) (hab : a < b) (hb : b <= d.size) (hpa : a <= p) (hpb : p < b) (hn : d.size <= 1000000) :
  Calls Tryz.prog 48 #[.slice (some ⟨g, 0, none⟩) d.size c, .int .i64 a, .int .i64 b, .int .i64 p] w fun r w' => r = .returned (.tuple #[.int .i64 (((Go.Sort.partition Go.Sort.ltInt d a b p).1 : Nat) : Int), .bool (Go.Sort.partition Go.Sort.ltInt d a b p).2.1]) /\ SrtAt w' g (Go.Sort.partition Go.Sort.ltInt d a b p).2.2 /\ Kept g g w w' := by
 obtain ⟨cur, hg, hcc⟩ := hS;have HC := hidS hcc;have lg := lt_of_objAt hg;clear hcc;obtain ⟨x0, hx0⟩ : ∃ x, x = d[a]! := ⟨_, rfl⟩
 obtain ⟨x1, hx1⟩ : ∃ x, x = d[p]! := ⟨_, rfl⟩
 have l0 := HC.out.2 a (by omega);have l1 := HC.out.2 p (by omega);rw [<- hx0] at l0;rw [<- hx1] at l1;have l9 := zqd (a := a) (by have := HC.out.1; omega) l1;have HS5 := hidS (SrtAt.swap hg HC.out.1 HC.out.2 (i := a) (j := p) (by omega) (by omega));rw [<- hx0, <- hx1] at HS5;have b0 : (a : Int) < (d.size : Int) := by omega
 have b1 : (p : Int) < (d.size : Int) := by omega
 have z0 : (0 : Int) <= (a : Int) := by omega
 have z1 : (0 : Int) <= (p : Int) := by omega
 clear hx0 hx1
 go_enter Tryz.func48, Tryz.ntmps48
 go_wp2_with fail
 go_region
 have HS1 := hidS HS5.out.drew;have HK1 : Hid (Kept g g w (w.setRow g ((cur.setIfInBounds a (.int .u32 x1)).setIfInBounds p (.int .u32 x0))).drew) := (Kept.row _ (.inl rfl)).drew;obtain ⟨dk, hdk⟩ : ∃ D, D = Go.Sort.swp d a p := ⟨_, rfl⟩
 have hsk : dk.size = d.size := by rw [hdk]; exact zqe d a p
 rw [<- hdk] at HS1;generalize (w.setRow g ((cur.setIfInBounds a (.int .u32 x1)).setIfInBounds p (.int .u32 x0))).drew = w1 at *;clear HS5 l0 l1 l9 HC hg lg;obtain ⟨cur, hg, hcc⟩ := HS1.out;have HC := hidS hcc;have HK := HK1;have lg := lt_of_objAt hg;clear hcc HS1 HK1;obtain ⟨i, hi⟩ : ∃ i, i = a + 1 := ⟨_, rfl⟩
 obtain ⟨j, hj⟩ : ∃ j, j = b - 1 := ⟨_, rfl⟩
 have ei : (a : Int) + 1 = (i : Int) := by omega
 have ej : (b : Int) - 1 = (j : Int) := by omega
 have hai : a < i := by omega
 have hij : i <= j + 1 := by omega
 have hjb : j < b := by omega
 obtain ⟨i2, hi2⟩ : ∃ x, x = Go.Sort.scanUp (fun x => Go.Sort.ltInt x dk[a]!) dk j i := ⟨_, rfl⟩
 obtain ⟨j2, hj2⟩ : ∃ x, x = Go.Sort.scanDown (fun x => !Go.Sort.ltInt x dk[a]!) dk i2 j := ⟨_, rfl⟩
 have HU := hidS (Go.Sort.scanUp_spec (fun x => Go.Sort.ltInt x dk[a]!) dk j _ i rfl);have HV := hidS (Go.Sort.scanDown_spec (fun x => !Go.Sort.ltInt x dk[a]!) dk i2 j);rw [<- hi2] at HU;rw [<- hj2] at HV;have u1 := HU.out.1;have u2 := HU.out.2.1 (by omega);have v1 := HV.out.1;have v2 := HV.out.2.1 (by omega);have hX : i2 <= j2 -> i2 < j2 := fun h => by
  rcases Nat.lt_or_ge i2 j2 with h' | h'
  ·exact h'
  ·have e : i2 = j2 := by omega
   have f1 : Go.Sort.ltInt dk[i2]! dk[a]! = false := HU.out.2.2.2 (by omega);have f2 : (!Go.Sort.ltInt dk[j2]! dk[a]!) = false := HV.out.2.2.2 (by omega) (by omega);rw [<- e, f1] at f2
   cases f2
 have HXX := hidS hX;have HD : Hid (Go.Sort.partition Go.Sort.ltInt d a b p = if i2 > j2 then (j2, true, Go.Sort.swp dk j2 a) else
   let r := Go.Sort.partLoop Go.Sort.ltInt a (i2 + 1) (j2 - 1) (Go.Sort.swp dk i2 j2)
   (r.1, false, Go.Sort.swp r.2 r.1 a)) := by
  subst hj2 hi2 hi hj hdk
  rfl
 clear hi2 hj2 hX hi hj hdk;obtain ⟨xa, hxa⟩ : ∃ x, x = dk[a]! := ⟨_, rfl⟩
 have la := HC.out.2 a (by omega);rw [<- hxa] at la HU HV;have ha3 : (a : Int) < (d.size : Int) := by omega
 have ha4 : (0 : Int) <= (a : Int) := by omega
 have HXA := hidS hxa;clear hxa
 rcases (by omega : i2 <= j2 \/ (i2 <= j /\ j2 < i2) \/ j < i2) with hw | hw | hw
 ·go_wp2_with fail
  go_loopw [10] (fun v wr => ∃ t : Nat, v = .int .i64 (t : Int) /\ i <= t /\ t <= i2 /\ objAt wr g = some (.cells cur 27) /\ Kept g g w wr) (fun v _ => i2 - (intOf v).toNat)
  case atStart => exact ⟨i, by go_num, by omega, by omega, hg, HK.out⟩
  case round =>
   clear hg HK lg;obtain ⟨t, rfl, ht1, ht2, hg, hK⟩ := hrel;have HK := hidS hK;have lg := lt_of_objAt hg;clear hK
   by_cases htt : t < i2
   ·obtain ⟨xt, hxt⟩ : ∃ x, x = dk[t]! := ⟨_, rfl⟩
    have lt' := HC.out.2 t (by omega);rw [<- hxt] at lt';have hp : xt < xa := by
     have := HU.out.2.2.1 t (by omega) (by omega);rw [<- hxt] at this
     simpa [Go.Sort.ltInt] using this
    have ht3 : (t : Int) < (d.size : Int) := by omega
    have ht4 : (0 : Int) <= (t : Int) := by omega
    have ht5 : (t : Int) <= (j : Int) := by omega
    clear hxt;have hp2 := hp;have cL : ∀ W : World, Calls Tryz.prog 46 #[.int .u32 xt, .int .u32 xa] W (Rt W (.bool true)) := fun W => by have := lessC (xt) (xa) W; simpa only [hp, decide_true] using this
    clear hp2;go_wp2_with fail
    ((first | (with_reducible refine wp_region_on zqa zqa ?_) | refine wp_region_more zqa zqa ?_); (refine zAa ?_); refine wpQuiet_nil ?_; rintro _ ⟨mq, rfl⟩)
    replace hg : objAt (more wr mq) g = some (.cells cur 27) := keep_below (below_more wr mq) hg;replace HK := hidS (HK.out.trans (Kept.of (below_more wr mq)) (.inl rfl));clear lg;generalize more wr mq = w4 at *;have lg := lt_of_objAt hg;clear cL;go_wp2
    go_roundw
    case rel => first | exact ⟨t + 1, by go_num, by omega, by omega, hg, HK.out⟩ | ((repeat' apply Exists.intro) <;> first | exact ⟨⟨t + 1, by go_num, by omega, by omega, hg, HK.out⟩, rfl⟩ | exact undef)
    case measure => (simp [intOf] <;> omega)
   ·obtain rfl : i2 = t := by omega
    obtain ⟨xt, hxt⟩ : ∃ x, x = dk[i2]! := ⟨_, rfl⟩
    have lt' := HC.out.2 i2 (by omega);rw [<- hxt] at lt';have hp : ¬ (xt < xa) := by
     have := HU.out.2.2.2 (by omega);rw [<- hxt] at this
     simpa [Go.Sort.ltInt] using this
    have ht3 : (i2 : Int) < (d.size : Int) := by omega
    have ht4 : (0 : Int) <= (i2 : Int) := by omega
    have ht5 : (i2 : Int) <= (j : Int) := by omega
    clear hxt;have cL : ∀ W : World, Calls Tryz.prog 46 #[.int .u32 xt, .int .u32 xa] W (Rt W (.bool false)) := fun W => by have := lessC (xt) (xa) W; simpa only [hp, decide_false] using this
    go_wp2_with fail
    ((first | (with_reducible refine wp_region_on zqa zqa ?_) | refine wp_region_more zqa zqa ?_); (refine zAa ?_); refine wpQuiet_nil ?_; rintro _ ⟨mq, rfl⟩)
    replace hg : objAt (more wr mq) g = some (.cells cur 27) := keep_below (below_more wr mq) hg;replace HK := hidS (HK.out.trans (Kept.of (below_more wr mq)) (.inl rfl));clear lg;generalize more wr mq = w5 at *;have lg := lt_of_objAt hg;clear cL;clear lt' hp ht3 ht4 ht5;go_wp2_with fail
    go_loopw [11] (fun v wr => ∃ t : Nat, v = .int .i64 (t : Int) /\ j2 <= t /\ t <= j /\ objAt wr g = some (.cells cur 27) /\ Kept g g w wr) (fun v _ => (intOf v).toNat - j2)
    case atStart => exact ⟨j, by go_num, by omega, by omega, hg, HK.out⟩
    case round =>
     clear hg HK lg;obtain ⟨t, rfl, ht1, ht2, hg, hK⟩ := hrel;have HK := hidS hK;have lg := lt_of_objAt hg;clear hK
     by_cases htt : j2 < t
     ·obtain ⟨xt, hxt⟩ : ∃ x, x = dk[t]! := ⟨_, rfl⟩
      have lt' := HC.out.2 t (by omega);rw [<- hxt] at lt';have hp : ¬ (xt < xa) := by
       have := HV.out.2.2.1 t (by omega) (by omega);rw [<- hxt] at this
       simpa [Go.Sort.ltInt] using this
      have ht3 : (t : Int) < (d.size : Int) := by omega
      have ht4 : (0 : Int) <= (t : Int) := by omega
      have ht5 : (i2 : Int) <= (t : Int) := by omega
      clear hxt;have hp2 := hp;have cL : ∀ W : World, Calls Tryz.prog 46 #[.int .u32 xt, .int .u32 xa] W (Rt W (.bool false)) := fun W => by have := lessC (xt) (xa) W; simpa only [hp, decide_false] using this
      clear hp2;go_wp2_with fail
      ((first | (with_reducible refine wp_region_on zqa zqa ?_) | refine wp_region_more zqa zqa ?_); (refine zAa ?_); refine wpQuiet_nil ?_; rintro _ ⟨mq, rfl⟩)
      replace hg : objAt (more wr mq) g = some (.cells cur 27) := keep_below (below_more wr mq) hg;replace HK := hidS (HK.out.trans (Kept.of (below_more wr mq)) (.inl rfl));clear lg;generalize more wr mq = w4 at *;have lg := lt_of_objAt hg;clear cL;go_wp2
      go_roundw
      case rel => first | exact ⟨t - 1, by go_num, by omega, by omega, hg, HK.out⟩ | ((repeat' apply Exists.intro) <;> first | exact ⟨⟨t - 1, by go_num, by omega, by omega, hg, HK.out⟩, rfl⟩ | exact undef)
      case measure => (simp [intOf] <;> omega)
     ·obtain rfl : j2 = t := by omega
      obtain ⟨xt, hxt⟩ : ∃ x, x = dk[j2]! := ⟨_, rfl⟩
      have lt' := HC.out.2 j2 (by omega);rw [<- hxt] at lt';have hp : xt < xa := by
       have := HV.out.2.2.2 (by omega) (by omega);rw [<- hxt] at this
       simpa [Go.Sort.ltInt] using this
      have ht3 : (j2 : Int) < (d.size : Int) := by omega
      have ht4 : (0 : Int) <= (j2 : Int) := by omega
      have ht5 : (i2 : Int) <= (j2 : Int) := by omega
      clear hxt;have cL : ∀ W : World, Calls Tryz.prog 46 #[.int .u32 xt, .int .u32 xa] W (Rt W (.bool true)) := fun W => by have := lessC (xt) (xa) W; simpa only [hp, decide_true] using this
      go_wp2_with fail
      ((first | (with_reducible refine wp_region_on zqa zqa ?_) | refine wp_region_more zqa zqa ?_); (refine zAa ?_); refine wpQuiet_nil ?_; rintro _ ⟨mq, rfl⟩)
      replace hg : objAt (more wr mq) g = some (.cells cur 27) := keep_below (below_more wr mq) hg;replace HK := hidS (HK.out.trans (Kept.of (below_more wr mq)) (.inl rfl));clear lg;generalize more wr mq = w6 at *;have lg := lt_of_objAt hg;clear cL;clear lt' hp ht3 ht4 ht5;have hgt : ¬ ((j2 : Int) < (i2 : Int)) := by omega
      have hne := HXX.out hw;obtain ⟨x0, hx0⟩ : ∃ x, x = dk[i2]! := ⟨_, rfl⟩
      obtain ⟨x1, hx1⟩ : ∃ x, x = dk[j2]! := ⟨_, rfl⟩
      have l0 := HC.out.2 i2 (by omega);have l1 := HC.out.2 j2 (by omega);rw [<- hx0] at l0;rw [<- hx1] at l1;have l9 := zqd (a := i2) (by have := HC.out.1; omega) l1;have HS5 := hidS (SrtAt.swap hg HC.out.1 HC.out.2 (i := i2) (j := j2) (by omega) (by omega));rw [<- hx0, <- hx1] at HS5;have b0 : (i2 : Int) < (d.size : Int) := by omega
      have b1 : (j2 : Int) < (d.size : Int) := by omega
      have z0 : (0 : Int) <= (i2 : Int) := by omega
      have z1 : (0 : Int) <= (j2 : Int) := by omega
      clear hx0 hx1;go_wp2_with fail
      go_region
      obtain ⟨d2, hd2⟩ : ∃ D, D = Go.Sort.swp dk i2 j2 := ⟨_, rfl⟩
      have hs2 : d2.size = d.size := by rw [hd2, zqe]; exact hsk
      have HD2 : Hid (Go.Sort.partition Go.Sort.ltInt d a b p = let r := Go.Sort.partLoop Go.Sort.ltInt a (i2 + 1) (j2 - 1) d2
            (r.1, false, Go.Sort.swp r.2 r.1 a)) := by
       rw [HD.out, if_neg (by omega), hd2]
       rfl
      rw [<- hd2] at HS5;have HS2 := hidS HS5.out.drew;have HK2 := hidS (HK.out.trans (Kept.row (g := g) (k := g) (c := (cur.setIfInBounds i2 (.int .u32 x1)).setIfInBounds j2 (.int .u32 x0)) (.inl rfl)) (.inl rfl)).drew;generalize (w6.setRow g ((cur.setIfInBounds i2 (.int .u32 x1)).setIfInBounds j2 (.int .u32 x0))).drew = w7 at *;obtain ⟨i0, hi0⟩ : ∃ q, q = i2 + 1 := ⟨_, rfl⟩
      obtain ⟨j0, hj0⟩ : ∃ q, q = j2 - 1 := ⟨_, rfl⟩
      have ei0 : (i2 : Int) + 1 = (i0 : Int) := by omega
      have ej0 : (j2 : Int) - 1 = (j0 : Int) := by omega
      have r1 : a < i0 := by omega
      have r2 : i0 <= j0 + 1 := by omega
      have r3 : j0 < b := by omega
      rw [<- hi0, <- hj0] at HD2;clear hd2 hi0 hj0 HD HS5 HU HV HXX HXA HC HK hg lg l0 l1 l9 la hw hne hgt u1 u2 v1 v2 hai hij hjb b0 b1 z0 z1 ei ej ht1 ht2;go_wp2_with fail
      go_loopw [10, 11] (fun vi vj wr => ∃ (i j : Nat) (dk : Array Int), vi = .int .i64 (i : Int) /\ vj = .int .i64 (j : Int) /\ a < i /\ i <= j + 1 /\ j < b /\ dk.size = d.size /\ SrtAt wr g dk /\ Kept g g w wr /\ Hid (Go.Sort.partLoop Go.Sort.ltInt a i j dk = Go.Sort.partLoop Go.Sort.ltInt a i0 j0 d2)) (fun vi vj _ => (intOf vj).toNat + 1 - (intOf vi).toNat)
      case atStart => exact ⟨i0, j0, d2, by go_num, by go_num, r1, r2, r3, hs2, HS2.out, HK2.out, rfl⟩
      case round =>
       clear HS2 HK2 r1 r2 r3 ei0 ej0;obtain ⟨i, j, dk, rfl, rfl, hai, hij, hjb, hsk, ⟨cur, hg, hcc⟩, hK, HO⟩ := hrel;have HC := hidS hcc;have HK := hidS hK;have lg := lt_of_objAt hg;clear hcc hK;obtain ⟨i2, hi2⟩ : ∃ x, x = Go.Sort.scanUp (fun x => Go.Sort.ltInt x dk[a]!) dk j i := ⟨_, rfl⟩
       obtain ⟨j2, hj2⟩ : ∃ x, x = Go.Sort.scanDown (fun x => !Go.Sort.ltInt x dk[a]!) dk i2 j := ⟨_, rfl⟩
       have HU := hidS (Go.Sort.scanUp_spec (fun x => Go.Sort.ltInt x dk[a]!) dk j _ i rfl);have HV := hidS (Go.Sort.scanDown_spec (fun x => !Go.Sort.ltInt x dk[a]!) dk i2 j);rw [<- hi2] at HU;rw [<- hj2] at HV;have u1 := HU.out.1;have u2 := HU.out.2.1 (by omega);have v1 := HV.out.1;have v2 := HV.out.2.1 (by omega);have HE := hidS (Go.Sort.partLoop_eq Go.Sort.ltInt a i j dk);rw [<- hi2, <- hj2] at HE;have hX : i2 <= j2 -> i2 < j2 := fun h => by
        rcases Nat.lt_or_ge i2 j2 with h' | h'
        ·exact h'
        ·have e : i2 = j2 := by omega
         have f1 : Go.Sort.ltInt dk[i2]! dk[a]! = false := HU.out.2.2.2 (by omega);have f2 : (!Go.Sort.ltInt dk[j2]! dk[a]!) = false := HV.out.2.2.2 (by omega) (by omega);rw [<- e, f1] at f2
         cases f2
       have HXX := hidS hX;clear hi2 hj2 hX;obtain ⟨xa, hxa⟩ : ∃ x, x = dk[a]! := ⟨_, rfl⟩
       have la := HC.out.2 a (by omega);rw [<- hxa] at la HU HV;have HXA := hidS hxa;clear hxa
       rcases (by omega : i2 <= j2 \/ (i2 <= j /\ j2 < i2) \/ j < i2) with hw | hw | hw
       ·go_wp2_with fail
        go_loopw [10] (fun v wr => ∃ t : Nat, v = .int .i64 (t : Int) /\ i <= t /\ t <= i2 /\ objAt wr g = some (.cells cur 27) /\ Kept g g w wr) (fun v _ => i2 - (intOf v).toNat)
        case atStart => exact ⟨i, by go_num, by omega, by omega, hg, HK.out⟩
        case round =>
         clear hg HK lg;obtain ⟨t, rfl, ht1, ht2, hg, hK⟩ := hrel;have HK := hidS hK;have lg := lt_of_objAt hg;clear hK
         by_cases htt : t < i2
         ·obtain ⟨xt, hxt⟩ : ∃ x, x = dk[t]! := ⟨_, rfl⟩
          have lt' := HC.out.2 t (by omega);rw [<- hxt] at lt';have hp : xt < xa := by
           have := HU.out.2.2.1 t (by omega) (by omega);rw [<- hxt] at this
           simpa [Go.Sort.ltInt] using this
          have ht3 : (t : Int) < (d.size : Int) := by omega
          have ht4 : (0 : Int) <= (t : Int) := by omega
          have ht5 : (t : Int) <= (j : Int) := by omega
          clear hxt;have hp2 := hp;have cL : ∀ W : World, Calls Tryz.prog 46 #[.int .u32 xt, .int .u32 xa] W (Rt W (.bool true)) := fun W => by have := lessC (xt) (xa) W; simpa only [hp, decide_true] using this
          clear hp2;go_wp2_with fail
          ((first | (with_reducible refine wp_region_on zqa zqa ?_) | refine wp_region_more zqa zqa ?_); (refine zAa ?_); refine wpQuiet_nil ?_; rintro _ ⟨mq, rfl⟩)
          replace hg : objAt (more wr mq) g = some (.cells cur 27) := keep_below (below_more wr mq) hg;replace HK := hidS (HK.out.trans (Kept.of (below_more wr mq)) (.inl rfl));clear lg;generalize more wr mq = w4 at *;have lg := lt_of_objAt hg;clear cL;go_wp2
          go_roundw
          case rel => first | exact ⟨t + 1, by go_num, by omega, by omega, hg, HK.out⟩ | ((repeat' apply Exists.intro) <;> first | exact ⟨⟨t + 1, by go_num, by omega, by omega, hg, HK.out⟩, rfl⟩ | exact undef)
          case measure => (simp [intOf] <;> omega)
         ·obtain rfl : i2 = t := by omega
          obtain ⟨xt, hxt⟩ : ∃ x, x = dk[i2]! := ⟨_, rfl⟩
          have lt' := HC.out.2 i2 (by omega);rw [<- hxt] at lt';have hp : ¬ (xt < xa) := by
           have := HU.out.2.2.2 (by omega);rw [<- hxt] at this
           simpa [Go.Sort.ltInt] using this
          have ht3 : (i2 : Int) < (d.size : Int) := by omega
          have ht4 : (0 : Int) <= (i2 : Int) := by omega
          have ht5 : (i2 : Int) <= (j : Int) := by omega
          clear hxt;have cL : ∀ W : World, Calls Tryz.prog 46 #[.int .u32 xt, .int .u32 xa] W (Rt W (.bool false)) := fun W => by have := lessC (xt) (xa) W; simpa only [hp, decide_false] using this
          go_wp2_with fail
          ((first | (with_reducible refine wp_region_on zqa zqa ?_) | refine wp_region_more zqa zqa ?_); (refine zAa ?_); refine wpQuiet_nil ?_; rintro _ ⟨mq, rfl⟩)
          replace hg : objAt (more wr mq) g = some (.cells cur 27) := keep_below (below_more wr mq) hg;replace HK := hidS (HK.out.trans (Kept.of (below_more wr mq)) (.inl rfl));clear lg;generalize more wr mq = w5 at *;have lg := lt_of_objAt hg;clear cL;clear lt' hp ht3 ht4 ht5;go_wp2_with fail
          go_loopw [11] (fun v wr => ∃ t : Nat, v = .int .i64 (t : Int) /\ j2 <= t /\ t <= j /\ objAt wr g = some (.cells cur 27) /\ Kept g g w wr) (fun v _ => (intOf v).toNat - j2)
          case atStart => exact ⟨j, by go_num, by omega, by omega, hg, HK.out⟩
          case round =>
           clear hg HK lg;obtain ⟨t, rfl, ht1, ht2, hg, hK⟩ := hrel;have HK := hidS hK;have lg := lt_of_objAt hg;clear hK
           by_cases htt : j2 < t
           ·obtain ⟨xt, hxt⟩ : ∃ x, x = dk[t]! := ⟨_, rfl⟩
            have lt' := HC.out.2 t (by omega);rw [<- hxt] at lt';have hp : ¬ (xt < xa) := by
             have := HV.out.2.2.1 t (by omega) (by omega);rw [<- hxt] at this
             simpa [Go.Sort.ltInt] using this
            have ht3 : (t : Int) < (d.size : Int) := by omega
            have ht4 : (0 : Int) <= (t : Int) := by omega
            have ht5 : (i2 : Int) <= (t : Int) := by omega
            clear hxt;have hp2 := hp;have cL : ∀ W : World, Calls Tryz.prog 46 #[.int .u32 xt, .int .u32 xa] W (Rt W (.bool false)) := fun W => by have := lessC (xt) (xa) W; simpa only [hp, decide_false] using this
            clear hp2;go_wp2_with fail
            ((first | (with_reducible refine wp_region_on zqa zqa ?_) | refine wp_region_more zqa zqa ?_); (refine zAa ?_); refine wpQuiet_nil ?_; rintro _ ⟨mq, rfl⟩)
            replace hg : objAt (more wr mq) g = some (.cells cur 27) := keep_below (below_more wr mq) hg;replace HK := hidS (HK.out.trans (Kept.of (below_more wr mq)) (.inl rfl));clear lg;generalize more wr mq = w4 at *;have lg := lt_of_objAt hg;clear cL;go_wp2
            go_roundw
            case rel => first | exact ⟨t - 1, by go_num, by omega, by omega, hg, HK.out⟩ | ((repeat' apply Exists.intro) <;> first | exact ⟨⟨t - 1, by go_num, by omega, by omega, hg, HK.out⟩, rfl⟩ | exact undef)
            case measure => (simp [intOf] <;> omega)
           ·obtain rfl : j2 = t := by omega
            obtain ⟨xt, hxt⟩ : ∃ x, x = dk[j2]! := ⟨_, rfl⟩
            have lt' := HC.out.2 j2 (by omega);rw [<- hxt] at lt';have hp : xt < xa := by
             have := HV.out.2.2.2 (by omega) (by omega);rw [<- hxt] at this
             simpa [Go.Sort.ltInt] using this
            have ht3 : (j2 : Int) < (d.size : Int) := by omega
            have ht4 : (0 : Int) <= (j2 : Int) := by omega
            have ht5 : (i2 : Int) <= (j2 : Int) := by omega
            clear hxt;have cL : ∀ W : World, Calls Tryz.prog 46 #[.int .u32 xt, .int .u32 xa] W (Rt W (.bool true)) := fun W => by have := lessC (xt) (xa) W; simpa only [hp, decide_true] using this
            go_wp2_with fail
            ((first | (with_reducible refine wp_region_on zqa zqa ?_) | refine wp_region_more zqa zqa ?_); (refine zAa ?_); refine wpQuiet_nil ?_; rintro _ ⟨mq, rfl⟩)
            replace hg : objAt (more wr mq) g = some (.cells cur 27) := keep_below (below_more wr mq) hg;replace HK := hidS (HK.out.trans (Kept.of (below_more wr mq)) (.inl rfl));clear lg;generalize more wr mq = w6 at *;have lg := lt_of_objAt hg;clear cL;clear lt' hp ht3 ht4 ht5;have hgt : ¬ ((j2 : Int) < (i2 : Int)) := by omega
            have hne := HXX.out hw;obtain ⟨x0, hx0⟩ : ∃ x, x = dk[i2]! := ⟨_, rfl⟩
            obtain ⟨x1, hx1⟩ : ∃ x, x = dk[j2]! := ⟨_, rfl⟩
            have l0 := HC.out.2 i2 (by omega);have l1 := HC.out.2 j2 (by omega);rw [<- hx0] at l0;rw [<- hx1] at l1;have l9 := zqd (a := i2) (by have := HC.out.1; omega) l1;have HS5 := hidS (SrtAt.swap hg HC.out.1 HC.out.2 (i := i2) (j := j2) (by omega) (by omega));rw [<- hx0, <- hx1] at HS5;have b0 : (i2 : Int) < (d.size : Int) := by omega
            have b1 : (j2 : Int) < (d.size : Int) := by omega
            have z0 : (0 : Int) <= (i2 : Int) := by omega
            have z1 : (0 : Int) <= (j2 : Int) := by omega
            clear hx0 hx1;go_wp2_with fail
            go_region
            go_wp2
            go_roundw
            case rel => first | exact ⟨i2 + 1, j2 - 1, Go.Sort.swp dk i2 j2, by go_num, by go_num, by omega, by omega, by omega, by rw [zqe]; exact hsk, HS5.out.drew, (HK.out.trans (Kept.row _ (.inl rfl)) (.inl rfl)).drew, by rw [<- HO.out, HE.out, if_neg (by omega)]; rfl⟩ | ((repeat' apply Exists.intro) <;> first | exact ⟨⟨i2 + 1, j2 - 1, Go.Sort.swp dk i2 j2, by go_num, by go_num, by omega, by omega, by omega, by rw [zqe]; exact hsk, HS5.out.drew, (HK.out.trans (Kept.row _ (.inl rfl)) (.inl rfl)).drew, by rw [<- HO.out, HE.out, if_neg (by omega)]; rfl⟩, rfl⟩ | exact undef)
            case measure => (simp [intOf] <;> omega)
       ·go_wp2_with fail
        go_loopw [10] (fun v wr => ∃ t : Nat, v = .int .i64 (t : Int) /\ i <= t /\ t <= i2 /\ objAt wr g = some (.cells cur 27) /\ Kept g g w wr) (fun v _ => i2 - (intOf v).toNat)
        case atStart => exact ⟨i, by go_num, by omega, by omega, hg, HK.out⟩
        case round =>
         clear hg HK lg;obtain ⟨t, rfl, ht1, ht2, hg, hK⟩ := hrel;have HK := hidS hK;have lg := lt_of_objAt hg;clear hK
         by_cases htt : t < i2
         ·obtain ⟨xt, hxt⟩ : ∃ x, x = dk[t]! := ⟨_, rfl⟩
          have lt' := HC.out.2 t (by omega);rw [<- hxt] at lt';have hp : xt < xa := by
           have := HU.out.2.2.1 t (by omega) (by omega);rw [<- hxt] at this
           simpa [Go.Sort.ltInt] using this
          have ht3 : (t : Int) < (d.size : Int) := by omega
          have ht4 : (0 : Int) <= (t : Int) := by omega
          have ht5 : (t : Int) <= (j : Int) := by omega
          clear hxt;have hp2 := hp;have cL : ∀ W : World, Calls Tryz.prog 46 #[.int .u32 xt, .int .u32 xa] W (Rt W (.bool true)) := fun W => by have := lessC (xt) (xa) W; simpa only [hp, decide_true] using this
          clear hp2;go_wp2_with fail
          ((first | (with_reducible refine wp_region_on zqa zqa ?_) | refine wp_region_more zqa zqa ?_); (refine zAa ?_); refine wpQuiet_nil ?_; rintro _ ⟨mq, rfl⟩)
          replace hg : objAt (more wr mq) g = some (.cells cur 27) := keep_below (below_more wr mq) hg;replace HK := hidS (HK.out.trans (Kept.of (below_more wr mq)) (.inl rfl));clear lg;generalize more wr mq = w4 at *;have lg := lt_of_objAt hg;clear cL;go_wp2
          go_roundw
          case rel => first | exact ⟨t + 1, by go_num, by omega, by omega, hg, HK.out⟩ | ((repeat' apply Exists.intro) <;> first | exact ⟨⟨t + 1, by go_num, by omega, by omega, hg, HK.out⟩, rfl⟩ | exact undef)
          case measure => (simp [intOf] <;> omega)
         ·obtain rfl : i2 = t := by omega
          obtain ⟨xt, hxt⟩ : ∃ x, x = dk[i2]! := ⟨_, rfl⟩
          have lt' := HC.out.2 i2 (by omega);rw [<- hxt] at lt';have hp : ¬ (xt < xa) := by
           have := HU.out.2.2.2 (by omega);rw [<- hxt] at this
           simpa [Go.Sort.ltInt] using this
          have ht3 : (i2 : Int) < (d.size : Int) := by omega
          have ht4 : (0 : Int) <= (i2 : Int) := by omega
          have ht5 : (i2 : Int) <= (j : Int) := by omega
          clear hxt;have cL : ∀ W : World, Calls Tryz.prog 46 #[.int .u32 xt, .int .u32 xa] W (Rt W (.bool false)) := fun W => by have := lessC (xt) (xa) W; simpa only [hp, decide_false] using this
          go_wp2_with fail
          ((first | (with_reducible refine wp_region_on zqa zqa ?_) | refine wp_region_more zqa zqa ?_); (refine zAa ?_); refine wpQuiet_nil ?_; rintro _ ⟨mq, rfl⟩)
          replace hg : objAt (more wr mq) g = some (.cells cur 27) := keep_below (below_more wr mq) hg;replace HK := hidS (HK.out.trans (Kept.of (below_more wr mq)) (.inl rfl));clear lg;generalize more wr mq = w5 at *;have lg := lt_of_objAt hg;clear cL;clear lt' hp ht3 ht4 ht5;go_wp2_with fail
          go_loopw [11] (fun v wr => ∃ t : Nat, v = .int .i64 (t : Int) /\ j2 <= t /\ t <= j /\ objAt wr g = some (.cells cur 27) /\ Kept g g w wr) (fun v _ => (intOf v).toNat - j2)
          case atStart => exact ⟨j, by go_num, by omega, by omega, hg, HK.out⟩
          case round =>
           clear hg HK lg;obtain ⟨t, rfl, ht1, ht2, hg, hK⟩ := hrel;have HK := hidS hK;have lg := lt_of_objAt hg;clear hK
           by_cases htt : j2 < t
           ·obtain ⟨xt, hxt⟩ : ∃ x, x = dk[t]! := ⟨_, rfl⟩
            have lt' := HC.out.2 t (by omega);rw [<- hxt] at lt';have hp : ¬ (xt < xa) := by
             have := HV.out.2.2.1 t (by omega) (by omega);rw [<- hxt] at this
             simpa [Go.Sort.ltInt] using this
            have ht3 : (t : Int) < (d.size : Int) := by omega
            have ht4 : (0 : Int) <= (t : Int) := by omega
            have ht5 : (i2 : Int) <= (t : Int) := by omega
            clear hxt;have hp2 := hp;have cL : ∀ W : World, Calls Tryz.prog 46 #[.int .u32 xt, .int .u32 xa] W (Rt W (.bool false)) := fun W => by have := lessC (xt) (xa) W; simpa only [hp, decide_false] using this
            clear hp2;go_wp2_with fail
            ((first | (with_reducible refine wp_region_on zqa zqa ?_) | refine wp_region_more zqa zqa ?_); (refine zAa ?_); refine wpQuiet_nil ?_; rintro _ ⟨mq, rfl⟩)
            replace hg : objAt (more wr mq) g = some (.cells cur 27) := keep_below (below_more wr mq) hg;replace HK := hidS (HK.out.trans (Kept.of (below_more wr mq)) (.inl rfl));clear lg;generalize more wr mq = w4 at *;have lg := lt_of_objAt hg;clear cL;go_wp2
            go_roundw
            case rel => first | exact ⟨t - 1, by go_num, by omega, by omega, hg, HK.out⟩ | ((repeat' apply Exists.intro) <;> first | exact ⟨⟨t - 1, by go_num, by omega, by omega, hg, HK.out⟩, rfl⟩ | exact undef)
            case measure => (simp [intOf] <;> omega)
           ·obtain rfl : j2 = t := by omega
            have ht5 : ¬ ((i2 : Int) <= (j2 : Int)) := by omega
            have cL := fun W : World => lessC 0 0 W;go_wp2_with fail;clear ht5;have ht5 : ¬ ((i2 : Int) <= (j2 : Int)) := by omega
            ((first | (with_reducible refine wp_region_on zqa zqa ?_) | refine wp_region_more zqa zqa ?_); (refine zAa ?_); refine wpQuiet_nil ?_; rintro _ ⟨mq, rfl⟩)
            replace hg : objAt (more wr mq) g = some (.cells cur 27) := keep_below (below_more wr mq) hg;replace HK := hidS (HK.out.trans (Kept.of (below_more wr mq)) (.inl rfl));clear lg;generalize more wr mq = w6 at *;have lg := lt_of_objAt hg;clear cL;clear ht5;have hgt : (j2 : Int) < (i2 : Int) := by omega
            obtain ⟨x0, hx0⟩ : ∃ x, x = dk[j2]! := ⟨_, rfl⟩
            have l0 := HC.out.2 j2 (by omega);rw [<- hx0] at l0;have l9 := zqd (a := j2) (by have := HC.out.1; omega) la;have HS5 := hidS (SrtAt.swap hg HC.out.1 HC.out.2 (i := j2) (j := a) (by omega) (by omega));rw [<- hx0, <- HXA.out] at HS5;have b0 : (j2 : Int) < (d.size : Int) := by omega
            have z0 : (0 : Int) <= (j2 : Int) := by omega
            clear hx0;go_wp2_with fail
            go_region
            go_wp2;go_ret2;rw [HD2.out, <- HO.out, HE.out, if_pos (by omega)];exact ⟨rfl, HS5.out.drew, (HK.out.trans (Kept.row _ (.inl rfl)) (.inl rfl)).drew⟩
       ·go_wp2_with fail
        go_loopw [10] (fun v wr => ∃ t : Nat, v = .int .i64 (t : Int) /\ i <= t /\ t <= i2 /\ objAt wr g = some (.cells cur 27) /\ Kept g g w wr) (fun v _ => i2 - (intOf v).toNat)
        case atStart => exact ⟨i, by go_num, by omega, by omega, hg, HK.out⟩
        case round =>
         clear hg HK lg;obtain ⟨t, rfl, ht1, ht2, hg, hK⟩ := hrel;have HK := hidS hK;have lg := lt_of_objAt hg;clear hK
         by_cases htt : t < i2
         ·obtain ⟨xt, hxt⟩ : ∃ x, x = dk[t]! := ⟨_, rfl⟩
          have lt' := HC.out.2 t (by omega);rw [<- hxt] at lt';have hp : xt < xa := by
           have := HU.out.2.2.1 t (by omega) (by omega);rw [<- hxt] at this
           simpa [Go.Sort.ltInt] using this
          have ht3 : (t : Int) < (d.size : Int) := by omega
          have ht4 : (0 : Int) <= (t : Int) := by omega
          have ht5 : (t : Int) <= (j : Int) := by omega
          clear hxt;have hp2 := hp;have cL : ∀ W : World, Calls Tryz.prog 46 #[.int .u32 xt, .int .u32 xa] W (Rt W (.bool true)) := fun W => by have := lessC (xt) (xa) W; simpa only [hp, decide_true] using this
          clear hp2;go_wp2_with fail
          ((first | (with_reducible refine wp_region_on zqa zqa ?_) | refine wp_region_more zqa zqa ?_); (refine zAa ?_); refine wpQuiet_nil ?_; rintro _ ⟨mq, rfl⟩)
          replace hg : objAt (more wr mq) g = some (.cells cur 27) := keep_below (below_more wr mq) hg;replace HK := hidS (HK.out.trans (Kept.of (below_more wr mq)) (.inl rfl));clear lg;generalize more wr mq = w4 at *;have lg := lt_of_objAt hg;clear cL;go_wp2
          go_roundw
          case rel => first | exact ⟨t + 1, by go_num, by omega, by omega, hg, HK.out⟩ | ((repeat' apply Exists.intro) <;> first | exact ⟨⟨t + 1, by go_num, by omega, by omega, hg, HK.out⟩, rfl⟩ | exact undef)
          case measure => (simp [intOf] <;> omega)
         ·obtain rfl : i2 = t := by omega
          have ht5 : ¬ ((i2 : Int) <= (j : Int)) := by omega
          have cL := fun W : World => lessC 0 0 W;go_wp2_with fail;clear ht5;have ht5 : ¬ ((i2 : Int) <= (j : Int)) := by omega
          ((first | (with_reducible refine wp_region_on zqa zqa ?_) | refine wp_region_more zqa zqa ?_); (refine zAa ?_); refine wpQuiet_nil ?_; rintro _ ⟨mq, rfl⟩)
          replace hg : objAt (more wr mq) g = some (.cells cur 27) := keep_below (below_more wr mq) hg;replace HK := hidS (HK.out.trans (Kept.of (below_more wr mq)) (.inl rfl));clear lg;generalize more wr mq = w5 at *;have lg := lt_of_objAt hg;clear cL;clear ht5;go_wp2_with fail
          go_loopw [11] (fun v wr => ∃ t : Nat, v = .int .i64 (t : Int) /\ j2 <= t /\ t <= j /\ objAt wr g = some (.cells cur 27) /\ Kept g g w wr) (fun v _ => (intOf v).toNat - j2)
          case atStart => exact ⟨j, by go_num, by omega, by omega, hg, HK.out⟩
          case round =>
           clear hg HK lg;obtain ⟨t, rfl, ht1, ht2, hg, hK⟩ := hrel;have HK := hidS hK;have lg := lt_of_objAt hg;clear hK
           by_cases htt : j2 < t
           ·obtain ⟨xt, hxt⟩ : ∃ x, x = dk[t]! := ⟨_, rfl⟩
            have lt' := HC.out.2 t (by omega);rw [<- hxt] at lt';have hp : ¬ (xt < xa) := by
             have := HV.out.2.2.1 t (by omega) (by omega);rw [<- hxt] at this
             simpa [Go.Sort.ltInt] using this
            have ht3 : (t : Int) < (d.size : Int) := by omega
            have ht4 : (0 : Int) <= (t : Int) := by omega
            have ht5 : (i2 : Int) <= (t : Int) := by omega
            clear hxt;have hp2 := hp;have cL : ∀ W : World, Calls Tryz.prog 46 #[.int .u32 xt, .int .u32 xa] W (Rt W (.bool false)) := fun W => by have := lessC (xt) (xa) W; simpa only [hp, decide_false] using this
            clear hp2;go_wp2_with fail
            ((first | (with_reducible refine wp_region_on zqa zqa ?_) | refine wp_region_more zqa zqa ?_); (refine zAa ?_); refine wpQuiet_nil ?_; rintro _ ⟨mq, rfl⟩)
            replace hg : objAt (more wr mq) g = some (.cells cur 27) := keep_below (below_more wr mq) hg;replace HK := hidS (HK.out.trans (Kept.of (below_more wr mq)) (.inl rfl));clear lg;generalize more wr mq = w4 at *;have lg := lt_of_objAt hg;clear cL;go_wp2
            go_roundw
            case rel => first | exact ⟨t - 1, by go_num, by omega, by omega, hg, HK.out⟩ | ((repeat' apply Exists.intro) <;> first | exact ⟨⟨t - 1, by go_num, by omega, by omega, hg, HK.out⟩, rfl⟩ | exact undef)
            case measure => (simp [intOf] <;> omega)
           ·obtain rfl : j2 = t := by omega
            have ht5 : ¬ ((i2 : Int) <= (j2 : Int)) := by omega
            have cL := fun W : World => lessC 0 0 W;go_wp2_with fail;clear ht5;have ht5 : ¬ ((i2 : Int) <= (j2 : Int)) := by omega
            ((first | (with_reducible refine wp_region_on zqa zqa ?_) | refine wp_region_more zqa zqa ?_); (refine zAa ?_); refine wpQuiet_nil ?_; rintro _ ⟨mq, rfl⟩)
            replace hg : objAt (more wr mq) g = some (.cells cur 27) := keep_below (below_more wr mq) hg;replace HK := hidS (HK.out.trans (Kept.of (below_more wr mq)) (.inl rfl));clear lg;generalize more wr mq = w6 at *;have lg := lt_of_objAt hg;clear cL;clear ht5;have hgt : (j2 : Int) < (i2 : Int) := by omega
            obtain ⟨x0, hx0⟩ : ∃ x, x = dk[j2]! := ⟨_, rfl⟩
            have l0 := HC.out.2 j2 (by omega);rw [<- hx0] at l0;have l9 := zqd (a := j2) (by have := HC.out.1; omega) la;have HS5 := hidS (SrtAt.swap hg HC.out.1 HC.out.2 (i := j2) (j := a) (by omega) (by omega));rw [<- hx0, <- HXA.out] at HS5;have b0 : (j2 : Int) < (d.size : Int) := by omega
            have z0 : (0 : Int) <= (j2 : Int) := by omega
            clear hx0;go_wp2_with fail
            go_region
            go_wp2;go_ret2;rw [HD2.out, <- HO.out, HE.out, if_pos (by omega)];exact ⟨rfl, HS5.out.drew, (HK.out.trans (Kept.row _ (.inl rfl)) (.inl rfl)).drew⟩
 ·go_wp2_with fail
  go_loopw [10] (fun v wr => ∃ t : Nat, v = .int .i64 (t : Int) /\ i <= t /\ t <= i2 /\ objAt wr g = some (.cells cur 27) /\ Kept g g w wr) (fun v _ => i2 - (intOf v).toNat)
  case atStart => exact ⟨i, by go_num, by omega, by omega, hg, HK.out⟩
  case round =>
   clear hg HK lg;obtain ⟨t, rfl, ht1, ht2, hg, hK⟩ := hrel;have HK := hidS hK;have lg := lt_of_objAt hg;clear hK
   by_cases htt : t < i2
   ·obtain ⟨xt, hxt⟩ : ∃ x, x = dk[t]! := ⟨_, rfl⟩
    have lt' := HC.out.2 t (by omega);rw [<- hxt] at lt';have hp : xt < xa := by
     have := HU.out.2.2.1 t (by omega) (by omega);rw [<- hxt] at this
     simpa [Go.Sort.ltInt] using this
    have ht3 : (t : Int) < (d.size : Int) := by omega
    have ht4 : (0 : Int) <= (t : Int) := by omega
    have ht5 : (t : Int) <= (j : Int) := by omega
    clear hxt;have hp2 := hp;have cL : ∀ W : World, Calls Tryz.prog 46 #[.int .u32 xt, .int .u32 xa] W (Rt W (.bool true)) := fun W => by have := lessC (xt) (xa) W; simpa only [hp, decide_true] using this
    clear hp2;go_wp2_with fail
    ((first | (with_reducible refine wp_region_on zqa zqa ?_) | refine wp_region_more zqa zqa ?_); (refine zAa ?_); refine wpQuiet_nil ?_; rintro _ ⟨mq, rfl⟩)
    replace hg : objAt (more wr mq) g = some (.cells cur 27) := keep_below (below_more wr mq) hg;replace HK := hidS (HK.out.trans (Kept.of (below_more wr mq)) (.inl rfl));clear lg;generalize more wr mq = w4 at *;have lg := lt_of_objAt hg;clear cL;go_wp2
    go_roundw
    case rel => first | exact ⟨t + 1, by go_num, by omega, by omega, hg, HK.out⟩ | ((repeat' apply Exists.intro) <;> first | exact ⟨⟨t + 1, by go_num, by omega, by omega, hg, HK.out⟩, rfl⟩ | exact undef)
    case measure => (simp [intOf] <;> omega)
   ·obtain rfl : i2 = t := by omega
    obtain ⟨xt, hxt⟩ : ∃ x, x = dk[i2]! := ⟨_, rfl⟩
    have lt' := HC.out.2 i2 (by omega);rw [<- hxt] at lt';have hp : ¬ (xt < xa) := by
     have := HU.out.2.2.2 (by omega);rw [<- hxt] at this
     simpa [Go.Sort.ltInt] using this
    have ht3 : (i2 : Int) < (d.size : Int) := by omega
    have ht4 : (0 : Int) <= (i2 : Int) := by omega
    have ht5 : (i2 : Int) <= (j : Int) := by omega
    clear hxt;have cL : ∀ W : World, Calls Tryz.prog 46 #[.int .u32 xt, .int .u32 xa] W (Rt W (.bool false)) := fun W => by have := lessC (xt) (xa) W; simpa only [hp, decide_false] using this
    go_wp2_with fail
    ((first | (with_reducible refine wp_region_on zqa zqa ?_) | refine wp_region_more zqa zqa ?_); (refine zAa ?_); refine wpQuiet_nil ?_; rintro _ ⟨mq, rfl⟩)
    replace hg : objAt (more wr mq) g = some (.cells cur 27) := keep_below (below_more wr mq) hg;replace HK := hidS (HK.out.trans (Kept.of (below_more wr mq)) (.inl rfl));clear lg;generalize more wr mq = w5 at *;have lg := lt_of_objAt hg;clear cL;clear lt' hp ht3 ht4 ht5;go_wp2_with fail
    go_loopw [11] (fun v wr => ∃ t : Nat, v = .int .i64 (t : Int) /\ j2 <= t /\ t <= j /\ objAt wr g = some (.cells cur 27) /\ Kept g g w wr) (fun v _ => (intOf v).toNat - j2)
    case atStart => exact ⟨j, by go_num, by omega, by omega, hg, HK.out⟩
    case round =>
     clear hg HK lg;obtain ⟨t, rfl, ht1, ht2, hg, hK⟩ := hrel;have HK := hidS hK;have lg := lt_of_objAt hg;clear hK
     by_cases htt : j2 < t
     ·obtain ⟨xt, hxt⟩ : ∃ x, x = dk[t]! := ⟨_, rfl⟩
      have lt' := HC.out.2 t (by omega);rw [<- hxt] at lt';have hp : ¬ (xt < xa) := by
       have := HV.out.2.2.1 t (by omega) (by omega);rw [<- hxt] at this
       simpa [Go.Sort.ltInt] using this
      have ht3 : (t : Int) < (d.size : Int) := by omega
      have ht4 : (0 : Int) <= (t : Int) := by omega
      have ht5 : (i2 : Int) <= (t : Int) := by omega
      clear hxt;have hp2 := hp;have cL : ∀ W : World, Calls Tryz.prog 46 #[.int .u32 xt, .int .u32 xa] W (Rt W (.bool false)) := fun W => by have := lessC (xt) (xa) W; simpa only [hp, decide_false] using this
      clear hp2;go_wp2_with fail
      ((first | (with_reducible refine wp_region_on zqa zqa ?_) | refine wp_region_more zqa zqa ?_); (refine zAa ?_); refine wpQuiet_nil ?_; rintro _ ⟨mq, rfl⟩)
      replace hg : objAt (more wr mq) g = some (.cells cur 27) := keep_below (below_more wr mq) hg;replace HK := hidS (HK.out.trans (Kept.of (below_more wr mq)) (.inl rfl));clear lg;generalize more wr mq = w4 at *;have lg := lt_of_objAt hg;clear cL;go_wp2
      go_roundw
      case rel => first | exact ⟨t - 1, by go_num, by omega, by omega, hg, HK.out⟩ | ((repeat' apply Exists.intro) <;> first | exact ⟨⟨t - 1, by go_num, by omega, by omega, hg, HK.out⟩, rfl⟩ | exact undef)
      case measure => (simp [intOf] <;> omega)
     ·obtain rfl : j2 = t := by omega
      have ht5 : ¬ ((i2 : Int) <= (j2 : Int)) := by omega
      have cL := fun W : World => lessC 0 0 W;go_wp2_with fail;clear ht5;have ht5 : ¬ ((i2 : Int) <= (j2 : Int)) := by omega
      ((first | (with_reducible refine wp_region_on zqa zqa ?_) | refine wp_region_more zqa zqa ?_); (refine zAa ?_); refine wpQuiet_nil ?_; rintro _ ⟨mq, rfl⟩)
      replace hg : objAt (more wr mq) g = some (.cells cur 27) := keep_below (below_more wr mq) hg;replace HK := hidS (HK.out.trans (Kept.of (below_more wr mq)) (.inl rfl));clear lg;generalize more wr mq = w6 at *;have lg := lt_of_objAt hg;clear cL;clear ht5;have hgt : (j2 : Int) < (i2 : Int) := by omega
      obtain ⟨x0, hx0⟩ : ∃ x, x = dk[j2]! := ⟨_, rfl⟩
      have l0 := HC.out.2 j2 (by omega);rw [<- hx0] at l0;have l9 := zqd (a := j2) (by have := HC.out.1; omega) la;have HS5 := hidS (SrtAt.swap hg HC.out.1 HC.out.2 (i := j2) (j := a) (by omega) (by omega));rw [<- hx0, <- HXA.out] at HS5;have b0 : (j2 : Int) < (d.size : Int) := by omega
      have z0 : (0 : Int) <= (j2 : Int) := by omega
      clear hx0;go_wp2_with fail
      go_region
      go_wp2;go_ret2;rw [HD.out, if_pos (by omega)];exact ⟨rfl, HS5.out.drew, (HK.out.trans (Kept.row _ (.inl rfl)) (.inl rfl)).drew⟩
 ·go_wp2_with fail
  go_loopw [10] (fun v wr => ∃ t : Nat, v = .int .i64 (t : Int) /\ i <= t /\ t <= i2 /\ objAt wr g = some (.cells cur 27) /\ Kept g g w wr) (fun v _ => i2 - (intOf v).toNat)
  case atStart => exact ⟨i, by go_num, by omega, by omega, hg, HK.out⟩
  case round =>
   clear hg HK lg;obtain ⟨t, rfl, ht1, ht2, hg, hK⟩ := hrel;have HK := hidS hK;have lg := lt_of_objAt hg;clear hK
   by_cases htt : t < i2
   ·obtain ⟨xt, hxt⟩ : ∃ x, x = dk[t]! := ⟨_, rfl⟩
    have lt' := HC.out.2 t (by omega);rw [<- hxt] at lt';have hp : xt < xa := by
     have := HU.out.2.2.1 t (by omega) (by omega);rw [<- hxt] at this
     simpa [Go.Sort.ltInt] using this
    have ht3 : (t : Int) < (d.size : Int) := by omega
    have ht4 : (0 : Int) <= (t : Int) := by omega
    have ht5 : (t : Int) <= (j : Int) := by omega
    clear hxt;have hp2 := hp;have cL : ∀ W : World, Calls Tryz.prog 46 #[.int .u32 xt, .int .u32 xa] W (Rt W (.bool true)) := fun W => by have := lessC (xt) (xa) W; simpa only [hp, decide_true] using this
    clear hp2;go_wp2_with fail
    ((first | (with_reducible refine wp_region_on zqa zqa ?_) | refine wp_region_more zqa zqa ?_); (refine zAa ?_); refine wpQuiet_nil ?_; rintro _ ⟨mq, rfl⟩)
    replace hg : objAt (more wr mq) g = some (.cells cur 27) := keep_below (below_more wr mq) hg;replace HK := hidS (HK.out.trans (Kept.of (below_more wr mq)) (.inl rfl));clear lg;generalize more wr mq = w4 at *;have lg := lt_of_objAt hg;clear cL;go_wp2
    go_roundw
    case rel => first | exact ⟨t + 1, by go_num, by omega, by omega, hg, HK.out⟩ | ((repeat' apply Exists.intro) <;> first | exact ⟨⟨t + 1, by go_num, by omega, by omega, hg, HK.out⟩, rfl⟩ | exact undef)
    case measure => (simp [intOf] <;> omega)
   ·obtain rfl : i2 = t := by omega
    have ht5 : ¬ ((i2 : Int) <= (j : Int)) := by omega
    have cL := fun W : World => lessC 0 0 W;go_wp2_with fail;clear ht5;have ht5 : ¬ ((i2 : Int) <= (j : Int)) := by omega
    ((first | (with_reducible refine wp_region_on zqa zqa ?_) | refine wp_region_more zqa zqa ?_); (refine zAa ?_); refine wpQuiet_nil ?_; rintro _ ⟨mq, rfl⟩)
    replace hg : objAt (more wr mq) g = some (.cells cur 27) := keep_below (below_more wr mq) hg;replace HK := hidS (HK.out.trans (Kept.of (below_more wr mq)) (.inl rfl));clear lg;generalize more wr mq = w5 at *;have lg := lt_of_objAt hg;clear cL;clear ht5;go_wp2_with fail
    go_loopw [11] (fun v wr => ∃ t : Nat, v = .int .i64 (t : Int) /\ j2 <= t /\ t <= j /\ objAt wr g = some (.cells cur 27) /\ Kept g g w wr) (fun v _ => (intOf v).toNat - j2)
    case atStart => exact ⟨j, by go_num, by omega, by omega, hg, HK.out⟩
    case round =>
     clear hg HK lg;obtain ⟨t, rfl, ht1, ht2, hg, hK⟩ := hrel;have HK := hidS hK;have lg := lt_of_objAt hg;clear hK
     by_cases htt : j2 < t
     ·obtain ⟨xt, hxt⟩ : ∃ x, x = dk[t]! := ⟨_, rfl⟩
      have lt' := HC.out.2 t (by omega);rw [<- hxt] at lt';have hp : ¬ (xt < xa) := by
       have := HV.out.2.2.1 t (by omega) (by omega);rw [<- hxt] at this
       simpa [Go.Sort.ltInt] using this
      have ht3 : (t : Int) < (d.size : Int) := by omega
      have ht4 : (0 : Int) <= (t : Int) := by omega
      have ht5 : (i2 : Int) <= (t : Int) := by omega
      clear hxt;have hp2 := hp;have cL : ∀ W : World, Calls Tryz.prog 46 #[.int .u32 xt, .int .u32 xa] W (Rt W (.bool false)) := fun W => by have := lessC (xt) (xa) W; simpa only [hp, decide_false] using this
      clear hp2;go_wp2_with fail
      ((first | (with_reducible refine wp_region_on zqa zqa ?_) | refine wp_region_more zqa zqa ?_); (refine zAa ?_); refine wpQuiet_nil ?_; rintro _ ⟨mq, rfl⟩)
      replace hg : objAt (more wr mq) g = some (.cells cur 27) := keep_below (below_more wr mq) hg;replace HK := hidS (HK.out.trans (Kept.of (below_more wr mq)) (.inl rfl));clear lg;generalize more wr mq = w4 at *;have lg := lt_of_objAt hg;clear cL;go_wp2
      go_roundw
      case rel => first | exact ⟨t - 1, by go_num, by omega, by omega, hg, HK.out⟩ | ((repeat' apply Exists.intro) <;> first | exact ⟨⟨t - 1, by go_num, by omega, by omega, hg, HK.out⟩, rfl⟩ | exact undef)
      case measure => (simp [intOf] <;> omega)
     ·obtain rfl : j2 = t := by omega
      have ht5 : ¬ ((i2 : Int) <= (j2 : Int)) := by omega
      have cL := fun W : World => lessC 0 0 W;go_wp2_with fail;clear ht5;have ht5 : ¬ ((i2 : Int) <= (j2 : Int)) := by omega
      ((first | (with_reducible refine wp_region_on zqa zqa ?_) | refine wp_region_more zqa zqa ?_); (refine zAa ?_); refine wpQuiet_nil ?_; rintro _ ⟨mq, rfl⟩)
      replace hg : objAt (more wr mq) g = some (.cells cur 27) := keep_below (below_more wr mq) hg;replace HK := hidS (HK.out.trans (Kept.of (below_more wr mq)) (.inl rfl));clear lg;generalize more wr mq = w6 at *;have lg := lt_of_objAt hg;clear cL;clear ht5;have hgt : (j2 : Int) < (i2 : Int) := by omega
      obtain ⟨x0, hx0⟩ : ∃ x, x = dk[j2]! := ⟨_, rfl⟩
      have l0 := HC.out.2 j2 (by omega);rw [<- hx0] at l0;have l9 := zqd (a := j2) (by have := HC.out.1; omega) la;have HS5 := hidS (SrtAt.swap hg HC.out.1 HC.out.2 (i := j2) (j := a) (by omega) (by omega));rw [<- hx0, <- HXA.out] at HS5;have b0 : (j2 : Int) < (d.size : Int) := by omega
      have z0 : (0 : Int) <= (j2 : Int) := by omega
      clear hx0;go_wp2_with fail
      go_region
      go_wp2;go_ret2;rw [HD.out, if_pos (by omega)];exact ⟨rfl, HS5.out.drew, (HK.out.trans (Kept.row _ (.inl rfl)) (.inl rfl)).drew⟩
theorem zqbm (d : Array Int) (b i : Nat) (h : i < b) (hl : Go.Sort.ltInt d[i]! d[i - 1]! = false) : Go.Sort.scanSorted Go.Sort.ltInt d b i = Go.Sort.scanSorted Go.Sort.ltInt d b (i + 1) := by
 rw [Go.Sort.scanSorted]; simp [h, hl]
theorem zq6 (d : Array Int) (b i : Nat) (h : ¬ i < b \/ Go.Sort.ltInt d[i]! d[i - 1]! = true) : Go.Sort.scanSorted Go.Sort.ltInt d b i = i := by
 rw [Go.Sort.scanSorted]
 rcases h with h | h <;> simp [h]
theorem zqaz (d : Array Int) (b : Nat) : ∀ (n i : Nat), b - i = n -> i <= b -> i <= Go.Sort.scanSorted Go.Sort.ltInt d b i /\ Go.Sort.scanSorted Go.Sort.ltInt d b i <= b /\ (∀ t, i <= t -> t < Go.Sort.scanSorted Go.Sort.ltInt d b i -> Go.Sort.ltInt d[t]! d[t - 1]! = false) /\ (Go.Sort.scanSorted Go.Sort.ltInt d b i < b -> Go.Sort.ltInt d[Go.Sort.scanSorted Go.Sort.ltInt d b i]! d[Go.Sort.scanSorted Go.Sort.ltInt d b i - 1]! = true) := by
 intro n
 induction n with
 | zero =>
  intro i hn hi;rw [zq6 d b i (.inl (by omega))];exact ⟨Nat.le_refl _, hi, fun t h1 h2 => by omega, fun h => by omega⟩
 | succ n ih =>
  intro i hn hi
  by_cases hl : Go.Sort.ltInt d[i]! d[i - 1]! = true
  ·rw [zq6 d b i (.inr hl)]
   exact ⟨Nat.le_refl _, hi, fun t h1 h2 => by omega, fun _ => hl⟩
  ·have hf : Go.Sort.ltInt d[i]! d[i - 1]! = false := by simpa using hl
   rw [zqbm d b i (by omega) hf];obtain ⟨h1, h2, h3, h4⟩ := ih (i + 1) (by omega) (by omega);refine ⟨by omega, h2, fun t t1 t2 => ?_, h4⟩
   rcases Nat.lt_or_ge i t with h | h
   ·exact h3 t h t2
   ·obtain rfl : t = i := by omega
    exact hf
theorem zqas (j : Nat) (d : Array Int) (hj : 1 <= j) (hl : Go.Sort.ltInt d[j]! d[j - 1]! = true) : Go.Sort.shiftDown Go.Sort.ltInt j d = Go.Sort.shiftDown Go.Sort.ltInt (j - 1) (Go.Sort.swp d j (j - 1)) := by
 obtain ⟨k, rfl⟩ : ∃ k, j = k + 1 := ⟨j - 1, by omega⟩
 rw [Go.Sort.shiftDown]
 simp only [Nat.add_sub_cancel] at hl ⊢
 simp [hl]
theorem zq3 (j : Nat) (d : Array Int) (h : j = 0 \/ Go.Sort.ltInt d[j]! d[j - 1]! = false) : Go.Sort.shiftDown Go.Sort.ltInt j d = d := by
 cases j with
 | zero => rw [Go.Sort.shiftDown]
 | succ k =>
  rw [Go.Sort.shiftDown]
  simp only [Nat.add_sub_cancel] at h
  rcases h with h | h
  ·omega
  ·simp [h]
theorem zqag (b j : Nat) (d : Array Int) (hj : j < b) (hl : Go.Sort.ltInt d[j]! d[j - 1]! = true) : Go.Sort.shiftUp Go.Sort.ltInt b j d = Go.Sort.shiftUp Go.Sort.ltInt b (j + 1) (Go.Sort.swp d j (j - 1)) := by
 rw [Go.Sort.shiftUp]; simp [hj, hl]
theorem zqp (b j : Nat) (d : Array Int) (h : ¬ j < b \/ Go.Sort.ltInt d[j]! d[j - 1]! = false) : Go.Sort.shiftUp Go.Sort.ltInt b j d = d := by
 rw [Go.Sort.shiftUp]
 rcases h with h | h
 ·simp [h]
 ·by_cases hj : j < b <;> simp [hj, h]
theorem zqbh (a b s i k : Nat) (d : Array Int) (hs : s < 5) (hk : k = Go.Sort.scanSorted Go.Sort.ltInt d b i) : Go.Sort.partialIns Go.Sort.ltInt a b (5 - s) i d =
  if k = b then (d, true) else if b - a < 50 then (d, false) else Go.Sort.partialIns Go.Sort.ltInt a b (5 - (s + 1)) k (Go.Sort.fixUp Go.Sort.ltInt b k (Go.Sort.fixDown Go.Sort.ltInt a k (Go.Sort.swp d k (k - 1)))) := by
 rw [show 5 - s = (4 - s) + 1 by omega, Go.Sort.partialIns_succ, <- hk, show 5 - (s + 1) = 4 - s by omega]
theorem zqad (g c a b : Nat) (d : Array Int) (w : World) (hS : SrtAt w g d) (hab : a < b) (hb : b <= d.size) (hn : d.size <= 1000000) :
  Calls Tryz.prog 45 #[.slice (some ⟨g, 0, none⟩) d.size c, .int .i64 a, .int .i64 b] w fun r w' => r = .returned (.bool (Go.Sort.partialInsertionSort Go.Sort.ltInt d a b).2) /\ SrtAt w' g (Go.Sort.partialInsertionSort Go.Sort.ltInt d a b).1 /\ Kept g g w w' := by
 go_enter Tryz.func45, Tryz.ntmps45
 go_wp2_with fail
 go_loopw [7, 8] (fun vi vs wr => ∃ (i s : Nat) (dk : Array Int), vi = .int .i64 (i : Int) /\ vs = .int .i64 (s : Int) /\ s <= 5 /\ a < i /\ i <= b /\ dk.size = d.size /\ SrtAt wr g dk /\ Kept g g w wr /\ Hid (Go.Sort.partialIns Go.Sort.ltInt a b (5 - s) i dk = Go.Sort.partialIns Go.Sort.ltInt a b 5 (a + 1) d)) (fun _ vs _ => 5 - (intOf vs).toNat)
 case atStart => exact ⟨a + 1, 0, d, by go_num, by go_num, by omega, by omega, by omega, rfl, hS, Kept.refl _ _ _, rfl⟩
 case round =>
  clear hS;obtain ⟨i, s, dk, rfl, rfl, hs5, hai, hib, hsk, ⟨cur, hg, hcc⟩, hK, HO⟩ := hrel;have HC := hidS hcc;have HK := hidS hK;have lg := lt_of_objAt hg;clear hcc hK
  by_cases hs : s < 5
  ·have hs' : (s : Int) < 5 := by omega
   obtain ⟨k, hk⟩ : ∃ k, k = Go.Sort.scanSorted Go.Sort.ltInt dk b i := ⟨_, rfl⟩
   have HSc := hidS (zqaz dk b _ i rfl hib);rw [<- hk] at HSc;have k1 := HSc.out.1;have k2 := HSc.out.2.1;have HP := hidS (zqbh a b s i k dk hs hk);clear hk
   rcases Nat.lt_or_ge k b with hkb | hkb
   ·go_wp2_with fail
    go_loopw [7] (fun v wr => ∃ t : Nat, v = .int .i64 (t : Int) /\ i <= t /\ t <= k /\ objAt wr g = some (.cells cur 27) /\ Kept g g w wr) (fun v _ => k - (intOf v).toNat)
    case atStart => exact ⟨i, by go_num, by omega, by omega, hg, HK.out⟩
    case round =>
     clear hg HK lg;obtain ⟨t, rfl, ht1, ht2, hg, hK⟩ := hrel;have HK := hidS hK;have lg := lt_of_objAt hg;clear hK
     by_cases htt : t < k
     ·have ht5 : (t : Int) < (b : Int) := by omega
      obtain ⟨u, hu⟩ : ∃ u, u = t - 1 := ⟨_, rfl⟩
      have eu : (t : Int) - 1 = (u : Int) := by omega
      obtain ⟨x0, hx0⟩ : ∃ x, x = dk[t]! := ⟨_, rfl⟩
      obtain ⟨x1, hx1⟩ : ∃ x, x = dk[u]! := ⟨_, rfl⟩
      have l0 := HC.out.2 t (by omega);have l1 := HC.out.2 u (by omega);rw [<- hx0] at l0;rw [<- hx1] at l1;have b0 : (t : Int) < (d.size : Int) := by omega
      have b1 : (u : Int) < (d.size : Int) := by omega
      have z0 : (0 : Int) <= (t : Int) := by omega
      have z1 : (0 : Int) <= (u : Int) := by omega
      have nu : t ≠ u := by omega
      have nv : u ≠ t := by omega
      have HX : Hid (x0 = dk[t]! /\ x1 = dk[u]! /\ u = t - 1) := ⟨hx0, hx1, hu⟩
      clear hx0 hx1 hu;have hp : ¬ (x0 < x1) := by
       have := HSc.out.2.2.1 t (by omega) (by omega);rw [<- HX.out.2.2, <- HX.out.1, <- HX.out.2.1] at this
       simpa [Go.Sort.ltInt] using this
      have hp2 := hp;have cL : ∀ W : World, Calls Tryz.prog 46 #[.int .u32 x0, .int .u32 x1] W (Rt W (.bool false)) := fun W => by have := lessC (x0) (x1) W; simpa only [hp, decide_false] using this
      clear hp2 hp;go_wp2_with fail
      ((first | (with_reducible refine wp_region_on zqa zqa ?_) | refine wp_region_more zqa zqa ?_); (refine zAa ?_); refine wpQuiet_nil ?_; rintro _ ⟨mq, rfl⟩)
      replace hg : objAt (more wr mq) g = some (.cells cur 27) := keep_below (below_more wr mq) hg;replace HK := hidS (HK.out.trans (Kept.of (below_more wr mq)) (.inl rfl));clear lg;generalize more wr mq = w4 at *;have lg := lt_of_objAt hg;clear cL;go_wp2
      go_roundw
      case rel => first | exact ⟨t + 1, by go_num, by omega, by omega, hg, HK.out⟩ | ((repeat' apply Exists.intro) <;> first | exact ⟨⟨t + 1, by go_num, by omega, by omega, hg, HK.out⟩, rfl⟩ | exact undef)
      case measure => (simp [intOf] <;> omega)
     ·obtain rfl : k = t := by omega
      have ht5 : (k : Int) < (b : Int) := by omega
      obtain ⟨u, hu⟩ : ∃ u, u = k - 1 := ⟨_, rfl⟩
      have eu : (k : Int) - 1 = (u : Int) := by omega
      obtain ⟨x0, hx0⟩ : ∃ x, x = dk[k]! := ⟨_, rfl⟩
      obtain ⟨x1, hx1⟩ : ∃ x, x = dk[u]! := ⟨_, rfl⟩
      have l0 := HC.out.2 k (by omega);have l1 := HC.out.2 u (by omega);rw [<- hx0] at l0;rw [<- hx1] at l1;have b0 : (k : Int) < (d.size : Int) := by omega
      have b1 : (u : Int) < (d.size : Int) := by omega
      have z0 : (0 : Int) <= (k : Int) := by omega
      have z1 : (0 : Int) <= (u : Int) := by omega
      have nu : k ≠ u := by omega
      have nv : u ≠ k := by omega
      have HX : Hid (x0 = dk[k]! /\ x1 = dk[u]! /\ u = k - 1) := ⟨hx0, hx1, hu⟩
      clear hx0 hx1 hu;have hp : x0 < x1 := by
       have := HSc.out.2.2.2 hkb;rw [<- HX.out.2.2, <- HX.out.1, <- HX.out.2.1] at this
       simpa [Go.Sort.ltInt] using this
      have hp2 := hp;have cL : ∀ W : World, Calls Tryz.prog 46 #[.int .u32 x0, .int .u32 x1] W (Rt W (.bool true)) := fun W => by have := lessC (x0) (x1) W; simpa only [hp, decide_true] using this
      clear hp2 hp;go_wp2_with fail
      ((first | (with_reducible refine wp_region_on zqa zqa ?_) | refine wp_region_more zqa zqa ?_); (refine zAa ?_); refine wpQuiet_nil ?_; rintro _ ⟨mq, rfl⟩)
      replace hg : objAt (more wr mq) g = some (.cells cur 27) := keep_below (below_more wr mq) hg;replace HK := hidS (HK.out.trans (Kept.of (below_more wr mq)) (.inl rfl));clear lg;generalize more wr mq = w5 at *;have lg := lt_of_objAt hg;clear cL
      by_cases h50 : b - a < 50
      ·have h50' : (b : Int) - (a : Int) < 50 := by omega
       have hkb' : ¬ ((k : Int) = (b : Int)) := by omega
       go_wp2;go_ret;have hv : Go.Sort.partialInsertionSort Go.Sort.ltInt d a b = (dk, false) := by
        unfold Go.Sort.partialInsertionSort;rw [<- HO.out];rw [HP.out, if_neg (by omega), if_pos h50]
       rw [hv];exact ⟨rfl, ⟨cur, hg, HC.out⟩, HK.out⟩
      ·have h50' : ¬ ((b : Int) - (a : Int) < 50) := by omega
       have HP2 : Hid (Go.Sort.partialIns Go.Sort.ltInt a b (5 - s) i dk = Go.Sort.partialIns Go.Sort.ltInt a b (5 - (s + 1)) k (Go.Sort.fixUp Go.Sort.ltInt b k (Go.Sort.fixDown Go.Sort.ltInt a k (Go.Sort.swp dk k u)))) := by
        have h := HP.out;rw [if_neg (by omega), if_neg h50, <- HX.out.2.2] at h;exact h
       have l9 := zqd (a := k) (by have := HC.out.1; omega) l1;have HS5 := hidS (SrtAt.swap hg HC.out.1 HC.out.2 (i := k) (j := u) (by omega) (by omega));rw [<- HX.out.1, <- HX.out.2.1] at HS5;have hkb' : ¬ ((k : Int) = (b : Int)) := by omega
       go_wp2_with fail
       go_region
       obtain ⟨d1, hd1⟩ : ∃ D, D = Go.Sort.swp dk k u := ⟨_, rfl⟩
       have hsz : d1.size = d.size := by rw [hd1, zqe]; exact hsk
       rw [<- hd1] at HS5;rw [<- hd1] at HP2;have H1 := HP2;have HS2 := hidS HS5.out.drew;have HK2 := hidS (HK.out.trans (Kept.row (g := g) (k := g) (c := (cur.setIfInBounds k (.int .u32 x1)).setIfInBounds u (.int .u32 x0)) (.inl rfl)) (.inl rfl)).drew;generalize (w5.setRow g ((cur.setIfInBounds k (.int .u32 x1)).setIfInBounds u (.int .u32 x0))).drew = w7 at *;clear hd1 HP2 HP HS5 HSc HC HK hg lg l0 l1 l9 h50' hsk
       by_cases hka : 2 <= k - a
       ·have hka' : (2 : Int) <= (k : Int) - (a : Int) := by omega
        have HF : Hid (Go.Sort.shiftDown Go.Sort.ltInt u d1 = Go.Sort.fixDown Go.Sort.ltInt a k d1) := by
         show Go.Sort.shiftDown Go.Sort.ltInt u d1 = Go.Sort.fixDown Go.Sort.ltInt a k d1
         unfold Go.Sort.fixDown;rw [if_pos (by omega), <- HX.out.2.2]
        have hu1 : u + 1 = k := by have := HX.out.2.2; omega
        have HU1 := hidS hu1;clear hu1 HX b0 b1 z0 z1 nu nv;go_wp2_with fail
        go_loopw [9] (fun v wr => ∃ (j : Nat) (dj : Array Int), v = .int .i64 (j : Int) /\ j <= u /\ dj.size = d.size /\ SrtAt wr g dj /\ Kept g g w wr /\ Hid (Go.Sort.shiftDown Go.Sort.ltInt j dj = Go.Sort.fixDown Go.Sort.ltInt a k d1)) (fun v _ => (intOf v).toNat)
        case atStart => exact ⟨u, d1, by go_num, Nat.le_refl _, hsz, HS2.out, HK2.out, HF⟩
        case round =>
         clear HS2 HK2 HF hsz eu;obtain ⟨j, dj, rfl, hju, hsz, ⟨cur, hg, hcc⟩, hK, HJ⟩ := hrel;have HC := hidS hcc;have HK := hidS hK;have lg := lt_of_objAt hg;have hju2 : j < k := by have := HU1.out; omega
         clear hcc hK
         by_cases hj : 1 <= j
         ·have hj' : (1 : Int) <= (j : Int) := by omega
          obtain ⟨v, hu⟩ : ∃ u, u = j - 1 := ⟨_, rfl⟩
          have eu : (j : Int) - 1 = (v : Int) := by omega
          obtain ⟨x0, hx0⟩ : ∃ x, x = dj[j]! := ⟨_, rfl⟩
          obtain ⟨x1, hx1⟩ : ∃ x, x = dj[v]! := ⟨_, rfl⟩
          have l0 := HC.out.2 j (by omega);have l1 := HC.out.2 v (by omega);rw [<- hx0] at l0;rw [<- hx1] at l1;have b0 : (j : Int) < (d.size : Int) := by omega
          have b1 : (v : Int) < (d.size : Int) := by omega
          have z0 : (0 : Int) <= (j : Int) := by omega
          have z1 : (0 : Int) <= (v : Int) := by omega
          have nu : j ≠ v := by omega
          have nv : v ≠ j := by omega
          have HX : Hid (x0 = dj[j]! /\ x1 = dj[v]! /\ v = j - 1) := ⟨hx0, hx1, hu⟩
          clear hx0 hx1 hu
          by_cases hl : x0 < x1
          ·have hl2 := hl
           have cL : ∀ W : World, Calls Tryz.prog 46 #[.int .u32 x0, .int .u32 x1] W (Rt W (.bool true)) := fun W => by have := lessC (x0) (x1) W; simpa only [hl, decide_true] using this
           have HL := hidS hl;clear hl2 hl;go_wp2_with fail
           ((first | (with_reducible refine wp_region_on zqa zqa ?_) | refine wp_region_more zqa zqa ?_); (refine zAa ?_); refine wpQuiet_nil ?_; rintro _ ⟨mq, rfl⟩)
           replace hg : objAt (more wr mq) g = some (.cells cur 27) := keep_below (below_more wr mq) hg;replace HK := hidS (HK.out.trans (Kept.of (below_more wr mq)) (.inl rfl));clear lg;generalize more wr mq = wa at *;have lg := lt_of_objAt hg;clear cL;have l9 := zqd (a := j) (by have := HC.out.1; omega) l1;have HS5 := hidS (SrtAt.swap hg HC.out.1 HC.out.2 (i := j) (j := v) (by omega) (by omega));rw [<- HX.out.1, <- HX.out.2.1] at HS5;go_wp2_with fail
           go_region
           go_wp2;have hl := HL.out
           go_roundw
           case rel => first | exact ⟨v, Go.Sort.swp dj j v, by go_num, by omega, by rw [zqe]; exact hsz, HS5.out.drew, (HK.out.trans (Kept.row _ (.inl rfl)) (.inl rfl)).drew, (by rw [<- HJ.out, zqas j dj hj (by rw [<- HX.out.2.2, <- HX.out.1, <- HX.out.2.1]; simpa [Go.Sort.ltInt] using hl), <- HX.out.2.2]; rfl)⟩ | ((repeat' apply Exists.intro) <;> first | exact ⟨⟨v, Go.Sort.swp dj j v, by go_num, by omega, by rw [zqe]; exact hsz, HS5.out.drew, (HK.out.trans (Kept.row _ (.inl rfl)) (.inl rfl)).drew, (by rw [<- HJ.out, zqas j dj hj (by rw [<- HX.out.2.2, <- HX.out.1, <- HX.out.2.1]; simpa [Go.Sort.ltInt] using hl), <- HX.out.2.2]; rfl)⟩, rfl⟩ | exact undef)
           case measure => (simp [intOf] <;> omega)
          ·have hl2 := hl
           have cL : ∀ W : World, Calls Tryz.prog 46 #[.int .u32 x0, .int .u32 x1] W (Rt W (.bool false)) := fun W => by have := lessC (x0) (x1) W; simpa only [hl, decide_false] using this
           have HL := hidS hl;clear hl2 hl;go_wp2_with fail
           ((first | (with_reducible refine wp_region_on zqa zqa ?_) | refine wp_region_more zqa zqa ?_); (refine zAa ?_); refine wpQuiet_nil ?_; rintro _ ⟨mq, rfl⟩)
           replace hg : objAt (more wr mq) g = some (.cells cur 27) := keep_below (below_more wr mq) hg;replace HK := hidS (HK.out.trans (Kept.of (below_more wr mq)) (.inl rfl));clear lg;generalize more wr mq = w6 at *;have lg := lt_of_objAt hg;clear cL;have hl := HL.out;have HD : Hid (Go.Sort.fixDown Go.Sort.ltInt a k d1 = dj) := by
            show Go.Sort.fixDown Go.Sort.ltInt a k d1 = dj
            rw [<- HJ.out]; exact zq3 j dj (.inr (by rw [<- HX.out.2.2, <- HX.out.1, <- HX.out.2.1]; simpa [Go.Sort.ltInt] using hl))
           clear hl HL HX l0 l1 eu b0 b1 z0 z1 nu nv
           by_cases hbk : 2 <= b - k
           ·have hbk' : (2 : Int) <= (b : Int) - (k : Int) := by omega
            have HF : Hid (Go.Sort.shiftUp Go.Sort.ltInt b (k + 1) dj = Go.Sort.fixUp Go.Sort.ltInt b k (Go.Sort.fixDown Go.Sort.ltInt a k d1)) := by
             show Go.Sort.shiftUp Go.Sort.ltInt b (k + 1) dj = Go.Sort.fixUp Go.Sort.ltInt b k (Go.Sort.fixDown Go.Sort.ltInt a k d1)
             rw [HD.out];unfold Go.Sort.fixUp;rw [if_pos (by omega)]
            have HSd : Hid (SrtAt w6 g dj) := ⟨cur, hg, HC.out⟩
            have HKd := HK;clear HC hg lg HK HD;go_wp2_with fail
            go_loopw [10] (fun v wr => ∃ (j : Nat) (du : Array Int), v = .int .i64 (j : Int) /\ k + 1 <= j /\ j <= b /\ du.size = d.size /\ SrtAt wr g du /\ Kept g g w wr /\ Hid (Go.Sort.shiftUp Go.Sort.ltInt b j du = Go.Sort.fixUp Go.Sort.ltInt b k (Go.Sort.fixDown Go.Sort.ltInt a k d1))) (fun v _ => b - (intOf v).toNat)
            case atStart => exact ⟨k + 1, dj, by go_num, by omega, by omega, hsz, HSd.out, HKd.out, HF⟩
            case round =>
             clear HSd HKd HF hsz;obtain ⟨j, du, rfl, hkj, hjb, hsz, ⟨cur, hg, hcc⟩, hK, HU⟩ := hrel;have HC := hidS hcc;have HK := hidS hK;have lg := lt_of_objAt hg;clear hcc hK
             by_cases hj : j < b
             ·have hj' : (j : Int) < (b : Int) := by omega
              obtain ⟨u, hu⟩ : ∃ u, u = j - 1 := ⟨_, rfl⟩
              have eu : (j : Int) - 1 = (u : Int) := by omega
              obtain ⟨x0, hx0⟩ : ∃ x, x = du[j]! := ⟨_, rfl⟩
              obtain ⟨x1, hx1⟩ : ∃ x, x = du[u]! := ⟨_, rfl⟩
              have l0 := HC.out.2 j (by omega);have l1 := HC.out.2 u (by omega);rw [<- hx0] at l0;rw [<- hx1] at l1;have b0 : (j : Int) < (d.size : Int) := by omega
              have b1 : (u : Int) < (d.size : Int) := by omega
              have z0 : (0 : Int) <= (j : Int) := by omega
              have z1 : (0 : Int) <= (u : Int) := by omega
              have nu : j ≠ u := by omega
              have nv : u ≠ j := by omega
              have HX : Hid (x0 = du[j]! /\ x1 = du[u]! /\ u = j - 1) := ⟨hx0, hx1, hu⟩
              clear hx0 hx1 hu
              by_cases hl : x0 < x1
              ·have hl2 := hl
               have cL : ∀ W : World, Calls Tryz.prog 46 #[.int .u32 x0, .int .u32 x1] W (Rt W (.bool true)) := fun W => by have := lessC (x0) (x1) W; simpa only [hl, decide_true] using this
               have HL := hidS hl;clear hl2 hl;go_wp2_with fail
               ((first | (with_reducible refine wp_region_on zqa zqa ?_) | refine wp_region_more zqa zqa ?_); (refine zAa ?_); refine wpQuiet_nil ?_; rintro _ ⟨mq, rfl⟩)
               replace hg : objAt (more wr mq) g = some (.cells cur 27) := keep_below (below_more wr mq) hg;replace HK := hidS (HK.out.trans (Kept.of (below_more wr mq)) (.inl rfl));clear lg;generalize more wr mq = wa at *;have lg := lt_of_objAt hg;clear cL;have l9 := zqd (a := j) (by have := HC.out.1; omega) l1;have HS5 := hidS (SrtAt.swap hg HC.out.1 HC.out.2 (i := j) (j := u) (by omega) (by omega));rw [<- HX.out.1, <- HX.out.2.1] at HS5;go_wp2_with fail
               go_region
               go_wp2;have hl := HL.out
               go_roundw
               case rel => first | exact ⟨j + 1, Go.Sort.swp du j u, by go_num, by omega, by omega, by rw [zqe]; exact hsz, HS5.out.drew, (HK.out.trans (Kept.row _ (.inl rfl)) (.inl rfl)).drew, (by rw [<- HU.out, zqag b j du hj (by rw [<- HX.out.2.2, <- HX.out.1, <- HX.out.2.1]; simpa [Go.Sort.ltInt] using hl), <- HX.out.2.2]; rfl)⟩ | ((repeat' apply Exists.intro) <;> first | exact ⟨⟨j + 1, Go.Sort.swp du j u, by go_num, by omega, by omega, by rw [zqe]; exact hsz, HS5.out.drew, (HK.out.trans (Kept.row _ (.inl rfl)) (.inl rfl)).drew, (by rw [<- HU.out, zqag b j du hj (by rw [<- HX.out.2.2, <- HX.out.1, <- HX.out.2.1]; simpa [Go.Sort.ltInt] using hl), <- HX.out.2.2]; rfl)⟩, rfl⟩ | exact undef)
               case measure => (simp [intOf] <;> omega)
              ·have hl2 := hl
               have cL : ∀ W : World, Calls Tryz.prog 46 #[.int .u32 x0, .int .u32 x1] W (Rt W (.bool false)) := fun W => by have := lessC (x0) (x1) W; simpa only [hl, decide_false] using this
               have HL := hidS hl;clear hl2 hl;go_wp2_with fail
               ((first | (with_reducible refine wp_region_on zqa zqa ?_) | refine wp_region_more zqa zqa ?_); (refine zAa ?_); refine wpQuiet_nil ?_; rintro _ ⟨mq, rfl⟩)
               replace hg : objAt (more wr mq) g = some (.cells cur 27) := keep_below (below_more wr mq) hg;replace HK := hidS (HK.out.trans (Kept.of (below_more wr mq)) (.inl rfl));clear lg;generalize more wr mq = wb at *;have lg := lt_of_objAt hg;clear cL;have hl := HL.out;have HE : Hid (Go.Sort.fixUp Go.Sort.ltInt b k (Go.Sort.fixDown Go.Sort.ltInt a k d1) = du) := by
                show Go.Sort.fixUp Go.Sort.ltInt b k (Go.Sort.fixDown Go.Sort.ltInt a k d1) = du
                rw [<- HU.out]; exact zqp b j du (.inr (by rw [<- HX.out.2.2, <- HX.out.1, <- HX.out.2.1]; simpa [Go.Sort.ltInt] using hl))
               go_wp2
               go_roundw
               case rel => first | exact ⟨k, s + 1, du, by go_num, by go_num, by omega, by omega, by omega, hsz, ⟨cur, hg, HC.out⟩, HK.out, (by rw [<- HO.out, H1.out, HE.out]; rfl)⟩ | ((repeat' apply Exists.intro) <;> first | exact ⟨⟨k, s + 1, du, by go_num, by go_num, by omega, by omega, by omega, hsz, ⟨cur, hg, HC.out⟩, HK.out, (by rw [<- HO.out, H1.out, HE.out]; rfl)⟩, rfl⟩ | exact undef)
               case measure => (simp [intOf] <;> omega)
             ·have hj' : ¬ ((j : Int) < (b : Int)) := by omega
              have HE : Hid (Go.Sort.fixUp Go.Sort.ltInt b k (Go.Sort.fixDown Go.Sort.ltInt a k d1) = du) := by
               show Go.Sort.fixUp Go.Sort.ltInt b k (Go.Sort.fixDown Go.Sort.ltInt a k d1) = du
               rw [<- HU.out]; exact zqp b j du (.inl hj)
              go_wp2
              go_roundw
              case rel => first | exact ⟨k, s + 1, du, by go_num, by go_num, by omega, by omega, by omega, hsz, ⟨cur, hg, HC.out⟩, HK.out, (by rw [<- HO.out, H1.out, HE.out]; rfl)⟩ | ((repeat' apply Exists.intro) <;> first | exact ⟨⟨k, s + 1, du, by go_num, by go_num, by omega, by omega, by omega, hsz, ⟨cur, hg, HC.out⟩, HK.out, (by rw [<- HO.out, H1.out, HE.out]; rfl)⟩, rfl⟩ | exact undef)
              case measure => (simp [intOf] <;> omega)
           ·have hbk' : ¬ ((2 : Int) <= (b : Int) - (k : Int)) := by omega
            have HE : Hid (Go.Sort.fixUp Go.Sort.ltInt b k (Go.Sort.fixDown Go.Sort.ltInt a k d1) = dj) := by
             show Go.Sort.fixUp Go.Sort.ltInt b k (Go.Sort.fixDown Go.Sort.ltInt a k d1) = dj
             rw [HD.out]; unfold Go.Sort.fixUp; exact if_neg hbk
            go_wp2
            go_roundw
            case rel => first | exact ⟨k, s + 1, dj, by go_num, by go_num, by omega, by omega, by omega, hsz, ⟨cur, hg, HC.out⟩, HK.out, (by rw [<- HO.out, H1.out, HE.out]; rfl)⟩ | ((repeat' apply Exists.intro) <;> first | exact ⟨⟨k, s + 1, dj, by go_num, by go_num, by omega, by omega, by omega, hsz, ⟨cur, hg, HC.out⟩, HK.out, (by rw [<- HO.out, H1.out, HE.out]; rfl)⟩, rfl⟩ | exact undef)
            case measure => (simp [intOf] <;> omega)
         ·have hj' : ¬ ((1 : Int) <= (j : Int)) := by omega
          have HD : Hid (Go.Sort.fixDown Go.Sort.ltInt a k d1 = dj) := by
           show Go.Sort.fixDown Go.Sort.ltInt a k d1 = dj
           rw [<- HJ.out]; exact zq3 j dj (.inl (by omega))
          by_cases hbk : 2 <= b - k
          ·have hbk' : (2 : Int) <= (b : Int) - (k : Int) := by omega
           have HF : Hid (Go.Sort.shiftUp Go.Sort.ltInt b (k + 1) dj = Go.Sort.fixUp Go.Sort.ltInt b k (Go.Sort.fixDown Go.Sort.ltInt a k d1)) := by
            show Go.Sort.shiftUp Go.Sort.ltInt b (k + 1) dj = Go.Sort.fixUp Go.Sort.ltInt b k (Go.Sort.fixDown Go.Sort.ltInt a k d1)
            rw [HD.out];unfold Go.Sort.fixUp;rw [if_pos (by omega)]
           have HSd : Hid (SrtAt wr g dj) := ⟨cur, hg, HC.out⟩
           have HKd := HK;clear HC hg lg HK HD;go_wp2_with fail
           go_loopw [10] (fun v wr => ∃ (j : Nat) (du : Array Int), v = .int .i64 (j : Int) /\ k + 1 <= j /\ j <= b /\ du.size = d.size /\ SrtAt wr g du /\ Kept g g w wr /\ Hid (Go.Sort.shiftUp Go.Sort.ltInt b j du = Go.Sort.fixUp Go.Sort.ltInt b k (Go.Sort.fixDown Go.Sort.ltInt a k d1))) (fun v _ => b - (intOf v).toNat)
           case atStart => exact ⟨k + 1, dj, by go_num, by omega, by omega, hsz, HSd.out, HKd.out, HF⟩
           case round =>
            clear HSd HKd HF hsz;obtain ⟨j, du, rfl, hkj, hjb, hsz, ⟨cur, hg, hcc⟩, hK, HU⟩ := hrel;have HC := hidS hcc;have HK := hidS hK;have lg := lt_of_objAt hg;clear hcc hK
            by_cases hj : j < b
            ·have hj' : (j : Int) < (b : Int) := by omega
             obtain ⟨u, hu⟩ : ∃ u, u = j - 1 := ⟨_, rfl⟩
             have eu : (j : Int) - 1 = (u : Int) := by omega
             obtain ⟨x0, hx0⟩ : ∃ x, x = du[j]! := ⟨_, rfl⟩
             obtain ⟨x1, hx1⟩ : ∃ x, x = du[u]! := ⟨_, rfl⟩
             have l0 := HC.out.2 j (by omega);have l1 := HC.out.2 u (by omega);rw [<- hx0] at l0;rw [<- hx1] at l1;have b0 : (j : Int) < (d.size : Int) := by omega
             have b1 : (u : Int) < (d.size : Int) := by omega
             have z0 : (0 : Int) <= (j : Int) := by omega
             have z1 : (0 : Int) <= (u : Int) := by omega
             have nu : j ≠ u := by omega
             have nv : u ≠ j := by omega
             have HX : Hid (x0 = du[j]! /\ x1 = du[u]! /\ u = j - 1) := ⟨hx0, hx1, hu⟩
             clear hx0 hx1 hu
             by_cases hl : x0 < x1
             ·have hl2 := hl
              have cL : ∀ W : World, Calls Tryz.prog 46 #[.int .u32 x0, .int .u32 x1] W (Rt W (.bool true)) := fun W => by have := lessC (x0) (x1) W; simpa only [hl, decide_true] using this
              have HL := hidS hl;clear hl2 hl;go_wp2_with fail
              ((first | (with_reducible refine wp_region_on zqa zqa ?_) | refine wp_region_more zqa zqa ?_); (refine zAa ?_); refine wpQuiet_nil ?_; rintro _ ⟨mq, rfl⟩)
              replace hg : objAt (more wr mq) g = some (.cells cur 27) := keep_below (below_more wr mq) hg;replace HK := hidS (HK.out.trans (Kept.of (below_more wr mq)) (.inl rfl));clear lg;generalize more wr mq = wa at *;have lg := lt_of_objAt hg;clear cL;have l9 := zqd (a := j) (by have := HC.out.1; omega) l1;have HS5 := hidS (SrtAt.swap hg HC.out.1 HC.out.2 (i := j) (j := u) (by omega) (by omega));rw [<- HX.out.1, <- HX.out.2.1] at HS5;go_wp2_with fail
              go_region
              go_wp2;have hl := HL.out
              go_roundw
              case rel => first | exact ⟨j + 1, Go.Sort.swp du j u, by go_num, by omega, by omega, by rw [zqe]; exact hsz, HS5.out.drew, (HK.out.trans (Kept.row _ (.inl rfl)) (.inl rfl)).drew, (by rw [<- HU.out, zqag b j du hj (by rw [<- HX.out.2.2, <- HX.out.1, <- HX.out.2.1]; simpa [Go.Sort.ltInt] using hl), <- HX.out.2.2]; rfl)⟩ | ((repeat' apply Exists.intro) <;> first | exact ⟨⟨j + 1, Go.Sort.swp du j u, by go_num, by omega, by omega, by rw [zqe]; exact hsz, HS5.out.drew, (HK.out.trans (Kept.row _ (.inl rfl)) (.inl rfl)).drew, (by rw [<- HU.out, zqag b j du hj (by rw [<- HX.out.2.2, <- HX.out.1, <- HX.out.2.1]; simpa [Go.Sort.ltInt] using hl), <- HX.out.2.2]; rfl)⟩, rfl⟩ | exact undef)
              case measure => (simp [intOf] <;> omega)
             ·have hl2 := hl
              have cL : ∀ W : World, Calls Tryz.prog 46 #[.int .u32 x0, .int .u32 x1] W (Rt W (.bool false)) := fun W => by have := lessC (x0) (x1) W; simpa only [hl, decide_false] using this
              have HL := hidS hl;clear hl2 hl;go_wp2_with fail
              ((first | (with_reducible refine wp_region_on zqa zqa ?_) | refine wp_region_more zqa zqa ?_); (refine zAa ?_); refine wpQuiet_nil ?_; rintro _ ⟨mq, rfl⟩)
              replace hg : objAt (more wr mq) g = some (.cells cur 27) := keep_below (below_more wr mq) hg;replace HK := hidS (HK.out.trans (Kept.of (below_more wr mq)) (.inl rfl));clear lg;generalize more wr mq = wb at *;have lg := lt_of_objAt hg;clear cL;have hl := HL.out;have HE : Hid (Go.Sort.fixUp Go.Sort.ltInt b k (Go.Sort.fixDown Go.Sort.ltInt a k d1) = du) := by
               show Go.Sort.fixUp Go.Sort.ltInt b k (Go.Sort.fixDown Go.Sort.ltInt a k d1) = du
               rw [<- HU.out]; exact zqp b j du (.inr (by rw [<- HX.out.2.2, <- HX.out.1, <- HX.out.2.1]; simpa [Go.Sort.ltInt] using hl))
              go_wp2
              go_roundw
              case rel => first | exact ⟨k, s + 1, du, by go_num, by go_num, by omega, by omega, by omega, hsz, ⟨cur, hg, HC.out⟩, HK.out, (by rw [<- HO.out, H1.out, HE.out]; rfl)⟩ | ((repeat' apply Exists.intro) <;> first | exact ⟨⟨k, s + 1, du, by go_num, by go_num, by omega, by omega, by omega, hsz, ⟨cur, hg, HC.out⟩, HK.out, (by rw [<- HO.out, H1.out, HE.out]; rfl)⟩, rfl⟩ | exact undef)
              case measure => (simp [intOf] <;> omega)
            ·have hj' : ¬ ((j : Int) < (b : Int)) := by omega
             have HE : Hid (Go.Sort.fixUp Go.Sort.ltInt b k (Go.Sort.fixDown Go.Sort.ltInt a k d1) = du) := by
              show Go.Sort.fixUp Go.Sort.ltInt b k (Go.Sort.fixDown Go.Sort.ltInt a k d1) = du
              rw [<- HU.out]; exact zqp b j du (.inl hj)
             go_wp2
             go_roundw
             case rel => first | exact ⟨k, s + 1, du, by go_num, by go_num, by omega, by omega, by omega, hsz, ⟨cur, hg, HC.out⟩, HK.out, (by rw [<- HO.out, H1.out, HE.out]; rfl)⟩ | ((repeat' apply Exists.intro) <;> first | exact ⟨⟨k, s + 1, du, by go_num, by go_num, by omega, by omega, by omega, hsz, ⟨cur, hg, HC.out⟩, HK.out, (by rw [<- HO.out, H1.out, HE.out]; rfl)⟩, rfl⟩ | exact undef)
             case measure => (simp [intOf] <;> omega)
          ·have hbk' : ¬ ((2 : Int) <= (b : Int) - (k : Int)) := by omega
           have HE : Hid (Go.Sort.fixUp Go.Sort.ltInt b k (Go.Sort.fixDown Go.Sort.ltInt a k d1) = dj) := by
            show Go.Sort.fixUp Go.Sort.ltInt b k (Go.Sort.fixDown Go.Sort.ltInt a k d1) = dj
            rw [HD.out]; unfold Go.Sort.fixUp; exact if_neg hbk
           go_wp2
           go_roundw
           case rel => first | exact ⟨k, s + 1, dj, by go_num, by go_num, by omega, by omega, by omega, hsz, ⟨cur, hg, HC.out⟩, HK.out, (by rw [<- HO.out, H1.out, HE.out]; rfl)⟩ | ((repeat' apply Exists.intro) <;> first | exact ⟨⟨k, s + 1, dj, by go_num, by go_num, by omega, by omega, by omega, hsz, ⟨cur, hg, HC.out⟩, HK.out, (by rw [<- HO.out, H1.out, HE.out]; rfl)⟩, rfl⟩ | exact undef)
           case measure => (simp [intOf] <;> omega)
       ·have hka' : ¬ ((2 : Int) <= (k : Int) - (a : Int)) := by omega
        have HD : Hid (Go.Sort.fixDown Go.Sort.ltInt a k d1 = d1) := by
         show Go.Sort.fixDown Go.Sort.ltInt a k d1 = d1
         unfold Go.Sort.fixDown;exact if_neg hka
        obtain ⟨cur, hg, hcc⟩ := HS2.out;have HC := hidS hcc;have HK := HK2;have lg := lt_of_objAt hg;clear hcc HS2 HK2 HX eu b0 b1 z0 z1 nu nv
        by_cases hbk : 2 <= b - k
        ·have hbk' : (2 : Int) <= (b : Int) - (k : Int) := by omega
         have HF : Hid (Go.Sort.shiftUp Go.Sort.ltInt b (k + 1) d1 = Go.Sort.fixUp Go.Sort.ltInt b k (Go.Sort.fixDown Go.Sort.ltInt a k d1)) := by
          show Go.Sort.shiftUp Go.Sort.ltInt b (k + 1) d1 = Go.Sort.fixUp Go.Sort.ltInt b k (Go.Sort.fixDown Go.Sort.ltInt a k d1)
          rw [HD.out];unfold Go.Sort.fixUp;rw [if_pos (by omega)]
         have HSd : Hid (SrtAt w7 g d1) := ⟨cur, hg, HC.out⟩
         have HKd := HK;clear HC hg lg HK HD;go_wp2_with fail
         go_loopw [10] (fun v wr => ∃ (j : Nat) (du : Array Int), v = .int .i64 (j : Int) /\ k + 1 <= j /\ j <= b /\ du.size = d.size /\ SrtAt wr g du /\ Kept g g w wr /\ Hid (Go.Sort.shiftUp Go.Sort.ltInt b j du = Go.Sort.fixUp Go.Sort.ltInt b k (Go.Sort.fixDown Go.Sort.ltInt a k d1))) (fun v _ => b - (intOf v).toNat)
         case atStart => exact ⟨k + 1, d1, by go_num, by omega, by omega, hsz, HSd.out, HKd.out, HF⟩
         case round =>
          clear HSd HKd HF hsz;obtain ⟨j, du, rfl, hkj, hjb, hsz, ⟨cur, hg, hcc⟩, hK, HU⟩ := hrel;have HC := hidS hcc;have HK := hidS hK;have lg := lt_of_objAt hg;clear hcc hK
          by_cases hj : j < b
          ·have hj' : (j : Int) < (b : Int) := by omega
           obtain ⟨u, hu⟩ : ∃ u, u = j - 1 := ⟨_, rfl⟩
           have eu : (j : Int) - 1 = (u : Int) := by omega
           obtain ⟨x0, hx0⟩ : ∃ x, x = du[j]! := ⟨_, rfl⟩
           obtain ⟨x1, hx1⟩ : ∃ x, x = du[u]! := ⟨_, rfl⟩
           have l0 := HC.out.2 j (by omega);have l1 := HC.out.2 u (by omega);rw [<- hx0] at l0;rw [<- hx1] at l1;have b0 : (j : Int) < (d.size : Int) := by omega
           have b1 : (u : Int) < (d.size : Int) := by omega
           have z0 : (0 : Int) <= (j : Int) := by omega
           have z1 : (0 : Int) <= (u : Int) := by omega
           have nu : j ≠ u := by omega
           have nv : u ≠ j := by omega
           have HX : Hid (x0 = du[j]! /\ x1 = du[u]! /\ u = j - 1) := ⟨hx0, hx1, hu⟩
           clear hx0 hx1 hu
           by_cases hl : x0 < x1
           ·have hl2 := hl
            have cL : ∀ W : World, Calls Tryz.prog 46 #[.int .u32 x0, .int .u32 x1] W (Rt W (.bool true)) := fun W => by have := lessC (x0) (x1) W; simpa only [hl, decide_true] using this
            have HL := hidS hl;clear hl2 hl;go_wp2_with fail
            ((first | (with_reducible refine wp_region_on zqa zqa ?_) | refine wp_region_more zqa zqa ?_); (refine zAa ?_); refine wpQuiet_nil ?_; rintro _ ⟨mq, rfl⟩)
            replace hg : objAt (more wr mq) g = some (.cells cur 27) := keep_below (below_more wr mq) hg;replace HK := hidS (HK.out.trans (Kept.of (below_more wr mq)) (.inl rfl));clear lg;generalize more wr mq = wa at *;have lg := lt_of_objAt hg;clear cL;have l9 := zqd (a := j) (by have := HC.out.1; omega) l1;have HS5 := hidS (SrtAt.swap hg HC.out.1 HC.out.2 (i := j) (j := u) (by omega) (by omega));rw [<- HX.out.1, <- HX.out.2.1] at HS5;go_wp2_with fail
            go_region
            go_wp2;have hl := HL.out
            go_roundw
            case rel => first | exact ⟨j + 1, Go.Sort.swp du j u, by go_num, by omega, by omega, by rw [zqe]; exact hsz, HS5.out.drew, (HK.out.trans (Kept.row _ (.inl rfl)) (.inl rfl)).drew, (by rw [<- HU.out, zqag b j du hj (by rw [<- HX.out.2.2, <- HX.out.1, <- HX.out.2.1]; simpa [Go.Sort.ltInt] using hl), <- HX.out.2.2]; rfl)⟩ | ((repeat' apply Exists.intro) <;> first | exact ⟨⟨j + 1, Go.Sort.swp du j u, by go_num, by omega, by omega, by rw [zqe]; exact hsz, HS5.out.drew, (HK.out.trans (Kept.row _ (.inl rfl)) (.inl rfl)).drew, (by rw [<- HU.out, zqag b j du hj (by rw [<- HX.out.2.2, <- HX.out.1, <- HX.out.2.1]; simpa [Go.Sort.ltInt] using hl), <- HX.out.2.2]; rfl)⟩, rfl⟩ | exact undef)
            case measure => (simp [intOf] <;> omega)
           ·have hl2 := hl
            have cL : ∀ W : World, Calls Tryz.prog 46 #[.int .u32 x0, .int .u32 x1] W (Rt W (.bool false)) := fun W => by have := lessC (x0) (x1) W; simpa only [hl, decide_false] using this
            have HL := hidS hl;clear hl2 hl;go_wp2_with fail
            ((first | (with_reducible refine wp_region_on zqa zqa ?_) | refine wp_region_more zqa zqa ?_); (refine zAa ?_); refine wpQuiet_nil ?_; rintro _ ⟨mq, rfl⟩)
            replace hg : objAt (more wr mq) g = some (.cells cur 27) := keep_below (below_more wr mq) hg;replace HK := hidS (HK.out.trans (Kept.of (below_more wr mq)) (.inl rfl));clear lg;generalize more wr mq = wb at *;have lg := lt_of_objAt hg;clear cL;have hl := HL.out;have HE : Hid (Go.Sort.fixUp Go.Sort.ltInt b k (Go.Sort.fixDown Go.Sort.ltInt a k d1) = du) := by
             show Go.Sort.fixUp Go.Sort.ltInt b k (Go.Sort.fixDown Go.Sort.ltInt a k d1) = du
             rw [<- HU.out]; exact zqp b j du (.inr (by rw [<- HX.out.2.2, <- HX.out.1, <- HX.out.2.1]; simpa [Go.Sort.ltInt] using hl))
            go_wp2
            go_roundw
            case rel => first | exact ⟨k, s + 1, du, by go_num, by go_num, by omega, by omega, by omega, hsz, ⟨cur, hg, HC.out⟩, HK.out, (by rw [<- HO.out, H1.out, HE.out]; rfl)⟩ | ((repeat' apply Exists.intro) <;> first | exact ⟨⟨k, s + 1, du, by go_num, by go_num, by omega, by omega, by omega, hsz, ⟨cur, hg, HC.out⟩, HK.out, (by rw [<- HO.out, H1.out, HE.out]; rfl)⟩, rfl⟩ | exact undef)
            case measure => (simp [intOf] <;> omega)
          ·have hj' : ¬ ((j : Int) < (b : Int)) := by omega
           have HE : Hid (Go.Sort.fixUp Go.Sort.ltInt b k (Go.Sort.fixDown Go.Sort.ltInt a k d1) = du) := by
            show Go.Sort.fixUp Go.Sort.ltInt b k (Go.Sort.fixDown Go.Sort.ltInt a k d1) = du
            rw [<- HU.out]; exact zqp b j du (.inl hj)
           go_wp2
           go_roundw
           case rel => first | exact ⟨k, s + 1, du, by go_num, by go_num, by omega, by omega, by omega, hsz, ⟨cur, hg, HC.out⟩, HK.out, (by rw [<- HO.out, H1.out, HE.out]; rfl)⟩ | ((repeat' apply Exists.intro) <;> first | exact ⟨⟨k, s + 1, du, by go_num, by go_num, by omega, by omega, by omega, hsz, ⟨cur, hg, HC.out⟩, HK.out, (by rw [<- HO.out, H1.out, HE.out]; rfl)⟩, rfl⟩ | exact undef)
           case measure => (simp [intOf] <;> omega)
        ·have hbk' : ¬ ((2 : Int) <= (b : Int) - (k : Int)) := by omega
         have HE : Hid (Go.Sort.fixUp Go.Sort.ltInt b k (Go.Sort.fixDown Go.Sort.ltInt a k d1) = d1) := by
          show Go.Sort.fixUp Go.Sort.ltInt b k (Go.Sort.fixDown Go.Sort.ltInt a k d1) = d1
          rw [HD.out]; unfold Go.Sort.fixUp; exact if_neg hbk
         go_wp2
         go_roundw
         case rel => first | exact ⟨k, s + 1, d1, by go_num, by go_num, by omega, by omega, by omega, hsz, ⟨cur, hg, HC.out⟩, HK.out, (by rw [<- HO.out, H1.out, HE.out]; rfl)⟩ | ((repeat' apply Exists.intro) <;> first | exact ⟨⟨k, s + 1, d1, by go_num, by go_num, by omega, by omega, by omega, hsz, ⟨cur, hg, HC.out⟩, HK.out, (by rw [<- HO.out, H1.out, HE.out]; rfl)⟩, rfl⟩ | exact undef)
         case measure => (simp [intOf] <;> omega)
   ·go_wp2_with fail
    go_loopw [7] (fun v wr => ∃ t : Nat, v = .int .i64 (t : Int) /\ i <= t /\ t <= k /\ objAt wr g = some (.cells cur 27) /\ Kept g g w wr) (fun v _ => k - (intOf v).toNat)
    case atStart => exact ⟨i, by go_num, by omega, by omega, hg, HK.out⟩
    case round =>
     clear hg HK lg;obtain ⟨t, rfl, ht1, ht2, hg, hK⟩ := hrel;have HK := hidS hK;have lg := lt_of_objAt hg;clear hK
     by_cases htt : t < k
     ·have ht5 : (t : Int) < (b : Int) := by omega
      obtain ⟨u, hu⟩ : ∃ u, u = t - 1 := ⟨_, rfl⟩
      have eu : (t : Int) - 1 = (u : Int) := by omega
      obtain ⟨x0, hx0⟩ : ∃ x, x = dk[t]! := ⟨_, rfl⟩
      obtain ⟨x1, hx1⟩ : ∃ x, x = dk[u]! := ⟨_, rfl⟩
      have l0 := HC.out.2 t (by omega);have l1 := HC.out.2 u (by omega);rw [<- hx0] at l0;rw [<- hx1] at l1;have b0 : (t : Int) < (d.size : Int) := by omega
      have b1 : (u : Int) < (d.size : Int) := by omega
      have z0 : (0 : Int) <= (t : Int) := by omega
      have z1 : (0 : Int) <= (u : Int) := by omega
      have nu : t ≠ u := by omega
      have nv : u ≠ t := by omega
      have HX : Hid (x0 = dk[t]! /\ x1 = dk[u]! /\ u = t - 1) := ⟨hx0, hx1, hu⟩
      clear hx0 hx1 hu;have hp : ¬ (x0 < x1) := by
       have := HSc.out.2.2.1 t (by omega) (by omega);rw [<- HX.out.2.2, <- HX.out.1, <- HX.out.2.1] at this
       simpa [Go.Sort.ltInt] using this
      have hp2 := hp;have cL : ∀ W : World, Calls Tryz.prog 46 #[.int .u32 x0, .int .u32 x1] W (Rt W (.bool false)) := fun W => by have := lessC (x0) (x1) W; simpa only [hp, decide_false] using this
      clear hp2 hp;go_wp2_with fail
      ((first | (with_reducible refine wp_region_on zqa zqa ?_) | refine wp_region_more zqa zqa ?_); (refine zAa ?_); refine wpQuiet_nil ?_; rintro _ ⟨mq, rfl⟩)
      replace hg : objAt (more wr mq) g = some (.cells cur 27) := keep_below (below_more wr mq) hg;replace HK := hidS (HK.out.trans (Kept.of (below_more wr mq)) (.inl rfl));clear lg;generalize more wr mq = w4 at *;have lg := lt_of_objAt hg;clear cL;go_wp2
      go_roundw
      case rel => first | exact ⟨t + 1, by go_num, by omega, by omega, hg, HK.out⟩ | ((repeat' apply Exists.intro) <;> first | exact ⟨⟨t + 1, by go_num, by omega, by omega, hg, HK.out⟩, rfl⟩ | exact undef)
      case measure => (simp [intOf] <;> omega)
     ·obtain rfl : k = t := by omega
      have ht5 : ¬ ((k : Int) < (b : Int)) := by omega
      have cL := fun W : World => lessC 0 0 W;go_wp2_with fail;clear ht5;have ht5 : ¬ ((k : Int) < (b : Int)) := by omega
      ((first | (with_reducible refine wp_region_on zqa zqa ?_) | refine wp_region_more zqa zqa ?_); (refine zAa ?_); refine wpQuiet_nil ?_; rintro _ ⟨mq, rfl⟩)
      replace hg : objAt (more wr mq) g = some (.cells cur 27) := keep_below (below_more wr mq) hg;replace HK := hidS (HK.out.trans (Kept.of (below_more wr mq)) (.inl rfl));clear lg;generalize more wr mq = w5 at *;have lg := lt_of_objAt hg;clear cL ht5;obtain rfl : b = k := by omega
      go_wp2;go_ret;have hv : Go.Sort.partialInsertionSort Go.Sort.ltInt d a b = (dk, true) := by
       unfold Go.Sort.partialInsertionSort;rw [<- HO.out];rw [HP.out]; first | exact if_pos rfl | exact if_pos trivial
      rw [hv];exact ⟨rfl, ⟨cur, hg, HC.out⟩, HK.out⟩
  ·have hs' : ¬ ((s : Int) < 5) := by omega
   go_wp2;go_ret;have hv : Go.Sort.partialInsertionSort Go.Sort.ltInt d a b = (dk, false) := by
    unfold Go.Sort.partialInsertionSort;rw [<- HO.out];rw [show 5 - s = 0 by omega]; rfl
   rw [hv];exact ⟨rfl, ⟨cur, hg, HC.out⟩, HK.out⟩
end Go.Proofs.YtihoodeaaamlfaaGreatDoor
