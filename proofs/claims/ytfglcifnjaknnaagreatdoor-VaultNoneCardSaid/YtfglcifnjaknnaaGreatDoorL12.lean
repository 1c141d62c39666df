/- L12 -/
import Derived.Test.YtfglcifnjaknnaaGreatDoorR12
import Derived.Test.YtfglcifnjaknnaaGreatDoorNds
import Derived.Test.YtfglcifnjaknnaaGreatDoorL11
import Derived.Test.YtfglcifnjaknnaaGreatDoorFrame
set_option linter.unusedVariables false
set_option linter.unusedSimpArgs false
set_option maxRecDepth 100000
set_option maxHeartbeats 4000000
namespace Go.Proofs.YtfglcifnjaknnaaGreatDoor
open Go.RowKit
def OfC : Prop := ∀ (k : Nat -> Int) (W : World), Bytes 32 k -> Calls Tryz.prog 211 #[.agg (ints .u8 32 k)] W (Rt W (.agg (ints .u8 64 (zqa6 k (keyV (pubV k))))))
def zq7a : Prop := ∀ (x z : Nat -> Int) (W : World), Bytes 32 x -> Bytes 32 z -> Calls Tryz.prog 240 #[.agg (ints .u8 64 (zqa6 x z))] W (Rt W (.bool (same 32 z (keyV (pubV x)))))
def zq7z : Prop := ∀ (k : Nat -> Int) (P : Nat -> Nat -> Int) (oa : Option Addr) (n c : Nat) (W : World), Bytes 32 k -> n <= 1000 -> (∀ i, i < n -> Bytes 32 (P i)) -> K32At W oa n P -> Tabs W -> Calls Tryz.prog 215 #[.agg (ints .u8 32 k), .slice oa n c] W (zqkv W k P n)
theorem zq6d {f : FuncId} {args : Array Value} {W : World} {k : Nat -> Int} {P : Nat -> Nat -> Int} {n : Nat} (h : Calls Tryz.prog f args W (zqkv W k P n)) (ho : zqbi k P n = true) :
  Calls Tryz.prog f args W fun e w' => ∃ oa c, e = .returned (.tuple #[.slice oa (n + 1) c, .bool true]) /\ n + 1 <= c /\ K32At w' oa (n + 1) (zqb2 k P) /\ Below W.heap.size W w' := by
 refine h.mono ?_
 rintro e w' ⟨hb, ⟨_, oa, c, he, hc, hK⟩ | ⟨h2, _⟩⟩
 ·exact ⟨oa, c, he, hc, hK, hb⟩
 ·rw [ho] at h2; cases h2
theorem K32At.load0 {w : World} {ad : Addr} {n : Nat} {F : Nat -> Nat -> Int} (h : K32At w (some ad) n F) (hj : 0 < n) {w' : World} (hb : Below w.heap.size w w') : (zqah 29 (.pointer (some ad))).run Tryz.prog w' = .ok (.value (.agg (ints .u8 32 (F 0)))) w' := by
 have := h.loadK hj hb;rw [show ad.add (0 * 32) = ad by simp [Addr.add]] at this;exact this
@[go_sem] theorem zrg2 (w : World) : (zqcs (.int .u8 7)).run Tryz.prog w = .ok (.value (.agg (ints .u8 32 (upd zqd 0 7)))) w := by kernel_rfl
attribute [local irreducible] zqda zqbw oneF macF shaF strOf keyV shV pubV upF upOK
theorem zqs6 (aw : ∀ W : World, Tabs W -> Calls Tryz.prog 241 #[] W (Rt W (.bool true))) (w : World) (hT : Tabs w) :
  Calls Tryz.prog 239 #[] w (Rt w (.bool true)) := by
 have hG := Grew.refl w
 go_enter Tryz.func239, Tryz.ntmps239
 go_wp2_with fail
 (refine (aw _ hT).mono ?_; rintro e w1 ⟨rfl, hb⟩; replace hG : Below w.heap.size w w1 := Grew.trans (by exact zqf) hb; clear hb)
 go_wp2;go_ret;exact ⟨rfl, by exact zqf⟩
theorem zqqp (z PZ : Nat -> Int) (w : World) (hT : Tabs w) (hz : z = upd zqd 0 7)
  (cC : ∀ W : World, Tabs W -> Calls Tryz.prog 215 #[.agg (ints .u8 32 z), .slice none 0 0] W fun e w' => ∃ oa c, e = .returned (.tuple #[.slice oa 1 c, .bool true]) /\ 1 <= c /\ K32At w' oa 1 (fun _ => z) /\ Below W.heap.size W w')
  (cO : ∀ W : World, Calls Tryz.prog 211 #[.agg (ints .u8 32 z)] W (Rt W (.agg (ints .u8 64 (zqa6 z PZ))))) (cR : ∀ W : World, Calls Tryz.prog 240 #[.agg (ints .u8 64 (zqa6 z PZ))] W (Rt W (.bool true))) (aw : ∀ W : World, Tabs W -> Calls Tryz.prog 239 #[] W (Rt W (.bool true))) :
  Calls Tryz.prog 237 #[] w (Rt w (.bool true)) := by
 have hTT : Hid (Tabs w) := hT;clear hT;have hsz := zqdv 32 z;subst hz;have hG := Grew.refl w
 go_enter Tryz.func237, Tryz.ntmps237
 go_wp2_with fail;refine (cC _ (hTT.out.later hG)).mono ?_
 rintro e w1 ⟨oa, c, rfl, hc, hK, hb⟩;replace hG : Below w.heap.size w w1 := Grew.trans hG hb;have HK : Hid (K32At w1 oa 1 (fun _ => upd zqd 0 7)) := hK;obtain ⟨ad, rfl⟩ := hK.addr (by decide);clear hb cC hc hK;go_wp2_with fail;refine (aw _ (hTT.out.later hG)).mono ?_
 rintro e w2 ⟨rfl, hb2⟩;have l0 := HK.out.load0 (by decide) hb2;replace hG : Below w.heap.size w w2 := Grew.trans hG hb2;clear hb2 HK;go_wp2_with fail;refine (cO _).mono ?_
 rintro e w3 ⟨rfl, hb3⟩;replace hG : Below w.heap.size w w3 := Grew.trans hG hb3;clear hb3 l0;go_wp2_with fail;refine (cR _).mono ?_
 rintro e w4 ⟨rfl, hb4⟩;replace hG : Below w.heap.size w w4 := Grew.trans hG hb4;go_wp2;go_ret;exact ⟨rfl, hG⟩
theorem zqhy : Bytes 32 (upd zqd 0 7) := fun i hi => by unfold upd zqd; split <;> omega
theorem zqr6 (pClimbC : zq7z) (pOfC : OfC) (pRightC : zq7a) (aw : ∀ W : World, Tabs W -> Calls Tryz.prog 239 #[] W (Rt W (.bool true))) (w : World) (hT : Tabs w) :
  Calls Tryz.prog 237 #[] w (Rt w (.bool true)) := by
 refine zqqp _ (keyV (pubV (upd zqd 0 7))) w hT rfl (fun W h => ?_) (fun W => pOfC _ W zqhy) (fun W => ?_) aw
 ·have := zq6d (pClimbC (upd zqd 0 7) (fun _ => zqd) none 0 0 W zqhy (by decide) (fun i hi => by omega) (K32At.nil _ _) h) rfl
  refine this.mono ?_
  rintro e w' ⟨oa, c, he, hc, hK, hb⟩;have hK2 : K32At w' oa 1 (fun _ => upd zqd 0 7) := hK.congr (fun j hj => by
   obtain rfl : j = 0 := by omega
   rfl)
  exact ⟨oa, c, he, hc, hK2, hb⟩
 ·have := pRightC (upd zqd 0 7) (keyV (pubV (upd zqd 0 7))) W zqhy (zqc4 _)
  rw [zqdv] at this;exact this
theorem zreg (j k : Nat -> Int) (hj : Bytes 32 j) (hk : Bytes 32 k) : upOK j (keyV (pubV k)) = true /\ upF j (keyV (pubV k)) = zqda (keyV (twoV j k)) := by
 have e := zrfn j k;have h := zrfw j k hj hk;have h2 : ¬ (twoV j k = 0) := of_decide_eq_false h;unfold upOK upF;rw [e, h, if_neg h2];exact ⟨rfl, rfl⟩
end Go.Proofs.YtfglcifnjaknnaaGreatDoor
