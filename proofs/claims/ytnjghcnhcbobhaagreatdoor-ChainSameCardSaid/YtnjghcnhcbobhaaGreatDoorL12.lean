/- L12 -/
import Derived.Test.YtnjghcnhcbobhaaGreatDoorR12
import Derived.Test.YtnjghcnhcbobhaaGreatDoorNds
import Derived.Test.YtnjghcnhcbobhaaGreatDoorL11
import Derived.Test.YtnjghcnhcbobhaaGreatDoorFrame
set_option linter.unusedVariables false
set_option linter.unusedSimpArgs false
set_option maxRecDepth 100000
set_option maxHeartbeats 4000000
namespace Go.Proofs.YtnjghcnhcbobhaaGreatDoor
open Go.RowKit
def OfC : Prop := ∀ (k : Nat -> Int) (W : World), Bytes 32 k -> Calls Tryz.prog 187 #[.agg (ints .u8 32 k)] W (Rt W (.agg (ints .u8 64 (zqbl k (keyV (pubV k))))))
def zrag : Prop := ∀ (x z : Nat -> Int) (W : World), Bytes 32 x -> Bytes 32 z -> Calls Tryz.prog 220 #[.agg (ints .u8 64 (zqbl x z))] W (Rt W (.bool (same 32 z (keyV (pubV x)))))
def zrak : Prop := ∀ (k : Nat -> Int) (P : Nat -> Nat -> Int) (oa : Option Addr) (n c : Nat) (W : World), Bytes 32 k -> n <= 1000 -> (∀ i, i < n -> Bytes 32 (P i)) -> K32At W oa n P -> Tabs W -> Calls Tryz.prog 190 #[.agg (ints .u8 32 k), .slice oa n c] W (zqli W k P n)
theorem zq62 {f : FuncId} {args : Array Value} {W : World} {k : Nat -> Int} {P : Nat -> Nat -> Int} {n : Nat} (h : Calls Tryz.prog f args W (zqli W k P n)) (ho : zqbt k P n = true) :
  Calls Tryz.prog f args W fun e w' => ∃ oa c, e = .returned (.tuple #[.slice oa (n + 1) c, .bool true]) /\ n + 1 <= c /\ K32At w' oa (n + 1) (zqb8 k P) /\ Below W.heap.size W w' := by
 refine h.mono ?_
 rintro e w' ⟨hb, ⟨_, oa, c, he, hc, hK⟩ | ⟨h2, _⟩⟩
 ·exact ⟨oa, c, he, hc, hK, hb⟩
 ·rw [ho] at h2; cases h2
theorem K32At.load0 {w : World} {ad : Addr} {n : Nat} {F : Nat -> Nat -> Int} (h : K32At w (some ad) n F) (hj : 0 < n) {w' : World} (hb : Below w.heap.size w w') : (zqp 44 (.pointer (some ad))).run Tryz.prog w' = .ok (.value (.agg (ints .u8 32 (F 0)))) w' := by
 have := h.loadK hj hb;rw [show ad.add (0 * 32) = ad by simp [Addr.add]] at this;exact this
@[go_sem] theorem zrm5 (w : World) : (zqdj (.int .u8 7)).run Tryz.prog w = .ok (.value (.agg (ints .u8 32 (upd zqe 0 7)))) w := by kernel_rfl
attribute [local irreducible] zqds zqbw oneF macF shaF strOf keyV shV pubV upF upOK
theorem zqts (aw : ∀ W : World, Tabs W -> Calls Tryz.prog 229 #[] W (Rt W (.bool true))) (w : World) (hT : Tabs w) :
  Calls Tryz.prog 219 #[] w (Rt w (.bool true)) := by
 have hG := Grew.refl w
 go_enter Tryz.func219, Tryz.ntmps219
 go_wp2_with fail
 (refine (aw _ hT).mono ?_; rintro e w1 ⟨rfl, hb⟩; replace hG : Below w.heap.size w w1 := Grew.trans (by exact zqf) hb; clear hb)
 go_wp2;go_ret;exact ⟨rfl, by exact zqf⟩
theorem zqrw (z PZ : Nat -> Int) (w : World) (hT : Tabs w) (hz : z = upd zqe 0 7)
  (cC : ∀ W : World, Tabs W -> Calls Tryz.prog 190 #[.agg (ints .u8 32 z), .slice none 0 0] W fun e w' => ∃ oa c, e = .returned (.tuple #[.slice oa 1 c, .bool true]) /\ 1 <= c /\ K32At w' oa 1 (fun _ => z) /\ Below W.heap.size W w')
  (cO : ∀ W : World, Calls Tryz.prog 187 #[.agg (ints .u8 32 z)] W (Rt W (.agg (ints .u8 64 (zqbl z PZ))))) (cR : ∀ W : World, Calls Tryz.prog 220 #[.agg (ints .u8 64 (zqbl z PZ))] W (Rt W (.bool true))) (aw : ∀ W : World, Tabs W -> Calls Tryz.prog 219 #[] W (Rt W (.bool true))) :
  Calls Tryz.prog 211 #[] w (Rt w (.bool true)) := by
 have hTT : Hid (Tabs w) := hT;clear hT;have hsz := zqdu 32 z;subst hz;have hG := Grew.refl w
 go_enter Tryz.func211, Tryz.ntmps211
 go_wp2_with fail;refine (cC _ (hTT.out.later hG)).mono ?_
 rintro e w1 ⟨oa, c, rfl, hc, hK, hb⟩;replace hG : Below w.heap.size w w1 := Grew.trans hG hb;have HK : Hid (K32At w1 oa 1 (fun _ => upd zqe 0 7)) := hK;obtain ⟨ad, rfl⟩ := hK.addr (by decide);clear hb cC hc hK;go_wp2_with fail;refine (aw _ (hTT.out.later hG)).mono ?_
 rintro e w2 ⟨rfl, hb2⟩;have l0 := HK.out.load0 (by decide) hb2;replace hG : Below w.heap.size w w2 := Grew.trans hG hb2;clear hb2 HK;go_wp2_with fail;refine (cO _).mono ?_
 rintro e w3 ⟨rfl, hb3⟩;replace hG : Below w.heap.size w w3 := Grew.trans hG hb3;clear hb3 l0;go_wp2_with fail;refine (cR _).mono ?_
 rintro e w4 ⟨rfl, hb4⟩;replace hG : Below w.heap.size w w4 := Grew.trans hG hb4;go_wp2;go_ret;exact ⟨rfl, hG⟩
theorem zqij : Bytes 32 (upd zqe 0 7) := fun i hi => by unfold upd zqe; split <;> omega
theorem zqtr (pClimbC : zrak) (pOfC : OfC) (pRightC : zrag) (aw : ∀ W : World, Tabs W -> Calls Tryz.prog 219 #[] W (Rt W (.bool true))) (w : World) (hT : Tabs w) :
  Calls Tryz.prog 211 #[] w (Rt w (.bool true)) := by
 refine zqrw _ (keyV (pubV (upd zqe 0 7))) w hT rfl (fun W h => ?_) (fun W => pOfC _ W zqij) (fun W => ?_) aw
 ·have := zq62 (pClimbC (upd zqe 0 7) (fun _ => zqe) none 0 0 W zqij (by decide) (fun i hi => by omega) (K32At.nil _ _) h) rfl
  refine this.mono ?_
  rintro e w' ⟨oa, c, he, hc, hK, hb⟩;have hK2 : K32At w' oa 1 (fun _ => upd zqe 0 7) := hK.congr (fun j hj => by
   obtain rfl : j = 0 := by omega
   rfl)
  exact ⟨oa, c, he, hc, hK2, hb⟩
 ·have := pRightC (upd zqe 0 7) (keyV (pubV (upd zqe 0 7))) W zqij (zqdl _)
  rw [zqdu] at this;exact this
theorem zrlc (j k : Nat -> Int) (hj : Bytes 32 j) (hk : Bytes 32 k) : upOK j (keyV (pubV k)) = true /\ upF j (keyV (pubV k)) = zqds (keyV (twoV j k)) := by
 have e := zrkk j k;have h := zrkh j k hj hk;have h2 : ¬ (twoV j k = 0) := of_decide_eq_false h;unfold upOK upF;rw [e, h, if_neg h2];exact ⟨rfl, rfl⟩
end Go.Proofs.YtnjghcnhcbobhaaGreatDoor
