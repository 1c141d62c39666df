/- L12 -/
import Derived.Test.YtnjghcnhcbobhaaGreatDoorR12
import Derived.Test.YtnjghcnhcbobhaaGreatDoorNds
import Derived.Test.YtnjghcnhcbobhaaGreatDoorL11
import Derived.Test.YtnjghcnhcbobhaaGreatDoorElems
set_option maxRecDepth 100000
set_option maxHeartbeats 4000000
namespace Go.Proofs.YtnjghcnhcbobhaaGreatDoor
open Go.RowKit
set_option linter.unusedVariables false
set_option linter.unusedSimpArgs false
def OfC : Prop := ∀ (k : Nat → Int) (W : World), Bytes 32 k → Calls Tryz.prog 187 #[.agg (ints .u8 32 k)] W fun e w' => e = .returned (.agg (ints .u8 64 (keysF k (keyV (pubV k))))) ∧ Below W.heap.size W w'
def RightC : Prop := ∀ (x z : Nat → Int) (W : World), Bytes 32 x → Bytes 32 z → Calls Tryz.prog 220 #[.agg (ints .u8 64 (keysF x z))] W fun e w' => e = .returned (.bool (same 32 z (keyV (pubV x)))) ∧ Below W.heap.size W w'
def ClimbC : Prop := ∀ (k : Nat → Int) (P : Nat → Nat → Int) (oa : Option Addr) (n c : Nat) (W : World), Bytes 32 k → n ≤ 1000 → (∀ i, i < n → Bytes 32 (P i)) → K32At W oa n P → Tabs W → Calls Tryz.prog 190 #[.agg (ints .u8 32 k), .slice oa n c] W (RetClimb W k P n)
theorem climb_ok {f : FuncId} {args : Array Value} {W : World} {k : Nat → Int} {P : Nat → Nat → Int} {n : Nat} (h : Calls Tryz.prog f args W (RetClimb W k P n)) (ho : climbOK k P n = true) :
  Calls Tryz.prog f args W fun e w' => ∃ oa c, e = .returned (.tuple #[.slice oa (n + 1) c, .bool true]) ∧ n + 1 ≤ c ∧ K32At w' oa (n + 1) (climbS k P) ∧ Below W.heap.size W w' := by
 refine h.mono ?_
 rintro e w' ⟨hb, ⟨_, oa, c, he, hc, hK⟩ | ⟨h2, _⟩⟩
 ·exact ⟨oa, c, he, hc, hK, hb⟩
 ·rw [ho] at h2; cases h2
theorem K32At.load0 {w : World} {ad : Addr} {n : Nat} {F : Nat → Nat → Int} (h : K32At w (some ad) n F) (hj : 0 < n) {w' : World} (hb : Below w.heap.size w w') : (loadNext 44 (.pointer (some ad))).run Tryz.prog w' = .ok (.value (.agg (ints .u8 32 (F 0)))) w' := by
 have := h.loadK hj hb
 rw [show ad.add (0 * 32) = ad by simp [Addr.add]] at this
 exact this
@[go_sem] theorem one_key7 (w : World) : (oneKeyNext (.int .u8 7)).run Tryz.prog w = .ok (.value (.agg (ints .u8 32 (upd nought 0 7)))) w := by kernel_rfl
attribute [local irreducible] nodeF labelF oneF macF shaF strOf keyV shV pubV upF upOK
theorem Awake11_any (aw : ∀ W : World, Tabs W → Calls Tryz.prog 229 #[] W fun e w' => e = .returned (.bool true) ∧ Below W.heap.size W w') (w : World) (hT : Tabs w) :
  Calls Tryz.prog 219 #[] w fun e w' => e = .returned (.bool true) ∧ Below w.heap.size w w' := by
 have hG := Grew.refl w
 go_enter Tryz.func219, Tryz.ntmps219
 go_wp2_with fail
 (refine (aw _ hT).mono ?_; rintro e w1 ⟨rfl, hb⟩; replace hG : Below w.heap.size w w1 := Grew.trans (by exact grew_auto) hb; clear hb)
 go_wp2
 go_ret
 exact ⟨rfl, by exact grew_auto⟩
theorem awake12_walk (z PZ : Nat → Int) (w : World) (hT : Tabs w) (hz : z = upd nought 0 7)
  (cC : ∀ W : World, Tabs W → Calls Tryz.prog 190 #[.agg (ints .u8 32 z), .slice none 0 0] W fun e w' => ∃ oa c, e = .returned (.tuple #[.slice oa 1 c, .bool true]) ∧ 1 ≤ c ∧ K32At w' oa 1 (fun _ => z) ∧ Below W.heap.size W w')
  (cO : ∀ W : World, Calls Tryz.prog 187 #[.agg (ints .u8 32 z)] W fun e w' => e = .returned (.agg (ints .u8 64 (keysF z PZ))) ∧ Below W.heap.size W w') (cR : ∀ W : World, Calls Tryz.prog 220 #[.agg (ints .u8 64 (keysF z PZ))] W fun e w' => e = .returned (.bool true) ∧ Below W.heap.size W w') (aw : ∀ W : World, Tabs W → Calls Tryz.prog 219 #[] W fun e w' => e = .returned (.bool true) ∧ Below W.heap.size W w') :
  Calls Tryz.prog 211 #[] w fun e w' => e = .returned (.bool true) ∧ Below w.heap.size w w' := by
 have hTT : Hid (Tabs w) := hT
 clear hT
 have hsz := same_refl 32 z
 subst hz
 have hG := Grew.refl w
 go_enter Tryz.func211, Tryz.ntmps211
 go_wp2_with fail
 refine (cC _ (hTT.out.later hG)).mono ?_
 rintro e w1 ⟨oa, c, rfl, hc, hK, hb⟩
 replace hG : Below w.heap.size w w1 := Grew.trans hG hb
 have HK : Hid (K32At w1 oa 1 (fun _ => upd nought 0 7)) := hK
 obtain ⟨ad, rfl⟩ := hK.addr (by decide)
 clear hb cC hc hK
 go_wp2_with fail
 refine (aw _ (hTT.out.later hG)).mono ?_
 rintro e w2 ⟨rfl, hb2⟩
 have l0 := HK.out.load0 (by decide) hb2
 replace hG : Below w.heap.size w w2 := Grew.trans hG hb2
 clear hb2 HK
 go_wp2_with fail
 refine (cO _).mono ?_
 rintro e w3 ⟨rfl, hb3⟩
 replace hG : Below w.heap.size w w3 := Grew.trans hG hb3
 clear hb3 l0
 go_wp2_with fail
 refine (cR _).mono ?_
 rintro e w4 ⟨rfl, hb4⟩
 replace hG : Below w.heap.size w w4 := Grew.trans hG hb4
 go_wp2
 go_ret
 exact ⟨rfl, hG⟩
theorem seven_bytes : Bytes 32 (upd nought 0 7) := fun i hi => by unfold upd nought; split <;> omega
theorem awake12_any (pClimbC : ClimbC) (pOfC : OfC) (pRightC : RightC) (aw : ∀ W : World, Tabs W → Calls Tryz.prog 219 #[] W fun e w' => e = .returned (.bool true) ∧ Below W.heap.size W w') (w : World) (hT : Tabs w) :
  Calls Tryz.prog 211 #[] w fun e w' => e = .returned (.bool true) ∧ Below w.heap.size w w' := by
 refine awake12_walk _ (keyV (pubV (upd nought 0 7))) w hT rfl (fun W h => ?_) (fun W => pOfC _ W seven_bytes) (fun W => ?_) aw
 ·have := climb_ok (pClimbC (upd nought 0 7) (fun _ => nought) none 0 0 W seven_bytes (by decide) (fun i hi => by omega) (K32At.nil _ _) h) rfl
  refine this.mono ?_
  rintro e w' ⟨oa, c, he, hc, hK, hb⟩
  have hK2 : K32At w' oa 1 (fun _ => upd nought 0 7) := hK.congr (fun j hj => by
   obtain rfl : j = 0 := by omega
   rfl)
  exact ⟨oa, c, he, hc, hK2, hb⟩
 ·have := pRightC (upd nought 0 7) (keyV (pubV (upd nought 0 7))) W seven_bytes (keyV_bytes _)
  rw [same_refl] at this
  exact this
theorem up_two (j k : Nat → Int) (hj : Bytes 32 j) (hk : Bytes 32 k) : upOK j (keyV (pubV k)) = true ∧ upF j (keyV (pubV k)) = nodeF (keyV (twoV j k)) := by
 have e := two_is j k
 have h := two_ne j k hj hk
 have h2 : ¬ (twoV j k = 0) := of_decide_eq_false h
 unfold upOK upF
 rw [e, h, if_neg h2]
 exact ⟨rfl, rfl⟩
end Go.Proofs.YtnjghcnhcbobhaaGreatDoor
