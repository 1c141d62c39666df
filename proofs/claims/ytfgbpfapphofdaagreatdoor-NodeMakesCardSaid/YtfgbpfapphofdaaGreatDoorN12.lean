/- N12 -/
import Derived.Test.YtfgbpfapphofdaaGreatDoorL12
import Derived.Test.YtfgbpfapphofdaaGreatDoorR12
import Derived.Deep.RegionHeld3
set_option maxRecDepth 100000
set_option maxHeartbeats 4000000
namespace Go.Proofs.YtfgbpfapphofdaaGreatDoor
open Go.RowKit
set_option linter.unusedVariables false
set_option linter.unusedSimpArgs false
theorem cut_at {K : Act → World → Prop} {G : Prop} (X : Option Addr → Nat → Option Addr → Nat → World → Prop) (F : Option Addr → Nat → Option Addr → Nat → Act) (h1 : (∀ a b c d w, X a b c d w → K (F a b c d) w) → G) (h2 : ∀ a b c d w, X a b c d w → K (F a b c d) w) : G := h1 h2
attribute [local irreducible] nodeF labelF oneF macF shaF strOf keyV shV pubV upF upOK
theorem makes12_yes (s x z PS PX K1 : Nat → Int) (bR b1 : Bool) (P S : Nat → Nat → Int) (oa : Option Addr) (n c : Nat) (w : World) (hT : Tabs w) (hn : n ≤ 5) (hP : K32At w oa n P)
  (cO : ∀ W : World, Calls Tryz.prog 27 #[.agg (ints .u8 32 s)] W fun e w' => e = .returned (.agg (ints .u8 64 (keysF s PS))) ∧ Below W.heap.size W w')
  (cB : ∀ W : World, Calls Tryz.prog 33 #[.agg (ints .u8 32 s)] W fun e w' => e = .returned (.agg (ints .u8 32 PS)) ∧ Below W.heap.size W w')
  (cX : ∀ W : World, Calls Tryz.prog 33 #[.agg (ints .u8 32 x)] W fun e w' => e = .returned (.agg (ints .u8 32 PX)) ∧ Below W.heap.size W w')
  (cR : ∀ W : World, Calls Tryz.prog 34 #[.agg (ints .u8 64 (keysF s PS))] W fun e w' => e = .returned (.bool true) ∧ Below W.heap.size W w')
  (cQ : ∀ W : World, Calls Tryz.prog 34 #[.agg (ints .u8 64 (keysF x z))] W fun e w' => e = .returned (.bool bR) ∧ Below W.heap.size W w')
  (hbR : same 32 z PX = bR)
  (cU : ∀ W : World, Tabs W → Calls Tryz.prog 31 #[.agg (ints .u8 32 s), .agg (ints .u8 32 z)] W fun e w' => e = .returned (.tuple #[.agg (ints .u8 32 K1), .bool b1]) ∧ Below W.heap.size W w')
  (cV : ∀ W : World, Calls Tryz.prog 32 #[.agg (ints .u8 32 s), .agg (ints .u8 32 z)] W fun e w' => e = .returned (.tuple #[.agg (ints .u8 32 K1), .bool b1]) ∧ Below W.heap.size W w')
  (cK : ∀ W : World, K32At W oa n P → Calls Tryz.prog 30 #[.slice oa n c] W (RetK32 W n P))
  (cC : ∀ W : World, K32At W oa n P → Tabs W → Calls Tryz.prog 28 #[.agg (ints .u8 32 s), .slice oa n c] W fun e w' => ∃ oa c, e = .returned (.tuple #[.slice oa (n + 1) c, .bool true]) ∧ n + 1 ≤ c ∧ K32At w' oa (n + 1) S ∧ Below W.heap.size W w')
  (cD : ∀ (oq : Option Addr) (cq : Nat) (W : World), K32At W oq n P → Calls Tryz.prog 29 #[.agg (ints .u8 32 s), .slice oq n cq] W fun e w' => ∃ oa c, e = .returned (.tuple #[.slice oa (n + 1) c, .bool true]) ∧ n + 1 ≤ c ∧ K32At w' oa (n + 1) S ∧ Below W.heap.size W w')
  (aw : ∀ W : World, Tabs W → Calls Tryz.prog 26 #[] W fun e w' => e = .returned (.bool true) ∧ Below W.heap.size W w') :
  Calls Tryz.prog 6 #[.agg (ints .u8 32 s), .agg (ints .u8 64 (keysF x z)), .slice oa n c] w fun e w' => e = .returned (.bool true) ∧ Below w.heap.size w w' := by
 have hTT : Hid (Tabs w) := hT
 have HP : Hid (K32At w oa n P) := hP
 clear hT hP
 have hm0 := same_refl 32 s
 have hm1 := same_refl 32 PS
 have hm2 := same_refl 32 K1
 have hni : (n : Int) ≤ 5 := by omega
 have hG := Grew.refl w
 have fs : True := trivial
 have fp : True := trivial
 go_enter Tryz.func6, Tryz.ntmps6
 go_wp2_with fail
 replace fs : objAt ((w.alloc (.cells (ints .u8 32 (s)) 47)).alloc (.cells (ints .u8 64 (keysF (x) (z))) 49)) (w.heap.size) = some (.cells (ints .u8 32 (s)) 47) := by exact keep_auto
 replace fp : objAt ((w.alloc (.cells (ints .u8 32 (s)) 47)).alloc (.cells (ints .u8 64 (keysF (x) (z))) 49)) (w.heap.size + 1) = some (.cells (ints .u8 64 (keysF (x) (z))) 49) := by exact keep_auto
 replace hG : Below w.heap.size w ((w.alloc (.cells (ints .u8 32 (s)) 47)).alloc (.cells (ints .u8 64 (keysF (x) (z))) 49)) := by exact grew_auto
 generalize (w.alloc (.cells (ints .u8 32 (s)) 47)).alloc (.cells (ints .u8 64 (keysF (x) (z))) 49) = w1 at *
 have lfs := lt_of_objAt fs
 have lfp := lt_of_objAt fp
 go_wp2_with fail
 (refine (aw _ (hTT.out.later hG)).mono ?_; rintro e w2 ⟨rfl, hb⟩; replace fs : objAt w2 (w.heap.size) = some (.cells (ints .u8 32 (s)) 47) := keep_below hb (by exact keep_auto); have lfs := lt_of_objAt fs; replace fp : objAt w2 (w.heap.size + 1) = some (.cells (ints .u8 64 (keysF (x) (z))) 49) := keep_below hb (by exact keep_auto); have lfp := lt_of_objAt fp; replace hG : Below w.heap.size w w2 := Grew.trans (by exact grew_auto) hb; clear hb)
 go_wp2_with fail
 (refine (cO _).mono ?_; rintro e w3 ⟨rfl, hb⟩; replace fs : objAt w3 (w.heap.size) = some (.cells (ints .u8 32 (s)) 47) := keep_below hb (by exact keep_auto); have lfs := lt_of_objAt fs; replace fp : objAt w3 (w.heap.size + 1) = some (.cells (ints .u8 64 (keysF (x) (z))) 49) := keep_below hb (by exact keep_auto); have lfp := lt_of_objAt fp; replace hG : Below w.heap.size w w3 := Grew.trans (by exact grew_auto) hb; clear hb)
 go_wp2_with fail
 have fq : objAt (w3.alloc (.cells (ints .u8 64 (keysF (s) (PS))) 49)) w3.heap.size = some (.cells (ints .u8 64 (keysF (s) (PS))) 49) := objAt_alloc_at _ _ _ rfl
 replace fs : objAt (w3.alloc (.cells (ints .u8 64 (keysF (s) (PS))) 49)) (w.heap.size) = some (.cells (ints .u8 32 (s)) 47) := keep_alloc _ fs
 replace fp : objAt (w3.alloc (.cells (ints .u8 64 (keysF (s) (PS))) 49)) (w.heap.size + 1) = some (.cells (ints .u8 64 (keysF (x) (z))) 49) := keep_alloc _ fp
 replace hG : Below w.heap.size w (w3.alloc (.cells (ints .u8 64 (keysF (s) (PS))) 49)) := Grew.alloc hG _
 clear lfs lfp
 generalize w3.alloc (.cells (ints .u8 64 (keysF (s) (PS))) 49) = w4 at *
 generalize w3.heap.size = gq at *
 have lfs := lt_of_objAt fs
 have lfp := lt_of_objAt fp
 have lfq := lt_of_objAt fq
 go_wp2_with fail
 refine (cC _ (HP.out.later hG) (hTT.out.later hG)).mono ?_
 rintro e w5 ⟨ol, cl, rfl, -, hKl, hb⟩
 replace fs : objAt w5 (w.heap.size) = some (.cells (ints .u8 32 (s)) 47) := keep_below hb fs
 replace lfs := lt_of_objAt fs
 replace fp : objAt w5 (w.heap.size + 1) = some (.cells (ints .u8 64 (keysF (x) (z))) 49) := keep_below hb fp
 replace lfp := lt_of_objAt fp
 replace fq : objAt w5 (gq) = some (.cells (ints .u8 64 (keysF (s) (PS))) 49) := keep_below hb fq
 replace lfq := lt_of_objAt fq
 replace hG : Below w.heap.size w w5 := Grew.trans hG hb
 have HKl : Hid (K32At w5 ol (n + 1) S) := hKl
 clear hKl
 clear hb cC cO aw
 have HF : Hid (∀ w' : World, Below w5.heap.size w5 w' → objAt w' (w.heap.size) = some (.cells (ints .u8 32 (s)) 47) ∧ objAt w' (w.heap.size + 1) = some (.cells (ints .u8 64 (keysF (x) (z))) 49) ∧ objAt w' (gq) = some (.cells (ints .u8 64 (keysF (s) (PS))) 49) ∧ K32At w' ol (n + 1) S ∧ Below w.heap.size w w') := fun w' hb => ⟨keep_below hb fs, keep_below hb fp, keep_below hb fq, HKl.out.later hb, Grew.trans hG hb⟩
 have HPP : Hid (∀ w' : World, Below w5.heap.size w5 w' → K32At w' oa n P) := fun w' hb => HP.out.later (Grew.trans hG hb)
 go_wp2_with fail
 apply cut_at (fun oq cq ow cw w9 => K32At w9 ow (n + 1) S ∧ Below w5.heap.size w5 w9)
 ·intro cont
  refine wp_region_any (by kernel_rfl) ?_
  rw [show ({ w5 with drawn := w5.drawn + 1 } : World) = more w5 ⟨w5.drawn + 1, #[]⟩ from by simp [more]]
  generalize (⟨w5.drawn + 1, #[]⟩ : More) = m8
  refine tail_two (i := 0) (j := 1) (fuel := 8) (by kernel_rfl) rfl rfl ?_ ?_
  ·intro K hK
   go_simp
   refine hK _ _ ?_
   clear hK K
   refine tail_one (i := 1) (fuel := 7) (by kernel_rfl) rfl ?_
   intro K hK
   go_simp
   refine hK _ _ ?_
   clear hK K
   refine tail_one (i := 2) (fuel := 6) (by kernel_rfl) rfl ?_
   intro K hK
   go_simp
   refine (cK _ (HPP.out _ (below_more _ _))).mono ?_
   rintro e9 w9 ⟨oq, cq, rfl, hKq, hb9⟩
   obtain ⟨m9, rfl⟩ := more_of_below hb9
   clear hb9
   refine hK _ _ ?_
   clear hK K
   refine tail_one (i := 3) (fuel := 5) (by kernel_rfl) rfl ?_
   intro K hK
   go_simp
   refine (cD _ _ _ hKq).mono ?_
   rintro e9 w9 ⟨ow, cw, rfl, -, hKw, hb9⟩
   obtain ⟨m10, rfl⟩ := more_of_below hb9
   clear hb9
   refine hK _ _ ?_
   clear hK K
   refine tail_one (i := 4) (fuel := 4) (by kernel_rfl) rfl ?_
   intro K hK
   go_simp
   refine hK _ _ ?_
   clear hK K
   refine tail_two (i := 5) (j := 6) (fuel := 3) (by kernel_rfl) rfl rfl ?_ ?_
   ·intro K hK
    go_simp
    refine hK _ _ ?_
    clear hK K
    refine tail_two (i := 6) (j := 7) (fuel := 2) (by kernel_rfl) rfl rfl ?_ ?_
    ·intro K hK
     go_simp
     refine hK _ _ ?_
     clear hK K
     refine tail_one (i := 7) (fuel := 1) (by kernel_rfl) rfl ?_
     intro K hK
     go_simp
     refine hK _ _ ?_
     clear hK K
     refine tail_one (i := 8) (fuel := 0) (by kernel_rfl) rfl ?_
     intro K hK
     go_simp
     refine hK _ _ ?_
     clear hK K
     refine wpAny_done (by kernel_rfl) ?_ _
     exact cont oq cq ow cw _ ⟨hKw, Grew.more (Grew.more (Grew.more (Grew.refl _) _) _) _⟩
    ·intro K hK
     go_simp
     refine hK _ _ ?_
     clear hK K
     refine tail_one (i := 6) (fuel := 1) (by kernel_rfl) rfl ?_
     intro K hK
     go_simp
     refine hK _ _ ?_
     clear hK K
     refine tail_one (i := 8) (fuel := 0) (by kernel_rfl) rfl ?_
     intro K hK
     go_simp
     refine hK _ _ ?_
     clear hK K
     refine wpAny_done (by kernel_rfl) ?_ _
     exact cont oq cq ow cw _ ⟨hKw, Grew.more (Grew.more (Grew.more (Grew.refl _) _) _) _⟩
   ·intro K hK
    go_simp
    refine hK _ _ ?_
    clear hK K
    refine tail_one (i := 5) (fuel := 2) (by kernel_rfl) rfl ?_
    intro K hK
    go_simp
    refine hK _ _ ?_
    clear hK K
    refine tail_one (i := 7) (fuel := 1) (by kernel_rfl) rfl ?_
    intro K hK
    go_simp
    refine hK _ _ ?_
    clear hK K
    refine tail_one (i := 8) (fuel := 0) (by kernel_rfl) rfl ?_
    intro K hK
    go_simp
    refine hK _ _ ?_
    clear hK K
    refine wpAny_done (by kernel_rfl) ?_ _
    exact cont oq cq ow cw _ ⟨hKw, Grew.more (Grew.more (Grew.more (Grew.refl _) _) _) _⟩
  ·intro K hK
   go_simp
   refine hK _ _ ?_
   clear hK K
   refine tail_two (i := 0) (j := 2) (fuel := 7) (by kernel_rfl) rfl rfl ?_ ?_
   ·intro K hK
    go_simp
    refine hK _ _ ?_
    clear hK K
    refine tail_one (i := 2) (fuel := 6) (by kernel_rfl) rfl ?_
    intro K hK
    go_simp
    refine (cK _ (HPP.out _ (below_more _ _))).mono ?_
    rintro e9 w9 ⟨oq, cq, rfl, hKq, hb9⟩
    obtain ⟨m9, rfl⟩ := more_of_below hb9
    clear hb9
    refine hK _ _ ?_
    clear hK K
    refine tail_one (i := 3) (fuel := 5) (by kernel_rfl) rfl ?_
    intro K hK
    go_simp
    refine (cD _ _ _ hKq).mono ?_
    rintro e9 w9 ⟨ow, cw, rfl, -, hKw, hb9⟩
    obtain ⟨m10, rfl⟩ := more_of_below hb9
    clear hb9
    refine hK _ _ ?_
    clear hK K
    refine tail_one (i := 4) (fuel := 4) (by kernel_rfl) rfl ?_
    intro K hK
    go_simp
    refine hK _ _ ?_
    clear hK K
    refine tail_two (i := 5) (j := 6) (fuel := 3) (by kernel_rfl) rfl rfl ?_ ?_
    ·intro K hK
     go_simp
     refine hK _ _ ?_
     clear hK K
     refine tail_two (i := 6) (j := 7) (fuel := 2) (by kernel_rfl) rfl rfl ?_ ?_
     ·intro K hK
      go_simp
      refine hK _ _ ?_
      clear hK K
      refine tail_one (i := 7) (fuel := 1) (by kernel_rfl) rfl ?_
      intro K hK
      go_simp
      refine hK _ _ ?_
      clear hK K
      refine tail_one (i := 8) (fuel := 0) (by kernel_rfl) rfl ?_
      intro K hK
      go_simp
      refine hK _ _ ?_
      clear hK K
      refine wpAny_done (by kernel_rfl) ?_ _
      exact cont oq cq ow cw _ ⟨hKw, Grew.more (Grew.more (Grew.more (Grew.refl _) _) _) _⟩
     ·intro K hK
      go_simp
      refine hK _ _ ?_
      clear hK K
      refine tail_one (i := 6) (fuel := 1) (by kernel_rfl) rfl ?_
      intro K hK
      go_simp
      refine hK _ _ ?_
      clear hK K
      refine tail_one (i := 8) (fuel := 0) (by kernel_rfl) rfl ?_
      intro K hK
      go_simp
      refine hK _ _ ?_
      clear hK K
      refine wpAny_done (by kernel_rfl) ?_ _
      exact cont oq cq ow cw _ ⟨hKw, Grew.more (Grew.more (Grew.more (Grew.refl _) _) _) _⟩
    ·intro K hK
     go_simp
     refine hK _ _ ?_
     clear hK K
     refine tail_one (i := 5) (fuel := 2) (by kernel_rfl) rfl ?_
     intro K hK
     go_simp
     refine hK _ _ ?_
     clear hK K
     refine tail_one (i := 7) (fuel := 1) (by kernel_rfl) rfl ?_
     intro K hK
     go_simp
     refine hK _ _ ?_
     clear hK K
     refine tail_one (i := 8) (fuel := 0) (by kernel_rfl) rfl ?_
     intro K hK
     go_simp
     refine hK _ _ ?_
     clear hK K
     refine wpAny_done (by kernel_rfl) ?_ _
     exact cont oq cq ow cw _ ⟨hKw, Grew.more (Grew.more (Grew.more (Grew.refl _) _) _) _⟩
   ·intro K hK
    go_simp
    refine (cK _ (HPP.out _ (below_more _ _))).mono ?_
    rintro e9 w9 ⟨oq, cq, rfl, hKq, hb9⟩
    obtain ⟨m9, rfl⟩ := more_of_below hb9
    clear hb9
    refine hK _ _ ?_
    clear hK K
    refine tail_one (i := 0) (fuel := 6) (by kernel_rfl) rfl ?_
    intro K hK
    go_simp
    refine hK _ _ ?_
    clear hK K
    refine tail_one (i := 3) (fuel := 5) (by kernel_rfl) rfl ?_
    intro K hK
    go_simp
    refine (cD _ _ _ hKq).mono ?_
    rintro e9 w9 ⟨ow, cw, rfl, -, hKw, hb9⟩
    obtain ⟨m10, rfl⟩ := more_of_below hb9
    clear hb9
    refine hK _ _ ?_
    clear hK K
    refine tail_one (i := 4) (fuel := 4) (by kernel_rfl) rfl ?_
    intro K hK
    go_simp
    refine hK _ _ ?_
    clear hK K
    refine tail_two (i := 5) (j := 6) (fuel := 3) (by kernel_rfl) rfl rfl ?_ ?_
    ·intro K hK
     go_simp
     refine hK _ _ ?_
     clear hK K
     refine tail_two (i := 6) (j := 7) (fuel := 2) (by kernel_rfl) rfl rfl ?_ ?_
     ·intro K hK
      go_simp
      refine hK _ _ ?_
      clear hK K
      refine tail_one (i := 7) (fuel := 1) (by kernel_rfl) rfl ?_
      intro K hK
      go_simp
      refine hK _ _ ?_
      clear hK K
      refine tail_one (i := 8) (fuel := 0) (by kernel_rfl) rfl ?_
      intro K hK
      go_simp
      refine hK _ _ ?_
      clear hK K
      refine wpAny_done (by kernel_rfl) ?_ _
      exact cont oq cq ow cw _ ⟨hKw, Grew.more (Grew.more (Grew.more (Grew.refl _) _) _) _⟩
     ·intro K hK
      go_simp
      refine hK _ _ ?_
      clear hK K
      refine tail_one (i := 6) (fuel := 1) (by kernel_rfl) rfl ?_
      intro K hK
      go_simp
      refine hK _ _ ?_
      clear hK K
      refine tail_one (i := 8) (fuel := 0) (by kernel_rfl) rfl ?_
      intro K hK
      go_simp
      refine hK _ _ ?_
      clear hK K
      refine wpAny_done (by kernel_rfl) ?_ _
      exact cont oq cq ow cw _ ⟨hKw, Grew.more (Grew.more (Grew.more (Grew.refl _) _) _) _⟩
    ·intro K hK
     go_simp
     refine hK _ _ ?_
     clear hK K
     refine tail_one (i := 5) (fuel := 2) (by kernel_rfl) rfl ?_
     intro K hK
     go_simp
     refine hK _ _ ?_
     clear hK K
     refine tail_one (i := 7) (fuel := 1) (by kernel_rfl) rfl ?_
     intro K hK
     go_simp
     refine hK _ _ ?_
     clear hK K
     refine tail_one (i := 8) (fuel := 0) (by kernel_rfl) rfl ?_
     intro K hK
     go_simp
     refine hK _ _ ?_
     clear hK K
     refine wpAny_done (by kernel_rfl) ?_ _
     exact cont oq cq ow cw _ ⟨hKw, Grew.more (Grew.more (Grew.more (Grew.refl _) _) _) _⟩
 intro oq cq ow cw w9 hX9
 obtain ⟨hKw, hb9⟩ := hX9
 replace fs : objAt w9 (w.heap.size) = some (.cells (ints .u8 32 (s)) 47) := keep_below hb9 fs
 replace lfs := lt_of_objAt fs
 replace fp : objAt w9 (w.heap.size + 1) = some (.cells (ints .u8 64 (keysF (x) (z))) 49) := keep_below hb9 fp
 replace lfp := lt_of_objAt fp
 replace fq : objAt w9 (gq) = some (.cells (ints .u8 64 (keysF (s) (PS))) 49) := keep_below hb9 fq
 replace lfq := lt_of_objAt fq
 replace hG : Below w.heap.size w w9 := Grew.trans hG hb9
 have HKw : Hid (K32At w9 ow (n + 1) S) := hKw
 replace HKl : Hid (K32At w9 ol (n + 1) S) := HKl.out.later hb9
 clear HF HPP HP hb9 cK cD hKw
 have hbk : Below w9.heap.size w9 w9 := Grew.refl _
 clear hbk
 go_wp2_with fail
 refine (cU _ (hTT.out.later hG)).mono ?_
 rintro e w41 ⟨rfl, hb⟩
 replace fs : objAt w41 (w.heap.size) = some (.cells (ints .u8 32 (s)) 47) := keep_below hb fs
 replace lfs := lt_of_objAt fs
 replace fp : objAt w41 (w.heap.size + 1) = some (.cells (ints .u8 64 (keysF (x) (z))) 49) := keep_below hb fp
 replace lfp := lt_of_objAt fp
 replace fq : objAt w41 (gq) = some (.cells (ints .u8 64 (keysF (s) (PS))) 49) := keep_below hb fq
 replace lfq := lt_of_objAt fq
 replace hG : Below w.heap.size w w41 := Grew.trans hG hb
 replace HKl : Hid (K32At w41 ol (n + 1) S) := HKl.out.later hb
 replace HKw : Hid (K32At w41 ow (n + 1) S) := HKw.out.later hb
 clear hb
 replace HKl : Hid (K32At (w41.alloc (.cells (ints .u8 32 (K1)) 47)) ol (n + 1) S) := HKl.out.later (Grew.alloc (Grew.refl _) _)
 replace HKw : Hid (K32At (w41.alloc (.cells (ints .u8 32 (K1)) 47)) ow (n + 1) S) := HKw.out.later (Grew.alloc (Grew.refl _) _)
 go_wp2_with fail
 have fk : objAt (w41.alloc (.cells (ints .u8 32 (K1)) 47)) w41.heap.size = some (.cells (ints .u8 32 (K1)) 47) := objAt_alloc_at _ _ _ rfl
 replace fs : objAt (w41.alloc (.cells (ints .u8 32 (K1)) 47)) (w.heap.size) = some (.cells (ints .u8 32 (s)) 47) := keep_alloc _ fs
 replace fp : objAt (w41.alloc (.cells (ints .u8 32 (K1)) 47)) (w.heap.size + 1) = some (.cells (ints .u8 64 (keysF (x) (z))) 49) := keep_alloc _ fp
 replace fq : objAt (w41.alloc (.cells (ints .u8 32 (K1)) 47)) (gq) = some (.cells (ints .u8 64 (keysF (s) (PS))) 49) := keep_alloc _ fq
 replace hG : Below w.heap.size w (w41.alloc (.cells (ints .u8 32 (K1)) 47)) := Grew.alloc hG _
 clear lfs lfp lfq
 generalize w41.alloc (.cells (ints .u8 32 (K1)) 47) = w42 at *
 generalize w41.heap.size = gk at *
 have lfs := lt_of_objAt fs
 have lfp := lt_of_objAt fp
 have lfq := lt_of_objAt fq
 have lfk := lt_of_objAt fk
 go_wp2_with fail
 refine (cV _).mono ?_
 rintro e w43 ⟨rfl, hb⟩
 replace fs : objAt w43 (w.heap.size) = some (.cells (ints .u8 32 (s)) 47) := keep_below hb fs
 replace lfs := lt_of_objAt fs
 replace fp : objAt w43 (w.heap.size + 1) = some (.cells (ints .u8 64 (keysF (x) (z))) 49) := keep_below hb fp
 replace lfp := lt_of_objAt fp
 replace fq : objAt w43 (gq) = some (.cells (ints .u8 64 (keysF (s) (PS))) 49) := keep_below hb fq
 replace lfq := lt_of_objAt fq
 replace fk : objAt w43 (gk) = some (.cells (ints .u8 32 (K1)) 47) := keep_below hb fk
 replace lfk := lt_of_objAt fk
 replace hG : Below w.heap.size w w43 := Grew.trans hG hb
 replace HKl : Hid (K32At w43 ol (n + 1) S) := HKl.out.later hb
 replace HKw : Hid (K32At w43 ow (n + 1) S) := HKw.out.later hb
 clear hb
 replace HKl : Hid (K32At (w43.alloc (.cells (ints .u8 32 (K1)) 46)) ol (n + 1) S) := HKl.out.later (Grew.alloc (Grew.refl _) _)
 replace HKw : Hid (K32At (w43.alloc (.cells (ints .u8 32 (K1)) 46)) ow (n + 1) S) := HKw.out.later (Grew.alloc (Grew.refl _) _)
 go_wp2_with fail
 have fr : objAt (w43.alloc (.cells (ints .u8 32 (K1)) 46)) w43.heap.size = some (.cells (ints .u8 32 (K1)) 46) := objAt_alloc_at _ _ _ rfl
 replace fs : objAt (w43.alloc (.cells (ints .u8 32 (K1)) 46)) (w.heap.size) = some (.cells (ints .u8 32 (s)) 47) := keep_alloc _ fs
 replace fp : objAt (w43.alloc (.cells (ints .u8 32 (K1)) 46)) (w.heap.size + 1) = some (.cells (ints .u8 64 (keysF (x) (z))) 49) := keep_alloc _ fp
 replace fq : objAt (w43.alloc (.cells (ints .u8 32 (K1)) 46)) (gq) = some (.cells (ints .u8 64 (keysF (s) (PS))) 49) := keep_alloc _ fq
 replace fk : objAt (w43.alloc (.cells (ints .u8 32 (K1)) 46)) (gk) = some (.cells (ints .u8 32 (K1)) 47) := keep_alloc _ fk
 replace hG : Below w.heap.size w (w43.alloc (.cells (ints .u8 32 (K1)) 46)) := Grew.alloc hG _
 clear lfs lfp lfq lfk
 generalize w43.alloc (.cells (ints .u8 32 (K1)) 46) = w44 at *
 generalize w43.heap.size = gr at *
 have lfs := lt_of_objAt fs
 have lfp := lt_of_objAt fp
 have lfq := lt_of_objAt fq
 have lfk := lt_of_objAt fk
 have lfr := lt_of_objAt fr
 have cS := fun q : More => same12_any ol ow (n + 1) cl cw S (more w44 q) (by omega) (HKl.out.later (below_more _ _)) (HKw.out.later (below_more _ _))
 clear cU cV
 go_wp2_with fail
 ((first | (with_reducible refine wp_region_on (by kernel_rfl) (by kernel_rfl) ?_) | refine wp_region_more (by kernel_rfl) (by kernel_rfl) ?_); (repeat (first | go_big_quiet_skip | (go_big_quiet_want; go_big_quiet_op; first | go_big_quiet_on | (apply Exists.intro; refine ⟨fun _ => ?_, ?_⟩; (focus (first | (with_reducible exact Calls.of_more (cB _)) | (with_reducible exact Calls.of_more (cX _)) | (with_reducible exact Calls.of_more (cR _)) | (with_reducible exact Calls.of_more (cQ _)) | (with_reducible exact Calls.of_more (cS _)))); go_big_quiet_on)))); refine wpQuiet_nil ?_; rintro _ ⟨mq, rfl⟩)
 have hGx : Below w.heap.size w (more w44 mq) := Grew.more hG mq
 generalize more w44 mq = wx at *
 go_wp2
 go_ret
 exact ⟨rfl, hGx⟩
theorem makes12_no (s x z PS PX K1 : Nat → Int) (bR b1 : Bool) (P S : Nat → Nat → Int) (oa : Option Addr) (n c : Nat) (w : World) (hT : Tabs w) (hn : n ≤ 5) (hP : K32At w oa n P)
  (cO : ∀ W : World, Calls Tryz.prog 27 #[.agg (ints .u8 32 s)] W fun e w' => e = .returned (.agg (ints .u8 64 (keysF s PS))) ∧ Below W.heap.size W w')
  (cB : ∀ W : World, Calls Tryz.prog 33 #[.agg (ints .u8 32 s)] W fun e w' => e = .returned (.agg (ints .u8 32 PS)) ∧ Below W.heap.size W w')
  (cX : ∀ W : World, Calls Tryz.prog 33 #[.agg (ints .u8 32 x)] W fun e w' => e = .returned (.agg (ints .u8 32 PX)) ∧ Below W.heap.size W w')
  (cR : ∀ W : World, Calls Tryz.prog 34 #[.agg (ints .u8 64 (keysF s PS))] W fun e w' => e = .returned (.bool true) ∧ Below W.heap.size W w')
  (cQ : ∀ W : World, Calls Tryz.prog 34 #[.agg (ints .u8 64 (keysF x z))] W fun e w' => e = .returned (.bool bR) ∧ Below W.heap.size W w')
  (hbR : same 32 z PX = bR)
  (cU : ∀ W : World, Tabs W → Calls Tryz.prog 31 #[.agg (ints .u8 32 s), .agg (ints .u8 32 z)] W fun e w' => e = .returned (.tuple #[.agg (ints .u8 32 K1), .bool b1]) ∧ Below W.heap.size W w')
  (cV : ∀ W : World, Calls Tryz.prog 32 #[.agg (ints .u8 32 s), .agg (ints .u8 32 z)] W fun e w' => e = .returned (.tuple #[.agg (ints .u8 32 K1), .bool b1]) ∧ Below W.heap.size W w')
  (cK : ∀ W : World, K32At W oa n P → Calls Tryz.prog 30 #[.slice oa n c] W (RetK32 W n P))
  (cC : ∀ W : World, K32At W oa n P → Tabs W → Calls Tryz.prog 28 #[.agg (ints .u8 32 s), .slice oa n c] W fun e w' => e = .returned (.tuple #[.slice none 0 0, .bool false]) ∧ Below W.heap.size W w')
  (cD : ∀ (oq : Option Addr) (cq : Nat) (W : World), K32At W oq n P → Calls Tryz.prog 29 #[.agg (ints .u8 32 s), .slice oq n cq] W fun e w' => e = .returned (.tuple #[.slice none 0 0, .bool false]) ∧ Below W.heap.size W w')
  (aw : ∀ W : World, Tabs W → Calls Tryz.prog 26 #[] W fun e w' => e = .returned (.bool true) ∧ Below W.heap.size W w') :
  Calls Tryz.prog 6 #[.agg (ints .u8 32 s), .agg (ints .u8 64 (keysF x z)), .slice oa n c] w fun e w' => e = .returned (.bool true) ∧ Below w.heap.size w w' := by
 have hTT : Hid (Tabs w) := hT
 have HP : Hid (K32At w oa n P) := hP
 clear hT hP
 have hm0 := same_refl 32 s
 have hm1 := same_refl 32 PS
 have hm2 := same_refl 32 K1
 have hni : (n : Int) ≤ 5 := by omega
 have hG := Grew.refl w
 have fs : True := trivial
 have fp : True := trivial
 go_enter Tryz.func6, Tryz.ntmps6
 go_wp2_with fail
 replace fs : objAt ((w.alloc (.cells (ints .u8 32 (s)) 47)).alloc (.cells (ints .u8 64 (keysF (x) (z))) 49)) (w.heap.size) = some (.cells (ints .u8 32 (s)) 47) := by exact keep_auto
 replace fp : objAt ((w.alloc (.cells (ints .u8 32 (s)) 47)).alloc (.cells (ints .u8 64 (keysF (x) (z))) 49)) (w.heap.size + 1) = some (.cells (ints .u8 64 (keysF (x) (z))) 49) := by exact keep_auto
 replace hG : Below w.heap.size w ((w.alloc (.cells (ints .u8 32 (s)) 47)).alloc (.cells (ints .u8 64 (keysF (x) (z))) 49)) := by exact grew_auto
 generalize (w.alloc (.cells (ints .u8 32 (s)) 47)).alloc (.cells (ints .u8 64 (keysF (x) (z))) 49) = w1 at *
 have lfs := lt_of_objAt fs
 have lfp := lt_of_objAt fp
 go_wp2_with fail
 (refine (aw _ (hTT.out.later hG)).mono ?_; rintro e w2 ⟨rfl, hb⟩; replace fs : objAt w2 (w.heap.size) = some (.cells (ints .u8 32 (s)) 47) := keep_below hb (by exact keep_auto); have lfs := lt_of_objAt fs; replace fp : objAt w2 (w.heap.size + 1) = some (.cells (ints .u8 64 (keysF (x) (z))) 49) := keep_below hb (by exact keep_auto); have lfp := lt_of_objAt fp; replace hG : Below w.heap.size w w2 := Grew.trans (by exact grew_auto) hb; clear hb)
 go_wp2_with fail
 (refine (cO _).mono ?_; rintro e w3 ⟨rfl, hb⟩; replace fs : objAt w3 (w.heap.size) = some (.cells (ints .u8 32 (s)) 47) := keep_below hb (by exact keep_auto); have lfs := lt_of_objAt fs; replace fp : objAt w3 (w.heap.size + 1) = some (.cells (ints .u8 64 (keysF (x) (z))) 49) := keep_below hb (by exact keep_auto); have lfp := lt_of_objAt fp; replace hG : Below w.heap.size w w3 := Grew.trans (by exact grew_auto) hb; clear hb)
 go_wp2_with fail
 have fq : objAt (w3.alloc (.cells (ints .u8 64 (keysF (s) (PS))) 49)) w3.heap.size = some (.cells (ints .u8 64 (keysF (s) (PS))) 49) := objAt_alloc_at _ _ _ rfl
 replace fs : objAt (w3.alloc (.cells (ints .u8 64 (keysF (s) (PS))) 49)) (w.heap.size) = some (.cells (ints .u8 32 (s)) 47) := keep_alloc _ fs
 replace fp : objAt (w3.alloc (.cells (ints .u8 64 (keysF (s) (PS))) 49)) (w.heap.size + 1) = some (.cells (ints .u8 64 (keysF (x) (z))) 49) := keep_alloc _ fp
 replace hG : Below w.heap.size w (w3.alloc (.cells (ints .u8 64 (keysF (s) (PS))) 49)) := Grew.alloc hG _
 clear lfs lfp
 generalize w3.alloc (.cells (ints .u8 64 (keysF (s) (PS))) 49) = w4 at *
 generalize w3.heap.size = gq at *
 have lfs := lt_of_objAt fs
 have lfp := lt_of_objAt fp
 have lfq := lt_of_objAt fq
 go_wp2_with fail
 refine (cC _ (HP.out.later hG) (hTT.out.later hG)).mono ?_
 rintro e w5 ⟨rfl, hb⟩
 replace fs : objAt w5 (w.heap.size) = some (.cells (ints .u8 32 (s)) 47) := keep_below hb fs
 replace lfs := lt_of_objAt fs
 replace fp : objAt w5 (w.heap.size + 1) = some (.cells (ints .u8 64 (keysF (x) (z))) 49) := keep_below hb fp
 replace lfp := lt_of_objAt fp
 replace fq : objAt w5 (gq) = some (.cells (ints .u8 64 (keysF (s) (PS))) 49) := keep_below hb fq
 replace lfq := lt_of_objAt fq
 replace hG : Below w.heap.size w w5 := Grew.trans hG hb
 clear hb cC cO aw
 have HF : Hid (∀ w' : World, Below w5.heap.size w5 w' → objAt w' (w.heap.size) = some (.cells (ints .u8 32 (s)) 47) ∧ objAt w' (w.heap.size + 1) = some (.cells (ints .u8 64 (keysF (x) (z))) 49) ∧ objAt w' (gq) = some (.cells (ints .u8 64 (keysF (s) (PS))) 49) ∧ Below w.heap.size w w') := fun w' hb => ⟨keep_below hb fs, keep_below hb fp, keep_below hb fq, Grew.trans hG hb⟩
 have HPP : Hid (∀ w' : World, Below w5.heap.size w5 w' → K32At w' oa n P) := fun w' hb => HP.out.later (Grew.trans hG hb)
 go_wp2_with fail
 apply cut_at (fun oq cq ow cw w9 => Below w5.heap.size w5 w9)
 ·intro cont
  refine wp_region_any (by kernel_rfl) ?_
  rw [show ({ w5 with drawn := w5.drawn + 1 } : World) = more w5 ⟨w5.drawn + 1, #[]⟩ from by simp [more]]
  generalize (⟨w5.drawn + 1, #[]⟩ : More) = m8
  refine tail_two (i := 0) (j := 1) (fuel := 8) (by kernel_rfl) rfl rfl ?_ ?_
  ·intro K hK
   go_simp
   refine hK _ _ ?_
   clear hK K
   refine tail_one (i := 1) (fuel := 7) (by kernel_rfl) rfl ?_
   intro K hK
   go_simp
   refine hK _ _ ?_
   clear hK K
   refine tail_one (i := 2) (fuel := 6) (by kernel_rfl) rfl ?_
   intro K hK
   go_simp
   refine (cK _ (HPP.out _ (below_more _ _))).mono ?_
   rintro e9 w9 ⟨oq, cq, rfl, hKq, hb9⟩
   obtain ⟨m9, rfl⟩ := more_of_below hb9
   clear hb9
   refine hK _ _ ?_
   clear hK K
   refine tail_one (i := 3) (fuel := 5) (by kernel_rfl) rfl ?_
   intro K hK
   go_simp
   refine (cD _ _ _ hKq).mono ?_
   rintro e9 w9 ⟨rfl, hb9⟩
   obtain ⟨m10, rfl⟩ := more_of_below hb9
   clear hb9
   obtain ⟨ow, cw, -⟩ : ∃ (ow : Option Addr) (cw : Nat), True := ⟨none, 0, trivial⟩
   refine hK _ _ ?_
   clear hK K
   refine tail_one (i := 4) (fuel := 4) (by kernel_rfl) rfl ?_
   intro K hK
   go_simp
   refine hK _ _ ?_
   clear hK K
   refine tail_two (i := 5) (j := 6) (fuel := 3) (by kernel_rfl) rfl rfl ?_ ?_
   ·intro K hK
    go_simp
    refine hK _ _ ?_
    clear hK K
    refine tail_two (i := 6) (j := 7) (fuel := 2) (by kernel_rfl) rfl rfl ?_ ?_
    ·intro K hK
     go_simp
     refine hK _ _ ?_
     clear hK K
     refine tail_one (i := 7) (fuel := 1) (by kernel_rfl) rfl ?_
     intro K hK
     go_simp
     refine hK _ _ ?_
     clear hK K
     refine tail_one (i := 8) (fuel := 0) (by kernel_rfl) rfl ?_
     intro K hK
     go_simp
     refine hK _ _ ?_
     clear hK K
     refine wpAny_done (by kernel_rfl) ?_ _
     exact cont oq cq ow cw _ (Grew.more (Grew.more (Grew.more (Grew.refl _) _) _) _)
    ·intro K hK
     go_simp
     refine hK _ _ ?_
     clear hK K
     refine tail_one (i := 6) (fuel := 1) (by kernel_rfl) rfl ?_
     intro K hK
     go_simp
     refine hK _ _ ?_
     clear hK K
     refine tail_one (i := 8) (fuel := 0) (by kernel_rfl) rfl ?_
     intro K hK
     go_simp
     refine hK _ _ ?_
     clear hK K
     refine wpAny_done (by kernel_rfl) ?_ _
     exact cont oq cq ow cw _ (Grew.more (Grew.more (Grew.more (Grew.refl _) _) _) _)
   ·intro K hK
    go_simp
    refine hK _ _ ?_
    clear hK K
    refine tail_one (i := 5) (fuel := 2) (by kernel_rfl) rfl ?_
    intro K hK
    go_simp
    refine hK _ _ ?_
    clear hK K
    refine tail_one (i := 7) (fuel := 1) (by kernel_rfl) rfl ?_
    intro K hK
    go_simp
    refine hK _ _ ?_
    clear hK K
    refine tail_one (i := 8) (fuel := 0) (by kernel_rfl) rfl ?_
    intro K hK
    go_simp
    refine hK _ _ ?_
    clear hK K
    refine wpAny_done (by kernel_rfl) ?_ _
    exact cont oq cq ow cw _ (Grew.more (Grew.more (Grew.more (Grew.refl _) _) _) _)
  ·intro K hK
   go_simp
   refine hK _ _ ?_
   clear hK K
   refine tail_two (i := 0) (j := 2) (fuel := 7) (by kernel_rfl) rfl rfl ?_ ?_
   ·intro K hK
    go_simp
    refine hK _ _ ?_
    clear hK K
    refine tail_one (i := 2) (fuel := 6) (by kernel_rfl) rfl ?_
    intro K hK
    go_simp
    refine (cK _ (HPP.out _ (below_more _ _))).mono ?_
    rintro e9 w9 ⟨oq, cq, rfl, hKq, hb9⟩
    obtain ⟨m9, rfl⟩ := more_of_below hb9
    clear hb9
    refine hK _ _ ?_
    clear hK K
    refine tail_one (i := 3) (fuel := 5) (by kernel_rfl) rfl ?_
    intro K hK
    go_simp
    refine (cD _ _ _ hKq).mono ?_
    rintro e9 w9 ⟨rfl, hb9⟩
    obtain ⟨m10, rfl⟩ := more_of_below hb9
    clear hb9
    obtain ⟨ow, cw, -⟩ : ∃ (ow : Option Addr) (cw : Nat), True := ⟨none, 0, trivial⟩
    refine hK _ _ ?_
    clear hK K
    refine tail_one (i := 4) (fuel := 4) (by kernel_rfl) rfl ?_
    intro K hK
    go_simp
    refine hK _ _ ?_
    clear hK K
    refine tail_two (i := 5) (j := 6) (fuel := 3) (by kernel_rfl) rfl rfl ?_ ?_
    ·intro K hK
     go_simp
     refine hK _ _ ?_
     clear hK K
     refine tail_two (i := 6) (j := 7) (fuel := 2) (by kernel_rfl) rfl rfl ?_ ?_
     ·intro K hK
      go_simp
      refine hK _ _ ?_
      clear hK K
      refine tail_one (i := 7) (fuel := 1) (by kernel_rfl) rfl ?_
      intro K hK
      go_simp
      refine hK _ _ ?_
      clear hK K
      refine tail_one (i := 8) (fuel := 0) (by kernel_rfl) rfl ?_
      intro K hK
      go_simp
      refine hK _ _ ?_
      clear hK K
      refine wpAny_done (by kernel_rfl) ?_ _
      exact cont oq cq ow cw _ (Grew.more (Grew.more (Grew.more (Grew.refl _) _) _) _)
     ·intro K hK
      go_simp
      refine hK _ _ ?_
      clear hK K
      refine tail_one (i := 6) (fuel := 1) (by kernel_rfl) rfl ?_
      intro K hK
      go_simp
      refine hK _ _ ?_
      clear hK K
      refine tail_one (i := 8) (fuel := 0) (by kernel_rfl) rfl ?_
      intro K hK
      go_simp
      refine hK _ _ ?_
      clear hK K
      refine wpAny_done (by kernel_rfl) ?_ _
      exact cont oq cq ow cw _ (Grew.more (Grew.more (Grew.more (Grew.refl _) _) _) _)
    ·intro K hK
     go_simp
     refine hK _ _ ?_
     clear hK K
     refine tail_one (i := 5) (fuel := 2) (by kernel_rfl) rfl ?_
     intro K hK
     go_simp
     refine hK _ _ ?_
     clear hK K
     refine tail_one (i := 7) (fuel := 1) (by kernel_rfl) rfl ?_
     intro K hK
     go_simp
     refine hK _ _ ?_
     clear hK K
     refine tail_one (i := 8) (fuel := 0) (by kernel_rfl) rfl ?_
     intro K hK
     go_simp
     refine hK _ _ ?_
     clear hK K
     refine wpAny_done (by kernel_rfl) ?_ _
     exact cont oq cq ow cw _ (Grew.more (Grew.more (Grew.more (Grew.refl _) _) _) _)
   ·intro K hK
    go_simp
    refine (cK _ (HPP.out _ (below_more _ _))).mono ?_
    rintro e9 w9 ⟨oq, cq, rfl, hKq, hb9⟩
    obtain ⟨m9, rfl⟩ := more_of_below hb9
    clear hb9
    refine hK _ _ ?_
    clear hK K
    refine tail_one (i := 0) (fuel := 6) (by kernel_rfl) rfl ?_
    intro K hK
    go_simp
    refine hK _ _ ?_
    clear hK K
    refine tail_one (i := 3) (fuel := 5) (by kernel_rfl) rfl ?_
    intro K hK
    go_simp
    refine (cD _ _ _ hKq).mono ?_
    rintro e9 w9 ⟨rfl, hb9⟩
    obtain ⟨m10, rfl⟩ := more_of_below hb9
    clear hb9
    obtain ⟨ow, cw, -⟩ : ∃ (ow : Option Addr) (cw : Nat), True := ⟨none, 0, trivial⟩
    refine hK _ _ ?_
    clear hK K
    refine tail_one (i := 4) (fuel := 4) (by kernel_rfl) rfl ?_
    intro K hK
    go_simp
    refine hK _ _ ?_
    clear hK K
    refine tail_two (i := 5) (j := 6) (fuel := 3) (by kernel_rfl) rfl rfl ?_ ?_
    ·intro K hK
     go_simp
     refine hK _ _ ?_
     clear hK K
     refine tail_two (i := 6) (j := 7) (fuel := 2) (by kernel_rfl) rfl rfl ?_ ?_
     ·intro K hK
      go_simp
      refine hK _ _ ?_
      clear hK K
      refine tail_one (i := 7) (fuel := 1) (by kernel_rfl) rfl ?_
      intro K hK
      go_simp
      refine hK _ _ ?_
      clear hK K
      refine tail_one (i := 8) (fuel := 0) (by kernel_rfl) rfl ?_
      intro K hK
      go_simp
      refine hK _ _ ?_
      clear hK K
      refine wpAny_done (by kernel_rfl) ?_ _
      exact cont oq cq ow cw _ (Grew.more (Grew.more (Grew.more (Grew.refl _) _) _) _)
     ·intro K hK
      go_simp
      refine hK _ _ ?_
      clear hK K
      refine tail_one (i := 6) (fuel := 1) (by kernel_rfl) rfl ?_
      intro K hK
      go_simp
      refine hK _ _ ?_
      clear hK K
      refine tail_one (i := 8) (fuel := 0) (by kernel_rfl) rfl ?_
      intro K hK
      go_simp
      refine hK _ _ ?_
      clear hK K
      refine wpAny_done (by kernel_rfl) ?_ _
      exact cont oq cq ow cw _ (Grew.more (Grew.more (Grew.more (Grew.refl _) _) _) _)
    ·intro K hK
     go_simp
     refine hK _ _ ?_
     clear hK K
     refine tail_one (i := 5) (fuel := 2) (by kernel_rfl) rfl ?_
     intro K hK
     go_simp
     refine hK _ _ ?_
     clear hK K
     refine tail_one (i := 7) (fuel := 1) (by kernel_rfl) rfl ?_
     intro K hK
     go_simp
     refine hK _ _ ?_
     clear hK K
     refine tail_one (i := 8) (fuel := 0) (by kernel_rfl) rfl ?_
     intro K hK
     go_simp
     refine hK _ _ ?_
     clear hK K
     refine wpAny_done (by kernel_rfl) ?_ _
     exact cont oq cq ow cw _ (Grew.more (Grew.more (Grew.more (Grew.refl _) _) _) _)
 intro oq cq ow cw w9 hX9
 have hb9 := hX9
 replace fs : objAt w9 (w.heap.size) = some (.cells (ints .u8 32 (s)) 47) := keep_below hb9 fs
 replace lfs := lt_of_objAt fs
 replace fp : objAt w9 (w.heap.size + 1) = some (.cells (ints .u8 64 (keysF (x) (z))) 49) := keep_below hb9 fp
 replace lfp := lt_of_objAt fp
 replace fq : objAt w9 (gq) = some (.cells (ints .u8 64 (keysF (s) (PS))) 49) := keep_below hb9 fq
 replace lfq := lt_of_objAt fq
 replace hG : Below w.heap.size w w9 := Grew.trans hG hb9
 clear HF HPP HP hb9 cK cD hX9
 go_wp2_with fail
 refine (cU _ (hTT.out.later hG)).mono ?_
 rintro e w41 ⟨rfl, hb⟩
 replace fs : objAt w41 (w.heap.size) = some (.cells (ints .u8 32 (s)) 47) := keep_below hb fs
 replace lfs := lt_of_objAt fs
 replace fp : objAt w41 (w.heap.size + 1) = some (.cells (ints .u8 64 (keysF (x) (z))) 49) := keep_below hb fp
 replace lfp := lt_of_objAt fp
 replace fq : objAt w41 (gq) = some (.cells (ints .u8 64 (keysF (s) (PS))) 49) := keep_below hb fq
 replace lfq := lt_of_objAt fq
 replace hG : Below w.heap.size w w41 := Grew.trans hG hb
 clear hb
 go_wp2_with fail
 have fk : objAt (w41.alloc (.cells (ints .u8 32 (K1)) 47)) w41.heap.size = some (.cells (ints .u8 32 (K1)) 47) := objAt_alloc_at _ _ _ rfl
 replace fs : objAt (w41.alloc (.cells (ints .u8 32 (K1)) 47)) (w.heap.size) = some (.cells (ints .u8 32 (s)) 47) := keep_alloc _ fs
 replace fp : objAt (w41.alloc (.cells (ints .u8 32 (K1)) 47)) (w.heap.size + 1) = some (.cells (ints .u8 64 (keysF (x) (z))) 49) := keep_alloc _ fp
 replace fq : objAt (w41.alloc (.cells (ints .u8 32 (K1)) 47)) (gq) = some (.cells (ints .u8 64 (keysF (s) (PS))) 49) := keep_alloc _ fq
 replace hG : Below w.heap.size w (w41.alloc (.cells (ints .u8 32 (K1)) 47)) := Grew.alloc hG _
 clear lfs lfp lfq
 generalize w41.alloc (.cells (ints .u8 32 (K1)) 47) = w42 at *
 generalize w41.heap.size = gk at *
 have lfs := lt_of_objAt fs
 have lfp := lt_of_objAt fp
 have lfq := lt_of_objAt fq
 have lfk := lt_of_objAt fk
 go_wp2_with fail
 refine (cV _).mono ?_
 rintro e w43 ⟨rfl, hb⟩
 replace fs : objAt w43 (w.heap.size) = some (.cells (ints .u8 32 (s)) 47) := keep_below hb fs
 replace lfs := lt_of_objAt fs
 replace fp : objAt w43 (w.heap.size + 1) = some (.cells (ints .u8 64 (keysF (x) (z))) 49) := keep_below hb fp
 replace lfp := lt_of_objAt fp
 replace fq : objAt w43 (gq) = some (.cells (ints .u8 64 (keysF (s) (PS))) 49) := keep_below hb fq
 replace lfq := lt_of_objAt fq
 replace fk : objAt w43 (gk) = some (.cells (ints .u8 32 (K1)) 47) := keep_below hb fk
 replace lfk := lt_of_objAt fk
 replace hG : Below w.heap.size w w43 := Grew.trans hG hb
 clear hb
 go_wp2_with fail
 have fr : objAt (w43.alloc (.cells (ints .u8 32 (K1)) 46)) w43.heap.size = some (.cells (ints .u8 32 (K1)) 46) := objAt_alloc_at _ _ _ rfl
 replace fs : objAt (w43.alloc (.cells (ints .u8 32 (K1)) 46)) (w.heap.size) = some (.cells (ints .u8 32 (s)) 47) := keep_alloc _ fs
 replace fp : objAt (w43.alloc (.cells (ints .u8 32 (K1)) 46)) (w.heap.size + 1) = some (.cells (ints .u8 64 (keysF (x) (z))) 49) := keep_alloc _ fp
 replace fq : objAt (w43.alloc (.cells (ints .u8 32 (K1)) 46)) (gq) = some (.cells (ints .u8 64 (keysF (s) (PS))) 49) := keep_alloc _ fq
 replace fk : objAt (w43.alloc (.cells (ints .u8 32 (K1)) 46)) (gk) = some (.cells (ints .u8 32 (K1)) 47) := keep_alloc _ fk
 replace hG : Below w.heap.size w (w43.alloc (.cells (ints .u8 32 (K1)) 46)) := Grew.alloc hG _
 clear lfs lfp lfq lfk
 generalize w43.alloc (.cells (ints .u8 32 (K1)) 46) = w44 at *
 generalize w43.heap.size = gr at *
 have lfs := lt_of_objAt fs
 have lfp := lt_of_objAt fp
 have lfq := lt_of_objAt fq
 have lfk := lt_of_objAt fk
 have lfr := lt_of_objAt fr
 have cS := fun q : More => same12_any none none 0 0 0 (fun _ => nought) (more w44 q) (by omega) (K32At.nil _ _) (K32At.nil _ _)
 clear cU cV
 go_wp2_with fail
 ((first | (with_reducible refine wp_region_on (by kernel_rfl) (by kernel_rfl) ?_) | refine wp_region_more (by kernel_rfl) (by kernel_rfl) ?_); (repeat (first | go_big_quiet_skip | (go_big_quiet_want; go_big_quiet_op; first | go_big_quiet_on | (apply Exists.intro; refine ⟨fun _ => ?_, ?_⟩; (focus (first | (with_reducible exact Calls.of_more (cB _)) | (with_reducible exact Calls.of_more (cX _)) | (with_reducible exact Calls.of_more (cR _)) | (with_reducible exact Calls.of_more (cQ _)) | (with_reducible exact Calls.of_more (cS _)))); go_big_quiet_on)))); refine wpQuiet_nil ?_; rintro _ ⟨mq, rfl⟩)
 have hGx : Below w.heap.size w (more w44 mq) := Grew.more hG mq
 generalize more w44 mq = wx at *
 go_wp2
 go_ret
 exact ⟨rfl, hGx⟩
theorem makes12_any (pOfC : OfC) (pRightC : RightC) (pUpC : UpC) (pClimbC : ClimbC) (rS : RSharedC) (rB : RBaseC) (aw : ∀ W : World, Tabs W → Calls Tryz.prog 26 #[] W fun e w' => e = .returned (.bool true) ∧ Below W.heap.size W w') (s x z : Nat → Int) (P : Nat → Nat → Int) (oa : Option Addr) (n c : Nat) (w : World) (hs : Bytes 32 s) (hx : Bytes 32 x) (hz : Bytes 32 z) (hn : n ≤ 9223372036854775807) (hP : ∀ i, i < n → Bytes 32 (P i)) (hK : K32At w oa n P) (hT : Tabs w) :
  Calls Tryz.prog 6 #[.agg (ints .u8 32 s), .agg (ints .u8 64 (keysF x z)), .slice oa n c] w fun e w' => e = .returned (.bool true) ∧ Below w.heap.size w w' := by
 by_cases hn5 : n ≤ 5
 case neg =>
  have hTT : Hid (Tabs w) := hT
  have hn6 : (5 : Int) < (n : Int) := by omega
  clear hT hK hP rS rB
  have hG := Grew.refl w
  have fs : True := trivial
  have fp : True := trivial
  go_enter Tryz.func6, Tryz.ntmps6
  go_wp2_with fail
  replace fs : objAt ((w.alloc (.cells (ints .u8 32 (s)) 47)).alloc (.cells (ints .u8 64 (keysF (x) (z))) 49)) (w.heap.size) = some (.cells (ints .u8 32 (s)) 47) := by exact keep_auto
  replace fp : objAt ((w.alloc (.cells (ints .u8 32 (s)) 47)).alloc (.cells (ints .u8 64 (keysF (x) (z))) 49)) (w.heap.size + 1) = some (.cells (ints .u8 64 (keysF (x) (z))) 49) := by exact keep_auto
  replace hG : Below w.heap.size w ((w.alloc (.cells (ints .u8 32 (s)) 47)).alloc (.cells (ints .u8 64 (keysF (x) (z))) 49)) := by exact grew_auto
  generalize (w.alloc (.cells (ints .u8 32 (s)) 47)).alloc (.cells (ints .u8 64 (keysF (x) (z))) 49) = w1 at *
  have lfs := lt_of_objAt fs
  have lfp := lt_of_objAt fp
  go_wp2_with fail
  (refine (aw _ (hTT.out.later hG)).mono ?_; rintro e w2 ⟨rfl, hb⟩; replace fs : objAt w2 (w.heap.size) = some (.cells (ints .u8 32 (s)) 47) := keep_below hb (by exact keep_auto); have lfs := lt_of_objAt fs; replace fp : objAt w2 (w.heap.size + 1) = some (.cells (ints .u8 64 (keysF (x) (z))) 49) := keep_below hb (by exact keep_auto); have lfp := lt_of_objAt fp; replace hG : Below w.heap.size w w2 := Grew.trans (by exact grew_auto) hb; clear hb)
  go_wp2
  go_ret
  exact ⟨rfl, by exact grew_auto⟩
 have cR := fun W : World => pRightC s (keyV (pubV s)) W hs (keyV_bytes _)
 rw [same_refl] at cR
 have k1 := fun W : World => fun h : K32At W oa n P => keys12_any oa n c P W (by omega) h
 cases hz2 : climbOK s P n with
 | true =>
  exact makes12_yes s x z (keyV (pubV s)) (keyV (pubV x)) (upF s z) _ (upOK s z) P (climbS s P) oa n c w hT hn5 hK (fun W => pOfC s W hs) (fun W => rB s W hs) (fun W => rB x W hx) cR (fun W => pRightC x z W hx hz) rfl (fun W h => pUpC s z W hs hz h) (fun W => rup_any rS s z W hs hz) k1
   (fun W h h2 => climb_ok (pClimbC s P oa n c W hs (by omega) hP h h2) hz2) (fun oq cq W h => climb_ok (rclimb_any rS s P oq n cq W hs (by omega) hP h) hz2) aw
 | false =>
  exact makes12_no s x z (keyV (pubV s)) (keyV (pubV x)) (upF s z) _ (upOK s z) P (climbS s P) oa n c w hT hn5 hK (fun W => pOfC s W hs) (fun W => rB s W hs) (fun W => rB x W hx) cR (fun W => pRightC x z W hx hz) rfl (fun W h => pUpC s z W hs hz h) (fun W => rup_any rS s z W hs hz) k1
   (fun W h h2 => climb_no (pClimbC s P oa n c W hs (by omega) hP h h2) hz2) (fun oq cq W h => climb_no (rclimb_any rS s P oq n cq W hs (by omega) hP h) hz2) aw
end Go.Proofs.YtfgbpfapphofdaaGreatDoor
