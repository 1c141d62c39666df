/- What the program's Label, Node, Leaf, Stage, Tag, Past answer. -/
import Derived.Test.YtomoccbljclhlaaGreatDoorL10
import Derived.Test.YtomoccbljclhlaaGreatDoorQ9
namespace Go.Proofs.YtomoccbljclhlaaGreatDoor
open Go.RowKit
set_option linter.unusedVariables false
set_option linter.unusedSimpArgs false

theorem label_is (name secret info : ByteArray) : oneF (strOf 32 (macF name secret)) info = labelF name secret info := rfl
theorem node_is (z : Nat → Int) : labelF ⟨#[115, 97, 112, 119, 111, 111, 100, 32, 110, 111, 100, 101]⟩ (strOf 32 z) (catS (fun _ => ByteArray.empty) 0) = nodeF z := rfl
theorem leaf_is (z : Nat → Int) : labelF ⟨#[115, 97, 112, 119, 111, 111, 100, 32, 108, 101, 97, 102]⟩ (strOf 32 z) (catS (fun _ => ByteArray.empty) 0) = leafF z := rfl
theorem tag_is (z : Nat → Int) : labelF ⟨#[115, 97, 112, 119, 111, 111, 100, 32, 116, 97, 103]⟩ (strOf 32 z) (catS (fun _ => ByteArray.empty) 0) = tagF z := rfl
theorem stage_is (o t p : Nat → Int) : labelF ⟨#[115, 97, 112, 119, 111, 111, 100, 32, 115, 116, 97, 103, 101]⟩ (strOf 32 o ++ strOf 32 t) (strOf 32 p) = stageF o t p := rfl
theorem past_is (o : Nat → Int) (m : ByteArray) : shaF (strOf 32 o ++ m) = pastF o m := rfl
attribute [local irreducible] strOf shaF zerosB padB fullB hashT
attribute [local irreducible] macF
attribute [local irreducible] labelF oneF nodeF leafF tagF stageF pastF
set_option maxRecDepth 100000 in
set_option maxHeartbeats 4000000 in
theorem label_any (name secret : ByteArray) (oa : Option Addr) (n c : Nat) (F : Nat → ByteArray) (w : World) (h1 : name.size ≤ 100000) (h2 : secret.size ≤ 100000) (h3 : (catS F n).size ≤ 100000) (h4 : n ≤ 100000) (hnc : n ≤ c) (hS : StrsAt w oa n F) (hT : Tabs w) :
    Calls Tryz.prog 17 #[.string name, .string secret, .slice oa n c] w fun e w' => e = .returned (.agg (ints .u8 32 (labelF name secret (catS F n)))) ∧ Below w.heap.size w w' := by
  have hTT : Hid (Tabs w) := hT
  have c1 := fun (W : World) (h : Tabs W) => extract_any name secret W h1 h2 h
  have c2 : ∀ W : World, Below w.heap.size w W → Calls Tryz.prog 16 #[.slice oa n c, .string ⟨#[]⟩] W fun e w' => e = .returned (.string (catS F n)) ∧ Below W.heap.size W w' := fun W hW => join_any oa n c F W (hS.later hW) hnc (by omega)
  have c3 : ∀ W : World, Tabs W → Calls Tryz.prog 26 #[.agg (ints .u8 32 (macF name secret)), .string (catS F n)] W fun e w' => e = .returned (.agg (ints .u8 32 (labelF name secret (catS F n)))) ∧ Below W.heap.size W w' := fun W h => by
    have := one_any (macF name secret) (catS F n) W h3 h
    rw [label_is] at this
    exact this
  generalize labelF name secret (catS F n) = L at *
  generalize catS F n = S at *
  generalize macF name secret = M at *
  clear hT hS h1 h2 h3 h4
  have hG := Grew.refl w
  have fr : True := trivial
  go_enter Tryz.func17, Tryz.ntmps17
  go_wp2_with fail
  replace fr : objAt (w.alloc (.cells (ints .u8 32 (nought)) 23)) (w.heap.size) = some (.cells (ints .u8 32 (nought)) 23) := by (repeat (first | assumption | exact objAt_alloc_at _ _ _ rfl | (refine objAt_alloc_at _ _ _ ?_; (simp; done)) | refine keep_alloc _ ?_ | refine keep_drewN _ ?_ | refine keep_more _ ?_ | exact keep_row _ (by assumption) | apply keep_row | refine keep_setRow _ _ ?_ (by first | omega | (simp; omega) | simp)))
  replace hG : Below w.heap.size w (w.alloc (.cells (ints .u8 32 (nought)) 23)) := by (repeat (first | assumption | exact Grew.refl _ | refine Grew.more ?_ _ | refine Grew.alloc ?_ _ | refine Grew.drewN ?_ _ | refine Grew.setRow ?_ _ _ (by omega) | refine Grew.setRow ?_ _ _ (by simp; omega) | refine Grew.setRow ?_ _ _ (by simp)))
  generalize w.alloc (.cells (ints .u8 32 (nought)) 23) = w1 at *
  have lfr := lt_of_objAt fr
  go_wp2_with fail
  (refine (c1 _ (hTT.out.later hG)).mono ?_; rintro e w2 ⟨rfl, hb⟩; replace fr : objAt w2 (w.heap.size) = some (.cells (ints .u8 32 (nought)) 23) := keep_below hb (by (repeat (first | assumption | exact objAt_alloc_at _ _ _ rfl | (refine objAt_alloc_at _ _ _ ?_; (simp; done)) | refine keep_alloc _ ?_ | refine keep_drewN _ ?_ | refine keep_more _ ?_ | exact keep_row _ (by assumption) | apply keep_row | refine keep_setRow _ _ ?_ (by first | omega | (simp; omega) | simp)))); have lfr := lt_of_objAt fr; replace hG : Below w.heap.size w w2 := Grew.trans (by (repeat (first | assumption | exact Grew.refl _ | refine Grew.more ?_ _ | refine Grew.alloc ?_ _ | refine Grew.drewN ?_ _ | refine Grew.setRow ?_ _ _ (by omega) | refine Grew.setRow ?_ _ _ (by simp; omega) | refine Grew.setRow ?_ _ _ (by simp)))) hb; clear hb)
  go_wp2_with fail
  (refine (c2 _ hG).mono ?_; rintro e w3 ⟨rfl, hb⟩; replace fr : objAt w3 (w.heap.size) = some (.cells (ints .u8 32 (nought)) 23) := keep_below hb (by (repeat (first | assumption | exact objAt_alloc_at _ _ _ rfl | (refine objAt_alloc_at _ _ _ ?_; (simp; done)) | refine keep_alloc _ ?_ | refine keep_drewN _ ?_ | refine keep_more _ ?_ | exact keep_row _ (by assumption) | apply keep_row | refine keep_setRow _ _ ?_ (by first | omega | (simp; omega) | simp)))); have lfr := lt_of_objAt fr; replace hG : Below w.heap.size w w3 := Grew.trans (by (repeat (first | assumption | exact Grew.refl _ | refine Grew.more ?_ _ | refine Grew.alloc ?_ _ | refine Grew.drewN ?_ _ | refine Grew.setRow ?_ _ _ (by omega) | refine Grew.setRow ?_ _ _ (by simp; omega) | refine Grew.setRow ?_ _ _ (by simp)))) hb; clear hb)
  go_wp2_with fail
  (refine (c3 _ (hTT.out.later hG)).mono ?_; rintro e w4 ⟨rfl, hb⟩; replace fr : objAt w4 (w.heap.size) = some (.cells (ints .u8 32 (nought)) 23) := keep_below hb (by (repeat (first | assumption | exact objAt_alloc_at _ _ _ rfl | (refine objAt_alloc_at _ _ _ ?_; (simp; done)) | refine keep_alloc _ ?_ | refine keep_drewN _ ?_ | refine keep_more _ ?_ | exact keep_row _ (by assumption) | apply keep_row | refine keep_setRow _ _ ?_ (by first | omega | (simp; omega) | simp)))); have lfr := lt_of_objAt fr; replace hG : Below w.heap.size w w4 := Grew.trans (by (repeat (first | assumption | exact Grew.refl _ | refine Grew.more ?_ _ | refine Grew.alloc ?_ _ | refine Grew.drewN ?_ _ | refine Grew.setRow ?_ _ _ (by omega) | refine Grew.setRow ?_ _ _ (by simp; omega) | refine Grew.setRow ?_ _ _ (by simp)))) hb; clear hb)
  go_wp2
  refine ret_row rfl _ 23 _ (0, 0) _ rfl (keep_row _ fr) Tryz.underlying23 rfl (by rw [ints_size]; kernel_rfl) rfl ⟨rfl, by (repeat (first | assumption | exact Grew.refl _ | refine Grew.more ?_ _ | refine Grew.alloc ?_ _ | refine Grew.drewN ?_ _ | refine Grew.setRow ?_ _ _ (by omega) | refine Grew.setRow ?_ _ _ (by simp; omega) | refine Grew.setRow ?_ _ _ (by simp)))⟩
theorem labelC : LabelC := fun name secret oa n c F W h1 h2 h3 h4 hnc hS hT => label_any name secret oa n c F W h1 h2 h3 h4 hnc hS hT
set_option maxRecDepth 100000 in
set_option maxHeartbeats 4000000 in
theorem pnode_any (z : Nat → Int) (w : World) (hT : Tabs w) :
    Calls Tryz.prog 6 #[.agg (ints .u8 32 z)] w fun e w' => e = .returned (.agg (ints .u8 32 (nodeF z))) ∧ Below w.heap.size w w' := by
  have hTT : Hid (Tabs w) := hT
  clear hT
  have c2 : ∀ W : World, Tabs W → Calls Tryz.prog 17 #[.string ⟨#[115, 97, 112, 119, 111, 111, 100, 32, 110, 111, 100, 101]⟩, .string (strOf 32 z), .slice none 0 0] W fun e w' => e = .returned (.agg (ints .u8 32 (nodeF z))) ∧ Below W.heap.size W w' := fun W h => by
    have := label_any ⟨#[115, 97, 112, 119, 111, 111, 100, 32, 110, 111, 100, 101]⟩ (strOf 32 z) none 0 0 (fun _ => ByteArray.empty) W (by decide) (by rw [strOf_size]; decide) (by decide) (by decide) (by decide) (strs_none _ _) h
    rw [node_is] at this
    exact this
  obtain ⟨Z, hZ⟩ : ∃ Z, Hid (strOf 32 z = Z) := ⟨_, rfl⟩
  rw [hZ.out] at c2
  generalize nodeF z = L at *
  have hG := Grew.refl w
  have fk : True := trivial
  have fr : True := trivial
  go_enter Tryz.func6, Tryz.ntmps6
  go_wp2_with fail
  replace fk : objAt ((w.alloc (.cells (ints .u8 32 (z)) 23)).alloc (.cells (ints .u8 32 (nought)) 23)) (w.heap.size) = some (.cells (ints .u8 32 (z)) 23) := by (repeat (first | assumption | exact objAt_alloc_at _ _ _ rfl | (refine objAt_alloc_at _ _ _ ?_; (simp; done)) | refine keep_alloc _ ?_ | refine keep_drewN _ ?_ | refine keep_more _ ?_ | exact keep_row _ (by assumption) | apply keep_row | refine keep_setRow _ _ ?_ (by first | omega | (simp; omega) | simp)))
  replace fr : objAt ((w.alloc (.cells (ints .u8 32 (z)) 23)).alloc (.cells (ints .u8 32 (nought)) 23)) (w.heap.size + 1) = some (.cells (ints .u8 32 (nought)) 23) := by (repeat (first | assumption | exact objAt_alloc_at _ _ _ rfl | (refine objAt_alloc_at _ _ _ ?_; (simp; done)) | refine keep_alloc _ ?_ | refine keep_drewN _ ?_ | refine keep_more _ ?_ | exact keep_row _ (by assumption) | apply keep_row | refine keep_setRow _ _ ?_ (by first | omega | (simp; omega) | simp)))
  replace hG : Below w.heap.size w ((w.alloc (.cells (ints .u8 32 (z)) 23)).alloc (.cells (ints .u8 32 (nought)) 23)) := by (repeat (first | assumption | exact Grew.refl _ | refine Grew.more ?_ _ | refine Grew.alloc ?_ _ | refine Grew.drewN ?_ _ | refine Grew.setRow ?_ _ _ (by omega) | refine Grew.setRow ?_ _ _ (by simp; omega) | refine Grew.setRow ?_ _ _ (by simp)))
  generalize (w.alloc (.cells (ints .u8 32 (z)) 23)).alloc (.cells (ints .u8 32 (nought)) 23) = w1 at *
  have lfk := lt_of_objAt fk
  have lfr := lt_of_objAt fr
  have hc := run_str (P := Tryz.prog) (src := 37) (dst := 9) Tryz.underlying37 Tryz.underlying5 Tryz.underlying9 w.heap.size 32 32 32 z w1 fk (by omega)
  rw [hZ.out] at hc
  (try rw [hc])
  go_wp2_with fail
  (refine (c2 _ (hTT.out.later hG)).mono ?_; rintro e w2 ⟨rfl, hb⟩; replace fk : objAt w2 (w.heap.size) = some (.cells (ints .u8 32 (z)) 23) := keep_below hb (by (repeat (first | assumption | exact objAt_alloc_at _ _ _ rfl | (refine objAt_alloc_at _ _ _ ?_; (simp; done)) | refine keep_alloc _ ?_ | refine keep_drewN _ ?_ | refine keep_more _ ?_ | exact keep_row _ (by assumption) | apply keep_row | refine keep_setRow _ _ ?_ (by first | omega | (simp; omega) | simp)))); have lfk := lt_of_objAt fk; replace fr : objAt w2 (w.heap.size + 1) = some (.cells (ints .u8 32 (nought)) 23) := keep_below hb (by (repeat (first | assumption | exact objAt_alloc_at _ _ _ rfl | (refine objAt_alloc_at _ _ _ ?_; (simp; done)) | refine keep_alloc _ ?_ | refine keep_drewN _ ?_ | refine keep_more _ ?_ | exact keep_row _ (by assumption) | apply keep_row | refine keep_setRow _ _ ?_ (by first | omega | (simp; omega) | simp)))); have lfr := lt_of_objAt fr; replace hG : Below w.heap.size w w2 := Grew.trans (by (repeat (first | assumption | exact Grew.refl _ | refine Grew.more ?_ _ | refine Grew.alloc ?_ _ | refine Grew.drewN ?_ _ | refine Grew.setRow ?_ _ _ (by omega) | refine Grew.setRow ?_ _ _ (by simp; omega) | refine Grew.setRow ?_ _ _ (by simp)))) hb; clear hb)
  go_wp2
  refine ret_row rfl _ 23 _ (0, 0) _ rfl (keep_row _ fr) Tryz.underlying23 rfl (by rw [ints_size]; kernel_rfl) rfl ⟨rfl, by (repeat (first | assumption | exact Grew.refl _ | refine Grew.more ?_ _ | refine Grew.alloc ?_ _ | refine Grew.drewN ?_ _ | refine Grew.setRow ?_ _ _ (by omega) | refine Grew.setRow ?_ _ _ (by simp; omega) | refine Grew.setRow ?_ _ _ (by simp)))⟩
theorem nodeC : NodeC := fun z W hz hT => pnode_any z W hT
set_option maxRecDepth 100000 in
set_option maxHeartbeats 4000000 in
theorem pleaf_any (z : Nat → Int) (w : World) (hT : Tabs w) :
    Calls Tryz.prog 8 #[.agg (ints .u8 32 z)] w fun e w' => e = .returned (.agg (ints .u8 32 (leafF z))) ∧ Below w.heap.size w w' := by
  have hTT : Hid (Tabs w) := hT
  clear hT
  have c2 : ∀ W : World, Tabs W → Calls Tryz.prog 17 #[.string ⟨#[115, 97, 112, 119, 111, 111, 100, 32, 108, 101, 97, 102]⟩, .string (strOf 32 z), .slice none 0 0] W fun e w' => e = .returned (.agg (ints .u8 32 (leafF z))) ∧ Below W.heap.size W w' := fun W h => by
    have := label_any ⟨#[115, 97, 112, 119, 111, 111, 100, 32, 108, 101, 97, 102]⟩ (strOf 32 z) none 0 0 (fun _ => ByteArray.empty) W (by decide) (by rw [strOf_size]; decide) (by decide) (by decide) (by decide) (strs_none _ _) h
    rw [leaf_is] at this
    exact this
  obtain ⟨Z, hZ⟩ : ∃ Z, Hid (strOf 32 z = Z) := ⟨_, rfl⟩
  rw [hZ.out] at c2
  generalize leafF z = L at *
  have hG := Grew.refl w
  have fk : True := trivial
  have fr : True := trivial
  go_enter Tryz.func8, Tryz.ntmps8
  go_wp2_with fail
  replace fk : objAt ((w.alloc (.cells (ints .u8 32 (z)) 23)).alloc (.cells (ints .u8 32 (nought)) 23)) (w.heap.size) = some (.cells (ints .u8 32 (z)) 23) := by (repeat (first | assumption | exact objAt_alloc_at _ _ _ rfl | (refine objAt_alloc_at _ _ _ ?_; (simp; done)) | refine keep_alloc _ ?_ | refine keep_drewN _ ?_ | refine keep_more _ ?_ | exact keep_row _ (by assumption) | apply keep_row | refine keep_setRow _ _ ?_ (by first | omega | (simp; omega) | simp)))
  replace fr : objAt ((w.alloc (.cells (ints .u8 32 (z)) 23)).alloc (.cells (ints .u8 32 (nought)) 23)) (w.heap.size + 1) = some (.cells (ints .u8 32 (nought)) 23) := by (repeat (first | assumption | exact objAt_alloc_at _ _ _ rfl | (refine objAt_alloc_at _ _ _ ?_; (simp; done)) | refine keep_alloc _ ?_ | refine keep_drewN _ ?_ | refine keep_more _ ?_ | exact keep_row _ (by assumption) | apply keep_row | refine keep_setRow _ _ ?_ (by first | omega | (simp; omega) | simp)))
  replace hG : Below w.heap.size w ((w.alloc (.cells (ints .u8 32 (z)) 23)).alloc (.cells (ints .u8 32 (nought)) 23)) := by (repeat (first | assumption | exact Grew.refl _ | refine Grew.more ?_ _ | refine Grew.alloc ?_ _ | refine Grew.drewN ?_ _ | refine Grew.setRow ?_ _ _ (by omega) | refine Grew.setRow ?_ _ _ (by simp; omega) | refine Grew.setRow ?_ _ _ (by simp)))
  generalize (w.alloc (.cells (ints .u8 32 (z)) 23)).alloc (.cells (ints .u8 32 (nought)) 23) = w1 at *
  have lfk := lt_of_objAt fk
  have lfr := lt_of_objAt fr
  have hc := run_str (P := Tryz.prog) (src := 37) (dst := 9) Tryz.underlying37 Tryz.underlying5 Tryz.underlying9 w.heap.size 32 32 32 z w1 fk (by omega)
  rw [hZ.out] at hc
  (try rw [hc])
  go_wp2_with fail
  (refine (c2 _ (hTT.out.later hG)).mono ?_; rintro e w2 ⟨rfl, hb⟩; replace fk : objAt w2 (w.heap.size) = some (.cells (ints .u8 32 (z)) 23) := keep_below hb (by (repeat (first | assumption | exact objAt_alloc_at _ _ _ rfl | (refine objAt_alloc_at _ _ _ ?_; (simp; done)) | refine keep_alloc _ ?_ | refine keep_drewN _ ?_ | refine keep_more _ ?_ | exact keep_row _ (by assumption) | apply keep_row | refine keep_setRow _ _ ?_ (by first | omega | (simp; omega) | simp)))); have lfk := lt_of_objAt fk; replace fr : objAt w2 (w.heap.size + 1) = some (.cells (ints .u8 32 (nought)) 23) := keep_below hb (by (repeat (first | assumption | exact objAt_alloc_at _ _ _ rfl | (refine objAt_alloc_at _ _ _ ?_; (simp; done)) | refine keep_alloc _ ?_ | refine keep_drewN _ ?_ | refine keep_more _ ?_ | exact keep_row _ (by assumption) | apply keep_row | refine keep_setRow _ _ ?_ (by first | omega | (simp; omega) | simp)))); have lfr := lt_of_objAt fr; replace hG : Below w.heap.size w w2 := Grew.trans (by (repeat (first | assumption | exact Grew.refl _ | refine Grew.more ?_ _ | refine Grew.alloc ?_ _ | refine Grew.drewN ?_ _ | refine Grew.setRow ?_ _ _ (by omega) | refine Grew.setRow ?_ _ _ (by simp; omega) | refine Grew.setRow ?_ _ _ (by simp)))) hb; clear hb)
  go_wp2
  refine ret_row rfl _ 23 _ (0, 0) _ rfl (keep_row _ fr) Tryz.underlying23 rfl (by rw [ints_size]; kernel_rfl) rfl ⟨rfl, by (repeat (first | assumption | exact Grew.refl _ | refine Grew.more ?_ _ | refine Grew.alloc ?_ _ | refine Grew.drewN ?_ _ | refine Grew.setRow ?_ _ _ (by omega) | refine Grew.setRow ?_ _ _ (by simp; omega) | refine Grew.setRow ?_ _ _ (by simp)))⟩
theorem leafC : LeafC := fun z W hz hT => pleaf_any z W hT
set_option maxRecDepth 100000 in
set_option maxHeartbeats 4000000 in
theorem ptag_any (z : Nat → Int) (w : World) (hT : Tabs w) :
    Calls Tryz.prog 12 #[.agg (ints .u8 32 z)] w fun e w' => e = .returned (.agg (ints .u8 32 (tagF z))) ∧ Below w.heap.size w w' := by
  have hTT : Hid (Tabs w) := hT
  clear hT
  have c2 : ∀ W : World, Tabs W → Calls Tryz.prog 17 #[.string ⟨#[115, 97, 112, 119, 111, 111, 100, 32, 116, 97, 103]⟩, .string (strOf 32 z), .slice none 0 0] W fun e w' => e = .returned (.agg (ints .u8 32 (tagF z))) ∧ Below W.heap.size W w' := fun W h => by
    have := label_any ⟨#[115, 97, 112, 119, 111, 111, 100, 32, 116, 97, 103]⟩ (strOf 32 z) none 0 0 (fun _ => ByteArray.empty) W (by decide) (by rw [strOf_size]; decide) (by decide) (by decide) (by decide) (strs_none _ _) h
    rw [tag_is] at this
    exact this
  obtain ⟨Z, hZ⟩ : ∃ Z, Hid (strOf 32 z = Z) := ⟨_, rfl⟩
  rw [hZ.out] at c2
  generalize tagF z = L at *
  have hG := Grew.refl w
  have fk : True := trivial
  have fr : True := trivial
  go_enter Tryz.func12, Tryz.ntmps12
  go_wp2_with fail
  replace fk : objAt ((w.alloc (.cells (ints .u8 32 (z)) 23)).alloc (.cells (ints .u8 32 (nought)) 23)) (w.heap.size) = some (.cells (ints .u8 32 (z)) 23) := by (repeat (first | assumption | exact objAt_alloc_at _ _ _ rfl | (refine objAt_alloc_at _ _ _ ?_; (simp; done)) | refine keep_alloc _ ?_ | refine keep_drewN _ ?_ | refine keep_more _ ?_ | exact keep_row _ (by assumption) | apply keep_row | refine keep_setRow _ _ ?_ (by first | omega | (simp; omega) | simp)))
  replace fr : objAt ((w.alloc (.cells (ints .u8 32 (z)) 23)).alloc (.cells (ints .u8 32 (nought)) 23)) (w.heap.size + 1) = some (.cells (ints .u8 32 (nought)) 23) := by (repeat (first | assumption | exact objAt_alloc_at _ _ _ rfl | (refine objAt_alloc_at _ _ _ ?_; (simp; done)) | refine keep_alloc _ ?_ | refine keep_drewN _ ?_ | refine keep_more _ ?_ | exact keep_row _ (by assumption) | apply keep_row | refine keep_setRow _ _ ?_ (by first | omega | (simp; omega) | simp)))
  replace hG : Below w.heap.size w ((w.alloc (.cells (ints .u8 32 (z)) 23)).alloc (.cells (ints .u8 32 (nought)) 23)) := by (repeat (first | assumption | exact Grew.refl _ | refine Grew.more ?_ _ | refine Grew.alloc ?_ _ | refine Grew.drewN ?_ _ | refine Grew.setRow ?_ _ _ (by omega) | refine Grew.setRow ?_ _ _ (by simp; omega) | refine Grew.setRow ?_ _ _ (by simp)))
  generalize (w.alloc (.cells (ints .u8 32 (z)) 23)).alloc (.cells (ints .u8 32 (nought)) 23) = w1 at *
  have lfk := lt_of_objAt fk
  have lfr := lt_of_objAt fr
  have hc := run_str (P := Tryz.prog) (src := 37) (dst := 9) Tryz.underlying37 Tryz.underlying5 Tryz.underlying9 w.heap.size 32 32 32 z w1 fk (by omega)
  rw [hZ.out] at hc
  (try rw [hc])
  go_wp2_with fail
  (refine (c2 _ (hTT.out.later hG)).mono ?_; rintro e w2 ⟨rfl, hb⟩; replace fk : objAt w2 (w.heap.size) = some (.cells (ints .u8 32 (z)) 23) := keep_below hb (by (repeat (first | assumption | exact objAt_alloc_at _ _ _ rfl | (refine objAt_alloc_at _ _ _ ?_; (simp; done)) | refine keep_alloc _ ?_ | refine keep_drewN _ ?_ | refine keep_more _ ?_ | exact keep_row _ (by assumption) | apply keep_row | refine keep_setRow _ _ ?_ (by first | omega | (simp; omega) | simp)))); have lfk := lt_of_objAt fk; replace fr : objAt w2 (w.heap.size + 1) = some (.cells (ints .u8 32 (nought)) 23) := keep_below hb (by (repeat (first | assumption | exact objAt_alloc_at _ _ _ rfl | (refine objAt_alloc_at _ _ _ ?_; (simp; done)) | refine keep_alloc _ ?_ | refine keep_drewN _ ?_ | refine keep_more _ ?_ | exact keep_row _ (by assumption) | apply keep_row | refine keep_setRow _ _ ?_ (by first | omega | (simp; omega) | simp)))); have lfr := lt_of_objAt fr; replace hG : Below w.heap.size w w2 := Grew.trans (by (repeat (first | assumption | exact Grew.refl _ | refine Grew.more ?_ _ | refine Grew.alloc ?_ _ | refine Grew.drewN ?_ _ | refine Grew.setRow ?_ _ _ (by omega) | refine Grew.setRow ?_ _ _ (by simp; omega) | refine Grew.setRow ?_ _ _ (by simp)))) hb; clear hb)
  go_wp2
  refine ret_row rfl _ 23 _ (0, 0) _ rfl (keep_row _ fr) Tryz.underlying23 rfl (by rw [ints_size]; kernel_rfl) rfl ⟨rfl, by (repeat (first | assumption | exact Grew.refl _ | refine Grew.more ?_ _ | refine Grew.alloc ?_ _ | refine Grew.drewN ?_ _ | refine Grew.setRow ?_ _ _ (by omega) | refine Grew.setRow ?_ _ _ (by simp; omega) | refine Grew.setRow ?_ _ _ (by simp)))⟩
theorem tagC : TagC := fun z W hz hT => ptag_any z W hT
set_option maxRecDepth 100000 in
set_option maxHeartbeats 4000000 in
theorem pstage_any (o t p : Nat → Int) (w : World) (hT : Tabs w) :
    Calls Tryz.prog 10 #[.agg (ints .u8 32 o), .agg (ints .u8 32 t), .agg (ints .u8 32 p)] w fun e w' => e = .returned (.agg (ints .u8 32 (stageF o t p))) ∧ Below w.heap.size w w' := by
  have hTT : Hid (Tabs w) := hT
  clear hT
  have hf : FitsS (strOf 32 o) (strOf 32 t) := by show _ + _ ≤ _; rw [strOf_size, strOf_size]; decide
  have cL : ∀ (g : Nat) (W : World), StrsAt W (some ⟨g, 0, none⟩) 1 (oneS (strOf 32 p)) → Tabs W → Calls Tryz.prog 17 #[.string ⟨#[115, 97, 112, 119, 111, 111, 100, 32, 115, 116, 97, 103, 101]⟩, .string (strOf 32 o ++ strOf 32 t), .slice (some ⟨g, 0, none⟩) 1 1] W fun e w' => e = .returned (.agg (ints .u8 32 (stageF o t p))) ∧ Below W.heap.size W w' := fun g W hS h => by
    have := label_any ⟨#[115, 97, 112, 119, 111, 111, 100, 32, 115, 116, 97, 103, 101]⟩ (strOf 32 o ++ strOf 32 t) (some ⟨g, 0, none⟩) 1 1 (oneS (strOf 32 p)) W (by decide) (by rw [ByteArray.size_append, strOf_size, strOf_size]; decide) (by rw [cat_one, strOf_size]; decide) (by decide) (by decide) hS h
    rw [cat_one, stage_is] at this
    exact this
  obtain ⟨O1, hO1⟩ : ∃ O1, Hid (strOf 32 o = O1) := ⟨_, rfl⟩
  obtain ⟨T1, hT1⟩ : ∃ T1, Hid (strOf 32 t = T1) := ⟨_, rfl⟩
  obtain ⟨P1, hP1⟩ : ∃ P1, Hid (strOf 32 p = P1) := ⟨_, rfl⟩
  rw [hO1.out, hT1.out] at hf
  rw [hO1.out, hT1.out, hP1.out] at cL
  generalize stageF o t p = L at *
  have hG := Grew.refl w
  have fo : True := trivial
  have ft : True := trivial
  have fp : True := trivial
  have fr : True := trivial
  go_enter Tryz.func10, Tryz.ntmps10
  go_wp2_with fail
  replace fo : objAt ((((w.alloc (.cells (ints .u8 32 (o)) 23)).alloc (.cells (ints .u8 32 (t)) 23)).alloc (.cells (ints .u8 32 (p)) 23)).alloc (.cells (ints .u8 32 (nought)) 23)) (w.heap.size) = some (.cells (ints .u8 32 (o)) 23) := by (repeat (first | assumption | exact objAt_alloc_at _ _ _ rfl | (refine objAt_alloc_at _ _ _ ?_; (simp; done)) | refine keep_alloc _ ?_ | refine keep_drewN _ ?_ | refine keep_more _ ?_ | exact keep_row _ (by assumption) | apply keep_row | refine keep_setRow _ _ ?_ (by first | omega | (simp; omega) | simp)))
  replace ft : objAt ((((w.alloc (.cells (ints .u8 32 (o)) 23)).alloc (.cells (ints .u8 32 (t)) 23)).alloc (.cells (ints .u8 32 (p)) 23)).alloc (.cells (ints .u8 32 (nought)) 23)) (w.heap.size + 1) = some (.cells (ints .u8 32 (t)) 23) := by (repeat (first | assumption | exact objAt_alloc_at _ _ _ rfl | (refine objAt_alloc_at _ _ _ ?_; (simp; done)) | refine keep_alloc _ ?_ | refine keep_drewN _ ?_ | refine keep_more _ ?_ | exact keep_row _ (by assumption) | apply keep_row | refine keep_setRow _ _ ?_ (by first | omega | (simp; omega) | simp)))
  replace fp : objAt ((((w.alloc (.cells (ints .u8 32 (o)) 23)).alloc (.cells (ints .u8 32 (t)) 23)).alloc (.cells (ints .u8 32 (p)) 23)).alloc (.cells (ints .u8 32 (nought)) 23)) (w.heap.size + 1 + 1) = some (.cells (ints .u8 32 (p)) 23) := by (repeat (first | assumption | exact objAt_alloc_at _ _ _ rfl | (refine objAt_alloc_at _ _ _ ?_; (simp; done)) | refine keep_alloc _ ?_ | refine keep_drewN _ ?_ | refine keep_more _ ?_ | exact keep_row _ (by assumption) | apply keep_row | refine keep_setRow _ _ ?_ (by first | omega | (simp; omega) | simp)))
  replace fr : objAt ((((w.alloc (.cells (ints .u8 32 (o)) 23)).alloc (.cells (ints .u8 32 (t)) 23)).alloc (.cells (ints .u8 32 (p)) 23)).alloc (.cells (ints .u8 32 (nought)) 23)) (w.heap.size + 1 + 1 + 1) = some (.cells (ints .u8 32 (nought)) 23) := by (repeat (first | assumption | exact objAt_alloc_at _ _ _ rfl | (refine objAt_alloc_at _ _ _ ?_; (simp; done)) | refine keep_alloc _ ?_ | refine keep_drewN _ ?_ | refine keep_more _ ?_ | exact keep_row _ (by assumption) | apply keep_row | refine keep_setRow _ _ ?_ (by first | omega | (simp; omega) | simp)))
  replace hG : Below w.heap.size w ((((w.alloc (.cells (ints .u8 32 (o)) 23)).alloc (.cells (ints .u8 32 (t)) 23)).alloc (.cells (ints .u8 32 (p)) 23)).alloc (.cells (ints .u8 32 (nought)) 23)) := by (repeat (first | assumption | exact Grew.refl _ | refine Grew.more ?_ _ | refine Grew.alloc ?_ _ | refine Grew.drewN ?_ _ | refine Grew.setRow ?_ _ _ (by omega) | refine Grew.setRow ?_ _ _ (by simp; omega) | refine Grew.setRow ?_ _ _ (by simp)))
  generalize (((w.alloc (.cells (ints .u8 32 (o)) 23)).alloc (.cells (ints .u8 32 (t)) 23)).alloc (.cells (ints .u8 32 (p)) 23)).alloc (.cells (ints .u8 32 (nought)) 23) = w1 at *
  have lfo := lt_of_objAt fo
  have lft := lt_of_objAt ft
  have lfp := lt_of_objAt fp
  have lfr := lt_of_objAt fr
  have hco := fun m : More => run_str (P := Tryz.prog) (src := 37) (dst := 9) Tryz.underlying37 Tryz.underlying5 Tryz.underlying9 (w.heap.size) 32 32 32 o (more w1 m) (keep_more m fo) (by omega)
  rw [hO1.out] at hco
  have hct := fun m : More => run_str (P := Tryz.prog) (src := 37) (dst := 9) Tryz.underlying37 Tryz.underlying5 Tryz.underlying9 (w.heap.size + 1) 32 32 32 t (more w1 m) (keep_more m ft) (by omega)
  rw [hT1.out] at hct
  have hcp := fun m : More => run_str (P := Tryz.prog) (src := 37) (dst := 9) Tryz.underlying37 Tryz.underlying5 Tryz.underlying9 (w.heap.size + 1 + 1) 32 32 32 p (more w1 m) (keep_more m fp) (by omega)
  rw [hP1.out] at hcp
  go_wp2_with fail
  (refine wp_relT 9 (by kernel_rfl) (by kernel_rfl) (by kernel_rfl) (by kernel_rfl) (by kernel_rfl) ?_; simp only [List.take_succ_cons, List.take_zero]; (repeat (first | refine exv_skip rfl ?_ | (refine exv_call rfl ?_; apply Exists.intro))); refine exv_nil ?_; intro γ hinj hbase; (repeat (first | (refine rel_quiet rfl ?_; ((first | go_big_quiet_skip | (go_big_quiet_want; go_big_quiet_op; go_big_quiet_on)); refine wpQuiet_nil ?_)) | (first | (refine rel_skip_some rfl (fun _ => rfl) ?_; ((first | go_big_quiet_skip | (go_big_quiet_want; go_big_quiet_op; go_big_quiet_on)); refine wpQuiet_nil ?_)) | refine rel_skip_none rfl (fun _ => rfl) ?_) | ((try simp only [Nat.zero_add, Nat.reduceAdd]); apply rel_box alloc_cls; (focus rfl); (focus (first | exact cells_agg _ | exact cells_int _ _ | exact cells_bool _ | rfl)); (focus ((repeat (refine fits_cons ⟨by (first | exact stab_full _ _ _ | exact stab_hdr _ _ _ | exact stab_hdr_at _ _ _ _ | exact stab_full_at _ _ _ _ (hinj _ _ (by decide))), by (first | exact stab_full _ _ _ | exact stab_hdr _ _ _ | exact stab_hdr_at _ _ _ _ | exact stab_full_at _ _ _ _ (hinj _ _ (by decide)))⟩ ?_)); exact fits_nil (by (first | exact stab_full _ _ _ | exact stab_hdr _ _ _ | exact stab_hdr_at _ _ _ _ | exact stab_full_at _ _ _ _ (hinj _ _ (by decide)))))); ((first | go_big_quiet_skip | (go_big_quiet_want; go_big_quiet_op; go_big_quiet_on)); refine wpQuiet_nil ?_)) | ((try simp only [Nat.zero_add, Nat.reduceAdd]); apply rel_alloc _ _ alloc_cls; (focus rfl); (focus (intro W; (first | exact zero_key _ | exact zero_elem _ | exact zero_num _ | exact zero_pair _ | exact zero_rnode _))); (focus (first | exact cells_ints _ _ _ | exact cells_two _ _ | rfl)); (focus ((repeat (refine fits_cons ⟨by (first | exact stab_full _ _ _ | exact stab_hdr _ _ _ | exact stab_hdr_at _ _ _ _ | exact stab_full_at _ _ _ _ (hinj _ _ (by decide))), by (first | exact stab_full _ _ _ | exact stab_hdr _ _ _ | exact stab_hdr_at _ _ _ _ | exact stab_full_at _ _ _ _ (hinj _ _ (by decide)))⟩ ?_)); exact fits_nil (by (first | exact stab_full _ _ _ | exact stab_hdr _ _ _ | exact stab_hdr_at _ _ _ _ | exact stab_full_at _ _ _ _ (hinj _ _ (by decide)))))); ((first | go_big_quiet_skip | (go_big_quiet_want; go_big_quiet_op; go_big_quiet_on)); refine wpQuiet_nil ?_)) | ((try simp only [Nat.zero_add, Nat.reduceAdd]); apply rel_slice alloc_cls; (focus rfl); (focus (intro W; simp only [List.map_toArray, List.map_cons, List.map_nil]; first | (with_reducible exact build1s _ W) | exact build1s _ W)); (focus ((repeat (refine fits_cons ⟨by (first | exact stab_full _ _ _ | exact stab_hdr _ _ _ | exact stab_hdr_at _ _ _ _ | exact stab_full_at _ _ _ _ (hinj _ _ (by decide))), by (first | exact stab_full _ _ _ | exact stab_hdr _ _ _ | exact stab_hdr_at _ _ _ _ | exact stab_full_at _ _ _ _ (hinj _ _ (by decide)))⟩ ?_)); exact fits_nil (by (first | exact stab_full _ _ _ | exact stab_hdr _ _ _ | exact stab_hdr_at _ _ _ _ | exact stab_full_at _ _ _ _ (hinj _ _ (by decide)))))); ((first | go_big_quiet_skip | (go_big_quiet_want; go_big_quiet_op; go_big_quiet_on)); refine wpQuiet_nil ?_)) | ((try simp only [Nat.zero_add, Nat.reduceAdd]); apply rel_store (setRow_cls (hbase _)); (focus rfl); (focus rfl); (focus rfl); (focus (first | exact cells_agg _ | exact cells_int _ _ | exact cells_bool _ | rfl)); rotate_left 3; (focus (first | exact List.mem_cons_self .. | exact List.mem_cons_of_mem _ (List.mem_cons_self ..) | exact List.mem_cons_of_mem _ (List.mem_cons_of_mem _ (List.mem_cons_self ..)) | exact List.mem_cons_of_mem _ (List.mem_cons_of_mem _ (List.mem_cons_of_mem _ (List.mem_cons_self ..))) | exact List.mem_cons_of_mem _ (List.mem_cons_of_mem _ (List.mem_cons_of_mem _ (List.mem_cons_of_mem _ (List.mem_cons_self ..)))))); rotate_right 3; (focus kernel_rfl); (focus (first | exact ints_size _ _ _ | rfl)); (focus (first | exact ints_ones _ _ _ | exact ones_two _ _ _ _ | kernel_rfl)); (focus (decide +kernel)); (focus ((repeat (refine fits_cons ⟨by (first | exact stab_full _ _ _ | exact stab_hdr _ _ _ | exact stab_hdr_at _ _ _ _ | exact stab_full_at _ _ _ _ (hinj _ _ (by decide))), by (first | exact stab_full _ _ _ | exact stab_hdr _ _ _ | exact stab_hdr_at _ _ _ _ | exact stab_full_at _ _ _ _ (hinj _ _ (by decide)))⟩ ?_)); exact fits_nil (by (first | exact stab_full _ _ _ | exact stab_hdr _ _ _ | exact stab_hdr_at _ _ _ _ | exact stab_full_at _ _ _ _ (hinj _ _ (by decide))))))) | (apply rel_fact; (focus rfl); (focus rfl); (focus rfl); (focus (intro W hC hF; (have hGW : Below w.heap.size w W := (by obtain ⟨mm, rfl⟩ := hC; exact Grew.more hG mm); (try (have hE : StrsAt W (some ⟨γ 7, 0, none⟩) 1 (oneS P1) := strs_one (known hF (List.mem_cons_self ..) (by decide +kernel))))); go_big_quiet_want; go_big_quiet_op; (first | go_big_quiet_on | (apply Exists.intro; refine ⟨fun _ => ?_, ?_⟩; (focus (first | (with_reducible exact Calls.of_more (cL _ _ (hE.later (below_more W _)) (hTT.out.later (Grew.trans hGW (below_more W _))))))); go_big_quiet_on)); exact wpQuiet_nil rfl)); (focus (first | exact fun _ => rfl | exact fun h => absurd h (by decide))); ((first | go_big_quiet_skip | (go_big_quiet_want; go_big_quiet_op; go_big_quiet_on)); refine wpQuiet_nil ?_)))))
  (refine relT_nil ?_; rintro _ ⟨mq, rfl⟩ hF; simp only [List.forall_mem_cons] at hF; obtain - := hF)
  (refine tail_one (i := 9) (fuel := 0) (by kernel_rfl) rfl ?_; intro K hK; go_simp; refine hK _ _ ?_; clear hK K)
  (refine wpAny_done (by kernel_rfl) ?_ _)
  go_wp2
  refine ret_row rfl _ 23 _ (0, 0) _ rfl (keep_more _ (keep_row _ fr)) Tryz.underlying23 rfl (by rw [ints_size]; kernel_rfl) rfl ⟨rfl, by (repeat (first | assumption | exact Grew.refl _ | refine Grew.more ?_ _ | refine Grew.alloc ?_ _ | refine Grew.drewN ?_ _ | refine Grew.setRow ?_ _ _ (by omega) | refine Grew.setRow ?_ _ _ (by simp; omega) | refine Grew.setRow ?_ _ _ (by simp)))⟩
theorem stageC : StageC := fun o t p W ho ht hp hT => pstage_any o t p W hT
set_option maxRecDepth 100000 in
set_option maxHeartbeats 4000000 in
theorem ppast_any (o : Nat → Int) (m : ByteArray) (w : World) (hm : m.size ≤ 100000) (hT : Tabs w) :
    Calls Tryz.prog 14 #[.agg (ints .u8 32 o), .string m] w fun e w' => e = .returned (.agg (ints .u8 32 (pastF o m))) ∧ Below w.heap.size w w' := by
  have hTT : Hid (Tabs w) := hT
  clear hT
  have cS := fun (g : Nat) (t : TypeId) (fr : Nat × Nat) (W : World) => sum_two (strOf 32 o) m g t fr W (by rw [strOf_size]; omega)
  rw [past_is] at cS
  obtain ⟨O1, hO1⟩ : ∃ O1, Hid (strOf 32 o = O1) := ⟨_, rfl⟩
  rw [hO1.out] at cS
  generalize pastF o m = L at *
  have hG := Grew.refl w
  have fo : True := trivial
  have fr : True := trivial
  go_enter Tryz.func14, Tryz.ntmps14
  go_wp2_with fail
  replace fo : objAt ((w.alloc (.cells (ints .u8 32 (o)) 23)).alloc (.cells (ints .u8 32 (nought)) 23)) (w.heap.size) = some (.cells (ints .u8 32 (o)) 23) := by (repeat (first | assumption | exact objAt_alloc_at _ _ _ rfl | (refine objAt_alloc_at _ _ _ ?_; (simp; done)) | refine keep_alloc _ ?_ | refine keep_drewN _ ?_ | refine keep_more _ ?_ | exact keep_row _ (by assumption) | apply keep_row | refine keep_setRow _ _ ?_ (by first | omega | (simp; omega) | simp)))
  replace fr : objAt ((w.alloc (.cells (ints .u8 32 (o)) 23)).alloc (.cells (ints .u8 32 (nought)) 23)) (w.heap.size + 1) = some (.cells (ints .u8 32 (nought)) 23) := by (repeat (first | assumption | exact objAt_alloc_at _ _ _ rfl | (refine objAt_alloc_at _ _ _ ?_; (simp; done)) | refine keep_alloc _ ?_ | refine keep_drewN _ ?_ | refine keep_more _ ?_ | exact keep_row _ (by assumption) | apply keep_row | refine keep_setRow _ _ ?_ (by first | omega | (simp; omega) | simp)))
  replace hG : Below w.heap.size w ((w.alloc (.cells (ints .u8 32 (o)) 23)).alloc (.cells (ints .u8 32 (nought)) 23)) := by (repeat (first | assumption | exact Grew.refl _ | refine Grew.more ?_ _ | refine Grew.alloc ?_ _ | refine Grew.drewN ?_ _ | refine Grew.setRow ?_ _ _ (by omega) | refine Grew.setRow ?_ _ _ (by simp; omega) | refine Grew.setRow ?_ _ _ (by simp)))
  generalize (w.alloc (.cells (ints .u8 32 (o)) 23)).alloc (.cells (ints .u8 32 (nought)) 23) = w1 at *
  have lfo := lt_of_objAt fo
  have lfr := lt_of_objAt fr
  have hc := run_str (P := Tryz.prog) (src := 37) (dst := 9) Tryz.underlying37 Tryz.underlying5 Tryz.underlying9 w.heap.size 32 32 32 o w1 fo (by omega)
  rw [hO1.out] at hc
  (try rw [hc])
  go_wp2_with fail
  have fx : objAt (w1.alloc (.cells #[.string O1, .string m] 9)) w1.heap.size = some (.cells #[.string O1, .string m] 9) := objAt_alloc_at _ _ _ rfl
  replace fo : objAt (w1.alloc (.cells #[.string O1, .string m] 9)) (w.heap.size) = some (.cells (ints .u8 32 (o)) 23) := keep_alloc _ fo
  replace fr : objAt (w1.alloc (.cells #[.string O1, .string m] 9)) (w.heap.size + 1) = some (.cells (ints .u8 32 (nought)) 23) := keep_alloc _ fr
  replace hG : Below w.heap.size w (w1.alloc (.cells #[.string O1, .string m] 9)) := Grew.alloc hG _
  clear lfo lfr
  generalize w1.alloc (.cells #[.string O1, .string m] 9) = w2 at *
  generalize w1.heap.size = gx at *
  have lfo := lt_of_objAt fo
  have lfr := lt_of_objAt fr
  have lfx := lt_of_objAt fx
  go_wp2_with fail
  (refine (cS _ _ _ _ fx (hTT.out.later hG)).mono ?_; rintro e w3 ⟨rfl, hb⟩; replace fo : objAt w3 (w.heap.size) = some (.cells (ints .u8 32 (o)) 23) := keep_below hb (by (repeat (first | assumption | exact objAt_alloc_at _ _ _ rfl | (refine objAt_alloc_at _ _ _ ?_; (simp; done)) | refine keep_alloc _ ?_ | refine keep_drewN _ ?_ | refine keep_more _ ?_ | exact keep_row _ (by assumption) | apply keep_row | refine keep_setRow _ _ ?_ (by first | omega | (simp; omega) | simp)))); have lfo := lt_of_objAt fo; replace fr : objAt w3 (w.heap.size + 1) = some (.cells (ints .u8 32 (nought)) 23) := keep_below hb (by (repeat (first | assumption | exact objAt_alloc_at _ _ _ rfl | (refine objAt_alloc_at _ _ _ ?_; (simp; done)) | refine keep_alloc _ ?_ | refine keep_drewN _ ?_ | refine keep_more _ ?_ | exact keep_row _ (by assumption) | apply keep_row | refine keep_setRow _ _ ?_ (by first | omega | (simp; omega) | simp)))); have lfr := lt_of_objAt fr; replace fx : objAt w3 (gx) = some (.cells #[.string O1, .string m] 9) := keep_below hb (by (repeat (first | assumption | exact objAt_alloc_at _ _ _ rfl | (refine objAt_alloc_at _ _ _ ?_; (simp; done)) | refine keep_alloc _ ?_ | refine keep_drewN _ ?_ | refine keep_more _ ?_ | exact keep_row _ (by assumption) | apply keep_row | refine keep_setRow _ _ ?_ (by first | omega | (simp; omega) | simp)))); have lfx := lt_of_objAt fx; replace hG : Below w.heap.size w w3 := Grew.trans (by (repeat (first | assumption | exact Grew.refl _ | refine Grew.more ?_ _ | refine Grew.alloc ?_ _ | refine Grew.drewN ?_ _ | refine Grew.setRow ?_ _ _ (by omega) | refine Grew.setRow ?_ _ _ (by simp; omega) | refine Grew.setRow ?_ _ _ (by simp)))) hb; clear hb)
  go_wp2
  refine ret_row rfl _ 23 _ (0, 0) _ rfl (keep_row _ fr) Tryz.underlying23 rfl (by rw [ints_size]; kernel_rfl) rfl ⟨rfl, by (repeat (first | assumption | exact Grew.refl _ | refine Grew.more ?_ _ | refine Grew.alloc ?_ _ | refine Grew.drewN ?_ _ | refine Grew.setRow ?_ _ _ (by omega) | refine Grew.setRow ?_ _ _ (by simp; omega) | refine Grew.setRow ?_ _ _ (by simp)))⟩
theorem pastC : PastC := fun o m W ho hm hT => ppast_any o m W hm hT
end Go.Proofs.YtomoccbljclhlaaGreatDoor
