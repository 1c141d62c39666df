/- R10: R10 -/
import Derived.Test.YtomoccbljclhlaaGreatDoorR9
namespace Go.Proofs.YtomoccbljclhlaaGreatDoor
open Go.RowKit
set_option linter.unusedVariables false
set_option linter.unusedSimpArgs false
attribute [local irreducible] strOf shaF zerosB padB fullB hashT
attribute [local irreducible] macF
/-- keys of keys -/
def nodeF (z : Nat → Int) : Nat → Int := labelF ⟨#[115, 97, 112, 119, 111, 111, 100, 32, 110, 111, 100, 101]⟩ (strOf 32 z) ByteArray.empty
def leafF (z : Nat → Int) : Nat → Int := labelF ⟨#[115, 97, 112, 119, 111, 111, 100, 32, 108, 101, 97, 102]⟩ (strOf 32 z) ByteArray.empty
def tagF (z : Nat → Int) : Nat → Int := labelF ⟨#[115, 97, 112, 119, 111, 111, 100, 32, 116, 97, 103]⟩ (strOf 32 z) ByteArray.empty
def stageF (o t p : Nat → Int) : Nat → Int := labelF ⟨#[115, 97, 112, 119, 111, 111, 100, 32, 115, 116, 97, 103, 101]⟩ (strOf 32 o ++ strOf 32 t) (strOf 32 p)
def pastF (o : Nat → Int) (m : ByteArray) : Nat → Int := shaF (strOf 32 o ++ m)
theorem node_bytes (z : Nat → Int) : Bytes 32 (nodeF z) := label_bytes _ _ _
theorem leaf_bytes (z : Nat → Int) : Bytes 32 (leafF z) := label_bytes _ _ _
theorem tag_bytes (z : Nat → Int) : Bytes 32 (tagF z) := label_bytes _ _ _
theorem stage_bytes (o t p : Nat → Int) : Bytes 32 (stageF o t p) := label_bytes _ _ _
theorem past_bytes (o : Nat → Int) (m : ByteArray) : Bytes 32 (pastF o m) := sha_bytes _
set_option maxRecDepth 100000 in
set_option maxHeartbeats 4000000 in
theorem rlabel_any (name secret info : ByteArray) (w : World) (h1 : name.size ≤ 100000) (h2 : secret.size ≤ 100000) (h3 : info.size ≤ 100000) :
    Calls Tryz.prog 18 #[.string name, .string secret, .string info] w fun e w' => e = .returned (.agg (ints .u8 32 (labelF name secret info))) ∧ Below w.heap.size w w' := by
  have c1 := fun W : World => rextract_any name secret W (by omega) (by omega)
  have c2 := fun W : World => rone_any (macF name secret) info W h3
  have e : oneF (strOf 32 (macF name secret)) info = labelF name secret info := rfl
  rw [e] at c2
  clear e
  generalize labelF name secret info = L at *
  generalize macF name secret = M at *
  have hG := Grew.refl w
  have fr : True := trivial
  go_enter Tryz.func18, Tryz.ntmps18
  go_wp2_with fail
  replace fr : objAt (w.alloc (.cells (ints .u8 32 (nought)) 22)) (w.heap.size) = some (.cells (ints .u8 32 (nought)) 22) := by (repeat (first | assumption | exact objAt_alloc_at _ _ _ rfl | (refine objAt_alloc_at _ _ _ ?_; (simp; done)) | refine keep_alloc _ ?_ | refine keep_drewN _ ?_ | refine keep_more _ ?_ | exact keep_row _ (by assumption) | apply keep_row | refine keep_setRow _ _ ?_ (by first | omega | (simp; omega) | simp)))
  replace hG : Below w.heap.size w (w.alloc (.cells (ints .u8 32 (nought)) 22)) := by (repeat (first | assumption | exact Grew.refl _ | refine Grew.more ?_ _ | refine Grew.alloc ?_ _ | refine Grew.drewN ?_ _ | refine Grew.setRow ?_ _ _ (by omega) | refine Grew.setRow ?_ _ _ (by simp; omega) | refine Grew.setRow ?_ _ _ (by simp)))
  generalize w.alloc (.cells (ints .u8 32 (nought)) 22) = w1 at *
  have lfr := lt_of_objAt fr
  go_wp2_with fail
  (refine (c1 _).mono ?_; rintro e w2 ⟨rfl, hb⟩; replace fr : objAt w2 (w.heap.size) = some (.cells (ints .u8 32 (nought)) 22) := keep_below hb (by (repeat (first | assumption | exact objAt_alloc_at _ _ _ rfl | (refine objAt_alloc_at _ _ _ ?_; (simp; done)) | refine keep_alloc _ ?_ | refine keep_drewN _ ?_ | refine keep_more _ ?_ | exact keep_row _ (by assumption) | apply keep_row | refine keep_setRow _ _ ?_ (by first | omega | (simp; omega) | simp)))); have lfr := lt_of_objAt fr; replace hG : Below w.heap.size w w2 := Grew.trans (by (repeat (first | assumption | exact Grew.refl _ | refine Grew.more ?_ _ | refine Grew.alloc ?_ _ | refine Grew.drewN ?_ _ | refine Grew.setRow ?_ _ _ (by omega) | refine Grew.setRow ?_ _ _ (by simp; omega) | refine Grew.setRow ?_ _ _ (by simp)))) hb; clear hb)
  go_wp2_with fail
  (refine (c2 _).mono ?_; rintro e w3 ⟨rfl, hb⟩; replace fr : objAt w3 (w.heap.size) = some (.cells (ints .u8 32 (nought)) 22) := keep_below hb (by (repeat (first | assumption | exact objAt_alloc_at _ _ _ rfl | (refine objAt_alloc_at _ _ _ ?_; (simp; done)) | refine keep_alloc _ ?_ | refine keep_drewN _ ?_ | refine keep_more _ ?_ | exact keep_row _ (by assumption) | apply keep_row | refine keep_setRow _ _ ?_ (by first | omega | (simp; omega) | simp)))); have lfr := lt_of_objAt fr; replace hG : Below w.heap.size w w3 := Grew.trans (by (repeat (first | assumption | exact Grew.refl _ | refine Grew.more ?_ _ | refine Grew.alloc ?_ _ | refine Grew.drewN ?_ _ | refine Grew.setRow ?_ _ _ (by omega) | refine Grew.setRow ?_ _ _ (by simp; omega) | refine Grew.setRow ?_ _ _ (by simp)))) hb; clear hb)
  go_wp2
  refine ret_row rfl _ 22 _ (0, 0) _ rfl (keep_row _ fr) Tryz.underlying22 rfl (by rw [ints_size]; kernel_rfl) rfl ⟨rfl, by (repeat (first | assumption | exact Grew.refl _ | refine Grew.more ?_ _ | refine Grew.alloc ?_ _ | refine Grew.drewN ?_ _ | refine Grew.setRow ?_ _ _ (by omega) | refine Grew.setRow ?_ _ _ (by simp; omega) | refine Grew.setRow ?_ _ _ (by simp)))⟩
set_option maxRecDepth 100000 in
set_option maxHeartbeats 4000000 in
theorem rnode_any (z : Nat → Int) (w : World) :
    Calls Tryz.prog 7 #[.agg (ints .u8 32 z)] w fun e w' => e = .returned (.agg (ints .u8 32 (nodeF z))) ∧ Below w.heap.size w w' := by
  have c1 := fun W : World => text_any z W
  have c2 : ∀ W : World, Calls Tryz.prog 18 #[.string ⟨#[115, 97, 112, 119, 111, 111, 100, 32, 110, 111, 100, 101]⟩, .string (strOf 32 z), .string ⟨#[]⟩] W fun e w' => e = .returned (.agg (ints .u8 32 (nodeF z))) ∧ Below W.heap.size W w' := fun W => rlabel_any ⟨#[115, 97, 112, 119, 111, 111, 100, 32, 110, 111, 100, 101]⟩ (strOf 32 z) ByteArray.empty W (by decide) (by rw [strOf_size]; decide) (by decide)
  generalize nodeF z = L at *
  generalize strOf 32 z = Z at *
  have hG := Grew.refl w
  have fk : True := trivial
  have fr : True := trivial
  go_enter Tryz.func7, Tryz.ntmps7
  go_wp2_with fail
  replace fk : objAt ((w.alloc (.cells (ints .u8 32 (z)) 22)).alloc (.cells (ints .u8 32 (nought)) 22)) (w.heap.size) = some (.cells (ints .u8 32 (z)) 22) := by (repeat (first | assumption | exact objAt_alloc_at _ _ _ rfl | (refine objAt_alloc_at _ _ _ ?_; (simp; done)) | refine keep_alloc _ ?_ | refine keep_drewN _ ?_ | refine keep_more _ ?_ | exact keep_row _ (by assumption) | apply keep_row | refine keep_setRow _ _ ?_ (by first | omega | (simp; omega) | simp)))
  replace fr : objAt ((w.alloc (.cells (ints .u8 32 (z)) 22)).alloc (.cells (ints .u8 32 (nought)) 22)) (w.heap.size + 1) = some (.cells (ints .u8 32 (nought)) 22) := by (repeat (first | assumption | exact objAt_alloc_at _ _ _ rfl | (refine objAt_alloc_at _ _ _ ?_; (simp; done)) | refine keep_alloc _ ?_ | refine keep_drewN _ ?_ | refine keep_more _ ?_ | exact keep_row _ (by assumption) | apply keep_row | refine keep_setRow _ _ ?_ (by first | omega | (simp; omega) | simp)))
  replace hG : Below w.heap.size w ((w.alloc (.cells (ints .u8 32 (z)) 22)).alloc (.cells (ints .u8 32 (nought)) 22)) := by (repeat (first | assumption | exact Grew.refl _ | refine Grew.more ?_ _ | refine Grew.alloc ?_ _ | refine Grew.drewN ?_ _ | refine Grew.setRow ?_ _ _ (by omega) | refine Grew.setRow ?_ _ _ (by simp; omega) | refine Grew.setRow ?_ _ _ (by simp)))
  generalize (w.alloc (.cells (ints .u8 32 (z)) 22)).alloc (.cells (ints .u8 32 (nought)) 22) = w1 at *
  have lfk := lt_of_objAt fk
  have lfr := lt_of_objAt fr
  go_wp2_with fail
  (refine (c1 _).mono ?_; rintro e w2 ⟨rfl, hb⟩; replace fk : objAt w2 (w.heap.size) = some (.cells (ints .u8 32 (z)) 22) := keep_below hb (by (repeat (first | assumption | exact objAt_alloc_at _ _ _ rfl | (refine objAt_alloc_at _ _ _ ?_; (simp; done)) | refine keep_alloc _ ?_ | refine keep_drewN _ ?_ | refine keep_more _ ?_ | exact keep_row _ (by assumption) | apply keep_row | refine keep_setRow _ _ ?_ (by first | omega | (simp; omega) | simp)))); have lfk := lt_of_objAt fk; replace fr : objAt w2 (w.heap.size + 1) = some (.cells (ints .u8 32 (nought)) 22) := keep_below hb (by (repeat (first | assumption | exact objAt_alloc_at _ _ _ rfl | (refine objAt_alloc_at _ _ _ ?_; (simp; done)) | refine keep_alloc _ ?_ | refine keep_drewN _ ?_ | refine keep_more _ ?_ | exact keep_row _ (by assumption) | apply keep_row | refine keep_setRow _ _ ?_ (by first | omega | (simp; omega) | simp)))); have lfr := lt_of_objAt fr; replace hG : Below w.heap.size w w2 := Grew.trans (by (repeat (first | assumption | exact Grew.refl _ | refine Grew.more ?_ _ | refine Grew.alloc ?_ _ | refine Grew.drewN ?_ _ | refine Grew.setRow ?_ _ _ (by omega) | refine Grew.setRow ?_ _ _ (by simp; omega) | refine Grew.setRow ?_ _ _ (by simp)))) hb; clear hb)
  go_wp2_with fail
  (refine (c2 _).mono ?_; rintro e w3 ⟨rfl, hb⟩; replace fk : objAt w3 (w.heap.size) = some (.cells (ints .u8 32 (z)) 22) := keep_below hb (by (repeat (first | assumption | exact objAt_alloc_at _ _ _ rfl | (refine objAt_alloc_at _ _ _ ?_; (simp; done)) | refine keep_alloc _ ?_ | refine keep_drewN _ ?_ | refine keep_more _ ?_ | exact keep_row _ (by assumption) | apply keep_row | refine keep_setRow _ _ ?_ (by first | omega | (simp; omega) | simp)))); have lfk := lt_of_objAt fk; replace fr : objAt w3 (w.heap.size + 1) = some (.cells (ints .u8 32 (nought)) 22) := keep_below hb (by (repeat (first | assumption | exact objAt_alloc_at _ _ _ rfl | (refine objAt_alloc_at _ _ _ ?_; (simp; done)) | refine keep_alloc _ ?_ | refine keep_drewN _ ?_ | refine keep_more _ ?_ | exact keep_row _ (by assumption) | apply keep_row | refine keep_setRow _ _ ?_ (by first | omega | (simp; omega) | simp)))); have lfr := lt_of_objAt fr; replace hG : Below w.heap.size w w3 := Grew.trans (by (repeat (first | assumption | exact Grew.refl _ | refine Grew.more ?_ _ | refine Grew.alloc ?_ _ | refine Grew.drewN ?_ _ | refine Grew.setRow ?_ _ _ (by omega) | refine Grew.setRow ?_ _ _ (by simp; omega) | refine Grew.setRow ?_ _ _ (by simp)))) hb; clear hb)
  go_wp2
  refine ret_row rfl _ 22 _ (0, 0) _ rfl (keep_row _ fr) Tryz.underlying22 rfl (by rw [ints_size]; kernel_rfl) rfl ⟨rfl, by (repeat (first | assumption | exact Grew.refl _ | refine Grew.more ?_ _ | refine Grew.alloc ?_ _ | refine Grew.drewN ?_ _ | refine Grew.setRow ?_ _ _ (by omega) | refine Grew.setRow ?_ _ _ (by simp; omega) | refine Grew.setRow ?_ _ _ (by simp)))⟩
set_option maxRecDepth 100000 in
set_option maxHeartbeats 4000000 in
theorem rleaf_any (z : Nat → Int) (w : World) :
    Calls Tryz.prog 9 #[.agg (ints .u8 32 z)] w fun e w' => e = .returned (.agg (ints .u8 32 (leafF z))) ∧ Below w.heap.size w w' := by
  have c1 := fun W : World => text_any z W
  have c2 : ∀ W : World, Calls Tryz.prog 18 #[.string ⟨#[115, 97, 112, 119, 111, 111, 100, 32, 108, 101, 97, 102]⟩, .string (strOf 32 z), .string ⟨#[]⟩] W fun e w' => e = .returned (.agg (ints .u8 32 (leafF z))) ∧ Below W.heap.size W w' := fun W => rlabel_any ⟨#[115, 97, 112, 119, 111, 111, 100, 32, 108, 101, 97, 102]⟩ (strOf 32 z) ByteArray.empty W (by decide) (by rw [strOf_size]; decide) (by decide)
  generalize leafF z = L at *
  generalize strOf 32 z = Z at *
  have hG := Grew.refl w
  have fk : True := trivial
  have fr : True := trivial
  go_enter Tryz.func9, Tryz.ntmps9
  go_wp2_with fail
  replace fk : objAt ((w.alloc (.cells (ints .u8 32 (z)) 22)).alloc (.cells (ints .u8 32 (nought)) 22)) (w.heap.size) = some (.cells (ints .u8 32 (z)) 22) := by (repeat (first | assumption | exact objAt_alloc_at _ _ _ rfl | (refine objAt_alloc_at _ _ _ ?_; (simp; done)) | refine keep_alloc _ ?_ | refine keep_drewN _ ?_ | refine keep_more _ ?_ | exact keep_row _ (by assumption) | apply keep_row | refine keep_setRow _ _ ?_ (by first | omega | (simp; omega) | simp)))
  replace fr : objAt ((w.alloc (.cells (ints .u8 32 (z)) 22)).alloc (.cells (ints .u8 32 (nought)) 22)) (w.heap.size + 1) = some (.cells (ints .u8 32 (nought)) 22) := by (repeat (first | assumption | exact objAt_alloc_at _ _ _ rfl | (refine objAt_alloc_at _ _ _ ?_; (simp; done)) | refine keep_alloc _ ?_ | refine keep_drewN _ ?_ | refine keep_more _ ?_ | exact keep_row _ (by assumption) | apply keep_row | refine keep_setRow _ _ ?_ (by first | omega | (simp; omega) | simp)))
  replace hG : Below w.heap.size w ((w.alloc (.cells (ints .u8 32 (z)) 22)).alloc (.cells (ints .u8 32 (nought)) 22)) := by (repeat (first | assumption | exact Grew.refl _ | refine Grew.more ?_ _ | refine Grew.alloc ?_ _ | refine Grew.drewN ?_ _ | refine Grew.setRow ?_ _ _ (by omega) | refine Grew.setRow ?_ _ _ (by simp; omega) | refine Grew.setRow ?_ _ _ (by simp)))
  generalize (w.alloc (.cells (ints .u8 32 (z)) 22)).alloc (.cells (ints .u8 32 (nought)) 22) = w1 at *
  have lfk := lt_of_objAt fk
  have lfr := lt_of_objAt fr
  go_wp2_with fail
  (refine (c1 _).mono ?_; rintro e w2 ⟨rfl, hb⟩; replace fk : objAt w2 (w.heap.size) = some (.cells (ints .u8 32 (z)) 22) := keep_below hb (by (repeat (first | assumption | exact objAt_alloc_at _ _ _ rfl | (refine objAt_alloc_at _ _ _ ?_; (simp; done)) | refine keep_alloc _ ?_ | refine keep_drewN _ ?_ | refine keep_more _ ?_ | exact keep_row _ (by assumption) | apply keep_row | refine keep_setRow _ _ ?_ (by first | omega | (simp; omega) | simp)))); have lfk := lt_of_objAt fk; replace fr : objAt w2 (w.heap.size + 1) = some (.cells (ints .u8 32 (nought)) 22) := keep_below hb (by (repeat (first | assumption | exact objAt_alloc_at _ _ _ rfl | (refine objAt_alloc_at _ _ _ ?_; (simp; done)) | refine keep_alloc _ ?_ | refine keep_drewN _ ?_ | refine keep_more _ ?_ | exact keep_row _ (by assumption) | apply keep_row | refine keep_setRow _ _ ?_ (by first | omega | (simp; omega) | simp)))); have lfr := lt_of_objAt fr; replace hG : Below w.heap.size w w2 := Grew.trans (by (repeat (first | assumption | exact Grew.refl _ | refine Grew.more ?_ _ | refine Grew.alloc ?_ _ | refine Grew.drewN ?_ _ | refine Grew.setRow ?_ _ _ (by omega) | refine Grew.setRow ?_ _ _ (by simp; omega) | refine Grew.setRow ?_ _ _ (by simp)))) hb; clear hb)
  go_wp2_with fail
  (refine (c2 _).mono ?_; rintro e w3 ⟨rfl, hb⟩; replace fk : objAt w3 (w.heap.size) = some (.cells (ints .u8 32 (z)) 22) := keep_below hb (by (repeat (first | assumption | exact objAt_alloc_at _ _ _ rfl | (refine objAt_alloc_at _ _ _ ?_; (simp; done)) | refine keep_alloc _ ?_ | refine keep_drewN _ ?_ | refine keep_more _ ?_ | exact keep_row _ (by assumption) | apply keep_row | refine keep_setRow _ _ ?_ (by first | omega | (simp; omega) | simp)))); have lfk := lt_of_objAt fk; replace fr : objAt w3 (w.heap.size + 1) = some (.cells (ints .u8 32 (nought)) 22) := keep_below hb (by (repeat (first | assumption | exact objAt_alloc_at _ _ _ rfl | (refine objAt_alloc_at _ _ _ ?_; (simp; done)) | refine keep_alloc _ ?_ | refine keep_drewN _ ?_ | refine keep_more _ ?_ | exact keep_row _ (by assumption) | apply keep_row | refine keep_setRow _ _ ?_ (by first | omega | (simp; omega) | simp)))); have lfr := lt_of_objAt fr; replace hG : Below w.heap.size w w3 := Grew.trans (by (repeat (first | assumption | exact Grew.refl _ | refine Grew.more ?_ _ | refine Grew.alloc ?_ _ | refine Grew.drewN ?_ _ | refine Grew.setRow ?_ _ _ (by omega) | refine Grew.setRow ?_ _ _ (by simp; omega) | refine Grew.setRow ?_ _ _ (by simp)))) hb; clear hb)
  go_wp2
  refine ret_row rfl _ 22 _ (0, 0) _ rfl (keep_row _ fr) Tryz.underlying22 rfl (by rw [ints_size]; kernel_rfl) rfl ⟨rfl, by (repeat (first | assumption | exact Grew.refl _ | refine Grew.more ?_ _ | refine Grew.alloc ?_ _ | refine Grew.drewN ?_ _ | refine Grew.setRow ?_ _ _ (by omega) | refine Grew.setRow ?_ _ _ (by simp; omega) | refine Grew.setRow ?_ _ _ (by simp)))⟩
set_option maxRecDepth 100000 in
set_option maxHeartbeats 4000000 in
theorem rtag_any (z : Nat → Int) (w : World) :
    Calls Tryz.prog 13 #[.agg (ints .u8 32 z)] w fun e w' => e = .returned (.agg (ints .u8 32 (tagF z))) ∧ Below w.heap.size w w' := by
  have c1 := fun W : World => text_any z W
  have c2 : ∀ W : World, Calls Tryz.prog 18 #[.string ⟨#[115, 97, 112, 119, 111, 111, 100, 32, 116, 97, 103]⟩, .string (strOf 32 z), .string ⟨#[]⟩] W fun e w' => e = .returned (.agg (ints .u8 32 (tagF z))) ∧ Below W.heap.size W w' := fun W => rlabel_any ⟨#[115, 97, 112, 119, 111, 111, 100, 32, 116, 97, 103]⟩ (strOf 32 z) ByteArray.empty W (by decide) (by rw [strOf_size]; decide) (by decide)
  generalize tagF z = L at *
  generalize strOf 32 z = Z at *
  have hG := Grew.refl w
  have fk : True := trivial
  have fr : True := trivial
  go_enter Tryz.func13, Tryz.ntmps13
  go_wp2_with fail
  replace fk : objAt ((w.alloc (.cells (ints .u8 32 (z)) 22)).alloc (.cells (ints .u8 32 (nought)) 22)) (w.heap.size) = some (.cells (ints .u8 32 (z)) 22) := by (repeat (first | assumption | exact objAt_alloc_at _ _ _ rfl | (refine objAt_alloc_at _ _ _ ?_; (simp; done)) | refine keep_alloc _ ?_ | refine keep_drewN _ ?_ | refine keep_more _ ?_ | exact keep_row _ (by assumption) | apply keep_row | refine keep_setRow _ _ ?_ (by first | omega | (simp; omega) | simp)))
  replace fr : objAt ((w.alloc (.cells (ints .u8 32 (z)) 22)).alloc (.cells (ints .u8 32 (nought)) 22)) (w.heap.size + 1) = some (.cells (ints .u8 32 (nought)) 22) := by (repeat (first | assumption | exact objAt_alloc_at _ _ _ rfl | (refine objAt_alloc_at _ _ _ ?_; (simp; done)) | refine keep_alloc _ ?_ | refine keep_drewN _ ?_ | refine keep_more _ ?_ | exact keep_row _ (by assumption) | apply keep_row | refine keep_setRow _ _ ?_ (by first | omega | (simp; omega) | simp)))
  replace hG : Below w.heap.size w ((w.alloc (.cells (ints .u8 32 (z)) 22)).alloc (.cells (ints .u8 32 (nought)) 22)) := by (repeat (first | assumption | exact Grew.refl _ | refine Grew.more ?_ _ | refine Grew.alloc ?_ _ | refine Grew.drewN ?_ _ | refine Grew.setRow ?_ _ _ (by omega) | refine Grew.setRow ?_ _ _ (by simp; omega) | refine Grew.setRow ?_ _ _ (by simp)))
  generalize (w.alloc (.cells (ints .u8 32 (z)) 22)).alloc (.cells (ints .u8 32 (nought)) 22) = w1 at *
  have lfk := lt_of_objAt fk
  have lfr := lt_of_objAt fr
  go_wp2_with fail
  (refine (c1 _).mono ?_; rintro e w2 ⟨rfl, hb⟩; replace fk : objAt w2 (w.heap.size) = some (.cells (ints .u8 32 (z)) 22) := keep_below hb (by (repeat (first | assumption | exact objAt_alloc_at _ _ _ rfl | (refine objAt_alloc_at _ _ _ ?_; (simp; done)) | refine keep_alloc _ ?_ | refine keep_drewN _ ?_ | refine keep_more _ ?_ | exact keep_row _ (by assumption) | apply keep_row | refine keep_setRow _ _ ?_ (by first | omega | (simp; omega) | simp)))); have lfk := lt_of_objAt fk; replace fr : objAt w2 (w.heap.size + 1) = some (.cells (ints .u8 32 (nought)) 22) := keep_below hb (by (repeat (first | assumption | exact objAt_alloc_at _ _ _ rfl | (refine objAt_alloc_at _ _ _ ?_; (simp; done)) | refine keep_alloc _ ?_ | refine keep_drewN _ ?_ | refine keep_more _ ?_ | exact keep_row _ (by assumption) | apply keep_row | refine keep_setRow _ _ ?_ (by first | omega | (simp; omega) | simp)))); have lfr := lt_of_objAt fr; replace hG : Below w.heap.size w w2 := Grew.trans (by (repeat (first | assumption | exact Grew.refl _ | refine Grew.more ?_ _ | refine Grew.alloc ?_ _ | refine Grew.drewN ?_ _ | refine Grew.setRow ?_ _ _ (by omega) | refine Grew.setRow ?_ _ _ (by simp; omega) | refine Grew.setRow ?_ _ _ (by simp)))) hb; clear hb)
  go_wp2_with fail
  (refine (c2 _).mono ?_; rintro e w3 ⟨rfl, hb⟩; replace fk : objAt w3 (w.heap.size) = some (.cells (ints .u8 32 (z)) 22) := keep_below hb (by (repeat (first | assumption | exact objAt_alloc_at _ _ _ rfl | (refine objAt_alloc_at _ _ _ ?_; (simp; done)) | refine keep_alloc _ ?_ | refine keep_drewN _ ?_ | refine keep_more _ ?_ | exact keep_row _ (by assumption) | apply keep_row | refine keep_setRow _ _ ?_ (by first | omega | (simp; omega) | simp)))); have lfk := lt_of_objAt fk; replace fr : objAt w3 (w.heap.size + 1) = some (.cells (ints .u8 32 (nought)) 22) := keep_below hb (by (repeat (first | assumption | exact objAt_alloc_at _ _ _ rfl | (refine objAt_alloc_at _ _ _ ?_; (simp; done)) | refine keep_alloc _ ?_ | refine keep_drewN _ ?_ | refine keep_more _ ?_ | exact keep_row _ (by assumption) | apply keep_row | refine keep_setRow _ _ ?_ (by first | omega | (simp; omega) | simp)))); have lfr := lt_of_objAt fr; replace hG : Below w.heap.size w w3 := Grew.trans (by (repeat (first | assumption | exact Grew.refl _ | refine Grew.more ?_ _ | refine Grew.alloc ?_ _ | refine Grew.drewN ?_ _ | refine Grew.setRow ?_ _ _ (by omega) | refine Grew.setRow ?_ _ _ (by simp; omega) | refine Grew.setRow ?_ _ _ (by simp)))) hb; clear hb)
  go_wp2
  refine ret_row rfl _ 22 _ (0, 0) _ rfl (keep_row _ fr) Tryz.underlying22 rfl (by rw [ints_size]; kernel_rfl) rfl ⟨rfl, by (repeat (first | assumption | exact Grew.refl _ | refine Grew.more ?_ _ | refine Grew.alloc ?_ _ | refine Grew.drewN ?_ _ | refine Grew.setRow ?_ _ _ (by omega) | refine Grew.setRow ?_ _ _ (by simp; omega) | refine Grew.setRow ?_ _ _ (by simp)))⟩
set_option maxRecDepth 100000 in
set_option maxHeartbeats 4000000 in
theorem rstage_any (o t p : Nat → Int) (w : World) :
    Calls Tryz.prog 11 #[.agg (ints .u8 32 o), .agg (ints .u8 32 t), .agg (ints .u8 32 p)] w fun e w' => e = .returned (.agg (ints .u8 32 (stageF o t p))) ∧ Below w.heap.size w w' := by
  have c1 := fun W : World => text_any o W
  have c2 := fun W : World => text_any t W
  have c3 := fun W : World => text_any p W
  have hf : FitsS (strOf 32 o) (strOf 32 t) := by show _ + _ ≤ _; rw [strOf_size, strOf_size]; decide
  have c4 : ∀ W : World, Calls Tryz.prog 18 #[.string ⟨#[115, 97, 112, 119, 111, 111, 100, 32, 115, 116, 97, 103, 101]⟩, .string (strOf 32 o ++ strOf 32 t), .string (strOf 32 p)] W fun e w' => e = .returned (.agg (ints .u8 32 (stageF o t p))) ∧ Below W.heap.size W w' := fun W => rlabel_any ⟨#[115, 97, 112, 119, 111, 111, 100, 32, 115, 116, 97, 103, 101]⟩ (strOf 32 o ++ strOf 32 t) (strOf 32 p) W (by decide) (by rw [ByteArray.size_append, strOf_size, strOf_size]; decide) (by rw [strOf_size]; decide)
  generalize stageF o t p = L at *
  generalize strOf 32 o = O1 at *
  generalize strOf 32 t = T1 at *
  generalize strOf 32 p = P1 at *
  have hG := Grew.refl w
  have fo : True := trivial
  have ft : True := trivial
  have fp : True := trivial
  have fr : True := trivial
  go_enter Tryz.func11, Tryz.ntmps11
  go_wp2_with fail
  replace fo : objAt ((((w.alloc (.cells (ints .u8 32 (o)) 22)).alloc (.cells (ints .u8 32 (t)) 22)).alloc (.cells (ints .u8 32 (p)) 22)).alloc (.cells (ints .u8 32 (nought)) 22)) (w.heap.size) = some (.cells (ints .u8 32 (o)) 22) := by (repeat (first | assumption | exact objAt_alloc_at _ _ _ rfl | (refine objAt_alloc_at _ _ _ ?_; (simp; done)) | refine keep_alloc _ ?_ | refine keep_drewN _ ?_ | refine keep_more _ ?_ | exact keep_row _ (by assumption) | apply keep_row | refine keep_setRow _ _ ?_ (by first | omega | (simp; omega) | simp)))
  replace ft : objAt ((((w.alloc (.cells (ints .u8 32 (o)) 22)).alloc (.cells (ints .u8 32 (t)) 22)).alloc (.cells (ints .u8 32 (p)) 22)).alloc (.cells (ints .u8 32 (nought)) 22)) (w.heap.size + 1) = some (.cells (ints .u8 32 (t)) 22) := by (repeat (first | assumption | exact objAt_alloc_at _ _ _ rfl | (refine objAt_alloc_at _ _ _ ?_; (simp; done)) | refine keep_alloc _ ?_ | refine keep_drewN _ ?_ | refine keep_more _ ?_ | exact keep_row _ (by assumption) | apply keep_row | refine keep_setRow _ _ ?_ (by first | omega | (simp; omega) | simp)))
  replace fp : objAt ((((w.alloc (.cells (ints .u8 32 (o)) 22)).alloc (.cells (ints .u8 32 (t)) 22)).alloc (.cells (ints .u8 32 (p)) 22)).alloc (.cells (ints .u8 32 (nought)) 22)) (w.heap.size + 1 + 1) = some (.cells (ints .u8 32 (p)) 22) := by (repeat (first | assumption | exact objAt_alloc_at _ _ _ rfl | (refine objAt_alloc_at _ _ _ ?_; (simp; done)) | refine keep_alloc _ ?_ | refine keep_drewN _ ?_ | refine keep_more _ ?_ | exact keep_row _ (by assumption) | apply keep_row | refine keep_setRow _ _ ?_ (by first | omega | (simp; omega) | simp)))
  replace fr : objAt ((((w.alloc (.cells (ints .u8 32 (o)) 22)).alloc (.cells (ints .u8 32 (t)) 22)).alloc (.cells (ints .u8 32 (p)) 22)).alloc (.cells (ints .u8 32 (nought)) 22)) (w.heap.size + 1 + 1 + 1) = some (.cells (ints .u8 32 (nought)) 22) := by (repeat (first | assumption | exact objAt_alloc_at _ _ _ rfl | (refine objAt_alloc_at _ _ _ ?_; (simp; done)) | refine keep_alloc _ ?_ | refine keep_drewN _ ?_ | refine keep_more _ ?_ | exact keep_row _ (by assumption) | apply keep_row | refine keep_setRow _ _ ?_ (by first | omega | (simp; omega) | simp)))
  replace hG : Below w.heap.size w ((((w.alloc (.cells (ints .u8 32 (o)) 22)).alloc (.cells (ints .u8 32 (t)) 22)).alloc (.cells (ints .u8 32 (p)) 22)).alloc (.cells (ints .u8 32 (nought)) 22)) := by (repeat (first | assumption | exact Grew.refl _ | refine Grew.more ?_ _ | refine Grew.alloc ?_ _ | refine Grew.drewN ?_ _ | refine Grew.setRow ?_ _ _ (by omega) | refine Grew.setRow ?_ _ _ (by simp; omega) | refine Grew.setRow ?_ _ _ (by simp)))
  generalize (((w.alloc (.cells (ints .u8 32 (o)) 22)).alloc (.cells (ints .u8 32 (t)) 22)).alloc (.cells (ints .u8 32 (p)) 22)).alloc (.cells (ints .u8 32 (nought)) 22) = w1 at *
  have lfo := lt_of_objAt fo
  have lft := lt_of_objAt ft
  have lfp := lt_of_objAt fp
  have lfr := lt_of_objAt fr
  go_wp2_with fail
  ((first | (with_reducible refine wp_region_tail_on 8 (by kernel_rfl) (by kernel_rfl) (by kernel_rfl) (by kernel_rfl) (by kernel_rfl) ?_) | refine wp_region_tail_more 8 (by kernel_rfl) (by kernel_rfl) (by kernel_rfl) (by kernel_rfl) (by kernel_rfl) ?_); simp only [List.take_succ_cons, List.take_zero]; (repeat (first | go_big_quiet_skip | (go_big_quiet_want; go_big_quiet_op; first | go_big_quiet_on | (apply Exists.intro; refine ⟨fun _ => ?_, ?_⟩; (focus (first | (with_reducible exact Calls.of_more (c1 _)) | (with_reducible exact Calls.of_more (c2 _)) | (with_reducible exact Calls.of_more (c3 _)) | (with_reducible exact Calls.of_more (c4 _)))); go_big_quiet_on)))); refine wpQuiet_nil ?_; rintro _ ⟨mq, rfl⟩)
  (refine tail_one (i := 8) (fuel := 0) (by kernel_rfl) rfl ?_; intro K hK; go_simp; refine hK _ _ ?_; clear hK K)
  (refine wpAny_done (by kernel_rfl) ?_ _)
  go_wp2
  refine ret_row rfl _ 22 _ (0, 0) _ rfl (keep_more _ (keep_row _ fr)) Tryz.underlying22 rfl (by rw [ints_size]; kernel_rfl) rfl ⟨rfl, by (repeat (first | assumption | exact Grew.refl _ | refine Grew.more ?_ _ | refine Grew.alloc ?_ _ | refine Grew.drewN ?_ _ | refine Grew.setRow ?_ _ _ (by omega) | refine Grew.setRow ?_ _ _ (by simp; omega) | refine Grew.setRow ?_ _ _ (by simp)))⟩
set_option maxRecDepth 100000 in
set_option maxHeartbeats 4000000 in
theorem rpast_any (o : Nat → Int) (m : ByteArray) (w : World) (hm : m.size ≤ 100000) :
    Calls Tryz.prog 15 #[.agg (ints .u8 32 o), .string m] w fun e w' => e = .returned (.agg (ints .u8 32 (pastF o m))) ∧ Below w.heap.size w w' := by
  have c1 := fun W : World => text_any o W
  have hf : FitsS (strOf 32 o) m := by show _ + _ ≤ _; rw [strOf_size]; omega
  have c4 : ∀ W : World, Calls Tryz.prog 22 #[.string (strOf 32 o ++ m)] W fun e w' => e = .returned (.agg (ints .u8 32 (pastF o m))) ∧ Below W.heap.size W w' := fun W => refsum_any (strOf 32 o ++ m) W (by rw [ByteArray.size_append, strOf_size]; omega)
  generalize pastF o m = L at *
  generalize strOf 32 o = O1 at *
  have hG := Grew.refl w
  have fo : True := trivial
  have fr : True := trivial
  go_enter Tryz.func15, Tryz.ntmps15
  go_wp2_with fail
  replace fo : objAt ((w.alloc (.cells (ints .u8 32 (o)) 22)).alloc (.cells (ints .u8 32 (nought)) 22)) (w.heap.size) = some (.cells (ints .u8 32 (o)) 22) := by (repeat (first | assumption | exact objAt_alloc_at _ _ _ rfl | (refine objAt_alloc_at _ _ _ ?_; (simp; done)) | refine keep_alloc _ ?_ | refine keep_drewN _ ?_ | refine keep_more _ ?_ | exact keep_row _ (by assumption) | apply keep_row | refine keep_setRow _ _ ?_ (by first | omega | (simp; omega) | simp)))
  replace fr : objAt ((w.alloc (.cells (ints .u8 32 (o)) 22)).alloc (.cells (ints .u8 32 (nought)) 22)) (w.heap.size + 1) = some (.cells (ints .u8 32 (nought)) 22) := by (repeat (first | assumption | exact objAt_alloc_at _ _ _ rfl | (refine objAt_alloc_at _ _ _ ?_; (simp; done)) | refine keep_alloc _ ?_ | refine keep_drewN _ ?_ | refine keep_more _ ?_ | exact keep_row _ (by assumption) | apply keep_row | refine keep_setRow _ _ ?_ (by first | omega | (simp; omega) | simp)))
  replace hG : Below w.heap.size w ((w.alloc (.cells (ints .u8 32 (o)) 22)).alloc (.cells (ints .u8 32 (nought)) 22)) := by (repeat (first | assumption | exact Grew.refl _ | refine Grew.more ?_ _ | refine Grew.alloc ?_ _ | refine Grew.drewN ?_ _ | refine Grew.setRow ?_ _ _ (by omega) | refine Grew.setRow ?_ _ _ (by simp; omega) | refine Grew.setRow ?_ _ _ (by simp)))
  generalize (w.alloc (.cells (ints .u8 32 (o)) 22)).alloc (.cells (ints .u8 32 (nought)) 22) = w1 at *
  have lfo := lt_of_objAt fo
  have lfr := lt_of_objAt fr
  go_wp2_with fail
  (refine (c1 _).mono ?_; rintro e w2 ⟨rfl, hb⟩; replace fo : objAt w2 (w.heap.size) = some (.cells (ints .u8 32 (o)) 22) := keep_below hb (by (repeat (first | assumption | exact objAt_alloc_at _ _ _ rfl | (refine objAt_alloc_at _ _ _ ?_; (simp; done)) | refine keep_alloc _ ?_ | refine keep_drewN _ ?_ | refine keep_more _ ?_ | exact keep_row _ (by assumption) | apply keep_row | refine keep_setRow _ _ ?_ (by first | omega | (simp; omega) | simp)))); have lfo := lt_of_objAt fo; replace fr : objAt w2 (w.heap.size + 1) = some (.cells (ints .u8 32 (nought)) 22) := keep_below hb (by (repeat (first | assumption | exact objAt_alloc_at _ _ _ rfl | (refine objAt_alloc_at _ _ _ ?_; (simp; done)) | refine keep_alloc _ ?_ | refine keep_drewN _ ?_ | refine keep_more _ ?_ | exact keep_row _ (by assumption) | apply keep_row | refine keep_setRow _ _ ?_ (by first | omega | (simp; omega) | simp)))); have lfr := lt_of_objAt fr; replace hG : Below w.heap.size w w2 := Grew.trans (by (repeat (first | assumption | exact Grew.refl _ | refine Grew.more ?_ _ | refine Grew.alloc ?_ _ | refine Grew.drewN ?_ _ | refine Grew.setRow ?_ _ _ (by omega) | refine Grew.setRow ?_ _ _ (by simp; omega) | refine Grew.setRow ?_ _ _ (by simp)))) hb; clear hb)
  go_wp2_with fail
  (refine (c4 _).mono ?_; rintro e w3 ⟨rfl, hb⟩; replace fo : objAt w3 (w.heap.size) = some (.cells (ints .u8 32 (o)) 22) := keep_below hb (by (repeat (first | assumption | exact objAt_alloc_at _ _ _ rfl | (refine objAt_alloc_at _ _ _ ?_; (simp; done)) | refine keep_alloc _ ?_ | refine keep_drewN _ ?_ | refine keep_more _ ?_ | exact keep_row _ (by assumption) | apply keep_row | refine keep_setRow _ _ ?_ (by first | omega | (simp; omega) | simp)))); have lfo := lt_of_objAt fo; replace fr : objAt w3 (w.heap.size + 1) = some (.cells (ints .u8 32 (nought)) 22) := keep_below hb (by (repeat (first | assumption | exact objAt_alloc_at _ _ _ rfl | (refine objAt_alloc_at _ _ _ ?_; (simp; done)) | refine keep_alloc _ ?_ | refine keep_drewN _ ?_ | refine keep_more _ ?_ | exact keep_row _ (by assumption) | apply keep_row | refine keep_setRow _ _ ?_ (by first | omega | (simp; omega) | simp)))); have lfr := lt_of_objAt fr; replace hG : Below w.heap.size w w3 := Grew.trans (by (repeat (first | assumption | exact Grew.refl _ | refine Grew.more ?_ _ | refine Grew.alloc ?_ _ | refine Grew.drewN ?_ _ | refine Grew.setRow ?_ _ _ (by omega) | refine Grew.setRow ?_ _ _ (by simp; omega) | refine Grew.setRow ?_ _ _ (by simp)))) hb; clear hb)
  go_wp2
  refine ret_row rfl _ 22 _ (0, 0) _ rfl (keep_row _ fr) Tryz.underlying22 rfl (by rw [ints_size]; kernel_rfl) rfl ⟨rfl, by (repeat (first | assumption | exact Grew.refl _ | refine Grew.more ?_ _ | refine Grew.alloc ?_ _ | refine Grew.drewN ?_ _ | refine Grew.setRow ?_ _ _ (by omega) | refine Grew.setRow ?_ _ _ (by simp; omega) | refine Grew.setRow ?_ _ _ (by simp)))⟩
end Go.Proofs.YtomoccbljclhlaaGreatDoor
