/- The tag: mac.Sum, mac.Check. -/
import Derived.Test.YtdihaffopfbnnaaDoorMa
namespace Go.Proofs.YtdihaffopfbnnaaDoor
open Go.RowKit
set_option linter.unusedVariables false
set_option linter.unusedSimpArgs false

attribute [local irreducible] strOf shaF zerosB padB fullB hashT
/-- the tag of a text -/
def macF (key s : ByteArray) : Nat → Int := shaF (eachB (blockB key) 92 ++ strOf 32 (shaF (eachB (blockB key) 54 ++ s)))
theorem mac_bytes (key s : ByteArray) : Bytes 32 (macF key s) := sha_bytes _
theorem macF_eq (key s : ByteArray) : Hid (macF key s = shaF (eachB (blockB key) 92 ++ strOf 32 (shaF (eachB (blockB key) 54 ++ s)))) := rfl
attribute [local irreducible] macF
set_option maxRecDepth 100000 in
set_option maxHeartbeats 4000000 in
theorem macS_any (key : ByteArray) (oa : Option Addr) (n c : Nat) (F : Nat → ByteArray) (w : World) (hk : key.size < 1152921504606846976) (hl : (catS F n).size < 1152921504606840000) (hn : n ≤ 9223372036854775807) (hS : StrsAt w oa n F) (hT : Tabs w) :
    Calls Tryd.prog 20 #[.string key, .slice oa n c] w fun e w' => e = .returned (.agg (ints .u8 32 (macF key (catS F n)))) ∧ Below w.heap.size w w' := by
  have H := macF_eq key (catS F n)
  have hTT : Hid (Tabs w) := hT
  have hb64 := blockB_size key
  have he1 : (eachB (blockB key) 54).size = 64 := by rw [eachB_size, hb64]
  have he2 : (eachB (blockB key) 92).size = 64 := by rw [eachB_size, hb64]
  have c1 := fun W : World => each_any (blockB key) 54 W (by omega)
  have c2 := fun W : World => each_any (blockB key) 92 W (by omega)
  have hw : Hid (∀ W : World, Below w.heap.size w W → Calls Tryd.prog 13 #[.agg (hashB (eachB (blockB key) 54)), .slice oa n c] W fun e w' => e = .returned (.agg (hashB (eachB (blockB key) 54 ++ catS F n))) ∧ Below W.heap.size W w') := fun W hW => by
    have := write_b (eachB (blockB key) 54) oa n c F W (by omega) hn (hS.later hW) (hT.later hW)
    exact this
  have hbl : Hid (∀ W : World, Below w.heap.size w W → Calls Tryd.prog 21 #[.string key] W fun e w' => e = .returned (.string (blockB key)) ∧ Below W.heap.size W w') := fun W hW => block_any key W hk (hT.later hW)
  have hsm : Hid (∀ W : World, Below w.heap.size w W → Calls Tryd.prog 16 #[.agg (hashB (eachB (blockB key) 54 ++ catS F n))] W fun e w' => e = .returned (.agg (ints .u8 32 (shaF (eachB (blockB key) 54 ++ catS F n)))) ∧ Below W.heap.size W w') := fun W hW => sum_b (eachB (blockB key) 54 ++ catS F n) W (by rw [ByteArray.size_append]; omega) (hT.later hW)
  have hfit : Hid ((eachB (blockB key) 92).size + (strOf 32 (shaF (eachB (blockB key) 54 ++ catS F n))).size < 1152921504606846976) := by
    show _ + _ < _
    rw [he2, strOf_size]; decide
  have hfit1 : Hid (ByteArray.empty.size + (eachB (blockB key) 54).size < 1152921504606846976) := by
    show _ + _ < _
    rw [he1]; decide
  have hemp : Hid (∀ a : ByteArray, ByteArray.empty ++ a = a) := fun a => ByteArray.empty_append
  clear hS hT hl he1 he2 hb64
  have hG := Grew.refl w
  have fr : True := trivial
  go_enter Tryd.func20, Tryd.ntmps20
  go_wp2_with fail
  replace fr : objAt (w.alloc (.cells (ints .u8 32 (nought)) 24)) (w.heap.size) = some (.cells (ints .u8 32 (nought)) 24) := by (repeat (first | assumption | exact objAt_alloc_at _ _ _ rfl | (refine objAt_alloc_at _ _ _ ?_; (simp; done)) | refine keep_alloc _ ?_ | refine keep_drewN _ ?_ | refine keep_more _ ?_ | exact keep_row _ (by assumption) | apply keep_row | refine keep_setRow _ _ ?_ (by first | omega | (simp; omega) | simp)))
  replace hG : Below w.heap.size w (w.alloc (.cells (ints .u8 32 (nought)) 24)) := by (repeat (first | assumption | exact Grew.refl _ | refine Grew.more ?_ _ | refine Grew.alloc ?_ _ | refine Grew.drewN ?_ _ | refine Grew.setRow ?_ _ _ (by omega) | refine Grew.setRow ?_ _ _ (by simp; omega) | refine Grew.setRow ?_ _ _ (by simp)))
  generalize w.alloc (.cells (ints .u8 32 (nought)) 24) = w1 at *
  have lfr := lt_of_objAt fr
  go_wp2_with fail
  (refine (hbl.out _ hG).mono ?_; rintro e w2 ⟨rfl, hb⟩; replace fr : objAt w2 (w.heap.size) = some (.cells (ints .u8 32 (nought)) 24) := keep_below hb (by (repeat (first | assumption | exact objAt_alloc_at _ _ _ rfl | (refine objAt_alloc_at _ _ _ ?_; (simp; done)) | refine keep_alloc _ ?_ | refine keep_drewN _ ?_ | refine keep_more _ ?_ | exact keep_row _ (by assumption) | apply keep_row | refine keep_setRow _ _ ?_ (by first | omega | (simp; omega) | simp)))); have lfr := lt_of_objAt fr; replace hG : Below w.heap.size w w2 := Grew.trans (by (repeat (first | assumption | exact Grew.refl _ | refine Grew.more ?_ _ | refine Grew.alloc ?_ _ | refine Grew.drewN ?_ _ | refine Grew.setRow ?_ _ _ (by omega) | refine Grew.setRow ?_ _ _ (by simp; omega) | refine Grew.setRow ?_ _ _ (by simp)))) hb; clear hb)
  go_wp2_with fail
  (refine (new_b _).mono ?_; rintro e w3 ⟨rfl, hb⟩; replace fr : objAt w3 (w.heap.size) = some (.cells (ints .u8 32 (nought)) 24) := keep_below hb (by (repeat (first | assumption | exact objAt_alloc_at _ _ _ rfl | (refine objAt_alloc_at _ _ _ ?_; (simp; done)) | refine keep_alloc _ ?_ | refine keep_drewN _ ?_ | refine keep_more _ ?_ | exact keep_row _ (by assumption) | apply keep_row | refine keep_setRow _ _ ?_ (by first | omega | (simp; omega) | simp)))); have lfr := lt_of_objAt fr; replace hG : Below w.heap.size w w3 := Grew.trans (by (repeat (first | assumption | exact Grew.refl _ | refine Grew.more ?_ _ | refine Grew.alloc ?_ _ | refine Grew.drewN ?_ _ | refine Grew.setRow ?_ _ _ (by omega) | refine Grew.setRow ?_ _ _ (by simp; omega) | refine Grew.setRow ?_ _ _ (by simp)))) hb; clear hb)
  go_wp2_with fail
  (refine (c1 _).mono ?_; rintro e w4 ⟨rfl, hb⟩; replace fr : objAt w4 (w.heap.size) = some (.cells (ints .u8 32 (nought)) 24) := keep_below hb (by (repeat (first | assumption | exact objAt_alloc_at _ _ _ rfl | (refine objAt_alloc_at _ _ _ ?_; (simp; done)) | refine keep_alloc _ ?_ | refine keep_drewN _ ?_ | refine keep_more _ ?_ | exact keep_row _ (by assumption) | apply keep_row | refine keep_setRow _ _ ?_ (by first | omega | (simp; omega) | simp)))); have lfr := lt_of_objAt fr; replace hG : Below w.heap.size w w4 := Grew.trans (by (repeat (first | assumption | exact Grew.refl _ | refine Grew.more ?_ _ | refine Grew.alloc ?_ _ | refine Grew.drewN ?_ _ | refine Grew.setRow ?_ _ _ (by omega) | refine Grew.setRow ?_ _ _ (by simp; omega) | refine Grew.setRow ?_ _ _ (by simp)))) hb; clear hb)
  have lr0 : ¬ (w4.heap.size = w.heap.size) := by omega
  go_wp2_with fail
  have fx : objAt (w4.alloc (.cells #[.string (eachB (blockB key) 54)] 9)) w4.heap.size = some (.cells #[.string (eachB (blockB key) 54)] 9) := objAt_alloc_at _ _ _ rfl
  replace fr : objAt (w4.alloc (.cells #[.string (eachB (blockB key) 54)] 9)) (w.heap.size) = some (.cells (ints .u8 32 (nought)) 24) := keep_alloc _ fr
  replace hG : Below w.heap.size w (w4.alloc (.cells #[.string (eachB (blockB key) 54)] 9)) := Grew.alloc hG _
  clear lfr
  generalize w4.alloc (.cells #[.string (eachB (blockB key) 54)] 9) = w5 at *
  generalize w4.heap.size = gx at *
  have lfr := lt_of_objAt fr
  have lfx := lt_of_objAt fx
  go_wp2_with fail
  (refine (write_one ByteArray.empty _ _ _ _ _ hfit1.out fx (hTT.out.later hG)).mono ?_; rintro e w6 ⟨rfl, hb⟩; replace fr : objAt w6 (w.heap.size) = some (.cells (ints .u8 32 (nought)) 24) := keep_below hb (by (repeat (first | assumption | exact objAt_alloc_at _ _ _ rfl | (refine objAt_alloc_at _ _ _ ?_; (simp; done)) | refine keep_alloc _ ?_ | refine keep_drewN _ ?_ | refine keep_more _ ?_ | exact keep_row _ (by assumption) | apply keep_row | refine keep_setRow _ _ ?_ (by first | omega | (simp; omega) | simp)))); have lfr := lt_of_objAt fr; replace fx : objAt w6 (gx) = some (.cells #[.string (eachB (blockB key) 54)] 9) := keep_below hb (by (repeat (first | assumption | exact objAt_alloc_at _ _ _ rfl | (refine objAt_alloc_at _ _ _ ?_; (simp; done)) | refine keep_alloc _ ?_ | refine keep_drewN _ ?_ | refine keep_more _ ?_ | exact keep_row _ (by assumption) | apply keep_row | refine keep_setRow _ _ ?_ (by first | omega | (simp; omega) | simp)))); have lfx := lt_of_objAt fx; replace hG : Below w.heap.size w w6 := Grew.trans (by (repeat (first | assumption | exact Grew.refl _ | refine Grew.more ?_ _ | refine Grew.alloc ?_ _ | refine Grew.drewN ?_ _ | refine Grew.setRow ?_ _ _ (by omega) | refine Grew.setRow ?_ _ _ (by simp; omega) | refine Grew.setRow ?_ _ _ (by simp)))) hb; clear hb)
  rw [hemp.out]
  go_wp2_with fail
  (refine (hw.out _ hG).mono ?_; rintro e w7 ⟨rfl, hb⟩; replace fr : objAt w7 (w.heap.size) = some (.cells (ints .u8 32 (nought)) 24) := keep_below hb (by (repeat (first | assumption | exact objAt_alloc_at _ _ _ rfl | (refine objAt_alloc_at _ _ _ ?_; (simp; done)) | refine keep_alloc _ ?_ | refine keep_drewN _ ?_ | refine keep_more _ ?_ | exact keep_row _ (by assumption) | apply keep_row | refine keep_setRow _ _ ?_ (by first | omega | (simp; omega) | simp)))); have lfr := lt_of_objAt fr; replace fx : objAt w7 (gx) = some (.cells #[.string (eachB (blockB key) 54)] 9) := keep_below hb (by (repeat (first | assumption | exact objAt_alloc_at _ _ _ rfl | (refine objAt_alloc_at _ _ _ ?_; (simp; done)) | refine keep_alloc _ ?_ | refine keep_drewN _ ?_ | refine keep_more _ ?_ | exact keep_row _ (by assumption) | apply keep_row | refine keep_setRow _ _ ?_ (by first | omega | (simp; omega) | simp)))); have lfx := lt_of_objAt fx; replace hG : Below w.heap.size w w7 := Grew.trans (by (repeat (first | assumption | exact Grew.refl _ | refine Grew.more ?_ _ | refine Grew.alloc ?_ _ | refine Grew.drewN ?_ _ | refine Grew.setRow ?_ _ _ (by omega) | refine Grew.setRow ?_ _ _ (by simp; omega) | refine Grew.setRow ?_ _ _ (by simp)))) hb; clear hb)
  go_wp2_with fail
  (refine (hsm.out _ hG).mono ?_; rintro e w8 ⟨rfl, hb⟩; replace fr : objAt w8 (w.heap.size) = some (.cells (ints .u8 32 (nought)) 24) := keep_below hb (by (repeat (first | assumption | exact objAt_alloc_at _ _ _ rfl | (refine objAt_alloc_at _ _ _ ?_; (simp; done)) | refine keep_alloc _ ?_ | refine keep_drewN _ ?_ | refine keep_more _ ?_ | exact keep_row _ (by assumption) | apply keep_row | refine keep_setRow _ _ ?_ (by first | omega | (simp; omega) | simp)))); have lfr := lt_of_objAt fr; replace fx : objAt w8 (gx) = some (.cells #[.string (eachB (blockB key) 54)] 9) := keep_below hb (by (repeat (first | assumption | exact objAt_alloc_at _ _ _ rfl | (refine objAt_alloc_at _ _ _ ?_; (simp; done)) | refine keep_alloc _ ?_ | refine keep_drewN _ ?_ | refine keep_more _ ?_ | exact keep_row _ (by assumption) | apply keep_row | refine keep_setRow _ _ ?_ (by first | omega | (simp; omega) | simp)))); have lfx := lt_of_objAt fx; replace hG : Below w.heap.size w w8 := Grew.trans (by (repeat (first | assumption | exact Grew.refl _ | refine Grew.more ?_ _ | refine Grew.alloc ?_ _ | refine Grew.drewN ?_ _ | refine Grew.setRow ?_ _ _ (by omega) | refine Grew.setRow ?_ _ _ (by simp; omega) | refine Grew.setRow ?_ _ _ (by simp)))) hb; clear hb)
  have lk0 : ¬ (w8.heap.size = w.heap.size) := by omega
  go_wp2_with fail
  have fk : objAt (w8.alloc (.cells (ints .u8 32 (shaF (eachB (blockB key) 54 ++ catS F n))) 24)) w8.heap.size = some (.cells (ints .u8 32 (shaF (eachB (blockB key) 54 ++ catS F n))) 24) := objAt_alloc_at _ _ _ rfl
  replace fr : objAt (w8.alloc (.cells (ints .u8 32 (shaF (eachB (blockB key) 54 ++ catS F n))) 24)) (w.heap.size) = some (.cells (ints .u8 32 (nought)) 24) := keep_alloc _ fr
  replace fx : objAt (w8.alloc (.cells (ints .u8 32 (shaF (eachB (blockB key) 54 ++ catS F n))) 24)) (gx) = some (.cells #[.string (eachB (blockB key) 54)] 9) := keep_alloc _ fx
  replace hG : Below w.heap.size w (w8.alloc (.cells (ints .u8 32 (shaF (eachB (blockB key) 54 ++ catS F n))) 24)) := Grew.alloc hG _
  clear lfr lfx
  generalize w8.alloc (.cells (ints .u8 32 (shaF (eachB (blockB key) 54 ++ catS F n))) 24) = w9 at *
  generalize w8.heap.size = gk at *
  have lfr := lt_of_objAt fr
  have lfx := lt_of_objAt fx
  have lfk := lt_of_objAt fk
  generalize hX : shaF (eachB (blockB key) 54 ++ catS F n) = X at *
  have hc := fun m : More => run_str (P := Tryd.prog) (src := 43) (dst := 9) Tryd.underlying43 Tryd.underlying5 Tryd.underlying9 gk 32 32 32 X (more w9 m) (keep_more m fk) (by omega)
  go_wp2_with fail
  ((first | (with_reducible refine wp_region_tail_on 4 (by kernel_rfl) (by kernel_rfl) (by kernel_rfl) (by kernel_rfl) (by kernel_rfl) ?_) | refine wp_region_tail_more 4 (by kernel_rfl) (by kernel_rfl) (by kernel_rfl) (by kernel_rfl) (by kernel_rfl) ?_); simp only [List.take_succ_cons, List.take_zero]; (repeat (first | go_big_quiet_skip | (go_big_quiet_want; go_big_quiet_op; first | go_big_quiet_on | (apply Exists.intro; refine ⟨fun _ => ?_, ?_⟩; (focus (first | (with_reducible exact Calls.of_more (c2 _)))); go_big_quiet_on)))); refine wpQuiet_nil ?_; rintro _ ⟨mq, rfl⟩)
  (refine tail_one (i := 4) (fuel := 2) (by kernel_rfl) rfl ?_; intro K hK; go_simp; refine hK _ _ ?_; clear hK K)
  refine tail_one (i := 5) (fuel := 1) (by kernel_rfl) rfl ?_
  intro K hK
  go_simp
  refine (sum_two _ _ _ _ _ _ hfit.out (objAt_alloc_at _ _ _ rfl) (hTT.out.later (by (repeat (first | assumption | exact Grew.refl _ | refine Grew.more ?_ _ | refine Grew.alloc ?_ _ | refine Grew.drewN ?_ _ | refine Grew.setRow ?_ _ _ (by omega) | refine Grew.setRow ?_ _ _ (by simp; omega) | refine Grew.setRow ?_ _ _ (by simp)))))).mono ?_
  rintro e9 w9 ⟨rfl, hb9⟩
  have er : objAt w9 (w.heap.size) = some (.cells (ints .u8 32 (nought)) 24) := keep_below hb9 (by (repeat (first | assumption | exact objAt_alloc_at _ _ _ rfl | (refine objAt_alloc_at _ _ _ ?_; (simp; done)) | refine keep_alloc _ ?_ | refine keep_drewN _ ?_ | refine keep_more _ ?_ | exact keep_row _ (by assumption) | apply keep_row | refine keep_setRow _ _ ?_ (by first | omega | (simp; omega) | simp))))
  have hG9 : Below w.heap.size w w9 := Grew.trans (by (repeat (first | assumption | exact Grew.refl _ | refine Grew.more ?_ _ | refine Grew.alloc ?_ _ | refine Grew.drewN ?_ _ | refine Grew.setRow ?_ _ _ (by omega) | refine Grew.setRow ?_ _ _ (by simp; omega) | refine Grew.setRow ?_ _ _ (by simp)))) hb9
  have ler := lt_of_objAt er
  clear hb9
  refine hK _ _ ?_
  clear hK K
  (refine tail_one (i := 6) (fuel := 0) (by kernel_rfl) rfl ?_; intro K hK; go_simp; refine hK _ _ ?_; clear hK K)
  (refine wpAny_done (by kernel_rfl) ?_ _)
  go_wp2
  refine ret_row rfl _ 24 _ (0, 0) _ rfl (keep_row _ er) Tryd.underlying24 rfl (by rw [ints_size]; kernel_rfl) rfl ⟨by rw [H.out], by (repeat (first | assumption | exact Grew.refl _ | refine Grew.more ?_ _ | refine Grew.alloc ?_ _ | refine Grew.drewN ?_ _ | refine Grew.setRow ?_ _ _ (by omega) | refine Grew.setRow ?_ _ _ (by simp; omega) | refine Grew.setRow ?_ _ _ (by simp)))⟩
set_option maxRecDepth 100000 in
set_option maxHeartbeats 4000000 in
theorem check_any (key : ByteArray) (tag : Nat → Int) (oa : Option Addr) (n c : Nat) (F : Nat → ByteArray) (w : World) (ht : Bytes 32 tag) (hk : key.size < 1152921504606846976) (hl : (catS F n).size < 1152921504606840000) (hn : n ≤ 9223372036854775807) (hS : StrsAt w oa n F) (hT : Tabs w) :
    Calls Tryd.prog 23 #[.string key, .agg (ints .u8 32 tag), .slice oa n c] w fun e w' => e = .returned (.bool (same 32 tag (macF key (catS F n)))) ∧ Below w.heap.size w w' := by
  have hw : Hid (∀ W : World, Below w.heap.size w W → Calls Tryd.prog 20 #[.string key, .slice oa n c] W fun e w' => e = .returned (.agg (ints .u8 32 (macF key (catS F n)))) ∧ Below W.heap.size W w') := fun W hW => macS_any key oa n c F W hk hl hn (hS.later hW) (hT.later hW)
  have hb := mac_bytes key (catS F n)
  generalize macF key (catS F n) = M at *
  clear hS hT hl
  have hG := Grew.refl w
  have ft : True := trivial
  go_enter Tryd.func23, Tryd.ntmps23
  go_wp2_with fail
  replace ft : objAt (w.alloc (.cells (ints .u8 32 (tag)) 24)) (w.heap.size) = some (.cells (ints .u8 32 (tag)) 24) := by (repeat (first | assumption | exact objAt_alloc_at _ _ _ rfl | (refine objAt_alloc_at _ _ _ ?_; (simp; done)) | refine keep_alloc _ ?_ | refine keep_drewN _ ?_ | refine keep_more _ ?_ | exact keep_row _ (by assumption) | apply keep_row | refine keep_setRow _ _ ?_ (by first | omega | (simp; omega) | simp)))
  replace hG : Below w.heap.size w (w.alloc (.cells (ints .u8 32 (tag)) 24)) := by (repeat (first | assumption | exact Grew.refl _ | refine Grew.more ?_ _ | refine Grew.alloc ?_ _ | refine Grew.drewN ?_ _ | refine Grew.setRow ?_ _ _ (by omega) | refine Grew.setRow ?_ _ _ (by simp; omega) | refine Grew.setRow ?_ _ _ (by simp)))
  generalize w.alloc (.cells (ints .u8 32 (tag)) 24) = w1 at *
  have lft := lt_of_objAt ft
  have hw2 := fun m => hw.out (more w1 m) (Grew.more hG m)
  go_wp2_with fail
  ((first | (with_reducible refine wp_region_on (by kernel_rfl) (by kernel_rfl) ?_) | refine wp_region_more (by kernel_rfl) (by kernel_rfl) ?_); (repeat (first | go_big_quiet_skip | (go_big_quiet_want; go_big_quiet_op; first | go_big_quiet_on | (apply Exists.intro; refine ⟨fun _ => ?_, ?_⟩; (focus (first | (with_reducible exact Calls.of_more (hw2 _)) | (with_reducible exact Calls.of_more (same_any tag M _ ht hb)))); go_big_quiet_on)))); refine wpQuiet_nil ?_; rintro _ ⟨mq, rfl⟩)
  go_wp2
  go_ret
  exact ⟨rfl, by (repeat (first | assumption | exact Grew.refl _ | refine Grew.more ?_ _ | refine Grew.alloc ?_ _ | refine Grew.drewN ?_ _ | refine Grew.setRow ?_ _ _ (by omega) | refine Grew.setRow ?_ _ _ (by simp; omega) | refine Grew.setRow ?_ _ _ (by simp)))⟩
end Go.Proofs.YtdihaffopfbnnaaDoor
