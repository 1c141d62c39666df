/- ShaParts. -/
import Derived.Test.YtdihaffopfbnnaaDoorMa
import Derived.Test.YtdihaffopfbnnaaDoorJn
namespace Go.Proofs.YtdihaffopfbnnaaDoor
open Go.RowKit
set_option linter.unusedVariables false
set_option linter.unusedSimpArgs false

attribute [local irreducible] strOf shaF zerosB padB fullB hashT
theorem cat_size (F : Nat → ByteArray) (k : Nat) : (catS F (k + 1)).size = (catS F k).size + (F k).size := ByteArray.size_append
theorem cat_next (F : Nat → ByteArray) (k : Nat) : catS F (k + 1) = catS F k ++ F k := rfl
theorem cat_zero (F : Nat → ByteArray) : catS F 0 = ByteArray.empty := rfl
attribute [local irreducible] catS
set_option maxRecDepth 100000 in
set_option maxHeartbeats 4000000 in
theorem parts7_any (oa : Option Addr) (n c : Nat) (F : Nat → ByteArray) (more0 : ByteArray) (w : World) (hk : more0.size ≤ 9223372036854775807) (hnc : n ≤ c) (hl : (catS F n).size + n ≤ 1048576) (hS : StrsAt w oa n F) (hT : Tabs w) :
    Calls Tryd.prog 4 #[.slice oa n c, .string more0] w fun e w' => e = .returned (.bool true) ∧ Below w.heap.size w w' := by
  have hTT : Hid (Tabs w) := hT
  have hSS : Hid (StrsAt w oa n F) := hS
  have hjn : Hid (∀ W : World, Below w.heap.size w W → Calls Tryd.prog 15 #[.slice oa n c, .string ⟨#[]⟩] W fun e w' => e = .returned (.string (catS F n)) ∧ Below W.heap.size W w') := fun W hW => join_any oa n c F W (hS.later hW) hnc (by omega)
  have hn20 : n ≤ 1048576 := by omega
  have c2 : ∀ W : World, Below w.heap.size w W → Calls Tryd.prog 10 #[.slice oa n c] W fun e w' => e = .returned (.agg (ints .u8 32 (shaF (catS F n)))) ∧ Below W.heap.size W w' := fun W hW => sumS_any oa n c F W (by omega) (by omega) (hS.later hW) (hT.later hW)
  have c7 : ∀ W : World, Below w.heap.size w W → Calls Tryd.prog 13 #[.agg (hashB ByteArray.empty), .slice oa n c] W fun e w' => e = .returned (.agg (hashB (catS F n))) ∧ Below W.heap.size W w' := fun W hW => by
    have := write_b ByteArray.empty oa n c F W (by show 0 + _ < _; omega) (by omega) (hS.later hW) (hT.later hW)
    rw [ByteArray.empty_append] at this
    exact this
  have hst : Hid (∀ k, k < n → (catS F k).size + (F k).size < 1152921504606846976) := fun k hk => by
    have h1 := cat_le F (k + 1) n hk
    have h2 : (catS F (k + 1)).size = (catS F k).size + (F k).size := cat_size F k
    omega
  have hcs : Hid (∀ k, catS F k ++ F k = catS F (k + 1)) := fun k => (cat_next F k).symm
  have hc0 : Hid (catS F 0 = ByteArray.empty) := cat_zero F
  have hsz : (catS F n).size ≤ 1048576 := by omega
  clear hT hS hnc hl
  obtain ⟨S, hSe⟩ : ∃ S, S = catS F n := ⟨_, rfl⟩
  rw [← hSe] at hjn c2 c7 hsz
  have hSH : Hid (S = catS F n) := hSe
  clear hSe
  by_cases hn5 : n ≤ 100
  case neg =>
    have hn6 : 100 < n := by omega
    have hG := Grew.refl w
    go_enter Tryd.func4, Tryd.ntmps4
    go_wp2_with fail
    (refine (awake7_any _ hTT.out).mono ?_; rintro e w1 ⟨rfl, hb⟩; replace hG : Below w.heap.size w w1 := Grew.trans (by (repeat (first | assumption | exact Grew.refl _ | refine Grew.more ?_ _ | refine Grew.alloc ?_ _ | refine Grew.drewN ?_ _ | refine Grew.setRow ?_ _ _ (by omega) | refine Grew.setRow ?_ _ _ (by simp; omega) | refine Grew.setRow ?_ _ _ (by simp)))) hb; clear hb)
    go_wp2_with fail
    (refine (hjn.out _ hG).mono ?_; rintro e w2 ⟨rfl, hb⟩; replace hG : Below w.heap.size w w2 := Grew.trans (by (repeat (first | assumption | exact Grew.refl _ | refine Grew.more ?_ _ | refine Grew.alloc ?_ _ | refine Grew.drewN ?_ _ | refine Grew.setRow ?_ _ _ (by omega) | refine Grew.setRow ?_ _ _ (by simp; omega) | refine Grew.setRow ?_ _ _ (by simp)))) hb; clear hb)
    go_wp2
    go_ret
    exact ⟨rfl, by (repeat (first | assumption | exact Grew.refl _ | refine Grew.more ?_ _ | refine Grew.alloc ?_ _ | refine Grew.drewN ?_ _ | refine Grew.setRow ?_ _ _ (by omega) | refine Grew.setRow ?_ _ _ (by simp; omega) | refine Grew.setRow ?_ _ _ (by simp)))⟩
  by_cases hs5 : S.size ≤ 2000
  case neg =>
    have hs6 : 2000 < S.size := by omega
    have hG := Grew.refl w
    go_enter Tryd.func4, Tryd.ntmps4
    go_wp2_with fail
    (refine (awake7_any _ hTT.out).mono ?_; rintro e w1 ⟨rfl, hb⟩; replace hG : Below w.heap.size w w1 := Grew.trans (by (repeat (first | assumption | exact Grew.refl _ | refine Grew.more ?_ _ | refine Grew.alloc ?_ _ | refine Grew.drewN ?_ _ | refine Grew.setRow ?_ _ _ (by omega) | refine Grew.setRow ?_ _ _ (by simp; omega) | refine Grew.setRow ?_ _ _ (by simp)))) hb; clear hb)
    go_wp2_with fail
    (refine (hjn.out _ hG).mono ?_; rintro e w2 ⟨rfl, hb⟩; replace hG : Below w.heap.size w w2 := Grew.trans (by (repeat (first | assumption | exact Grew.refl _ | refine Grew.more ?_ _ | refine Grew.alloc ?_ _ | refine Grew.drewN ?_ _ | refine Grew.setRow ?_ _ _ (by omega) | refine Grew.setRow ?_ _ _ (by simp; omega) | refine Grew.setRow ?_ _ _ (by simp)))) hb; clear hb)
    go_wp2
    go_ret
    exact ⟨rfl, by (repeat (first | assumption | exact Grew.refl _ | refine Grew.more ?_ _ | refine Grew.alloc ?_ _ | refine Grew.drewN ?_ _ | refine Grew.setRow ?_ _ _ (by omega) | refine Grew.setRow ?_ _ _ (by simp; omega) | refine Grew.setRow ?_ _ _ (by simp)))⟩
  by_cases hm5 : more0.size ≤ 2000
  case neg =>
    have hm6 : 2000 < more0.size := by omega
    have hG := Grew.refl w
    go_enter Tryd.func4, Tryd.ntmps4
    go_wp2_with fail
    (refine (awake7_any _ hTT.out).mono ?_; rintro e w1 ⟨rfl, hb⟩; replace hG : Below w.heap.size w w1 := Grew.trans (by (repeat (first | assumption | exact Grew.refl _ | refine Grew.more ?_ _ | refine Grew.alloc ?_ _ | refine Grew.drewN ?_ _ | refine Grew.setRow ?_ _ _ (by omega) | refine Grew.setRow ?_ _ _ (by simp; omega) | refine Grew.setRow ?_ _ _ (by simp)))) hb; clear hb)
    go_wp2_with fail
    (refine (hjn.out _ hG).mono ?_; rintro e w2 ⟨rfl, hb⟩; replace hG : Below w.heap.size w w2 := Grew.trans (by (repeat (first | assumption | exact Grew.refl _ | refine Grew.more ?_ _ | refine Grew.alloc ?_ _ | refine Grew.drewN ?_ _ | refine Grew.setRow ?_ _ _ (by omega) | refine Grew.setRow ?_ _ _ (by simp; omega) | refine Grew.setRow ?_ _ _ (by simp)))) hb; clear hb)
    go_wp2
    go_ret
    exact ⟨rfl, by (repeat (first | assumption | exact Grew.refl _ | refine Grew.more ?_ _ | refine Grew.alloc ?_ _ | refine Grew.drewN ?_ _ | refine Grew.setRow ?_ _ _ (by omega) | refine Grew.setRow ?_ _ _ (by simp; omega) | refine Grew.setRow ?_ _ _ (by simp)))⟩
  have c1 : ∀ (g : Nat) (W : World), StrsAt W (some ⟨g, 0, none⟩) 1 (oneS S) → Tabs W → Calls Tryd.prog 10 #[.slice (some ⟨g, 0, none⟩) 1 1] W fun e w' => e = .returned (.agg (ints .u8 32 (shaF S))) ∧ Below W.heap.size W w' := fun g W h hT => by
    have := sumS_any (some ⟨g, 0, none⟩) 1 1 (oneS S) W (by rw [cat_one]; omega) (by decide) h hT
    rw [cat_one] at this
    exact this
  have c4 : ∀ (g : Nat) (W : World), StrsAt W (some ⟨g, 0, none⟩) 2 (twoS S more0) → Tabs W → Calls Tryd.prog 10 #[.slice (some ⟨g, 0, none⟩) 2 2] W fun e w' => e = .returned (.agg (ints .u8 32 (shaF (S ++ more0)))) ∧ Below W.heap.size W w' := fun g W h hT => by
    have := sumS_any (some ⟨g, 0, none⟩) 2 2 (twoS S more0) W (by rw [cat_two, ByteArray.size_append]; omega) (by decide) h hT
    rw [cat_two] at this
    exact this
  have c3 : ∀ W : World, Below w.heap.size w W → Calls Tryd.prog 16 #[.agg (hashB (S ++ more0))] W fun e w' => e = .returned (.agg (ints .u8 32 (shaF (S ++ more0)))) ∧ Below W.heap.size W w' := fun W hW => sum_b (S ++ more0) W (by rw [ByteArray.size_append]; omega) (hTT.out.later hW)
  have c5 : ∀ W : World, Below w.heap.size w W → Calls Tryd.prog 16 #[.agg (hashB S)] W fun e w' => e = .returned (.agg (ints .u8 32 (shaF S))) ∧ Below W.heap.size W w' := fun W hW => sum_b S W (by omega) (hTT.out.later hW)
  have c6 := fun W : World => len_b S W
  have cm : ∀ (g : Nat) (t : TypeId) (W : World), objAt W g = some (.cells #[.string more0] t (0, 0)) → Tabs W → Calls Tryd.prog 13 #[.agg (hashB S), .slice (some ⟨g, 0, none⟩) 1 1] W fun e w' => e = .returned (.agg (hashB (S ++ more0))) ∧ Below W.heap.size W w' := fun g t W h hT => write_one S more0 g t (0, 0) W (by omega) h hT
  have hmb := same_refl 32 (shaF S)
  have hmb2 := same_refl 32 (shaF (S ++ more0))
  have hS62 : S.size ≤ 9223372036854775807 := by omega
  generalize shaF (S ++ more0) = X2 at *
  generalize shaF S = X at *
  generalize S ++ more0 = S2 at *
  have hG := Grew.refl w
  go_enter Tryd.func4, Tryd.ntmps4
  go_wp2_with fail
  (refine (awake7_any _ hTT.out).mono ?_; rintro e w1 ⟨rfl, hb⟩; replace hG : Below w.heap.size w w1 := Grew.trans (by (repeat (first | assumption | exact Grew.refl _ | refine Grew.more ?_ _ | refine Grew.alloc ?_ _ | refine Grew.drewN ?_ _ | refine Grew.setRow ?_ _ _ (by omega) | refine Grew.setRow ?_ _ _ (by simp; omega) | refine Grew.setRow ?_ _ _ (by simp)))) hb; clear hb)
  go_wp2_with fail
  (refine (hjn.out _ hG).mono ?_; rintro e w2 ⟨rfl, hb⟩; replace hG : Below w.heap.size w w2 := Grew.trans (by (repeat (first | assumption | exact Grew.refl _ | refine Grew.more ?_ _ | refine Grew.alloc ?_ _ | refine Grew.drewN ?_ _ | refine Grew.setRow ?_ _ _ (by omega) | refine Grew.setRow ?_ _ _ (by simp; omega) | refine Grew.setRow ?_ _ _ (by simp)))) hb; clear hb)
  go_wp2_with fail
  (refine (new_b _).mono ?_; rintro e w3 ⟨rfl, hb⟩; replace hG : Below w.heap.size w w3 := Grew.trans (by (repeat (first | assumption | exact Grew.refl _ | refine Grew.more ?_ _ | refine Grew.alloc ?_ _ | refine Grew.drewN ?_ _ | refine Grew.setRow ?_ _ _ (by omega) | refine Grew.setRow ?_ _ _ (by simp; omega) | refine Grew.setRow ?_ _ _ (by simp)))) hb; clear hb)
  have lh := hG.size
  go_wp2_with fail
  have fh : objAt (w3.alloc (.cells (hashB (ByteArray.empty)) 32)) w3.heap.size = some (.cells (hashB (ByteArray.empty)) 32) := objAt_alloc_at _ _ _ rfl
  replace hG : Below w.heap.size w (w3.alloc (.cells (hashB (ByteArray.empty)) 32)) := Grew.alloc hG _
  generalize w3.alloc (.cells (hashB (ByteArray.empty)) 32) = w4 at *
  generalize w3.heap.size = gh at *
  have lfh := lt_of_objAt fh
  go_wp2_with fail
  go_loopw [32] (fun i wr => ∃ k : Nat, k ≤ n ∧ i = .int .i64 k ∧ Below w.heap.size w wr ∧ objAt wr gh = some (.cells (hashB (catS F k)) 32)) (fun i _ => n - (intOf i).toNat)
  case atStart => exact ⟨0, by omega, rfl, hG, by rw [hc0.out]; exact fh⟩
  case round =>
    clear fh hG lfh
    obtain ⟨k, hk, rfl, hG, fh⟩ := hrel
    have lfh := lt_of_objAt fh
    by_cases hlt : k < n
    · obtain ⟨ad, rfl, hcells⟩ : ∃ ad : Addr, oa = some ad ∧ ∀ w', Below w.heap.size w w' → ∀ j, j < n → w'.cell? (ad.add j) = some (.string (F j)) := by
        rcases hSS.out with h | h
        · omega
        · exact h
      have hcell := hcells wr hG k hlt
      clear hcells c1 c2 c3 c4 c5 c6 c7 cm
      have lwr := hG.size
      go_wp2_with fail
      have fx : objAt (wr.alloc (.cells #[.string (F k)] 9)) wr.heap.size = some (.cells #[.string (F k)] 9) := objAt_alloc_at _ _ _ rfl
      replace fh : objAt (wr.alloc (.cells #[.string (F k)] 9)) (gh) = some (.cells (hashB (catS F k)) 32) := keep_alloc _ fh
      replace hG : Below w.heap.size w (wr.alloc (.cells #[.string (F k)] 9)) := Grew.alloc hG _
      clear lfh
      generalize wr.alloc (.cells #[.string (F k)] 9) = w5 at *
      generalize wr.heap.size = gx at *
      have lfh := lt_of_objAt fh
      have lfx := lt_of_objAt fx
      go_wp2_with fail
      (refine (write_one (catS F k) (F k) _ _ _ _ (hst.out k hlt) fx (hTT.out.later hG)).mono ?_; rintro e w6 ⟨rfl, hb⟩; replace fh : objAt w6 (gh) = some (.cells (hashB (catS F k)) 32) := keep_below hb (by (repeat (first | assumption | exact objAt_alloc_at _ _ _ rfl | (refine objAt_alloc_at _ _ _ ?_; (simp; done)) | refine keep_alloc _ ?_ | refine keep_drewN _ ?_ | refine keep_more _ ?_ | exact keep_row _ (by assumption) | apply keep_row | refine keep_setRow _ _ ?_ (by first | omega | (simp; omega) | simp)))); have lfh := lt_of_objAt fh; replace fx : objAt w6 (gx) = some (.cells #[.string (F k)] 9) := keep_below hb (by (repeat (first | assumption | exact objAt_alloc_at _ _ _ rfl | (refine objAt_alloc_at _ _ _ ?_; (simp; done)) | refine keep_alloc _ ?_ | refine keep_drewN _ ?_ | refine keep_more _ ?_ | exact keep_row _ (by assumption) | apply keep_row | refine keep_setRow _ _ ?_ (by first | omega | (simp; omega) | simp)))); have lfx := lt_of_objAt fx; replace hG : Below w.heap.size w w6 := Grew.trans (by (repeat (first | assumption | exact Grew.refl _ | refine Grew.more ?_ _ | refine Grew.alloc ?_ _ | refine Grew.drewN ?_ _ | refine Grew.setRow ?_ _ _ (by omega) | refine Grew.setRow ?_ _ _ (by simp; omega) | refine Grew.setRow ?_ _ _ (by simp)))) hb; clear hb)
      rw [hcs.out k]
      go_wp2
      go_roundw
      case rel => exact ⟨k + 1, by omega, by go_num, by (repeat (first | assumption | exact Grew.refl _ | refine Grew.more ?_ _ | refine Grew.alloc ?_ _ | refine Grew.drewN ?_ _ | refine Grew.setRow ?_ _ _ (by omega) | refine Grew.setRow ?_ _ _ (by simp; omega) | refine Grew.setRow ?_ _ _ (by simp))), by (repeat (first | assumption | exact objAt_alloc_at _ _ _ rfl | (refine objAt_alloc_at _ _ _ ?_; (simp; done)) | refine keep_alloc _ ?_ | refine keep_drewN _ ?_ | refine keep_more _ ?_ | exact keep_row _ (by assumption) | apply keep_row | refine keep_setRow _ _ ?_ (by first | omega | (simp; omega) | simp)))⟩
      case measure => simp [intOf]; omega
    · obtain rfl : k = n := by omega
      clear hlt
      rw [← hSH.out] at fh
      go_wp2_with fail
      (refine (c5 _ hG).mono ?_; rintro e w8 ⟨rfl, hb⟩; replace fh : objAt w8 (gh) = some (.cells (hashB (S)) 32) := keep_below hb (by (repeat (first | assumption | exact objAt_alloc_at _ _ _ rfl | (refine objAt_alloc_at _ _ _ ?_; (simp; done)) | refine keep_alloc _ ?_ | refine keep_drewN _ ?_ | refine keep_more _ ?_ | exact keep_row _ (by assumption) | apply keep_row | refine keep_setRow _ _ ?_ (by first | omega | (simp; omega) | simp)))); have lfh := lt_of_objAt fh; replace hG : Below w.heap.size w w8 := Grew.trans (by (repeat (first | assumption | exact Grew.refl _ | refine Grew.more ?_ _ | refine Grew.alloc ?_ _ | refine Grew.drewN ?_ _ | refine Grew.setRow ?_ _ _ (by omega) | refine Grew.setRow ?_ _ _ (by simp; omega) | refine Grew.setRow ?_ _ _ (by simp)))) hb; clear hb)
      go_wp2_with fail
      have eh : objAt ((w8.alloc (.cells (ints .u8 32 (X)) 24)).alloc (.cells #[.string more0] 9)) (gh) = some (.cells (hashB (S)) 32) := keep_alloc _ (keep_alloc _ (fh))
      have eq : objAt ((w8.alloc (.cells (ints .u8 32 (X)) 24)).alloc (.cells #[.string more0] 9)) (w8.heap.size) = some (.cells (ints .u8 32 (X)) 24) := keep_alloc _ (objAt_alloc_at _ _ _ rfl)
      have ey : objAt ((w8.alloc (.cells (ints .u8 32 (X)) 24)).alloc (.cells #[.string more0] 9)) (w8.heap.size + 1) = some (.cells #[.string more0] 9) := objAt_alloc_at _ _ _ (by simp)
      replace hG : Below w.heap.size w ((w8.alloc (.cells (ints .u8 32 (X)) 24)).alloc (.cells #[.string more0] 9)) := Grew.alloc (Grew.alloc (hG) _) _
      clear fh lfh
      generalize (w8.alloc (.cells (ints .u8 32 (X)) 24)).alloc (.cells #[.string more0] 9) = w9 at *
      generalize w8.heap.size + 1 = gy at *
      generalize w8.heap.size = gq at *
      have fh := eh
      have fy := ey
      have fq := eq
      clear eh ey eq
      have lfh := lt_of_objAt fh
      have lfy := lt_of_objAt fy
      have lfq := lt_of_objAt fq
      go_wp2_with fail
      (refine (cm _ _ _ fy (hTT.out.later hG)).mono ?_; rintro e w10 ⟨rfl, hb⟩; replace fh : objAt w10 (gh) = some (.cells (hashB (S)) 32) := keep_below hb (by (repeat (first | assumption | exact objAt_alloc_at _ _ _ rfl | (refine objAt_alloc_at _ _ _ ?_; (simp; done)) | refine keep_alloc _ ?_ | refine keep_drewN _ ?_ | refine keep_more _ ?_ | exact keep_row _ (by assumption) | apply keep_row | refine keep_setRow _ _ ?_ (by first | omega | (simp; omega) | simp)))); have lfh := lt_of_objAt fh; replace fy : objAt w10 (gy) = some (.cells #[.string more0] 9) := keep_below hb (by (repeat (first | assumption | exact objAt_alloc_at _ _ _ rfl | (refine objAt_alloc_at _ _ _ ?_; (simp; done)) | refine keep_alloc _ ?_ | refine keep_drewN _ ?_ | refine keep_more _ ?_ | exact keep_row _ (by assumption) | apply keep_row | refine keep_setRow _ _ ?_ (by first | omega | (simp; omega) | simp)))); have lfy := lt_of_objAt fy; replace fq : objAt w10 (gq) = some (.cells (ints .u8 32 (X)) 24) := keep_below hb (by (repeat (first | assumption | exact objAt_alloc_at _ _ _ rfl | (refine objAt_alloc_at _ _ _ ?_; (simp; done)) | refine keep_alloc _ ?_ | refine keep_drewN _ ?_ | refine keep_more _ ?_ | exact keep_row _ (by assumption) | apply keep_row | refine keep_setRow _ _ ?_ (by first | omega | (simp; omega) | simp)))); have lfq := lt_of_objAt fq; replace hG : Below w.heap.size w w10 := Grew.trans (by (repeat (first | assumption | exact Grew.refl _ | refine Grew.more ?_ _ | refine Grew.alloc ?_ _ | refine Grew.drewN ?_ _ | refine Grew.setRow ?_ _ _ (by omega) | refine Grew.setRow ?_ _ _ (by simp; omega) | refine Grew.setRow ?_ _ _ (by simp)))) hb; clear hb)
      go_wp2_with fail
      have eh : objAt ((w10.alloc (.cells (hashB (S2)) 32)).alloc (.cells (hashB (ByteArray.empty)) 32)) (gh) = some (.cells (hashB (S)) 32) := keep_alloc _ (keep_alloc _ (fh))
      have ey : objAt ((w10.alloc (.cells (hashB (S2)) 32)).alloc (.cells (hashB (ByteArray.empty)) 32)) (gy) = some (.cells #[.string more0] 9) := keep_alloc _ (keep_alloc _ (fy))
      have eq : objAt ((w10.alloc (.cells (hashB (S2)) 32)).alloc (.cells (hashB (ByteArray.empty)) 32)) (gq) = some (.cells (ints .u8 32 (X)) 24) := keep_alloc _ (keep_alloc _ (fq))
      have eg : objAt ((w10.alloc (.cells (hashB (S2)) 32)).alloc (.cells (hashB (ByteArray.empty)) 32)) (w10.heap.size) = some (.cells (hashB (S2)) 32) := keep_alloc _ (objAt_alloc_at _ _ _ rfl)
      have ez : objAt ((w10.alloc (.cells (hashB (S2)) 32)).alloc (.cells (hashB (ByteArray.empty)) 32)) (w10.heap.size + 1) = some (.cells (hashB (ByteArray.empty)) 32) := objAt_alloc_at _ _ _ (by simp)
      replace hG : Below w.heap.size w ((w10.alloc (.cells (hashB (S2)) 32)).alloc (.cells (hashB (ByteArray.empty)) 32)) := Grew.alloc (Grew.alloc (hG) _) _
      clear fh lfh fy lfy fq lfq
      generalize (w10.alloc (.cells (hashB (S2)) 32)).alloc (.cells (hashB (ByteArray.empty)) 32) = w11 at *
      generalize w10.heap.size + 1 = gz at *
      generalize w10.heap.size = gg at *
      have fh := eh
      have fy := ey
      have fq := eq
      have fz := ez
      have fg := eg
      clear eh ey eq ez eg
      have lfh := lt_of_objAt fh
      have lfy := lt_of_objAt fy
      have lfq := lt_of_objAt fq
      have lfz := lt_of_objAt fz
      have lfg := lt_of_objAt fg
      clear fy lfy
      clear hn5 hs5 hm5 hn20 hsz hk hSH hjn hcs hc0 hst
      go_wp2_with fail
      (refine wp_rel (by kernel_rfl) (by kernel_rfl) ?_; (repeat (first | refine exv_skip rfl ?_ | (refine exv_call rfl ?_; apply Exists.intro))); refine exv_nil ?_; intro γ hinj hbase; (iterate 16 (first | (refine rel_quiet rfl ?_; ((first | go_big_quiet_skip | (go_big_quiet_want; go_big_quiet_op; go_big_quiet_on)); refine wpQuiet_nil ?_)) | (first | (refine rel_skip_some rfl (fun _ => rfl) ?_; ((first | go_big_quiet_skip | (go_big_quiet_want; go_big_quiet_op; go_big_quiet_on)); refine wpQuiet_nil ?_)) | refine rel_skip_none rfl (fun _ => rfl) ?_) | ((try simp only [Nat.zero_add, Nat.reduceAdd]); apply rel_box alloc_cls; (focus rfl); (focus (first | exact cells_agg _ | exact cells_int _ _ | exact cells_bool _ | rfl)); (focus ((repeat (refine fits_cons ⟨by (first | exact stab_full _ _ _ | exact stab_hdr _ _ _ | exact stab_hdr_at _ _ _ _ | exact stab_full_at _ _ _ _ (hinj _ _ (by decide))), by (first | exact stab_full _ _ _ | exact stab_hdr _ _ _ | exact stab_hdr_at _ _ _ _ | exact stab_full_at _ _ _ _ (hinj _ _ (by decide)))⟩ ?_)); exact fits_nil (by (first | exact stab_full _ _ _ | exact stab_hdr _ _ _ | exact stab_hdr_at _ _ _ _ | exact stab_full_at _ _ _ _ (hinj _ _ (by decide)))))); ((first | go_big_quiet_skip | (go_big_quiet_want; go_big_quiet_op; go_big_quiet_on)); refine wpQuiet_nil ?_)) | ((try simp only [Nat.zero_add, Nat.reduceAdd]); apply rel_alloc _ _ alloc_cls; (focus rfl); (focus (intro W; (first | exact zero_key _ | exact zero_elem _ | exact zero_num _ | exact zero_pair _))); (focus exact cells_ints _ _ _); (focus ((repeat (refine fits_cons ⟨by (first | exact stab_full _ _ _ | exact stab_hdr _ _ _ | exact stab_hdr_at _ _ _ _ | exact stab_full_at _ _ _ _ (hinj _ _ (by decide))), by (first | exact stab_full _ _ _ | exact stab_hdr _ _ _ | exact stab_hdr_at _ _ _ _ | exact stab_full_at _ _ _ _ (hinj _ _ (by decide)))⟩ ?_)); exact fits_nil (by (first | exact stab_full _ _ _ | exact stab_hdr _ _ _ | exact stab_hdr_at _ _ _ _ | exact stab_full_at _ _ _ _ (hinj _ _ (by decide)))))); ((first | go_big_quiet_skip | (go_big_quiet_want; go_big_quiet_op; go_big_quiet_on)); refine wpQuiet_nil ?_)) | ((try simp only [Nat.zero_add, Nat.reduceAdd]); apply rel_slice alloc_cls; (focus rfl); (focus (intro W; simp only [List.map_toArray, List.map_cons, List.map_nil]; first | (with_reducible exact build1s _ W) | exact build1s _ W)); (focus ((repeat (refine fits_cons ⟨by (first | exact stab_full _ _ _ | exact stab_hdr _ _ _ | exact stab_hdr_at _ _ _ _ | exact stab_full_at _ _ _ _ (hinj _ _ (by decide))), by (first | exact stab_full _ _ _ | exact stab_hdr _ _ _ | exact stab_hdr_at _ _ _ _ | exact stab_full_at _ _ _ _ (hinj _ _ (by decide)))⟩ ?_)); exact fits_nil (by (first | exact stab_full _ _ _ | exact stab_hdr _ _ _ | exact stab_hdr_at _ _ _ _ | exact stab_full_at _ _ _ _ (hinj _ _ (by decide)))))); ((first | go_big_quiet_skip | (go_big_quiet_want; go_big_quiet_op; go_big_quiet_on)); refine wpQuiet_nil ?_)) | ((try simp only [Nat.zero_add, Nat.reduceAdd]); apply rel_store (setRow_cls (hbase _)); (focus rfl); (focus rfl); (focus rfl); (focus (first | exact cells_agg _ | exact cells_int _ _ | exact cells_bool _ | rfl)); rotate_left 3; (focus (first | exact List.mem_cons_self .. | exact List.mem_cons_of_mem _ (List.mem_cons_self ..) | exact List.mem_cons_of_mem _ (List.mem_cons_of_mem _ (List.mem_cons_self ..)) | exact List.mem_cons_of_mem _ (List.mem_cons_of_mem _ (List.mem_cons_of_mem _ (List.mem_cons_self ..))) | exact List.mem_cons_of_mem _ (List.mem_cons_of_mem _ (List.mem_cons_of_mem _ (List.mem_cons_of_mem _ (List.mem_cons_self ..)))))); rotate_right 3; (focus kernel_rfl); (focus exact ints_size _ _ _); (focus exact ints_ones _ _ _); (focus (decide +kernel)); (focus ((repeat (refine fits_cons ⟨by (first | exact stab_full _ _ _ | exact stab_hdr _ _ _ | exact stab_hdr_at _ _ _ _ | exact stab_full_at _ _ _ _ (hinj _ _ (by decide))), by (first | exact stab_full _ _ _ | exact stab_hdr _ _ _ | exact stab_hdr_at _ _ _ _ | exact stab_full_at _ _ _ _ (hinj _ _ (by decide)))⟩ ?_)); exact fits_nil (by (first | exact stab_full _ _ _ | exact stab_hdr _ _ _ | exact stab_hdr_at _ _ _ _ | exact stab_full_at _ _ _ _ (hinj _ _ (by decide))))))) | (apply rel_fact; (focus rfl); (focus rfl); (focus rfl); (focus (intro W hC hF; (have hGW : Below w.heap.size w W := (by obtain ⟨m, rfl⟩ := hC; exact Grew.more hG m); (first | (have hE2 : StrsAt W (some ⟨γ 16, 0, none⟩) 2 (twoS S more0) := strs_two (known hF (List.mem_cons_self ..) (by decide +kernel))) | (have hE2 : True := trivial)); (first | (have hE1 : StrsAt W (some ⟨γ 2, 0, none⟩) 1 (oneS S) := strs_one (known hF (List.mem_cons_self ..) (by decide +kernel))) | (have hE1 : True := trivial))); go_big_quiet_want; go_big_quiet_op; (first | go_big_quiet_on | (apply Exists.intro; refine ⟨fun _ => ?_, ?_⟩; (focus (first | (with_reducible exact Calls.of_more (c1 _ _ (hE1.later (below_more W _)) (hTT.out.later (Grew.trans hGW (below_more W _))))) | (with_reducible exact Calls.of_more (c4 _ _ (hE2.later (below_more W _)) (hTT.out.later (Grew.trans hGW (below_more W _))))) | (with_reducible exact Calls.of_more (c2 _ (Grew.trans hGW (below_more W _)))) | (with_reducible exact Calls.of_more (c3 _ (Grew.trans hGW (below_more W _)))) | (with_reducible exact Calls.of_more (c5 _ (Grew.trans hGW (below_more W _)))) | (with_reducible exact Calls.of_more (c6 _)) | (with_reducible exact Calls.of_more (c7 _ (Grew.trans hGW (below_more W _)))))); go_big_quiet_on)); exact wpQuiet_nil rfl)); (focus (exact fun _ => rfl)); ((first | go_big_quiet_skip | (go_big_quiet_want; go_big_quiet_op; go_big_quiet_on)); refine wpQuiet_nil ?_)))); ((try simp only [Nat.zero_add, Nat.reduceAdd]); apply rel_slice alloc_cls; (focus rfl); (focus (intro W; simp only [List.map_toArray, List.map_cons, List.map_nil]; first | (with_reducible exact build2s _ _ W) | exact build2s _ _ W)); (focus ((repeat (refine fits_cons ⟨by (first | exact stab_full _ _ _ | exact stab_hdr _ _ _ | exact stab_hdr_at _ _ _ _ | exact stab_full_at _ _ _ _ (hinj _ _ (by decide))), by (first | exact stab_full _ _ _ | exact stab_hdr _ _ _ | exact stab_hdr_at _ _ _ _ | exact stab_full_at _ _ _ _ (hinj _ _ (by decide)))⟩ ?_)); exact fits_nil (by (first | exact stab_full _ _ _ | exact stab_hdr _ _ _ | exact stab_hdr_at _ _ _ _ | exact stab_full_at _ _ _ _ (hinj _ _ (by decide)))))); ((first | go_big_quiet_skip | (go_big_quiet_want; go_big_quiet_op; go_big_quiet_on)); refine wpQuiet_nil ?_)); (repeat (first | (refine rel_quiet rfl ?_; ((first | go_big_quiet_skip | (go_big_quiet_want; go_big_quiet_op; go_big_quiet_on)); refine wpQuiet_nil ?_)) | (first | (refine rel_skip_some rfl (fun _ => rfl) ?_; ((first | go_big_quiet_skip | (go_big_quiet_want; go_big_quiet_op; go_big_quiet_on)); refine wpQuiet_nil ?_)) | refine rel_skip_none rfl (fun _ => rfl) ?_) | ((try simp only [Nat.zero_add, Nat.reduceAdd]); apply rel_box alloc_cls; (focus rfl); (focus (first | exact cells_agg _ | exact cells_int _ _ | exact cells_bool _ | rfl)); (focus ((repeat (refine fits_cons ⟨by (first | exact stab_full _ _ _ | exact stab_hdr _ _ _ | exact stab_hdr_at _ _ _ _ | exact stab_full_at _ _ _ _ (hinj _ _ (by decide))), by (first | exact stab_full _ _ _ | exact stab_hdr _ _ _ | exact stab_hdr_at _ _ _ _ | exact stab_full_at _ _ _ _ (hinj _ _ (by decide)))⟩ ?_)); exact fits_nil (by (first | exact stab_full _ _ _ | exact stab_hdr _ _ _ | exact stab_hdr_at _ _ _ _ | exact stab_full_at _ _ _ _ (hinj _ _ (by decide)))))); ((first | go_big_quiet_skip | (go_big_quiet_want; go_big_quiet_op; go_big_quiet_on)); refine wpQuiet_nil ?_)) | ((try simp only [Nat.zero_add, Nat.reduceAdd]); apply rel_alloc _ _ alloc_cls; (focus rfl); (focus (intro W; (first | exact zero_key _ | exact zero_elem _ | exact zero_num _ | exact zero_pair _))); (focus exact cells_ints _ _ _); (focus ((repeat (refine fits_cons ⟨by (first | exact stab_full _ _ _ | exact stab_hdr _ _ _ | exact stab_hdr_at _ _ _ _ | exact stab_full_at _ _ _ _ (hinj _ _ (by decide))), by (first | exact stab_full _ _ _ | exact stab_hdr _ _ _ | exact stab_hdr_at _ _ _ _ | exact stab_full_at _ _ _ _ (hinj _ _ (by decide)))⟩ ?_)); exact fits_nil (by (first | exact stab_full _ _ _ | exact stab_hdr _ _ _ | exact stab_hdr_at _ _ _ _ | exact stab_full_at _ _ _ _ (hinj _ _ (by decide)))))); ((first | go_big_quiet_skip | (go_big_quiet_want; go_big_quiet_op; go_big_quiet_on)); refine wpQuiet_nil ?_)) | ((try simp only [Nat.zero_add, Nat.reduceAdd]); apply rel_slice alloc_cls; (focus rfl); (focus (intro W; simp only [List.map_toArray, List.map_cons, List.map_nil]; first | (with_reducible exact build2s _ _ W) | exact build2s _ _ W)); (focus ((repeat (refine fits_cons ⟨by (first | exact stab_full _ _ _ | exact stab_hdr _ _ _ | exact stab_hdr_at _ _ _ _ | exact stab_full_at _ _ _ _ (hinj _ _ (by decide))), by (first | exact stab_full _ _ _ | exact stab_hdr _ _ _ | exact stab_hdr_at _ _ _ _ | exact stab_full_at _ _ _ _ (hinj _ _ (by decide)))⟩ ?_)); exact fits_nil (by (first | exact stab_full _ _ _ | exact stab_hdr _ _ _ | exact stab_hdr_at _ _ _ _ | exact stab_full_at _ _ _ _ (hinj _ _ (by decide)))))); ((first | go_big_quiet_skip | (go_big_quiet_want; go_big_quiet_op; go_big_quiet_on)); refine wpQuiet_nil ?_)) | ((try simp only [Nat.zero_add, Nat.reduceAdd]); apply rel_store (setRow_cls (hbase _)); (focus rfl); (focus rfl); (focus rfl); (focus (first | exact cells_agg _ | exact cells_int _ _ | exact cells_bool _ | rfl)); rotate_left 3; (focus (first | exact List.mem_cons_self .. | exact List.mem_cons_of_mem _ (List.mem_cons_self ..) | exact List.mem_cons_of_mem _ (List.mem_cons_of_mem _ (List.mem_cons_self ..)) | exact List.mem_cons_of_mem _ (List.mem_cons_of_mem _ (List.mem_cons_of_mem _ (List.mem_cons_self ..))) | exact List.mem_cons_of_mem _ (List.mem_cons_of_mem _ (List.mem_cons_of_mem _ (List.mem_cons_of_mem _ (List.mem_cons_self ..)))))); rotate_right 3; (focus kernel_rfl); (focus exact ints_size _ _ _); (focus exact ints_ones _ _ _); (focus (decide +kernel)); (focus ((repeat (refine fits_cons ⟨by (first | exact stab_full _ _ _ | exact stab_hdr _ _ _ | exact stab_hdr_at _ _ _ _ | exact stab_full_at _ _ _ _ (hinj _ _ (by decide))), by (first | exact stab_full _ _ _ | exact stab_hdr _ _ _ | exact stab_hdr_at _ _ _ _ | exact stab_full_at _ _ _ _ (hinj _ _ (by decide)))⟩ ?_)); exact fits_nil (by (first | exact stab_full _ _ _ | exact stab_hdr _ _ _ | exact stab_hdr_at _ _ _ _ | exact stab_full_at _ _ _ _ (hinj _ _ (by decide))))))) | (apply rel_fact; (focus rfl); (focus rfl); (focus rfl); (focus (intro W hC hF; (have hGW : Below w.heap.size w W := (by obtain ⟨m, rfl⟩ := hC; exact Grew.more hG m); (first | (have hE2 : StrsAt W (some ⟨γ 16, 0, none⟩) 2 (twoS S more0) := strs_two (known hF (List.mem_cons_self ..) (by decide +kernel))) | (have hE2 : True := trivial)); (first | (have hE1 : StrsAt W (some ⟨γ 2, 0, none⟩) 1 (oneS S) := strs_one (known hF (List.mem_cons_self ..) (by decide +kernel))) | (have hE1 : True := trivial))); go_big_quiet_want; go_big_quiet_op; (first | go_big_quiet_on | (apply Exists.intro; refine ⟨fun _ => ?_, ?_⟩; (focus (first | (with_reducible exact Calls.of_more (c1 _ _ (hE1.later (below_more W _)) (hTT.out.later (Grew.trans hGW (below_more W _))))) | (with_reducible exact Calls.of_more (c4 _ _ (hE2.later (below_more W _)) (hTT.out.later (Grew.trans hGW (below_more W _))))) | (with_reducible exact Calls.of_more (c2 _ (Grew.trans hGW (below_more W _)))) | (with_reducible exact Calls.of_more (c3 _ (Grew.trans hGW (below_more W _)))) | (with_reducible exact Calls.of_more (c5 _ (Grew.trans hGW (below_more W _)))) | (with_reducible exact Calls.of_more (c6 _)) | (with_reducible exact Calls.of_more (c7 _ (Grew.trans hGW (below_more W _)))))); go_big_quiet_on)); exact wpQuiet_nil rfl)); (focus (exact fun _ => rfl)); ((first | go_big_quiet_skip | (go_big_quiet_want; go_big_quiet_op; go_big_quiet_on)); refine wpQuiet_nil ?_)))))
      (refine rel_nil ?_; rintro _ ⟨mq, rfl⟩ hF; simp only [List.forall_mem_cons] at hF; obtain - := hF)
      go_wp2
      go_ret
      exact ⟨rfl, by (repeat (first | assumption | exact Grew.refl _ | refine Grew.more ?_ _ | refine Grew.alloc ?_ _ | refine Grew.drewN ?_ _ | refine Grew.setRow ?_ _ _ (by omega) | refine Grew.setRow ?_ _ _ (by simp; omega) | refine Grew.setRow ?_ _ _ (by simp)))⟩
end Go.Proofs.YtdihaffopfbnnaaDoor
