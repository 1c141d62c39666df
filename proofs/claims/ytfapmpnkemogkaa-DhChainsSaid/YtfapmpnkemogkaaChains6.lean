/- DhChains. -/
import Derived.Test.YtfapmpnkemogkaaKeys
import Derived.Test.YtfapmpnkemogkaaRefDh
namespace Go.Proofs.Ytfapmpnkemogkaa
open Go.RowKit
set_option linter.unusedVariables false
set_option linter.unusedSimpArgs false
open Edw (red tv)


structure ChInv (S : Nat → (Nat → Int) → Nat → Int) (Z : Nat → (Nat → Int) → Bool) (p : Nat → Int) (w : World) (j : Nat) (q : Nat → Int) (wr : World) : Prop where
  h : chS S Z p j = some q
  b : Bytes 32 q
  g : Below w.heap.size w wr
  fp : objAt wr (w.heap.size) = some (.cells (ints .u8 32 (q)) 23)
  fr : objAt wr (w.heap.size + 1) = some (.cells (ints .u8 32 (nought)) 23)
set_option maxRecDepth 100000 in
set_option maxHeartbeats 2000000 in
theorem chain_walk (p : Nat → Int) (F : Nat → Nat → Int) (S : Nat → (Nat → Int) → Nat → Int) (Z : Nat → (Nat → Int) → Bool) (n c : Nat) (oa : Option Addr) (w : World)
    (hn : n ≤ 9223372036854775807)
    (hp : Bytes 32 p)
    (hS : ∀ j q, j < n → Bytes 32 q → Bytes 32 (S j q))
    (hs : ∀ j q (w : World), j < n → Bytes 32 q → Calls Try.prog 73 #[.agg (ints .u8 32 (F j)), .agg (ints .u8 32 (q))] w fun e w' => e = .returned (.tuple #[.agg (ints .u8 32 (S j q)), .bool (!Z j q)]) ∧ Below w.heap.size w w')
    (hl : KeysAt w oa n F) :
    Calls Try.prog 81 #[.agg (ints .u8 32 (p)), .slice oa n c] w fun e w' => e = .returned (.tuple #[.agg (ints .u8 32 (outK (chS S Z p n))), .bool (chS S Z p n).isSome]) ∧ Below w.heap.size w w' := by
  have hL : Hid (KeysAt w oa n F) := hl
  clear hl
  have hG := Grew.refl w
  have fp : True := trivial
  have fr : True := trivial
  go_enter Try.func81, Try.ntmps81
  go_wp2_with fail
  replace fp : objAt ((w.alloc (.cells (ints .u8 32 (p)) 23)).alloc (.cells (ints .u8 32 (nought)) 23)) (w.heap.size) = some (.cells (ints .u8 32 (p)) 23) := by (repeat (first | assumption | exact objAt_alloc_at _ _ _ rfl | (refine objAt_alloc_at _ _ _ ?_; (simp; done)) | refine keep_alloc _ ?_ | refine keep_drewN _ ?_ | refine keep_more _ ?_ | exact keep_row _ (by assumption) | refine keep_setRow _ _ ?_ (by first | omega | (simp; omega) | simp)))
  replace fr : objAt ((w.alloc (.cells (ints .u8 32 (p)) 23)).alloc (.cells (ints .u8 32 (nought)) 23)) (w.heap.size + 1) = some (.cells (ints .u8 32 (nought)) 23) := by (repeat (first | assumption | exact objAt_alloc_at _ _ _ rfl | (refine objAt_alloc_at _ _ _ ?_; (simp; done)) | refine keep_alloc _ ?_ | refine keep_drewN _ ?_ | refine keep_more _ ?_ | exact keep_row _ (by assumption) | refine keep_setRow _ _ ?_ (by first | omega | (simp; omega) | simp)))
  replace hG : Below w.heap.size w ((w.alloc (.cells (ints .u8 32 (p)) 23)).alloc (.cells (ints .u8 32 (nought)) 23)) := by (repeat (first | assumption | exact Grew.refl _ | refine Grew.more ?_ _ | refine Grew.alloc ?_ _ | refine Grew.drewN ?_ _ | refine Grew.setRow ?_ _ _ (by omega) | refine Grew.setRow ?_ _ _ (by simp; omega) | refine Grew.setRow ?_ _ _ (by simp)))
  generalize (w.alloc (.cells (ints .u8 32 (p)) 23)).alloc (.cells (ints .u8 32 (nought)) 23) = w1 at *
  have lfp := lt_of_objAt fp
  have lfr := lt_of_objAt fr
  have nr : ¬ (w.heap.size + 1 = w.heap.size) := by omega
  have nr2 : ¬ (w.heap.size = w.heap.size + 1) := by omega
  go_loopw [12] (fun i wr => ∃ j : Nat, j ≤ n ∧ i = .int .i64 j ∧ ∃ q, ChInv S Z p w j q wr) (fun i _ => n - (intOf i).toNat)
  case atStart => exact ⟨0, by omega, rfl, p, ⟨rfl, hp, hG, fp, fr⟩⟩
  case round =>
    clear fp fr hG lfp lfr hp
    obtain ⟨j, hj, rfl, q, hq, hqb, hG, fp, fr⟩ := hrel
    have lfp := lt_of_objAt fp
    have lfr := lt_of_objAt fr
    by_cases hlt : j < n
    · rcases hL.out with h0 | ⟨ad, rfl, hl⟩
      · omega
      have l1 := hl wr hG j hlt
      clear hl
      have c1 := fun w => hs j q w hlt hqb
      have hSb := hS j q hlt hqb
      have hn1 : Hid (chS S Z p (j + 1) = if Z j q = true then none else some (S j q)) := by show chS S Z p (j + 1) = _; simp only [chS, hq]
      have hnn : Hid (∀ n, j + 1 ≤ n → chS S Z p (j + 1) = none → chS S Z p n = none) := fun n hn h => chS_none S Z p h n hn
      have HQ : Hid (chS S Z p j = some q) := hq
      clear hq hs hS
      generalize Z j q = z at *
      generalize S j q = V at *
      go_wp2_with fail
      (refine (c1 _).mono ?_; rintro e w31 ⟨rfl, hb⟩; replace fp : objAt w31 (w.heap.size) = some (.cells (ints .u8 32 (q)) 23) := keep_below hb (by (repeat (first | assumption | exact objAt_alloc_at _ _ _ rfl | (refine objAt_alloc_at _ _ _ ?_; (simp; done)) | refine keep_alloc _ ?_ | refine keep_drewN _ ?_ | refine keep_more _ ?_ | exact keep_row _ (by assumption) | refine keep_setRow _ _ ?_ (by first | omega | (simp; omega) | simp)))); have lfp := lt_of_objAt fp; replace fr : objAt w31 (w.heap.size + 1) = some (.cells (ints .u8 32 (nought)) 23) := keep_below hb (by (repeat (first | assumption | exact objAt_alloc_at _ _ _ rfl | (refine objAt_alloc_at _ _ _ ?_; (simp; done)) | refine keep_alloc _ ?_ | refine keep_drewN _ ?_ | refine keep_more _ ?_ | exact keep_row _ (by assumption) | refine keep_setRow _ _ ?_ (by first | omega | (simp; omega) | simp)))); have lfr := lt_of_objAt fr; replace hG : Below w.heap.size w w31 := Grew.trans (by (repeat (first | assumption | exact Grew.refl _ | refine Grew.more ?_ _ | refine Grew.alloc ?_ _ | refine Grew.drewN ?_ _ | refine Grew.setRow ?_ _ _ (by omega) | refine Grew.setRow ?_ _ _ (by simp; omega) | refine Grew.setRow ?_ _ _ (by simp)))) hb; clear hb)
      cases z
      · go_wp2
        go_roundw
        case rel => exact ⟨j + 1, by omega, by go_num, V, ⟨by rw [hn1.out]; rfl, hSb, by (repeat (first | assumption | exact Grew.refl _ | refine Grew.more ?_ _ | refine Grew.alloc ?_ _ | refine Grew.drewN ?_ _ | refine Grew.setRow ?_ _ _ (by omega) | refine Grew.setRow ?_ _ _ (by simp; omega) | refine Grew.setRow ?_ _ _ (by simp))), by (repeat (first | assumption | exact objAt_alloc_at _ _ _ rfl | (refine objAt_alloc_at _ _ _ ?_; (simp; done)) | refine keep_alloc _ ?_ | refine keep_drewN _ ?_ | refine keep_more _ ?_ | exact keep_row _ (by assumption) | refine keep_setRow _ _ ?_ (by first | omega | (simp; omega) | simp))), by (repeat (first | assumption | exact objAt_alloc_at _ _ _ rfl | (refine objAt_alloc_at _ _ _ ?_; (simp; done)) | refine keep_alloc _ ?_ | refine keep_drewN _ ?_ | refine keep_more _ ?_ | exact keep_row _ (by assumption) | refine keep_setRow _ _ ?_ (by first | omega | (simp; omega) | simp)))⟩⟩
        case measure => simp [intOf] <;> omega
      · have hN : Hid (chS S Z p n = none) := hnn.out n (by omega) (by rw [hn1.out]; rfl)
        go_wp2
        refine ret_key_tmp rfl _ 23 (ints .u8 32 nought) (0, 0) _ _ rfl rfl (by first | exact keep_alloc _ (keep_row _ fr) | exact keep_row _ (keep_alloc _ fr) | exact keep_row _ fr) Try.underlying23 rfl (by rw [ints_size]; kernel_rfl) rfl ⟨by rw [hN.out]; rfl, by (repeat (first | assumption | exact Grew.refl _ | refine Grew.more ?_ _ | refine Grew.alloc ?_ _ | refine Grew.drewN ?_ _ | refine Grew.setRow ?_ _ _ (by omega) | refine Grew.setRow ?_ _ _ (by simp; omega) | refine Grew.setRow ?_ _ _ (by simp)))⟩
    · obtain rfl : j = n := by omega
      have HQ : Hid (chS S Z p j = some q) := hq
      clear hq hlt hs hS hL
      go_wp2
      refine ret_key_tmp rfl _ 23 (ints .u8 32 q) (0, 0) _ _ rfl rfl (keep_row _ fr) Try.underlying23 rfl (by rw [ints_size]; kernel_rfl) rfl ⟨by rw [HQ.out]; rfl, by (repeat (first | assumption | exact Grew.refl _ | refine Grew.more ?_ _ | refine Grew.alloc ?_ _ | refine Grew.drewN ?_ _ | refine Grew.setRow ?_ _ _ (by omega) | refine Grew.setRow ?_ _ _ (by simp; omega) | refine Grew.setRow ?_ _ _ (by simp)))⟩
structure ClInv (S : Nat → (Nat → Int) → Nat → Int) (Z : Nat → (Nat → Int) → Bool) (p a b : Nat → Int) (gw : Nat) (w : World) (f : Value) (j : Nat) (W : Nat → Int) (wr : World) : Prop where
  h : (chS S Z p j = some W ∧ Bytes 32 W ∧ f = .bool true) ∨ (chS S Z p j = none ∧ f = .bool false)
  g : Below w.heap.size w wr
  fp : objAt wr (w.heap.size) = some (.cells (ints .u8 32 (p)) 23)
  fa : objAt wr (w.heap.size + 1) = some (.cells (ints .u8 32 (a)) 23)
  fb : objAt wr (w.heap.size + 1 + 1) = some (.cells (ints .u8 32 (b)) 23)
  fw : objAt wr gw = some (.cells (ints .u8 32 (W)) 22)
set_option maxRecDepth 100000 in
set_option maxHeartbeats 2000000 in
theorem chains_walk (p a b P1 X Y : Nat → Int) (F : Nat → Nat → Int) (S : Nat → (Nat → Int) → Nat → Int) (Z : Nat → (Nat → Int) → Bool) (n c : Nat) (oa : Option Addr) (w : World)
    (hn : n ≤ 9223372036854775807)
    (hp : Bytes 32 p)
    (hS : ∀ j q, j < n → Bytes 32 q → Bytes 32 (S j q))
    (hr : ∀ j q (w : World), j < n → Bytes 32 q → Calls Try.prog 74 #[.agg (ints .u8 32 (F j)), .agg (ints .u8 32 (q))] w fun e w' => e = .returned (.tuple #[.agg (ints .u8 32 (S j q)), .bool (!Z j q)]) ∧ Below w.heap.size w w')
    (hl : KeysAt w oa n F)
    (hc : ∀ w : World, KeysAt w oa n F → Calls Try.prog 81 #[.agg (ints .u8 32 (p)), .slice oa n c] w fun e w' => e = .returned (.tuple #[.agg (ints .u8 32 (outK (chS S Z p n))), .bool (chS S Z p n).isSome]) ∧ Below w.heap.size w w')
    (hb : ∀ w : World, Calls Try.prog 79 #[.agg (ints .u8 32 (p))] w fun e w' => e = .returned (.agg (ints .u8 32 (P1))) ∧ Below w.heap.size w w')
    (hx : ∀ (w : World) o, KeysAt w o 2 (two a b) → Calls Try.prog 81 #[.agg (ints .u8 32 (P1)), .slice o 2 2] w fun e w' => e = .returned (.tuple #[.agg (ints .u8 32 (X)), .bool true]) ∧ Below w.heap.size w w')
    (hy : ∀ (w : World) o, KeysAt w o 2 (two b a) → Calls Try.prog 81 #[.agg (ints .u8 32 (P1)), .slice o 2 2] w fun e w' => e = .returned (.tuple #[.agg (ints .u8 32 (Y)), .bool true]) ∧ Below w.heap.size w w')
    (e1 : same 32 X Y = true) :
    Calls Try.prog 24 #[.agg (ints .u8 32 (p)), .slice oa n c, .agg (ints .u8 32 (a)), .agg (ints .u8 32 (b))] w fun e w' => e = .returned (.bool true) ∧ Below w.heap.size w w' := by
  have hL : Hid (KeysAt w oa n F) := hl
  clear hl
  by_cases hn4 : n ≤ 4
  case neg =>
    have hG := Grew.refl w
    have fp : True := trivial
    have fa : True := trivial
    have fb : True := trivial
    go_enter Try.func24, Try.ntmps24
    go_wp2_with fail
    replace fp : objAt (((w.alloc (.cells (ints .u8 32 (p)) 23)).alloc (.cells (ints .u8 32 (a)) 23)).alloc (.cells (ints .u8 32 (b)) 23)) (w.heap.size) = some (.cells (ints .u8 32 (p)) 23) := by (repeat (first | assumption | exact objAt_alloc_at _ _ _ rfl | (refine objAt_alloc_at _ _ _ ?_; (simp; done)) | refine keep_alloc _ ?_ | refine keep_drewN _ ?_ | refine keep_more _ ?_ | exact keep_row _ (by assumption) | refine keep_setRow _ _ ?_ (by first | omega | (simp; omega) | simp)))
    replace fa : objAt (((w.alloc (.cells (ints .u8 32 (p)) 23)).alloc (.cells (ints .u8 32 (a)) 23)).alloc (.cells (ints .u8 32 (b)) 23)) (w.heap.size + 1) = some (.cells (ints .u8 32 (a)) 23) := by (repeat (first | assumption | exact objAt_alloc_at _ _ _ rfl | (refine objAt_alloc_at _ _ _ ?_; (simp; done)) | refine keep_alloc _ ?_ | refine keep_drewN _ ?_ | refine keep_more _ ?_ | exact keep_row _ (by assumption) | refine keep_setRow _ _ ?_ (by first | omega | (simp; omega) | simp)))
    replace fb : objAt (((w.alloc (.cells (ints .u8 32 (p)) 23)).alloc (.cells (ints .u8 32 (a)) 23)).alloc (.cells (ints .u8 32 (b)) 23)) (w.heap.size + 1 + 1) = some (.cells (ints .u8 32 (b)) 23) := by (repeat (first | assumption | exact objAt_alloc_at _ _ _ rfl | (refine objAt_alloc_at _ _ _ ?_; (simp; done)) | refine keep_alloc _ ?_ | refine keep_drewN _ ?_ | refine keep_more _ ?_ | exact keep_row _ (by assumption) | refine keep_setRow _ _ ?_ (by first | omega | (simp; omega) | simp)))
    replace hG : Below w.heap.size w (((w.alloc (.cells (ints .u8 32 (p)) 23)).alloc (.cells (ints .u8 32 (a)) 23)).alloc (.cells (ints .u8 32 (b)) 23)) := by (repeat (first | assumption | exact Grew.refl _ | refine Grew.more ?_ _ | refine Grew.alloc ?_ _ | refine Grew.drewN ?_ _ | refine Grew.setRow ?_ _ _ (by omega) | refine Grew.setRow ?_ _ _ (by simp; omega) | refine Grew.setRow ?_ _ _ (by simp)))
    generalize ((w.alloc (.cells (ints .u8 32 (p)) 23)).alloc (.cells (ints .u8 32 (a)) 23)).alloc (.cells (ints .u8 32 (b)) 23) = w1 at *
    have lfp := lt_of_objAt fp
    have lfa := lt_of_objAt fa
    have lfb := lt_of_objAt fb
    go_wp2_with fail
    (refine (awake6_any _).mono ?_; rintro e w2 ⟨rfl, hb⟩; replace fp : objAt w2 (w.heap.size) = some (.cells (ints .u8 32 (p)) 23) := keep_below hb (by (repeat (first | assumption | exact objAt_alloc_at _ _ _ rfl | (refine objAt_alloc_at _ _ _ ?_; (simp; done)) | refine keep_alloc _ ?_ | refine keep_drewN _ ?_ | refine keep_more _ ?_ | exact keep_row _ (by assumption) | refine keep_setRow _ _ ?_ (by first | omega | (simp; omega) | simp)))); have lfp := lt_of_objAt fp; replace fa : objAt w2 (w.heap.size + 1) = some (.cells (ints .u8 32 (a)) 23) := keep_below hb (by (repeat (first | assumption | exact objAt_alloc_at _ _ _ rfl | (refine objAt_alloc_at _ _ _ ?_; (simp; done)) | refine keep_alloc _ ?_ | refine keep_drewN _ ?_ | refine keep_more _ ?_ | exact keep_row _ (by assumption) | refine keep_setRow _ _ ?_ (by first | omega | (simp; omega) | simp)))); have lfa := lt_of_objAt fa; replace fb : objAt w2 (w.heap.size + 1 + 1) = some (.cells (ints .u8 32 (b)) 23) := keep_below hb (by (repeat (first | assumption | exact objAt_alloc_at _ _ _ rfl | (refine objAt_alloc_at _ _ _ ?_; (simp; done)) | refine keep_alloc _ ?_ | refine keep_drewN _ ?_ | refine keep_more _ ?_ | exact keep_row _ (by assumption) | refine keep_setRow _ _ ?_ (by first | omega | (simp; omega) | simp)))); have lfb := lt_of_objAt fb; replace hG : Below w.heap.size w w2 := Grew.trans (by (repeat (first | assumption | exact Grew.refl _ | refine Grew.more ?_ _ | refine Grew.alloc ?_ _ | refine Grew.drewN ?_ _ | refine Grew.setRow ?_ _ _ (by omega) | refine Grew.setRow ?_ _ _ (by simp; omega) | refine Grew.setRow ?_ _ _ (by simp)))) hb; clear hb)
    go_wp2
    go_ret
    exact ⟨rfl, by (repeat (first | assumption | exact Grew.refl _ | refine Grew.more ?_ _ | refine Grew.alloc ?_ _ | refine Grew.drewN ?_ _ | refine Grew.setRow ?_ _ _ (by omega) | refine Grew.setRow ?_ _ _ (by simp; omega) | refine Grew.setRow ?_ _ _ (by simp)))⟩
  have hG := Grew.refl w
  have fp : True := trivial
  have fa : True := trivial
  have fb : True := trivial
  go_enter Try.func24, Try.ntmps24
  go_wp2_with fail
  replace fp : objAt (((w.alloc (.cells (ints .u8 32 (p)) 23)).alloc (.cells (ints .u8 32 (a)) 23)).alloc (.cells (ints .u8 32 (b)) 23)) (w.heap.size) = some (.cells (ints .u8 32 (p)) 23) := by (repeat (first | assumption | exact objAt_alloc_at _ _ _ rfl | (refine objAt_alloc_at _ _ _ ?_; (simp; done)) | refine keep_alloc _ ?_ | refine keep_drewN _ ?_ | refine keep_more _ ?_ | exact keep_row _ (by assumption) | refine keep_setRow _ _ ?_ (by first | omega | (simp; omega) | simp)))
  replace fa : objAt (((w.alloc (.cells (ints .u8 32 (p)) 23)).alloc (.cells (ints .u8 32 (a)) 23)).alloc (.cells (ints .u8 32 (b)) 23)) (w.heap.size + 1) = some (.cells (ints .u8 32 (a)) 23) := by (repeat (first | assumption | exact objAt_alloc_at _ _ _ rfl | (refine objAt_alloc_at _ _ _ ?_; (simp; done)) | refine keep_alloc _ ?_ | refine keep_drewN _ ?_ | refine keep_more _ ?_ | exact keep_row _ (by assumption) | refine keep_setRow _ _ ?_ (by first | omega | (simp; omega) | simp)))
  replace fb : objAt (((w.alloc (.cells (ints .u8 32 (p)) 23)).alloc (.cells (ints .u8 32 (a)) 23)).alloc (.cells (ints .u8 32 (b)) 23)) (w.heap.size + 1 + 1) = some (.cells (ints .u8 32 (b)) 23) := by (repeat (first | assumption | exact objAt_alloc_at _ _ _ rfl | (refine objAt_alloc_at _ _ _ ?_; (simp; done)) | refine keep_alloc _ ?_ | refine keep_drewN _ ?_ | refine keep_more _ ?_ | exact keep_row _ (by assumption) | refine keep_setRow _ _ ?_ (by first | omega | (simp; omega) | simp)))
  replace hG : Below w.heap.size w (((w.alloc (.cells (ints .u8 32 (p)) 23)).alloc (.cells (ints .u8 32 (a)) 23)).alloc (.cells (ints .u8 32 (b)) 23)) := by (repeat (first | assumption | exact Grew.refl _ | refine Grew.more ?_ _ | refine Grew.alloc ?_ _ | refine Grew.drewN ?_ _ | refine Grew.setRow ?_ _ _ (by omega) | refine Grew.setRow ?_ _ _ (by simp; omega) | refine Grew.setRow ?_ _ _ (by simp)))
  generalize ((w.alloc (.cells (ints .u8 32 (p)) 23)).alloc (.cells (ints .u8 32 (a)) 23)).alloc (.cells (ints .u8 32 (b)) 23) = w1 at *
  have lfp := lt_of_objAt fp
  have lfa := lt_of_objAt fa
  have lfb := lt_of_objAt fb
  go_wp2_with fail
  (refine (awake6_any _).mono ?_; rintro e w2 ⟨rfl, hb⟩; replace fp : objAt w2 (w.heap.size) = some (.cells (ints .u8 32 (p)) 23) := keep_below hb (by (repeat (first | assumption | exact objAt_alloc_at _ _ _ rfl | (refine objAt_alloc_at _ _ _ ?_; (simp; done)) | refine keep_alloc _ ?_ | refine keep_drewN _ ?_ | refine keep_more _ ?_ | exact keep_row _ (by assumption) | refine keep_setRow _ _ ?_ (by first | omega | (simp; omega) | simp)))); have lfp := lt_of_objAt fp; replace fa : objAt w2 (w.heap.size + 1) = some (.cells (ints .u8 32 (a)) 23) := keep_below hb (by (repeat (first | assumption | exact objAt_alloc_at _ _ _ rfl | (refine objAt_alloc_at _ _ _ ?_; (simp; done)) | refine keep_alloc _ ?_ | refine keep_drewN _ ?_ | refine keep_more _ ?_ | exact keep_row _ (by assumption) | refine keep_setRow _ _ ?_ (by first | omega | (simp; omega) | simp)))); have lfa := lt_of_objAt fa; replace fb : objAt w2 (w.heap.size + 1 + 1) = some (.cells (ints .u8 32 (b)) 23) := keep_below hb (by (repeat (first | assumption | exact objAt_alloc_at _ _ _ rfl | (refine objAt_alloc_at _ _ _ ?_; (simp; done)) | refine keep_alloc _ ?_ | refine keep_drewN _ ?_ | refine keep_more _ ?_ | exact keep_row _ (by assumption) | refine keep_setRow _ _ ?_ (by first | omega | (simp; omega) | simp)))); have lfb := lt_of_objAt fb; replace hG : Below w.heap.size w w2 := Grew.trans (by (repeat (first | assumption | exact Grew.refl _ | refine Grew.more ?_ _ | refine Grew.alloc ?_ _ | refine Grew.drewN ?_ _ | refine Grew.setRow ?_ _ _ (by omega) | refine Grew.setRow ?_ _ _ (by simp; omega) | refine Grew.setRow ?_ _ _ (by simp)))) hb; clear hb)
  have gw0 := lfb
  have gw1 : ¬ (w.heap.size = w2.heap.size) := by omega
  have gw2 : ¬ (w.heap.size + 1 = w2.heap.size) := by omega
  have gw3 : ¬ (w.heap.size + 1 + 1 = w2.heap.size) := by omega
  go_wp2_with fail
  have fw : objAt (w2.alloc (.cells (ints .u8 32 (p)) 22)) w2.heap.size = some (.cells (ints .u8 32 (p)) 22) := objAt_alloc_at _ _ _ rfl
  replace fp : objAt (w2.alloc (.cells (ints .u8 32 (p)) 22)) (w.heap.size) = some (.cells (ints .u8 32 (p)) 23) := keep_alloc _ fp
  replace fa : objAt (w2.alloc (.cells (ints .u8 32 (p)) 22)) (w.heap.size + 1) = some (.cells (ints .u8 32 (a)) 23) := keep_alloc _ fa
  replace fb : objAt (w2.alloc (.cells (ints .u8 32 (p)) 22)) (w.heap.size + 1 + 1) = some (.cells (ints .u8 32 (b)) 23) := keep_alloc _ fb
  replace hG : Below w.heap.size w (w2.alloc (.cells (ints .u8 32 (p)) 22)) := Grew.alloc hG _
  clear lfp lfa lfb
  generalize w2.alloc (.cells (ints .u8 32 (p)) 22) = w3 at *
  generalize w2.heap.size = gw at *
  have lfp := lt_of_objAt fp
  have lfa := lt_of_objAt fa
  have lfb := lt_of_objAt fb
  have lfw := lt_of_objAt fw
  go_loopw [10, 27] (fun f i wr => ∃ j : Nat, j ≤ n ∧ i = .int .i64 j ∧ ∃ W, ClInv S Z p a b gw w f j W wr) (fun _ i _ => n - (intOf i).toNat)
  case atStart => exact ⟨0, by omega, rfl, p, ⟨.inl ⟨rfl, hp, rfl⟩, hG, fp, fa, fb, fw⟩⟩
  case round =>
    clear fp fa fb fw hG lfp lfa lfb lfw hp
    obtain ⟨j, hj, rfl, W, hor, hG, fp, fa, fb, fw⟩ := hrel
    have lfp := lt_of_objAt fp
    have lfa := lt_of_objAt fa
    have lfb := lt_of_objAt fb
    have lfw := lt_of_objAt fw
    by_cases hlt : j < n
    · rcases hL.out with h0 | ⟨ad, rfl, hl⟩
      · omega
      have l1 := hl wr hG j hlt
      clear hl hc hb hx hy
      rcases hor with ⟨hq, hqb, rfl⟩ | ⟨hq, rfl⟩
      · have c1 := fun w => hr j W w hlt hqb
        have hSb := hS j W hlt hqb
        have hn1 : Hid (chS S Z p (j + 1) = if Z j W = true then none else some (S j W)) := by show chS S Z p (j + 1) = _; simp only [chS, hq]
        clear hq hr hS
        generalize Z j W = z at *
        generalize S j W = V at *
        go_wp2_with fail
        (refine (c1 _).mono ?_; rintro e w31 ⟨rfl, hb⟩; replace fp : objAt w31 (w.heap.size) = some (.cells (ints .u8 32 (p)) 23) := keep_below hb (by (repeat (first | assumption | exact objAt_alloc_at _ _ _ rfl | (refine objAt_alloc_at _ _ _ ?_; (simp; done)) | refine keep_alloc _ ?_ | refine keep_drewN _ ?_ | refine keep_more _ ?_ | exact keep_row _ (by assumption) | refine keep_setRow _ _ ?_ (by first | omega | (simp; omega) | simp)))); have lfp := lt_of_objAt fp; replace fa : objAt w31 (w.heap.size + 1) = some (.cells (ints .u8 32 (a)) 23) := keep_below hb (by (repeat (first | assumption | exact objAt_alloc_at _ _ _ rfl | (refine objAt_alloc_at _ _ _ ?_; (simp; done)) | refine keep_alloc _ ?_ | refine keep_drewN _ ?_ | refine keep_more _ ?_ | exact keep_row _ (by assumption) | refine keep_setRow _ _ ?_ (by first | omega | (simp; omega) | simp)))); have lfa := lt_of_objAt fa; replace fb : objAt w31 (w.heap.size + 1 + 1) = some (.cells (ints .u8 32 (b)) 23) := keep_below hb (by (repeat (first | assumption | exact objAt_alloc_at _ _ _ rfl | (refine objAt_alloc_at _ _ _ ?_; (simp; done)) | refine keep_alloc _ ?_ | refine keep_drewN _ ?_ | refine keep_more _ ?_ | exact keep_row _ (by assumption) | refine keep_setRow _ _ ?_ (by first | omega | (simp; omega) | simp)))); have lfb := lt_of_objAt fb; replace fw : objAt w31 (gw) = some (.cells (ints .u8 32 (W)) 22) := keep_below hb (by (repeat (first | assumption | exact objAt_alloc_at _ _ _ rfl | (refine objAt_alloc_at _ _ _ ?_; (simp; done)) | refine keep_alloc _ ?_ | refine keep_drewN _ ?_ | refine keep_more _ ?_ | exact keep_row _ (by assumption) | refine keep_setRow _ _ ?_ (by first | omega | (simp; omega) | simp)))); have lfw := lt_of_objAt fw; replace hG : Below w.heap.size w w31 := Grew.trans (by (repeat (first | assumption | exact Grew.refl _ | refine Grew.more ?_ _ | refine Grew.alloc ?_ _ | refine Grew.drewN ?_ _ | refine Grew.setRow ?_ _ _ (by omega) | refine Grew.setRow ?_ _ _ (by simp; omega) | refine Grew.setRow ?_ _ _ (by simp)))) hb; clear hb)
        cases z
        · go_wp2
          go_roundw
          case rel => exact ⟨j + 1, by omega, by go_num, V, ⟨.inl ⟨by rw [hn1.out]; rfl, hSb, rfl⟩, by (repeat (first | assumption | exact Grew.refl _ | refine Grew.more ?_ _ | refine Grew.alloc ?_ _ | refine Grew.drewN ?_ _ | refine Grew.setRow ?_ _ _ (by omega) | refine Grew.setRow ?_ _ _ (by simp; omega) | refine Grew.setRow ?_ _ _ (by simp))), by (repeat (first | assumption | exact objAt_alloc_at _ _ _ rfl | (refine objAt_alloc_at _ _ _ ?_; (simp; done)) | refine keep_alloc _ ?_ | refine keep_drewN _ ?_ | refine keep_more _ ?_ | exact keep_row _ (by assumption) | refine keep_setRow _ _ ?_ (by first | omega | (simp; omega) | simp))), by (repeat (first | assumption | exact objAt_alloc_at _ _ _ rfl | (refine objAt_alloc_at _ _ _ ?_; (simp; done)) | refine keep_alloc _ ?_ | refine keep_drewN _ ?_ | refine keep_more _ ?_ | exact keep_row _ (by assumption) | refine keep_setRow _ _ ?_ (by first | omega | (simp; omega) | simp))), by (repeat (first | assumption | exact objAt_alloc_at _ _ _ rfl | (refine objAt_alloc_at _ _ _ ?_; (simp; done)) | refine keep_alloc _ ?_ | refine keep_drewN _ ?_ | refine keep_more _ ?_ | exact keep_row _ (by assumption) | refine keep_setRow _ _ ?_ (by first | omega | (simp; omega) | simp))), by (repeat (first | assumption | exact objAt_alloc_at _ _ _ rfl | (refine objAt_alloc_at _ _ _ ?_; (simp; done)) | refine keep_alloc _ ?_ | refine keep_drewN _ ?_ | refine keep_more _ ?_ | exact keep_row _ (by assumption) | refine keep_setRow _ _ ?_ (by first | omega | (simp; omega) | simp)))⟩⟩
          case measure => simp [intOf] <;> omega
        · go_wp2
          go_roundw
          case rel => exact ⟨j + 1, by omega, by go_num, V, ⟨.inr ⟨by rw [hn1.out]; rfl, rfl⟩, by (repeat (first | assumption | exact Grew.refl _ | refine Grew.more ?_ _ | refine Grew.alloc ?_ _ | refine Grew.drewN ?_ _ | refine Grew.setRow ?_ _ _ (by omega) | refine Grew.setRow ?_ _ _ (by simp; omega) | refine Grew.setRow ?_ _ _ (by simp))), by (repeat (first | assumption | exact objAt_alloc_at _ _ _ rfl | (refine objAt_alloc_at _ _ _ ?_; (simp; done)) | refine keep_alloc _ ?_ | refine keep_drewN _ ?_ | refine keep_more _ ?_ | exact keep_row _ (by assumption) | refine keep_setRow _ _ ?_ (by first | omega | (simp; omega) | simp))), by (repeat (first | assumption | exact objAt_alloc_at _ _ _ rfl | (refine objAt_alloc_at _ _ _ ?_; (simp; done)) | refine keep_alloc _ ?_ | refine keep_drewN _ ?_ | refine keep_more _ ?_ | exact keep_row _ (by assumption) | refine keep_setRow _ _ ?_ (by first | omega | (simp; omega) | simp))), by (repeat (first | assumption | exact objAt_alloc_at _ _ _ rfl | (refine objAt_alloc_at _ _ _ ?_; (simp; done)) | refine keep_alloc _ ?_ | refine keep_drewN _ ?_ | refine keep_more _ ?_ | exact keep_row _ (by assumption) | refine keep_setRow _ _ ?_ (by first | omega | (simp; omega) | simp))), by (repeat (first | assumption | exact objAt_alloc_at _ _ _ rfl | (refine objAt_alloc_at _ _ _ ?_; (simp; done)) | refine keep_alloc _ ?_ | refine keep_drewN _ ?_ | refine keep_more _ ?_ | exact keep_row _ (by assumption) | refine keep_setRow _ _ ?_ (by first | omega | (simp; omega) | simp)))⟩⟩
          case measure => simp [intOf] <;> omega
      · have hn1 : Hid (chS S Z p (j + 1) = none) := by show chS S Z p (j + 1) = _; simp only [chS, hq]
        clear hq hr hS
        go_wp2
        go_roundw
        case rel => exact ⟨j + 1, by omega, by go_num, W, ⟨.inr ⟨hn1.out, rfl⟩, by (repeat (first | assumption | exact Grew.refl _ | refine Grew.more ?_ _ | refine Grew.alloc ?_ _ | refine Grew.drewN ?_ _ | refine Grew.setRow ?_ _ _ (by omega) | refine Grew.setRow ?_ _ _ (by simp; omega) | refine Grew.setRow ?_ _ _ (by simp))), by (repeat (first | assumption | exact objAt_alloc_at _ _ _ rfl | (refine objAt_alloc_at _ _ _ ?_; (simp; done)) | refine keep_alloc _ ?_ | refine keep_drewN _ ?_ | refine keep_more _ ?_ | exact keep_row _ (by assumption) | refine keep_setRow _ _ ?_ (by first | omega | (simp; omega) | simp))), by (repeat (first | assumption | exact objAt_alloc_at _ _ _ rfl | (refine objAt_alloc_at _ _ _ ?_; (simp; done)) | refine keep_alloc _ ?_ | refine keep_drewN _ ?_ | refine keep_more _ ?_ | exact keep_row _ (by assumption) | refine keep_setRow _ _ ?_ (by first | omega | (simp; omega) | simp))), by (repeat (first | assumption | exact objAt_alloc_at _ _ _ rfl | (refine objAt_alloc_at _ _ _ ?_; (simp; done)) | refine keep_alloc _ ?_ | refine keep_drewN _ ?_ | refine keep_more _ ?_ | exact keep_row _ (by assumption) | refine keep_setRow _ _ ?_ (by first | omega | (simp; omega) | simp))), by (repeat (first | assumption | exact objAt_alloc_at _ _ _ rfl | (refine objAt_alloc_at _ _ _ ?_; (simp; done)) | refine keep_alloc _ ?_ | refine keep_drewN _ ?_ | refine keep_more _ ?_ | exact keep_row _ (by assumption) | refine keep_setRow _ _ ?_ (by first | omega | (simp; omega) | simp)))⟩⟩
        case measure => simp [intOf] <;> omega
    · obtain rfl : j = n := by omega
      clear hlt hr hS
      rcases hor with ⟨hq, hqb, rfl⟩ | ⟨hq, rfl⟩
      · rw [hq] at hc
        have c1 : ∀ w : World, KeysAt w oa j F → Calls Try.prog 81 #[.agg (ints .u8 32 (p)), .slice oa j c] w fun e w' => e = .returned (.tuple #[.agg (ints .u8 32 (W)), .bool true]) ∧ Below w.heap.size w w' := hc
        have e2 := same_refl 32 W
        clear hc hq
        go_wp2_with fail
        (refine (c1 _ (hL.out.later hG)).mono ?_; rintro e w41 ⟨rfl, hb⟩; replace fp : objAt w41 (w.heap.size) = some (.cells (ints .u8 32 (p)) 23) := keep_below hb (by (repeat (first | assumption | exact objAt_alloc_at _ _ _ rfl | (refine objAt_alloc_at _ _ _ ?_; (simp; done)) | refine keep_alloc _ ?_ | refine keep_drewN _ ?_ | refine keep_more _ ?_ | exact keep_row _ (by assumption) | refine keep_setRow _ _ ?_ (by first | omega | (simp; omega) | simp)))); have lfp := lt_of_objAt fp; replace fa : objAt w41 (w.heap.size + 1) = some (.cells (ints .u8 32 (a)) 23) := keep_below hb (by (repeat (first | assumption | exact objAt_alloc_at _ _ _ rfl | (refine objAt_alloc_at _ _ _ ?_; (simp; done)) | refine keep_alloc _ ?_ | refine keep_drewN _ ?_ | refine keep_more _ ?_ | exact keep_row _ (by assumption) | refine keep_setRow _ _ ?_ (by first | omega | (simp; omega) | simp)))); have lfa := lt_of_objAt fa; replace fb : objAt w41 (w.heap.size + 1 + 1) = some (.cells (ints .u8 32 (b)) 23) := keep_below hb (by (repeat (first | assumption | exact objAt_alloc_at _ _ _ rfl | (refine objAt_alloc_at _ _ _ ?_; (simp; done)) | refine keep_alloc _ ?_ | refine keep_drewN _ ?_ | refine keep_more _ ?_ | exact keep_row _ (by assumption) | refine keep_setRow _ _ ?_ (by first | omega | (simp; omega) | simp)))); have lfb := lt_of_objAt fb; replace fw : objAt w41 (gw) = some (.cells (ints .u8 32 (W)) 22) := keep_below hb (by (repeat (first | assumption | exact objAt_alloc_at _ _ _ rfl | (refine objAt_alloc_at _ _ _ ?_; (simp; done)) | refine keep_alloc _ ?_ | refine keep_drewN _ ?_ | refine keep_more _ ?_ | exact keep_row _ (by assumption) | refine keep_setRow _ _ ?_ (by first | omega | (simp; omega) | simp)))); have lfw := lt_of_objAt fw; replace hG : Below w.heap.size w w41 := Grew.trans (by (repeat (first | assumption | exact Grew.refl _ | refine Grew.more ?_ _ | refine Grew.alloc ?_ _ | refine Grew.drewN ?_ _ | refine Grew.setRow ?_ _ _ (by omega) | refine Grew.setRow ?_ _ _ (by simp; omega) | refine Grew.setRow ?_ _ _ (by simp)))) hb; clear hb)
        go_wp2_with fail
        have fk : objAt (w41.alloc (.cells (ints .u8 32 (W)) 23)) w41.heap.size = some (.cells (ints .u8 32 (W)) 23) := objAt_alloc_at _ _ _ rfl
        replace fp : objAt (w41.alloc (.cells (ints .u8 32 (W)) 23)) (w.heap.size) = some (.cells (ints .u8 32 (p)) 23) := keep_alloc _ fp
        replace fa : objAt (w41.alloc (.cells (ints .u8 32 (W)) 23)) (w.heap.size + 1) = some (.cells (ints .u8 32 (a)) 23) := keep_alloc _ fa
        replace fb : objAt (w41.alloc (.cells (ints .u8 32 (W)) 23)) (w.heap.size + 1 + 1) = some (.cells (ints .u8 32 (b)) 23) := keep_alloc _ fb
        replace fw : objAt (w41.alloc (.cells (ints .u8 32 (W)) 23)) (gw) = some (.cells (ints .u8 32 (W)) 22) := keep_alloc _ fw
        replace hG : Below w.heap.size w (w41.alloc (.cells (ints .u8 32 (W)) 23)) := Grew.alloc hG _
        clear lfp lfa lfb lfw
        generalize w41.alloc (.cells (ints .u8 32 (W)) 23) = w42 at *
        generalize w41.heap.size = gk at *
        have lfp := lt_of_objAt fp
        have lfa := lt_of_objAt fa
        have lfb := lt_of_objAt fb
        have lfw := lt_of_objAt fw
        have lfk := lt_of_objAt fk
        go_wp2_with fail
        (refine wp_rel (by kernel_rfl) (by kernel_rfl) ?_; (repeat (first | refine exv_skip rfl ?_ | (refine exv_call rfl ?_; apply Exists.intro))); refine exv_nil ?_; intro γ hinj hbase; (repeat (first | (refine rel_quiet rfl ?_; ((first | go_big_quiet_skip | (go_big_quiet_want; go_big_quiet_op; go_big_quiet_on)); refine wpQuiet_nil ?_)) | (first | (refine rel_skip_some rfl (fun _ => rfl) ?_; ((first | go_big_quiet_skip | (go_big_quiet_want; go_big_quiet_op; go_big_quiet_on)); refine wpQuiet_nil ?_)) | refine rel_skip_none rfl (fun _ => rfl) ?_) | ((try simp only [Nat.zero_add, Nat.reduceAdd]); apply rel_box alloc_cls; (focus rfl); (focus (first | exact cells_agg _ | exact cells_int _ _ | exact cells_bool _ | rfl)); (focus ((repeat (refine fits_cons ⟨by (first | exact stab_full _ _ _ | exact stab_hdr _ _ _ | exact stab_hdr_at _ _ _ _ | exact stab_full_at _ _ _ _ (hinj _ _ (by decide))), by (first | exact stab_full _ _ _ | exact stab_hdr _ _ _ | exact stab_hdr_at _ _ _ _ | exact stab_full_at _ _ _ _ (hinj _ _ (by decide)))⟩ ?_)); exact fits_nil (by (first | exact stab_full _ _ _ | exact stab_hdr _ _ _ | exact stab_hdr_at _ _ _ _ | exact stab_full_at _ _ _ _ (hinj _ _ (by decide)))))); ((first | go_big_quiet_skip | (go_big_quiet_want; go_big_quiet_op; go_big_quiet_on)); refine wpQuiet_nil ?_)) | ((try simp only [Nat.zero_add, Nat.reduceAdd]); apply rel_alloc _ _ alloc_cls; (focus rfl); (focus (intro W; (first | exact zero_key _ | exact zero_elem _ | exact zero_num _ | exact zero_pair _))); (focus exact cells_ints _ _ _); (focus ((repeat (refine fits_cons ⟨by (first | exact stab_full _ _ _ | exact stab_hdr _ _ _ | exact stab_hdr_at _ _ _ _ | exact stab_full_at _ _ _ _ (hinj _ _ (by decide))), by (first | exact stab_full _ _ _ | exact stab_hdr _ _ _ | exact stab_hdr_at _ _ _ _ | exact stab_full_at _ _ _ _ (hinj _ _ (by decide)))⟩ ?_)); exact fits_nil (by (first | exact stab_full _ _ _ | exact stab_hdr _ _ _ | exact stab_hdr_at _ _ _ _ | exact stab_full_at _ _ _ _ (hinj _ _ (by decide)))))); ((first | go_big_quiet_skip | (go_big_quiet_want; go_big_quiet_op; go_big_quiet_on)); refine wpQuiet_nil ?_)) | ((try simp only [Nat.zero_add, Nat.reduceAdd]); apply rel_slice alloc_cls; (focus rfl); (focus (intro W; simp only [List.map_toArray, List.map_cons, List.map_nil]; first | exact build2k _ _ W)); (focus ((repeat (refine fits_cons ⟨by (first | exact stab_full _ _ _ | exact stab_hdr _ _ _ | exact stab_hdr_at _ _ _ _ | exact stab_full_at _ _ _ _ (hinj _ _ (by decide))), by (first | exact stab_full _ _ _ | exact stab_hdr _ _ _ | exact stab_hdr_at _ _ _ _ | exact stab_full_at _ _ _ _ (hinj _ _ (by decide)))⟩ ?_)); exact fits_nil (by (first | exact stab_full _ _ _ | exact stab_hdr _ _ _ | exact stab_hdr_at _ _ _ _ | exact stab_full_at _ _ _ _ (hinj _ _ (by decide)))))); ((first | go_big_quiet_skip | (go_big_quiet_want; go_big_quiet_op; go_big_quiet_on)); refine wpQuiet_nil ?_)) | ((try simp only [Nat.zero_add, Nat.reduceAdd]); apply rel_store (setRow_cls (hbase _)); (focus rfl); (focus rfl); (focus rfl); (focus (first | exact cells_agg _ | exact cells_int _ _ | exact cells_bool _ | rfl)); rotate_left 3; (focus (first | exact List.mem_cons_self .. | exact List.mem_cons_of_mem _ (List.mem_cons_self ..) | exact List.mem_cons_of_mem _ (List.mem_cons_of_mem _ (List.mem_cons_self ..)) | exact List.mem_cons_of_mem _ (List.mem_cons_of_mem _ (List.mem_cons_of_mem _ (List.mem_cons_self ..))) | exact List.mem_cons_of_mem _ (List.mem_cons_of_mem _ (List.mem_cons_of_mem _ (List.mem_cons_of_mem _ (List.mem_cons_self ..)))))); rotate_right 3; (focus kernel_rfl); (focus exact ints_size _ _ _); (focus exact ints_ones _ _ _); (focus (decide +kernel)); (focus ((repeat (refine fits_cons ⟨by (first | exact stab_full _ _ _ | exact stab_hdr _ _ _ | exact stab_hdr_at _ _ _ _ | exact stab_full_at _ _ _ _ (hinj _ _ (by decide))), by (first | exact stab_full _ _ _ | exact stab_hdr _ _ _ | exact stab_hdr_at _ _ _ _ | exact stab_full_at _ _ _ _ (hinj _ _ (by decide)))⟩ ?_)); exact fits_nil (by (first | exact stab_full _ _ _ | exact stab_hdr _ _ _ | exact stab_hdr_at _ _ _ _ | exact stab_full_at _ _ _ _ (hinj _ _ (by decide))))))) | (apply rel_fact; (focus rfl); (focus rfl); (focus rfl); (focus (intro W hC hF; (try (have hE : KeysAt W (some ⟨γ 4, 0, none⟩) 2 (two a b) := keys_of_row (known hF (List.mem_cons_self ..) (by decide +kernel)) (by decide) (rowK_at _ 2))); go_big_quiet_want; go_big_quiet_op; (first | go_big_quiet_on | (apply Exists.intro; refine ⟨fun _ => ?_, ?_⟩; (focus (first | (with_reducible exact Calls.of_more (hb _)) | (with_reducible exact Calls.of_more (hx _ _ (hE.later (below_more W _)))))); go_big_quiet_on)); exact wpQuiet_nil rfl)); (focus (exact fun _ => rfl)); ((first | go_big_quiet_skip | (go_big_quiet_want; go_big_quiet_op; go_big_quiet_on)); refine wpQuiet_nil ?_)))))
        (refine rel_nil ?_; rintro _ ⟨mq, rfl⟩ hF; simp only [List.forall_mem_cons] at hF; obtain ⟨fx, -, fl, -⟩ := hF)
        have nlx : ¬ (γ 4 = γ 9) := hinj _ _ (by decide)
        replace fp : objAt (more w42 mq) (w.heap.size) = some (.cells (ints .u8 32 (p)) 23) := keep_more _ fp
        replace fa : objAt (more w42 mq) (w.heap.size + 1) = some (.cells (ints .u8 32 (a)) 23) := keep_more _ fa
        replace fb : objAt (more w42 mq) (w.heap.size + 1 + 1) = some (.cells (ints .u8 32 (b)) 23) := keep_more _ fb
        replace fw : objAt (more w42 mq) (gw) = some (.cells (ints .u8 32 (W)) 22) := keep_more _ fw
        replace fk : objAt (more w42 mq) (gk) = some (.cells (ints .u8 32 (W)) 23) := keep_more _ fk
        replace hG : Below w.heap.size w (more w42 mq) := Grew.more hG _
        replace fx : objAt (more w42 mq) (γ 9) = some (.cells (ints .u8 32 (X)) 23) := fx
        replace fl : objAt (more w42 mq) (γ 4) = some (.cells (ints .u8 64 (rowK (two a b))) 23) := fl
        clear lfp lfa lfb lfw lfk
        clear hinj hbase
        generalize γ 9 = gx at *
        generalize γ 4 = gl at *
        generalize more w42 mq = w43 at *
        clear γ
        have lfp := lt_of_objAt fp
        have lfa := lt_of_objAt fa
        have lfb := lt_of_objAt fb
        have lfw := lt_of_objAt fw
        have lfk := lt_of_objAt fk
        have lfx := lt_of_objAt fx
        have lfl := lt_of_objAt fl
        clear fl lfl
        go_wp2_with fail
        (refine wp_rel (by kernel_rfl) (by kernel_rfl) ?_; (repeat (first | refine exv_skip rfl ?_ | (refine exv_call rfl ?_; apply Exists.intro))); refine exv_nil ?_; intro γ hinj hbase; (repeat (first | (refine rel_quiet rfl ?_; ((first | go_big_quiet_skip | (go_big_quiet_want; go_big_quiet_op; go_big_quiet_on)); refine wpQuiet_nil ?_)) | (first | (refine rel_skip_some rfl (fun _ => rfl) ?_; ((first | go_big_quiet_skip | (go_big_quiet_want; go_big_quiet_op; go_big_quiet_on)); refine wpQuiet_nil ?_)) | refine rel_skip_none rfl (fun _ => rfl) ?_) | ((try simp only [Nat.zero_add, Nat.reduceAdd]); apply rel_box alloc_cls; (focus rfl); (focus (first | exact cells_agg _ | exact cells_int _ _ | exact cells_bool _ | rfl)); (focus ((repeat (refine fits_cons ⟨by (first | exact stab_full _ _ _ | exact stab_hdr _ _ _ | exact stab_hdr_at _ _ _ _ | exact stab_full_at _ _ _ _ (hinj _ _ (by decide))), by (first | exact stab_full _ _ _ | exact stab_hdr _ _ _ | exact stab_hdr_at _ _ _ _ | exact stab_full_at _ _ _ _ (hinj _ _ (by decide)))⟩ ?_)); exact fits_nil (by (first | exact stab_full _ _ _ | exact stab_hdr _ _ _ | exact stab_hdr_at _ _ _ _ | exact stab_full_at _ _ _ _ (hinj _ _ (by decide)))))); ((first | go_big_quiet_skip | (go_big_quiet_want; go_big_quiet_op; go_big_quiet_on)); refine wpQuiet_nil ?_)) | ((try simp only [Nat.zero_add, Nat.reduceAdd]); apply rel_alloc _ _ alloc_cls; (focus rfl); (focus (intro W; (first | exact zero_key _ | exact zero_elem _ | exact zero_num _ | exact zero_pair _))); (focus exact cells_ints _ _ _); (focus ((repeat (refine fits_cons ⟨by (first | exact stab_full _ _ _ | exact stab_hdr _ _ _ | exact stab_hdr_at _ _ _ _ | exact stab_full_at _ _ _ _ (hinj _ _ (by decide))), by (first | exact stab_full _ _ _ | exact stab_hdr _ _ _ | exact stab_hdr_at _ _ _ _ | exact stab_full_at _ _ _ _ (hinj _ _ (by decide)))⟩ ?_)); exact fits_nil (by (first | exact stab_full _ _ _ | exact stab_hdr _ _ _ | exact stab_hdr_at _ _ _ _ | exact stab_full_at _ _ _ _ (hinj _ _ (by decide)))))); ((first | go_big_quiet_skip | (go_big_quiet_want; go_big_quiet_op; go_big_quiet_on)); refine wpQuiet_nil ?_)) | ((try simp only [Nat.zero_add, Nat.reduceAdd]); apply rel_slice alloc_cls; (focus rfl); (focus (intro W; simp only [List.map_toArray, List.map_cons, List.map_nil]; first | exact build2k _ _ W)); (focus ((repeat (refine fits_cons ⟨by (first | exact stab_full _ _ _ | exact stab_hdr _ _ _ | exact stab_hdr_at _ _ _ _ | exact stab_full_at _ _ _ _ (hinj _ _ (by decide))), by (first | exact stab_full _ _ _ | exact stab_hdr _ _ _ | exact stab_hdr_at _ _ _ _ | exact stab_full_at _ _ _ _ (hinj _ _ (by decide)))⟩ ?_)); exact fits_nil (by (first | exact stab_full _ _ _ | exact stab_hdr _ _ _ | exact stab_hdr_at _ _ _ _ | exact stab_full_at _ _ _ _ (hinj _ _ (by decide)))))); ((first | go_big_quiet_skip | (go_big_quiet_want; go_big_quiet_op; go_big_quiet_on)); refine wpQuiet_nil ?_)) | ((try simp only [Nat.zero_add, Nat.reduceAdd]); apply rel_store (setRow_cls (hbase _)); (focus rfl); (focus rfl); (focus rfl); (focus (first | exact cells_agg _ | exact cells_int _ _ | exact cells_bool _ | rfl)); rotate_left 3; (focus (first | exact List.mem_cons_self .. | exact List.mem_cons_of_mem _ (List.mem_cons_self ..) | exact List.mem_cons_of_mem _ (List.mem_cons_of_mem _ (List.mem_cons_self ..)) | exact List.mem_cons_of_mem _ (List.mem_cons_of_mem _ (List.mem_cons_of_mem _ (List.mem_cons_self ..))) | exact List.mem_cons_of_mem _ (List.mem_cons_of_mem _ (List.mem_cons_of_mem _ (List.mem_cons_of_mem _ (List.mem_cons_self ..)))))); rotate_right 3; (focus kernel_rfl); (focus exact ints_size _ _ _); (focus exact ints_ones _ _ _); (focus (decide +kernel)); (focus ((repeat (refine fits_cons ⟨by (first | exact stab_full _ _ _ | exact stab_hdr _ _ _ | exact stab_hdr_at _ _ _ _ | exact stab_full_at _ _ _ _ (hinj _ _ (by decide))), by (first | exact stab_full _ _ _ | exact stab_hdr _ _ _ | exact stab_hdr_at _ _ _ _ | exact stab_full_at _ _ _ _ (hinj _ _ (by decide)))⟩ ?_)); exact fits_nil (by (first | exact stab_full _ _ _ | exact stab_hdr _ _ _ | exact stab_hdr_at _ _ _ _ | exact stab_full_at _ _ _ _ (hinj _ _ (by decide))))))) | (apply rel_fact; (focus rfl); (focus rfl); (focus rfl); (focus (intro W hC hF; (try (have hE : KeysAt W (some ⟨γ 4, 0, none⟩) 2 (two b a) := keys_of_row (known hF (List.mem_cons_self ..) (by decide +kernel)) (by decide) (rowK_at _ 2))); go_big_quiet_want; go_big_quiet_op; (first | go_big_quiet_on | (apply Exists.intro; refine ⟨fun _ => ?_, ?_⟩; (focus (first | (with_reducible exact Calls.of_more (hb _)) | (with_reducible exact Calls.of_more (hy _ _ (hE.later (below_more W _)))))); go_big_quiet_on)); exact wpQuiet_nil rfl)); (focus (exact fun _ => rfl)); ((first | go_big_quiet_skip | (go_big_quiet_want; go_big_quiet_op; go_big_quiet_on)); refine wpQuiet_nil ?_)))))
        (refine rel_nil ?_; rintro _ ⟨mq, rfl⟩ hF; simp only [List.forall_mem_cons] at hF; obtain ⟨fy, -, fl, -⟩ := hF)
        have nly : ¬ (γ 4 = γ 9) := hinj _ _ (by decide)
        replace fp : objAt (more w43 mq) (w.heap.size) = some (.cells (ints .u8 32 (p)) 23) := keep_more _ fp
        replace fa : objAt (more w43 mq) (w.heap.size + 1) = some (.cells (ints .u8 32 (a)) 23) := keep_more _ fa
        replace fb : objAt (more w43 mq) (w.heap.size + 1 + 1) = some (.cells (ints .u8 32 (b)) 23) := keep_more _ fb
        replace fw : objAt (more w43 mq) (gw) = some (.cells (ints .u8 32 (W)) 22) := keep_more _ fw
        replace fk : objAt (more w43 mq) (gk) = some (.cells (ints .u8 32 (W)) 23) := keep_more _ fk
        replace fx : objAt (more w43 mq) (gx) = some (.cells (ints .u8 32 (X)) 23) := keep_more _ fx
        replace hG : Below w.heap.size w (more w43 mq) := Grew.more hG _
        replace fy : objAt (more w43 mq) (γ 9) = some (.cells (ints .u8 32 (Y)) 23) := fy
        replace fl : objAt (more w43 mq) (γ 4) = some (.cells (ints .u8 64 (rowK (two b a))) 23) := fl
        clear lfp lfa lfb lfw lfk lfx
        clear hinj hbase
        generalize γ 9 = gy at *
        generalize γ 4 = gl at *
        generalize more w43 mq = w44 at *
        clear γ
        have lfp := lt_of_objAt fp
        have lfa := lt_of_objAt fa
        have lfb := lt_of_objAt fb
        have lfw := lt_of_objAt fw
        have lfk := lt_of_objAt fk
        have lfx := lt_of_objAt fx
        have lfy := lt_of_objAt fy
        have lfl := lt_of_objAt fl
        clear fl lfl
        go_wp2
        go_ret
        exact ⟨rfl, by (repeat (first | assumption | exact Grew.refl _ | refine Grew.more ?_ _ | refine Grew.alloc ?_ _ | refine Grew.drewN ?_ _ | refine Grew.setRow ?_ _ _ (by omega) | refine Grew.setRow ?_ _ _ (by simp; omega) | refine Grew.setRow ?_ _ _ (by simp)))⟩
      · rw [hq] at hc
        have c1 : ∀ w : World, KeysAt w oa j F → Calls Try.prog 81 #[.agg (ints .u8 32 (p)), .slice oa j c] w fun e w' => e = .returned (.tuple #[.agg (ints .u8 32 (nought)), .bool false]) ∧ Below w.heap.size w w' := hc
        have e2 := same_refl 32 nought
        clear hc hq
        go_wp2_with fail
        have ep : objAt (wr.setRow (gw) ((ints .u8 32 (nought)))) (w.heap.size) = some (.cells (ints .u8 32 (p)) 23) := keep_setRow _ _ (fp) (by first | assumption | omega | simp)
        have ea : objAt (wr.setRow (gw) ((ints .u8 32 (nought)))) (w.heap.size + 1) = some (.cells (ints .u8 32 (a)) 23) := keep_setRow _ _ (fa) (by first | assumption | omega | simp)
        have eb : objAt (wr.setRow (gw) ((ints .u8 32 (nought)))) (w.heap.size + 1 + 1) = some (.cells (ints .u8 32 (b)) 23) := keep_setRow _ _ (fb) (by first | assumption | omega | simp)
        have ew : objAt (wr.setRow (gw) ((ints .u8 32 (nought)))) (gw) = some (.cells (ints .u8 32 (nought)) 22) := keep_row _ (fw)
        clear fp lfp fa lfa fb lfb fw lfw
        replace hG : Below w.heap.size w (wr.setRow (gw) ((ints .u8 32 (nought)))) := by (repeat (first | assumption | exact Grew.refl _ | refine Grew.more ?_ _ | refine Grew.alloc ?_ _ | refine Grew.drewN ?_ _ | refine Grew.setRow ?_ _ _ (by omega) | refine Grew.setRow ?_ _ _ (by simp; omega) | refine Grew.setRow ?_ _ _ (by simp)))
        generalize wr.setRow (gw) ((ints .u8 32 (nought))) = w61 at *
        have fp := ep
        have fa := ea
        have fb := eb
        have fw := ew
        clear ep ea eb ew
        have lfp := lt_of_objAt fp
        have lfa := lt_of_objAt fa
        have lfb := lt_of_objAt fb
        have lfw := lt_of_objAt fw
        go_wp2_with fail
        (refine (c1 _ (hL.out.later hG)).mono ?_; rintro e w62 ⟨rfl, hb⟩; replace fp : objAt w62 (w.heap.size) = some (.cells (ints .u8 32 (p)) 23) := keep_below hb (by (repeat (first | assumption | exact objAt_alloc_at _ _ _ rfl | (refine objAt_alloc_at _ _ _ ?_; (simp; done)) | refine keep_alloc _ ?_ | refine keep_drewN _ ?_ | refine keep_more _ ?_ | exact keep_row _ (by assumption) | refine keep_setRow _ _ ?_ (by first | omega | (simp; omega) | simp)))); have lfp := lt_of_objAt fp; replace fa : objAt w62 (w.heap.size + 1) = some (.cells (ints .u8 32 (a)) 23) := keep_below hb (by (repeat (first | assumption | exact objAt_alloc_at _ _ _ rfl | (refine objAt_alloc_at _ _ _ ?_; (simp; done)) | refine keep_alloc _ ?_ | refine keep_drewN _ ?_ | refine keep_more _ ?_ | exact keep_row _ (by assumption) | refine keep_setRow _ _ ?_ (by first | omega | (simp; omega) | simp)))); have lfa := lt_of_objAt fa; replace fb : objAt w62 (w.heap.size + 1 + 1) = some (.cells (ints .u8 32 (b)) 23) := keep_below hb (by (repeat (first | assumption | exact objAt_alloc_at _ _ _ rfl | (refine objAt_alloc_at _ _ _ ?_; (simp; done)) | refine keep_alloc _ ?_ | refine keep_drewN _ ?_ | refine keep_more _ ?_ | exact keep_row _ (by assumption) | refine keep_setRow _ _ ?_ (by first | omega | (simp; omega) | simp)))); have lfb := lt_of_objAt fb; replace fw : objAt w62 (gw) = some (.cells (ints .u8 32 (nought)) 22) := keep_below hb (by (repeat (first | assumption | exact objAt_alloc_at _ _ _ rfl | (refine objAt_alloc_at _ _ _ ?_; (simp; done)) | refine keep_alloc _ ?_ | refine keep_drewN _ ?_ | refine keep_more _ ?_ | exact keep_row _ (by assumption) | refine keep_setRow _ _ ?_ (by first | omega | (simp; omega) | simp)))); have lfw := lt_of_objAt fw; replace hG : Below w.heap.size w w62 := Grew.trans (by (repeat (first | assumption | exact Grew.refl _ | refine Grew.more ?_ _ | refine Grew.alloc ?_ _ | refine Grew.drewN ?_ _ | refine Grew.setRow ?_ _ _ (by omega) | refine Grew.setRow ?_ _ _ (by simp; omega) | refine Grew.setRow ?_ _ _ (by simp)))) hb; clear hb)
        go_wp2_with fail
        have fk : objAt (w62.alloc (.cells (ints .u8 32 (nought)) 23)) w62.heap.size = some (.cells (ints .u8 32 (nought)) 23) := objAt_alloc_at _ _ _ rfl
        replace fp : objAt (w62.alloc (.cells (ints .u8 32 (nought)) 23)) (w.heap.size) = some (.cells (ints .u8 32 (p)) 23) := keep_alloc _ fp
        replace fa : objAt (w62.alloc (.cells (ints .u8 32 (nought)) 23)) (w.heap.size + 1) = some (.cells (ints .u8 32 (a)) 23) := keep_alloc _ fa
        replace fb : objAt (w62.alloc (.cells (ints .u8 32 (nought)) 23)) (w.heap.size + 1 + 1) = some (.cells (ints .u8 32 (b)) 23) := keep_alloc _ fb
        replace fw : objAt (w62.alloc (.cells (ints .u8 32 (nought)) 23)) (gw) = some (.cells (ints .u8 32 (nought)) 22) := keep_alloc _ fw
        replace hG : Below w.heap.size w (w62.alloc (.cells (ints .u8 32 (nought)) 23)) := Grew.alloc hG _
        clear lfp lfa lfb lfw
        generalize w62.alloc (.cells (ints .u8 32 (nought)) 23) = w63 at *
        generalize w62.heap.size = gk at *
        have lfp := lt_of_objAt fp
        have lfa := lt_of_objAt fa
        have lfb := lt_of_objAt fb
        have lfw := lt_of_objAt fw
        have lfk := lt_of_objAt fk
        go_wp2_with fail
        (refine wp_rel (by kernel_rfl) (by kernel_rfl) ?_; (repeat (first | refine exv_skip rfl ?_ | (refine exv_call rfl ?_; apply Exists.intro))); refine exv_nil ?_; intro γ hinj hbase; (repeat (first | (refine rel_quiet rfl ?_; ((first | go_big_quiet_skip | (go_big_quiet_want; go_big_quiet_op; go_big_quiet_on)); refine wpQuiet_nil ?_)) | (first | (refine rel_skip_some rfl (fun _ => rfl) ?_; ((first | go_big_quiet_skip | (go_big_quiet_want; go_big_quiet_op; go_big_quiet_on)); refine wpQuiet_nil ?_)) | refine rel_skip_none rfl (fun _ => rfl) ?_) | ((try simp only [Nat.zero_add, Nat.reduceAdd]); apply rel_box alloc_cls; (focus rfl); (focus (first | exact cells_agg _ | exact cells_int _ _ | exact cells_bool _ | rfl)); (focus ((repeat (refine fits_cons ⟨by (first | exact stab_full _ _ _ | exact stab_hdr _ _ _ | exact stab_hdr_at _ _ _ _ | exact stab_full_at _ _ _ _ (hinj _ _ (by decide))), by (first | exact stab_full _ _ _ | exact stab_hdr _ _ _ | exact stab_hdr_at _ _ _ _ | exact stab_full_at _ _ _ _ (hinj _ _ (by decide)))⟩ ?_)); exact fits_nil (by (first | exact stab_full _ _ _ | exact stab_hdr _ _ _ | exact stab_hdr_at _ _ _ _ | exact stab_full_at _ _ _ _ (hinj _ _ (by decide)))))); ((first | go_big_quiet_skip | (go_big_quiet_want; go_big_quiet_op; go_big_quiet_on)); refine wpQuiet_nil ?_)) | ((try simp only [Nat.zero_add, Nat.reduceAdd]); apply rel_alloc _ _ alloc_cls; (focus rfl); (focus (intro W; (first | exact zero_key _ | exact zero_elem _ | exact zero_num _ | exact zero_pair _))); (focus exact cells_ints _ _ _); (focus ((repeat (refine fits_cons ⟨by (first | exact stab_full _ _ _ | exact stab_hdr _ _ _ | exact stab_hdr_at _ _ _ _ | exact stab_full_at _ _ _ _ (hinj _ _ (by decide))), by (first | exact stab_full _ _ _ | exact stab_hdr _ _ _ | exact stab_hdr_at _ _ _ _ | exact stab_full_at _ _ _ _ (hinj _ _ (by decide)))⟩ ?_)); exact fits_nil (by (first | exact stab_full _ _ _ | exact stab_hdr _ _ _ | exact stab_hdr_at _ _ _ _ | exact stab_full_at _ _ _ _ (hinj _ _ (by decide)))))); ((first | go_big_quiet_skip | (go_big_quiet_want; go_big_quiet_op; go_big_quiet_on)); refine wpQuiet_nil ?_)) | ((try simp only [Nat.zero_add, Nat.reduceAdd]); apply rel_slice alloc_cls; (focus rfl); (focus (intro W; simp only [List.map_toArray, List.map_cons, List.map_nil]; first | exact build2k _ _ W)); (focus ((repeat (refine fits_cons ⟨by (first | exact stab_full _ _ _ | exact stab_hdr _ _ _ | exact stab_hdr_at _ _ _ _ | exact stab_full_at _ _ _ _ (hinj _ _ (by decide))), by (first | exact stab_full _ _ _ | exact stab_hdr _ _ _ | exact stab_hdr_at _ _ _ _ | exact stab_full_at _ _ _ _ (hinj _ _ (by decide)))⟩ ?_)); exact fits_nil (by (first | exact stab_full _ _ _ | exact stab_hdr _ _ _ | exact stab_hdr_at _ _ _ _ | exact stab_full_at _ _ _ _ (hinj _ _ (by decide)))))); ((first | go_big_quiet_skip | (go_big_quiet_want; go_big_quiet_op; go_big_quiet_on)); refine wpQuiet_nil ?_)) | ((try simp only [Nat.zero_add, Nat.reduceAdd]); apply rel_store (setRow_cls (hbase _)); (focus rfl); (focus rfl); (focus rfl); (focus (first | exact cells_agg _ | exact cells_int _ _ | exact cells_bool _ | rfl)); rotate_left 3; (focus (first | exact List.mem_cons_self .. | exact List.mem_cons_of_mem _ (List.mem_cons_self ..) | exact List.mem_cons_of_mem _ (List.mem_cons_of_mem _ (List.mem_cons_self ..)) | exact List.mem_cons_of_mem _ (List.mem_cons_of_mem _ (List.mem_cons_of_mem _ (List.mem_cons_self ..))) | exact List.mem_cons_of_mem _ (List.mem_cons_of_mem _ (List.mem_cons_of_mem _ (List.mem_cons_of_mem _ (List.mem_cons_self ..)))))); rotate_right 3; (focus kernel_rfl); (focus exact ints_size _ _ _); (focus exact ints_ones _ _ _); (focus (decide +kernel)); (focus ((repeat (refine fits_cons ⟨by (first | exact stab_full _ _ _ | exact stab_hdr _ _ _ | exact stab_hdr_at _ _ _ _ | exact stab_full_at _ _ _ _ (hinj _ _ (by decide))), by (first | exact stab_full _ _ _ | exact stab_hdr _ _ _ | exact stab_hdr_at _ _ _ _ | exact stab_full_at _ _ _ _ (hinj _ _ (by decide)))⟩ ?_)); exact fits_nil (by (first | exact stab_full _ _ _ | exact stab_hdr _ _ _ | exact stab_hdr_at _ _ _ _ | exact stab_full_at _ _ _ _ (hinj _ _ (by decide))))))) | (apply rel_fact; (focus rfl); (focus rfl); (focus rfl); (focus (intro W hC hF; (try (have hE : KeysAt W (some ⟨γ 4, 0, none⟩) 2 (two a b) := keys_of_row (known hF (List.mem_cons_self ..) (by decide +kernel)) (by decide) (rowK_at _ 2))); go_big_quiet_want; go_big_quiet_op; (first | go_big_quiet_on | (apply Exists.intro; refine ⟨fun _ => ?_, ?_⟩; (focus (first | (with_reducible exact Calls.of_more (hb _)) | (with_reducible exact Calls.of_more (hx _ _ (hE.later (below_more W _)))))); go_big_quiet_on)); exact wpQuiet_nil rfl)); (focus (exact fun _ => rfl)); ((first | go_big_quiet_skip | (go_big_quiet_want; go_big_quiet_op; go_big_quiet_on)); refine wpQuiet_nil ?_)))))
        (refine rel_nil ?_; rintro _ ⟨mq, rfl⟩ hF; simp only [List.forall_mem_cons] at hF; obtain ⟨fx, -, fl, -⟩ := hF)
        have nlx : ¬ (γ 4 = γ 9) := hinj _ _ (by decide)
        replace fp : objAt (more w63 mq) (w.heap.size) = some (.cells (ints .u8 32 (p)) 23) := keep_more _ fp
        replace fa : objAt (more w63 mq) (w.heap.size + 1) = some (.cells (ints .u8 32 (a)) 23) := keep_more _ fa
        replace fb : objAt (more w63 mq) (w.heap.size + 1 + 1) = some (.cells (ints .u8 32 (b)) 23) := keep_more _ fb
        replace fw : objAt (more w63 mq) (gw) = some (.cells (ints .u8 32 (nought)) 22) := keep_more _ fw
        replace fk : objAt (more w63 mq) (gk) = some (.cells (ints .u8 32 (nought)) 23) := keep_more _ fk
        replace hG : Below w.heap.size w (more w63 mq) := Grew.more hG _
        replace fx : objAt (more w63 mq) (γ 9) = some (.cells (ints .u8 32 (X)) 23) := fx
        replace fl : objAt (more w63 mq) (γ 4) = some (.cells (ints .u8 64 (rowK (two a b))) 23) := fl
        clear lfp lfa lfb lfw lfk
        clear hinj hbase
        generalize γ 9 = gx at *
        generalize γ 4 = gl at *
        generalize more w63 mq = w64 at *
        clear γ
        have lfp := lt_of_objAt fp
        have lfa := lt_of_objAt fa
        have lfb := lt_of_objAt fb
        have lfw := lt_of_objAt fw
        have lfk := lt_of_objAt fk
        have lfx := lt_of_objAt fx
        have lfl := lt_of_objAt fl
        clear fl lfl
        go_wp2_with fail
        (refine wp_rel (by kernel_rfl) (by kernel_rfl) ?_; (repeat (first | refine exv_skip rfl ?_ | (refine exv_call rfl ?_; apply Exists.intro))); refine exv_nil ?_; intro γ hinj hbase; (repeat (first | (refine rel_quiet rfl ?_; ((first | go_big_quiet_skip | (go_big_quiet_want; go_big_quiet_op; go_big_quiet_on)); refine wpQuiet_nil ?_)) | (first | (refine rel_skip_some rfl (fun _ => rfl) ?_; ((first | go_big_quiet_skip | (go_big_quiet_want; go_big_quiet_op; go_big_quiet_on)); refine wpQuiet_nil ?_)) | refine rel_skip_none rfl (fun _ => rfl) ?_) | ((try simp only [Nat.zero_add, Nat.reduceAdd]); apply rel_box alloc_cls; (focus rfl); (focus (first | exact cells_agg _ | exact cells_int _ _ | exact cells_bool _ | rfl)); (focus ((repeat (refine fits_cons ⟨by (first | exact stab_full _ _ _ | exact stab_hdr _ _ _ | exact stab_hdr_at _ _ _ _ | exact stab_full_at _ _ _ _ (hinj _ _ (by decide))), by (first | exact stab_full _ _ _ | exact stab_hdr _ _ _ | exact stab_hdr_at _ _ _ _ | exact stab_full_at _ _ _ _ (hinj _ _ (by decide)))⟩ ?_)); exact fits_nil (by (first | exact stab_full _ _ _ | exact stab_hdr _ _ _ | exact stab_hdr_at _ _ _ _ | exact stab_full_at _ _ _ _ (hinj _ _ (by decide)))))); ((first | go_big_quiet_skip | (go_big_quiet_want; go_big_quiet_op; go_big_quiet_on)); refine wpQuiet_nil ?_)) | ((try simp only [Nat.zero_add, Nat.reduceAdd]); apply rel_alloc _ _ alloc_cls; (focus rfl); (focus (intro W; (first | exact zero_key _ | exact zero_elem _ | exact zero_num _ | exact zero_pair _))); (focus exact cells_ints _ _ _); (focus ((repeat (refine fits_cons ⟨by (first | exact stab_full _ _ _ | exact stab_hdr _ _ _ | exact stab_hdr_at _ _ _ _ | exact stab_full_at _ _ _ _ (hinj _ _ (by decide))), by (first | exact stab_full _ _ _ | exact stab_hdr _ _ _ | exact stab_hdr_at _ _ _ _ | exact stab_full_at _ _ _ _ (hinj _ _ (by decide)))⟩ ?_)); exact fits_nil (by (first | exact stab_full _ _ _ | exact stab_hdr _ _ _ | exact stab_hdr_at _ _ _ _ | exact stab_full_at _ _ _ _ (hinj _ _ (by decide)))))); ((first | go_big_quiet_skip | (go_big_quiet_want; go_big_quiet_op; go_big_quiet_on)); refine wpQuiet_nil ?_)) | ((try simp only [Nat.zero_add, Nat.reduceAdd]); apply rel_slice alloc_cls; (focus rfl); (focus (intro W; simp only [List.map_toArray, List.map_cons, List.map_nil]; first | exact build2k _ _ W)); (focus ((repeat (refine fits_cons ⟨by (first | exact stab_full _ _ _ | exact stab_hdr _ _ _ | exact stab_hdr_at _ _ _ _ | exact stab_full_at _ _ _ _ (hinj _ _ (by decide))), by (first | exact stab_full _ _ _ | exact stab_hdr _ _ _ | exact stab_hdr_at _ _ _ _ | exact stab_full_at _ _ _ _ (hinj _ _ (by decide)))⟩ ?_)); exact fits_nil (by (first | exact stab_full _ _ _ | exact stab_hdr _ _ _ | exact stab_hdr_at _ _ _ _ | exact stab_full_at _ _ _ _ (hinj _ _ (by decide)))))); ((first | go_big_quiet_skip | (go_big_quiet_want; go_big_quiet_op; go_big_quiet_on)); refine wpQuiet_nil ?_)) | ((try simp only [Nat.zero_add, Nat.reduceAdd]); apply rel_store (setRow_cls (hbase _)); (focus rfl); (focus rfl); (focus rfl); (focus (first | exact cells_agg _ | exact cells_int _ _ | exact cells_bool _ | rfl)); rotate_left 3; (focus (first | exact List.mem_cons_self .. | exact List.mem_cons_of_mem _ (List.mem_cons_self ..) | exact List.mem_cons_of_mem _ (List.mem_cons_of_mem _ (List.mem_cons_self ..)) | exact List.mem_cons_of_mem _ (List.mem_cons_of_mem _ (List.mem_cons_of_mem _ (List.mem_cons_self ..))) | exact List.mem_cons_of_mem _ (List.mem_cons_of_mem _ (List.mem_cons_of_mem _ (List.mem_cons_of_mem _ (List.mem_cons_self ..)))))); rotate_right 3; (focus kernel_rfl); (focus exact ints_size _ _ _); (focus exact ints_ones _ _ _); (focus (decide +kernel)); (focus ((repeat (refine fits_cons ⟨by (first | exact stab_full _ _ _ | exact stab_hdr _ _ _ | exact stab_hdr_at _ _ _ _ | exact stab_full_at _ _ _ _ (hinj _ _ (by decide))), by (first | exact stab_full _ _ _ | exact stab_hdr _ _ _ | exact stab_hdr_at _ _ _ _ | exact stab_full_at _ _ _ _ (hinj _ _ (by decide)))⟩ ?_)); exact fits_nil (by (first | exact stab_full _ _ _ | exact stab_hdr _ _ _ | exact stab_hdr_at _ _ _ _ | exact stab_full_at _ _ _ _ (hinj _ _ (by decide))))))) | (apply rel_fact; (focus rfl); (focus rfl); (focus rfl); (focus (intro W hC hF; (try (have hE : KeysAt W (some ⟨γ 4, 0, none⟩) 2 (two b a) := keys_of_row (known hF (List.mem_cons_self ..) (by decide +kernel)) (by decide) (rowK_at _ 2))); go_big_quiet_want; go_big_quiet_op; (first | go_big_quiet_on | (apply Exists.intro; refine ⟨fun _ => ?_, ?_⟩; (focus (first | (with_reducible exact Calls.of_more (hb _)) | (with_reducible exact Calls.of_more (hy _ _ (hE.later (below_more W _)))))); go_big_quiet_on)); exact wpQuiet_nil rfl)); (focus (exact fun _ => rfl)); ((first | go_big_quiet_skip | (go_big_quiet_want; go_big_quiet_op; go_big_quiet_on)); refine wpQuiet_nil ?_)))))
        (refine rel_nil ?_; rintro _ ⟨mq, rfl⟩ hF; simp only [List.forall_mem_cons] at hF; obtain ⟨fy, -, fl, -⟩ := hF)
        have nly : ¬ (γ 4 = γ 9) := hinj _ _ (by decide)
        replace fp : objAt (more w64 mq) (w.heap.size) = some (.cells (ints .u8 32 (p)) 23) := keep_more _ fp
        replace fa : objAt (more w64 mq) (w.heap.size + 1) = some (.cells (ints .u8 32 (a)) 23) := keep_more _ fa
        replace fb : objAt (more w64 mq) (w.heap.size + 1 + 1) = some (.cells (ints .u8 32 (b)) 23) := keep_more _ fb
        replace fw : objAt (more w64 mq) (gw) = some (.cells (ints .u8 32 (nought)) 22) := keep_more _ fw
        replace fk : objAt (more w64 mq) (gk) = some (.cells (ints .u8 32 (nought)) 23) := keep_more _ fk
        replace fx : objAt (more w64 mq) (gx) = some (.cells (ints .u8 32 (X)) 23) := keep_more _ fx
        replace hG : Below w.heap.size w (more w64 mq) := Grew.more hG _
        replace fy : objAt (more w64 mq) (γ 9) = some (.cells (ints .u8 32 (Y)) 23) := fy
        replace fl : objAt (more w64 mq) (γ 4) = some (.cells (ints .u8 64 (rowK (two b a))) 23) := fl
        clear lfp lfa lfb lfw lfk lfx
        clear hinj hbase
        generalize γ 9 = gy at *
        generalize γ 4 = gl at *
        generalize more w64 mq = w65 at *
        clear γ
        have lfp := lt_of_objAt fp
        have lfa := lt_of_objAt fa
        have lfb := lt_of_objAt fb
        have lfw := lt_of_objAt fw
        have lfk := lt_of_objAt fk
        have lfx := lt_of_objAt fx
        have lfy := lt_of_objAt fy
        have lfl := lt_of_objAt fl
        clear fl lfl
        go_wp2
        go_ret
        exact ⟨rfl, by (repeat (first | assumption | exact Grew.refl _ | refine Grew.more ?_ _ | refine Grew.alloc ?_ _ | refine Grew.drewN ?_ _ | refine Grew.setRow ?_ _ _ (by omega) | refine Grew.setRow ?_ _ _ (by simp; omega) | refine Grew.setRow ?_ _ _ (by simp)))⟩
/-- what one key behind the other comes to -/
def shS (F : Nat → Nat → Int) (j : Nat) (q : Nat → Int) : Nat → Int := keyV (shV (F j) q)
def shZ (F : Nat → Nat → Int) (j : Nat) (q : Nat → Int) : Bool := decide (shV (F j) q = 0)
theorem chain_any (p : Nat → Int) (F : Nat → Nat → Int) (n c : Nat) (oa : Option Addr) (w : World) (hn : n ≤ 9223372036854775807) (hp : Bytes 32 p) (hF : ∀ j, j < n → Bytes 32 (F j)) (hl : KeysAt w oa n F) :
    Calls Try.prog 81 #[.agg (ints .u8 32 (p)), .slice oa n c] w fun e w' => e = .returned (.tuple #[.agg (ints .u8 32 (outK (chS (shS F) (shZ F) p n))), .bool (chS (shS F) (shZ F) p n).isSome]) ∧ Below w.heap.size w w' :=
  chain_walk p F (shS F) (shZ F) n c oa w hn hp (fun j q _ _ => keyV_bytes _) (fun j q w hj hq => shared_any (F j) q w (hF j hj) hq rfl) hl
theorem two_bytes (a b : Nat → Int) (ha : Bytes 32 a) (hb : Bytes 32 b) : ∀ j, j < 2 → Bytes 32 (two a b j) := fun j hj => by
  rcases (by omega : j = 0 ∨ j = 1) with rfl | rfl
  · exact ha
  · exact hb
/-- of a secret's own public key, by two others -/
theorem three_ne (a b p : Nat → Int) (ha : Bytes 32 a) (hb : Bytes 32 b) (hp : Bytes 32 p) : thrV b a p ≠ 0 := by
  show tv (cK b) (tv (cK a) (tv (cK p) 9)) ≠ 0
  exact Edw.tv_nine3 _ _ _ (cK_lt p hp) (cK_lt a ha) (cK_lt b hb) (cK_ndvd p hp) (cK_ndvd a ha) (cK_ndvd b hb)
theorem chS_2 (S : Nat → (Nat → Int) → Nat → Int) (Z : Nat → (Nat → Int) → Bool) (p q r : Nat → Int) (z0 : Z 0 p = false) (s0 : S 0 p = q) (z1 : Z 1 q = false) (s1 : S 1 q = r) : chS S Z p 2 = some r := by
  subst s0 s1
  simp only [chS, z0, z1, Bool.false_eq_true, if_false]
theorem shZ_0 (a b q : Nat → Int) : shZ (two a b) 0 q = decide (shV a q = 0) := rfl
theorem shZ_1 (a b q : Nat → Int) : shZ (two a b) 1 q = decide (shV b q = 0) := rfl
theorem shS_0 (a b q : Nat → Int) : shS (two a b) 0 q = keyV (shV a q) := rfl
theorem shS_1 (a b q : Nat → Int) : shS (two a b) 1 q = keyV (shV b q) := rfl
theorem chS_two (a b p : Nat → Int) (ha : Bytes 32 a) (hb : Bytes 32 b) (hp : Bytes 32 p) : chS (shS (two a b)) (shZ (two a b)) (keyV (pubV p)) 2 = some (keyV (thrV b a p)) :=
  chS_2 _ _ _ (keyV (twoV a p)) _ ((shZ_0 a b _).trans ((congrArg (fun x => decide (x = 0)) (two_is a p)).trans (two_ne a p ha hp))) ((shS_0 a b _).trans (congrArg keyV (two_is a p)))
    ((shZ_1 a b _).trans ((congrArg (fun x => decide (x = 0)) (thr_is b a p)).trans (decide_eq_false (three_ne a b p ha hb hp)))) ((shS_1 a b _).trans (congrArg keyV (thr_is b a p)))
theorem chain_two (a b p : Nat → Int) (w : World) (o : Option Addr) (ha : Bytes 32 a) (hb : Bytes 32 b) (hp : Bytes 32 p) (hl : KeysAt w o 2 (two a b)) :
    Calls Try.prog 81 #[.agg (ints .u8 32 (keyV (pubV p))), .slice o 2 2] w fun e w' => e = .returned (.tuple #[.agg (ints .u8 32 (keyV (thrV b a p))), .bool true]) ∧ Below w.heap.size w w' := by
  have h := chain_any (keyV (pubV p)) (two a b) 2 2 o w (by decide) (keyV_bytes _) (two_bytes a b ha hb) hl
  have e := chS_two a b p ha hb hp
  generalize chS (shS (two a b)) (shZ (two a b)) (keyV (pubV p)) 2 = O at h e
  subst e
  exact h
theorem thr_turn (a b p : Nat → Int) (ha : Bytes 32 a) (hb : Bytes 32 b) : thrV b a p = thrV a b p := Edw.tv_swap _ _ _ (cK_lt b hb) (cK_lt a ha)
theorem chains_any (p a b : Nat → Int) (F : Nat → Nat → Int) (n c : Nat) (oa : Option Addr) (w : World) (hn : n ≤ 9223372036854775807) (hp : Bytes 32 p) (ha : Bytes 32 a) (hb : Bytes 32 b) (hF : ∀ j, j < n → Bytes 32 (F j)) (hl : KeysAt w oa n F) :
    Calls Try.prog 24 #[.agg (ints .u8 32 (p)), .slice oa n c, .agg (ints .u8 32 (a)), .agg (ints .u8 32 (b))] w fun e w' => e = .returned (.bool true) ∧ Below w.heap.size w w' :=
  chains_walk p a b _ _ _ F (shS F) (shZ F) n c oa w hn hp (fun j q _ _ => keyV_bytes _) (fun j q w hj hq => rshared_any (F j) q w (hF j hj) hq rfl) hl
    (fun w hl => chain_any p F n c oa w hn hp hF hl) (fun w => base_pub p w hp) (fun w o hl => chain_two a b p w o ha hb hp hl) (fun w o hl => chain_two b a p w o hb ha hp hl) (keyV_same (thr_turn a b p ha hb))
end Go.Proofs.Ytfapmpnkemogkaa
