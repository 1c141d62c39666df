/- DhZero. -/
import Derived.Test.YtfapmpnkemogkaaDhNum
namespace Go.Proofs.Ytfapmpnkemogkaa
open Go.RowKit
set_option linter.unusedVariables false
set_option linter.unusedSimpArgs false
open Edw (red tv)

theorem upd_upd (f : Nat → Int) (i : Nat) (a b : Int) : upd (upd f i a) i b = upd f i b := by
  funext j
  unfold upd
  by_cases h : j = i
  · simp [h]
  · simp [h]
structure FillInv (k : Nat → Int) (gp : Nat) (w : World) (c : Nat) (wr : World) : Prop where
  g : Below w.heap.size w wr
  fk : objAt wr w.heap.size = some (.cells (ints .u8 32 (k)) 23)
  fp : objAt wr gp = some (.cells (ints .u8 32 (part' all255 c)) 23)
structure ZeroInv (k : Nat → Int) (gp gs : Nat) (w : World) (v : Int) (wr : World) : Prop where
  g : Below w.heap.size w wr
  fk : objAt wr w.heap.size = some (.cells (ints .u8 32 (k)) 23)
  fp : objAt wr gp = some (.cells (ints .u8 32 (upd (upd all255 31 127) 0 v)) 23)
  fs : objAt wr gs = some (.cells #[Value.int IntKind.u8 236, Value.int IntKind.u8 237, Value.int IntKind.u8 238] 5)
theorem p255 : upd all255 31 127 = upd (upd all255 31 127) 0 255 := by
  funext i
  unfold upd all255
  by_cases h : i = 0
  · subst h; simp
  · simp [h]
set_option maxRecDepth 100000 in
set_option maxHeartbeats 2000000 in
theorem zero_walk (k V : Nat → Int) (w : World)
    (s1 : ∀ w : World, Calls Try.prog 73 #[.agg (ints .u8 32 (k)), .agg (ints .u8 32 (upd (upd all255 31 127) 0 236))] w fun e w' => e = .returned (.tuple #[.agg (ints .u8 32 (V)), .bool false]) ∧ Below w.heap.size w w')
    (s2 : ∀ w : World, Calls Try.prog 73 #[.agg (ints .u8 32 (k)), .agg (ints .u8 32 (upd (upd all255 31 127) 0 237))] w fun e w' => e = .returned (.tuple #[.agg (ints .u8 32 (V)), .bool false]) ∧ Below w.heap.size w w')
    (s3 : ∀ w : World, Calls Try.prog 73 #[.agg (ints .u8 32 (k)), .agg (ints .u8 32 (upd (upd all255 31 127) 0 238))] w fun e w' => e = .returned (.tuple #[.agg (ints .u8 32 (V)), .bool false]) ∧ Below w.heap.size w w')
    (s4 : ∀ w : World, Calls Try.prog 73 #[.agg (ints .u8 32 (k)), .agg (ints .u8 32 (nought))] w fun e w' => e = .returned (.tuple #[.agg (ints .u8 32 (V)), .bool false]) ∧ Below w.heap.size w w')
    (s5 : ∀ w : World, Calls Try.prog 73 #[.agg (ints .u8 32 (k)), .agg (ints .u8 32 (upd nought 0 1))] w fun e w' => e = .returned (.tuple #[.agg (ints .u8 32 (V)), .bool false]) ∧ Below w.heap.size w w')
    (eV : same 32 V nought = true) :
    Calls Try.prog 25 #[.agg (ints .u8 32 (k))] w fun e w' => e = .returned (.bool true) ∧ Below w.heap.size w w' := by
  have hG := Grew.refl w
  have fk : True := trivial
  go_enter Try.func25, Try.ntmps25
  go_wp2_with fail
  replace fk : objAt (w.alloc (.cells (ints .u8 32 (k)) 23)) (w.heap.size) = some (.cells (ints .u8 32 (k)) 23) := by (repeat (first | assumption | exact objAt_alloc_at _ _ _ rfl | (refine objAt_alloc_at _ _ _ ?_; (simp; done)) | refine keep_alloc _ ?_ | refine keep_drewN _ ?_ | refine keep_more _ ?_ | exact keep_row _ (by assumption) | refine keep_setRow _ _ ?_ (by first | omega | (simp; omega) | simp)))
  replace hG : Below w.heap.size w (w.alloc (.cells (ints .u8 32 (k)) 23)) := by (repeat (first | assumption | exact Grew.refl _ | refine Grew.more ?_ _ | refine Grew.alloc ?_ _ | refine Grew.drewN ?_ _ | refine Grew.setRow ?_ _ _ (by omega) | refine Grew.setRow ?_ _ _ (by simp; omega) | refine Grew.setRow ?_ _ _ (by simp)))
  generalize w.alloc (.cells (ints .u8 32 (k)) 23) = w1 at *
  have lfk := lt_of_objAt fk
  go_wp2_with fail
  (refine (awake6_any _).mono ?_; rintro e w2 ⟨rfl, hb⟩; replace fk : objAt w2 (w.heap.size) = some (.cells (ints .u8 32 (k)) 23) := keep_below hb (by (repeat (first | assumption | exact objAt_alloc_at _ _ _ rfl | (refine objAt_alloc_at _ _ _ ?_; (simp; done)) | refine keep_alloc _ ?_ | refine keep_drewN _ ?_ | refine keep_more _ ?_ | exact keep_row _ (by assumption) | refine keep_setRow _ _ ?_ (by first | omega | (simp; omega) | simp)))); have lfk := lt_of_objAt fk; replace hG : Below w.heap.size w w2 := Grew.trans (by (repeat (first | assumption | exact Grew.refl _ | refine Grew.more ?_ _ | refine Grew.alloc ?_ _ | refine Grew.drewN ?_ _ | refine Grew.setRow ?_ _ _ (by omega) | refine Grew.setRow ?_ _ _ (by simp; omega) | refine Grew.setRow ?_ _ _ (by simp)))) hb; clear hb)
  have hs2 := hG.size
  have nk : ¬ (w2.heap.size = w.heap.size) := by omega
  have nk2 : ¬ (w.heap.size = w2.heap.size) := by omega
  have hg0 : w.heap.size ≤ w2.heap.size := hs2
  go_wp2_with fail
  go_loopw [15] (fun i wr => ∃ c : Nat, c ≤ 32 ∧ i = .int .i64 c ∧ FillInv k w2.heap.size w c wr) (fun i _ => 32 - (intOf i).toNat)
  case atStart => exact ⟨0, by omega, rfl, ⟨Grew.alloc hG _, keep_alloc _ fk, by rw [part_zero]; exact objAt_alloc_at _ _ _ rfl⟩⟩
  case round =>
    clear fk lfk hG
    obtain ⟨c, hc, rfl, hG, fk, fp⟩ := hrel
    have lfk := lt_of_objAt fk
    have lfp := lt_of_objAt fp
    by_cases hlt : c < 32
    · have S : Hid (upd (part' all255 c) c 255 = part' all255 (c + 1)) := part_succ all255 c
      go_wp2
      go_roundw
      case rel => exact ⟨c + 1, by omega, by go_num, ⟨Grew.setRow hG _ _ hg0, keep_setRow _ _ fk nk2, by rw [← S.out]; exact keep_row _ fp⟩⟩
      case measure => simp [intOf] <;> omega
    · obtain rfl : c = 32 := by omega
      clear hlt hc
      rw [ints_part] at fp
      go_wp2_with fail
      have fk3 : objAt ((wr.setRow w2.heap.size (ints IntKind.u8 32 (upd all255 31 127))).alloc (.cells #[Value.int IntKind.u8 236, Value.int IntKind.u8 237, Value.int IntKind.u8 238] 5)) w.heap.size = some (.cells (ints .u8 32 (k)) 23) := keep_alloc _ (keep_setRow _ _ fk nk2)
      have fp3 : objAt ((wr.setRow w2.heap.size (ints IntKind.u8 32 (upd all255 31 127))).alloc (.cells #[Value.int IntKind.u8 236, Value.int IntKind.u8 237, Value.int IntKind.u8 238] 5)) w2.heap.size = some (.cells (ints .u8 32 (upd all255 31 127)) 23) := keep_alloc _ (keep_row _ fp)
      have fs3 : objAt ((wr.setRow w2.heap.size (ints IntKind.u8 32 (upd all255 31 127))).alloc (.cells #[Value.int IntKind.u8 236, Value.int IntKind.u8 237, Value.int IntKind.u8 238] 5)) wr.heap.size = some (.cells #[Value.int IntKind.u8 236, Value.int IntKind.u8 237, Value.int IntKind.u8 238] 5) := objAt_alloc_at _ _ _ (by simp [size_setRow])
      have hG3 : Below w.heap.size w ((wr.setRow w2.heap.size (ints IntKind.u8 32 (upd all255 31 127))).alloc (.cells #[Value.int IntKind.u8 236, Value.int IntKind.u8 237, Value.int IntKind.u8 238] 5)) := Grew.alloc (Grew.setRow hG _ _ hg0) _
      have g1 : ¬ (wr.heap.size = w2.heap.size) := by omega
      have g2 : ¬ (wr.heap.size = w.heap.size) := by omega
      clear fk fp hG lfk lfp
      generalize (wr.setRow w2.heap.size (ints IntKind.u8 32 (upd all255 31 127))).alloc (.cells #[Value.int IntKind.u8 236, Value.int IntKind.u8 237, Value.int IntKind.u8 238] 5) = w4 at *
      generalize wr.heap.size = gs at *
      generalize w2.heap.size = gp at *
      rw [p255] at fp3
      go_loopw [24] (fun i wr => ∃ c : Nat, c ≤ 3 ∧ i = .int .i64 c ∧ ∃ v, ZeroInv k gp gs w v wr) (fun i _ => 3 - (intOf i).toNat)
      case atStart => exact ⟨0, by omega, rfl, 255, ⟨hG3, fk3, fp3, fs3⟩⟩
      case round =>
        clear fk3 fp3 fs3 hG3
        obtain ⟨c, hc, rfl, v, hG, fk, fp, fs⟩ := hrel
        have lfk := lt_of_objAt fk
        have lfp := lt_of_objAt fp
        have lfs := lt_of_objAt fs
        have u1 := upd_upd (upd all255 31 127) 0 v
        rcases (by omega : c = 0 ∨ c = 1 ∨ c = 2 ∨ c = 3) with rfl | rfl | rfl | rfl
        · replace u1 := u1 236
          go_wp2_with fail
          (refine (s1 _).mono ?_; rintro e w31 ⟨rfl, hb⟩; replace fk : objAt w31 (w.heap.size) = some (.cells (ints .u8 32 (k)) 23) := keep_below hb (by (repeat (first | assumption | exact objAt_alloc_at _ _ _ rfl | (refine objAt_alloc_at _ _ _ ?_; (simp; done)) | refine keep_alloc _ ?_ | refine keep_drewN _ ?_ | refine keep_more _ ?_ | exact keep_row _ (by assumption) | refine keep_setRow _ _ ?_ (by first | omega | (simp; omega) | simp)))); have lfk := lt_of_objAt fk; replace fp : objAt w31 (gp) = some (.cells (ints .u8 32 (upd (upd all255 31 127) 0 236)) 23) := keep_below hb (by (repeat (first | assumption | exact objAt_alloc_at _ _ _ rfl | (refine objAt_alloc_at _ _ _ ?_; (simp; done)) | refine keep_alloc _ ?_ | refine keep_drewN _ ?_ | refine keep_more _ ?_ | exact keep_row _ (by assumption) | refine keep_setRow _ _ ?_ (by first | omega | (simp; omega) | simp)))); have lfp := lt_of_objAt fp; replace fs : objAt w31 (gs) = some (.cells #[Value.int IntKind.u8 236, Value.int IntKind.u8 237, Value.int IntKind.u8 238] 5) := keep_below hb (by (repeat (first | assumption | exact objAt_alloc_at _ _ _ rfl | (refine objAt_alloc_at _ _ _ ?_; (simp; done)) | refine keep_alloc _ ?_ | refine keep_drewN _ ?_ | refine keep_more _ ?_ | exact keep_row _ (by assumption) | refine keep_setRow _ _ ?_ (by first | omega | (simp; omega) | simp)))); have lfs := lt_of_objAt fs; replace hG : Below w.heap.size w w31 := Grew.trans (by (repeat (first | assumption | exact Grew.refl _ | refine Grew.more ?_ _ | refine Grew.alloc ?_ _ | refine Grew.drewN ?_ _ | refine Grew.setRow ?_ _ _ (by omega) | refine Grew.setRow ?_ _ _ (by simp; omega) | refine Grew.setRow ?_ _ _ (by simp)))) hb; clear hb)
          go_wp2
          go_roundw
          case rel => refine ⟨_, _, _, _, _, _, _, _, _, _, _, _, _, _, _, _, _, _, _, _, _, _, _, ?_, rfl⟩; exact ⟨1, by omega, by first | rfl | go_num, 236, ⟨Grew.alloc hG _, keep_alloc _ fk, keep_alloc _ fp, keep_alloc _ fs⟩⟩
          case measure => simp [intOf]
        · replace u1 := u1 237
          go_wp2_with fail
          (refine (s2 _).mono ?_; rintro e w31 ⟨rfl, hb⟩; replace fk : objAt w31 (w.heap.size) = some (.cells (ints .u8 32 (k)) 23) := keep_below hb (by (repeat (first | assumption | exact objAt_alloc_at _ _ _ rfl | (refine objAt_alloc_at _ _ _ ?_; (simp; done)) | refine keep_alloc _ ?_ | refine keep_drewN _ ?_ | refine keep_more _ ?_ | exact keep_row _ (by assumption) | refine keep_setRow _ _ ?_ (by first | omega | (simp; omega) | simp)))); have lfk := lt_of_objAt fk; replace fp : objAt w31 (gp) = some (.cells (ints .u8 32 (upd (upd all255 31 127) 0 237)) 23) := keep_below hb (by (repeat (first | assumption | exact objAt_alloc_at _ _ _ rfl | (refine objAt_alloc_at _ _ _ ?_; (simp; done)) | refine keep_alloc _ ?_ | refine keep_drewN _ ?_ | refine keep_more _ ?_ | exact keep_row _ (by assumption) | refine keep_setRow _ _ ?_ (by first | omega | (simp; omega) | simp)))); have lfp := lt_of_objAt fp; replace fs : objAt w31 (gs) = some (.cells #[Value.int IntKind.u8 236, Value.int IntKind.u8 237, Value.int IntKind.u8 238] 5) := keep_below hb (by (repeat (first | assumption | exact objAt_alloc_at _ _ _ rfl | (refine objAt_alloc_at _ _ _ ?_; (simp; done)) | refine keep_alloc _ ?_ | refine keep_drewN _ ?_ | refine keep_more _ ?_ | exact keep_row _ (by assumption) | refine keep_setRow _ _ ?_ (by first | omega | (simp; omega) | simp)))); have lfs := lt_of_objAt fs; replace hG : Below w.heap.size w w31 := Grew.trans (by (repeat (first | assumption | exact Grew.refl _ | refine Grew.more ?_ _ | refine Grew.alloc ?_ _ | refine Grew.drewN ?_ _ | refine Grew.setRow ?_ _ _ (by omega) | refine Grew.setRow ?_ _ _ (by simp; omega) | refine Grew.setRow ?_ _ _ (by simp)))) hb; clear hb)
          go_wp2
          go_roundw
          case rel => refine ⟨_, _, _, _, _, _, _, _, _, _, _, _, _, _, _, _, _, _, _, _, _, _, _, ?_, rfl⟩; exact ⟨2, by omega, by first | rfl | go_num, 237, ⟨Grew.alloc hG _, keep_alloc _ fk, keep_alloc _ fp, keep_alloc _ fs⟩⟩
          case measure => simp [intOf]
        · replace u1 := u1 238
          go_wp2_with fail
          (refine (s3 _).mono ?_; rintro e w31 ⟨rfl, hb⟩; replace fk : objAt w31 (w.heap.size) = some (.cells (ints .u8 32 (k)) 23) := keep_below hb (by (repeat (first | assumption | exact objAt_alloc_at _ _ _ rfl | (refine objAt_alloc_at _ _ _ ?_; (simp; done)) | refine keep_alloc _ ?_ | refine keep_drewN _ ?_ | refine keep_more _ ?_ | exact keep_row _ (by assumption) | refine keep_setRow _ _ ?_ (by first | omega | (simp; omega) | simp)))); have lfk := lt_of_objAt fk; replace fp : objAt w31 (gp) = some (.cells (ints .u8 32 (upd (upd all255 31 127) 0 238)) 23) := keep_below hb (by (repeat (first | assumption | exact objAt_alloc_at _ _ _ rfl | (refine objAt_alloc_at _ _ _ ?_; (simp; done)) | refine keep_alloc _ ?_ | refine keep_drewN _ ?_ | refine keep_more _ ?_ | exact keep_row _ (by assumption) | refine keep_setRow _ _ ?_ (by first | omega | (simp; omega) | simp)))); have lfp := lt_of_objAt fp; replace fs : objAt w31 (gs) = some (.cells #[Value.int IntKind.u8 236, Value.int IntKind.u8 237, Value.int IntKind.u8 238] 5) := keep_below hb (by (repeat (first | assumption | exact objAt_alloc_at _ _ _ rfl | (refine objAt_alloc_at _ _ _ ?_; (simp; done)) | refine keep_alloc _ ?_ | refine keep_drewN _ ?_ | refine keep_more _ ?_ | exact keep_row _ (by assumption) | refine keep_setRow _ _ ?_ (by first | omega | (simp; omega) | simp)))); have lfs := lt_of_objAt fs; replace hG : Below w.heap.size w w31 := Grew.trans (by (repeat (first | assumption | exact Grew.refl _ | refine Grew.more ?_ _ | refine Grew.alloc ?_ _ | refine Grew.drewN ?_ _ | refine Grew.setRow ?_ _ _ (by omega) | refine Grew.setRow ?_ _ _ (by simp; omega) | refine Grew.setRow ?_ _ _ (by simp)))) hb; clear hb)
          go_wp2
          go_roundw
          case rel => refine ⟨_, _, _, _, _, _, _, _, _, _, _, _, _, _, _, _, _, _, _, _, _, _, _, ?_, rfl⟩; exact ⟨3, by omega, by first | rfl | go_num, 238, ⟨Grew.alloc hG _, keep_alloc _ fk, keep_alloc _ fp, keep_alloc _ fs⟩⟩
          case measure => simp [intOf]
        · clear u1
          go_wp2_with fail
          (refine (s4 _).mono ?_; rintro e w41 ⟨rfl, hb⟩; replace fk : objAt w41 (w.heap.size) = some (.cells (ints .u8 32 (k)) 23) := keep_below hb (by (repeat (first | assumption | exact objAt_alloc_at _ _ _ rfl | (refine objAt_alloc_at _ _ _ ?_; (simp; done)) | refine keep_alloc _ ?_ | refine keep_drewN _ ?_ | refine keep_more _ ?_ | exact keep_row _ (by assumption) | refine keep_setRow _ _ ?_ (by first | omega | (simp; omega) | simp)))); have lfk := lt_of_objAt fk; replace fp : objAt w41 (gp) = some (.cells (ints .u8 32 (upd (upd all255 31 127) 0 v)) 23) := keep_below hb (by (repeat (first | assumption | exact objAt_alloc_at _ _ _ rfl | (refine objAt_alloc_at _ _ _ ?_; (simp; done)) | refine keep_alloc _ ?_ | refine keep_drewN _ ?_ | refine keep_more _ ?_ | exact keep_row _ (by assumption) | refine keep_setRow _ _ ?_ (by first | omega | (simp; omega) | simp)))); have lfp := lt_of_objAt fp; replace fs : objAt w41 (gs) = some (.cells #[Value.int IntKind.u8 236, Value.int IntKind.u8 237, Value.int IntKind.u8 238] 5) := keep_below hb (by (repeat (first | assumption | exact objAt_alloc_at _ _ _ rfl | (refine objAt_alloc_at _ _ _ ?_; (simp; done)) | refine keep_alloc _ ?_ | refine keep_drewN _ ?_ | refine keep_more _ ?_ | exact keep_row _ (by assumption) | refine keep_setRow _ _ ?_ (by first | omega | (simp; omega) | simp)))); have lfs := lt_of_objAt fs; replace hG : Below w.heap.size w w41 := Grew.trans (by (repeat (first | assumption | exact Grew.refl _ | refine Grew.more ?_ _ | refine Grew.alloc ?_ _ | refine Grew.drewN ?_ _ | refine Grew.setRow ?_ _ _ (by omega) | refine Grew.setRow ?_ _ _ (by simp; omega) | refine Grew.setRow ?_ _ _ (by simp)))) hb; clear hb)
          go_wp2_with fail
          have fa : objAt (w41.alloc (.cells (ints .u8 32 (V)) 23)) w41.heap.size = some (.cells (ints .u8 32 (V)) 23) := objAt_alloc_at _ _ _ rfl
          replace fk : objAt (w41.alloc (.cells (ints .u8 32 (V)) 23)) (w.heap.size) = some (.cells (ints .u8 32 (k)) 23) := keep_alloc _ fk
          replace fp : objAt (w41.alloc (.cells (ints .u8 32 (V)) 23)) (gp) = some (.cells (ints .u8 32 (upd (upd all255 31 127) 0 v)) 23) := keep_alloc _ fp
          replace fs : objAt (w41.alloc (.cells (ints .u8 32 (V)) 23)) (gs) = some (.cells #[Value.int IntKind.u8 236, Value.int IntKind.u8 237, Value.int IntKind.u8 238] 5) := keep_alloc _ fs
          replace hG : Below w.heap.size w (w41.alloc (.cells (ints .u8 32 (V)) 23)) := Grew.alloc hG _
          clear lfk lfp lfs
          generalize w41.alloc (.cells (ints .u8 32 (V)) 23) = w42 at *
          generalize w41.heap.size = ga at *
          have lfk := lt_of_objAt fk
          have lfp := lt_of_objAt fp
          have lfs := lt_of_objAt fs
          have lfa := lt_of_objAt fa
          go_wp2_with fail
          (refine (s5 _).mono ?_; rintro e w43 ⟨rfl, hb⟩; replace fk : objAt w43 (w.heap.size) = some (.cells (ints .u8 32 (k)) 23) := keep_below hb (by (repeat (first | assumption | exact objAt_alloc_at _ _ _ rfl | (refine objAt_alloc_at _ _ _ ?_; (simp; done)) | refine keep_alloc _ ?_ | refine keep_drewN _ ?_ | refine keep_more _ ?_ | exact keep_row _ (by assumption) | refine keep_setRow _ _ ?_ (by first | omega | (simp; omega) | simp)))); have lfk := lt_of_objAt fk; replace fp : objAt w43 (gp) = some (.cells (ints .u8 32 (upd (upd all255 31 127) 0 v)) 23) := keep_below hb (by (repeat (first | assumption | exact objAt_alloc_at _ _ _ rfl | (refine objAt_alloc_at _ _ _ ?_; (simp; done)) | refine keep_alloc _ ?_ | refine keep_drewN _ ?_ | refine keep_more _ ?_ | exact keep_row _ (by assumption) | refine keep_setRow _ _ ?_ (by first | omega | (simp; omega) | simp)))); have lfp := lt_of_objAt fp; replace fs : objAt w43 (gs) = some (.cells #[Value.int IntKind.u8 236, Value.int IntKind.u8 237, Value.int IntKind.u8 238] 5) := keep_below hb (by (repeat (first | assumption | exact objAt_alloc_at _ _ _ rfl | (refine objAt_alloc_at _ _ _ ?_; (simp; done)) | refine keep_alloc _ ?_ | refine keep_drewN _ ?_ | refine keep_more _ ?_ | exact keep_row _ (by assumption) | refine keep_setRow _ _ ?_ (by first | omega | (simp; omega) | simp)))); have lfs := lt_of_objAt fs; replace fa : objAt w43 (ga) = some (.cells (ints .u8 32 (V)) 23) := keep_below hb (by (repeat (first | assumption | exact objAt_alloc_at _ _ _ rfl | (refine objAt_alloc_at _ _ _ ?_; (simp; done)) | refine keep_alloc _ ?_ | refine keep_drewN _ ?_ | refine keep_more _ ?_ | exact keep_row _ (by assumption) | refine keep_setRow _ _ ?_ (by first | omega | (simp; omega) | simp)))); have lfa := lt_of_objAt fa; replace hG : Below w.heap.size w w43 := Grew.trans (by (repeat (first | assumption | exact Grew.refl _ | refine Grew.more ?_ _ | refine Grew.alloc ?_ _ | refine Grew.drewN ?_ _ | refine Grew.setRow ?_ _ _ (by omega) | refine Grew.setRow ?_ _ _ (by simp; omega) | refine Grew.setRow ?_ _ _ (by simp)))) hb; clear hb)
          go_wp2
          go_ret
          exact ⟨rfl, by (repeat (first | assumption | exact Grew.refl _ | refine Grew.more ?_ _ | refine Grew.alloc ?_ _ | refine Grew.drewN ?_ _ | refine Grew.setRow ?_ _ _ (by omega) | refine Grew.setRow ?_ _ _ (by simp; omega) | refine Grew.setRow ?_ _ _ (by simp)))⟩
theorem tv_eight (k : Nat → Int) (hk : Bytes 32 k) (p : Nat → Int) (h : nv (ofF p) = 0 ∨ nv (ofF p) = 1 ∨ nv (ofF p) = 57896044618658097711785492504343953926634992332820282019728792003956564819948) : shV k p = 0 := by
  obtain ⟨m, e, h0, h1⟩ := cK_is k hk
  have hl := cK_lt k hk
  show tv (cK k) (nv (ofF p)) = 0
  rw [e] at hl ⊢
  have h4 := Edw.tv_four (4 * m) (by omega)
  rw [show 2 * (4 * m) = 8 * m by omega] at h4
  rcases h with h | h | h
  · rw [h]; exact Edw.tv_null _
  · rw [h]; exact h4.1
  · rw [h]; exact h4.2
theorem shared_null (k p : Nat → Int) (w : World) (hk : Bytes 32 k) (hp : Bytes 32 p) (h : nv (ofF p) = 0 ∨ nv (ofF p) = 1 ∨ nv (ofF p) = 57896044618658097711785492504343953926634992332820282019728792003956564819948) : Calls Try.prog 73 #[.agg (ints .u8 32 (k)), .agg (ints .u8 32 (p))] w fun e w' => e = .returned (.tuple #[.agg (ints .u8 32 (keyV 0)), .bool false]) ∧ Below w.heap.size w w' := by
  have e := tv_eight k hk p h
  have c := shared_any k p w hk hp (decide_eq_true e)
  rw [e] at c
  exact c
theorem pb_bytes (f : Int) (h0 : 0 ≤ f) (h1 : f ≤ 255) : Bytes 32 (upd (upd all255 31 127) 0 f) := fun i _ => by unfold upd all255; split <;> (try split) <;> omega
theorem zero6_any (k : Nat → Int) (w : World) (hk : Bytes 32 k) :
    Calls Try.prog 25 #[.agg (ints .u8 32 (k))] w fun e w' => e = .returned (.bool true) ∧ Below w.heap.size w w' :=
  zero_walk k (keyV 0) w (fun w => shared_null k _ w hk (pb_bytes 236 (by decide) (by decide)) (.inr (.inr (by kernel_rfl)))) (fun w => shared_null k _ w hk (pb_bytes 237 (by decide) (by decide)) (.inl (by kernel_rfl)))
    (fun w => shared_null k _ w hk (pb_bytes 238 (by decide) (by decide)) (.inr (.inl (by kernel_rfl)))) (fun w => shared_null k _ w hk zk5_bytes (.inl (by kernel_rfl))) (fun w => shared_null k _ w hk ok5_bytes (.inr (.inl (by kernel_rfl)))) (by kernel_rfl)
end Go.Proofs.Ytfapmpnkemogkaa
