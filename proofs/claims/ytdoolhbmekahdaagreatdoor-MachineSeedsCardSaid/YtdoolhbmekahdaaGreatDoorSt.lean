/- St -/
import Derived.Test.YtdoolhbmekahdaaGreatDoorSw
import Derived.Test.YtdoolhbmekahdaaGreatDoorSm
set_option maxRecDepth 100000
set_option maxHeartbeats 4000000
namespace Go.Proofs.YtdoolhbmekahdaaGreatDoor
open Go.RowKit
set_option linter.unusedVariables false
set_option linter.unusedSimpArgs false
set_option maxHeartbeats 1000000 in
theorem word_low (B W : Nat → Int) (t : Nat) (gb gw : Nat) (tb tw : TypeId) (w : World) (hB : Bytes 64 B) (ht : t < 16)
  (hb : objAt w gb = some (.cells (ints .u8 64 B) tb (0, 0))) (hw : objAt w gw = some (.cells (ints .u32 64 W) tw (0, 0))) :
  Calls Tryz.prog 234 #[.int .i64 t, .pointer (some ⟨gb, 0, none⟩), .pointer (some ⟨gw, 0, none⟩)] w fun e w' => e = .returned (.int .u32 (nextW B W t)) ∧ Below w.heap.size w w' := by
 have H : Hid (bits .or .u32 (bits .or .u32 (bits .or .u32 (B (4 * t) * 16777216) (B (4 * t + 1) * 65536)) (B (4 * t + 2) * 256)) (B (4 * t + 3)) = nextW B W t) := by
  have := wd_or B hB t ht
  unfold nextW; rw [if_pos ht]; exact this
 have h0 := hB (4 * t) (by omega); have h1 := hB (4 * t + 1) (by omega); have h2 := hB (4 * t + 2) (by omega); have h3 := hB (4 * t + 3) (by omega)
 have lb := lt_of_objAt hb
 have lw := lt_of_objAt hw
 have i0 : 4 * t < 64 := by omega
 have i1 : 4 * t + 1 < 64 := by omega
 have i2 : 4 * t + 2 < 64 := by omega
 have i3 : 4 * t + 3 < 64 := by omega
 clear hB
 go_enter Tryz.func234, Tryz.ntmps234
 go_wp2
 ((first | (with_reducible refine wp_region_on (by kernel_rfl) (by kernel_rfl) ?_) | refine wp_region_more (by kernel_rfl) (by kernel_rfl) ?_); (repeat (first | go_big_quiet_skip | (go_big_quiet_want; go_big_quiet_op; first | go_big_quiet_on | (apply Exists.intro; refine ⟨fun _ => ?_, ?_⟩; (focus (fail)); go_big_quiet_on)))); refine wpQuiet_nil ?_; rintro _ ⟨mq, rfl⟩)
 go_wp2
 go_ret
 rw [H.out]
 exact ⟨rfl, by exact grew_auto⟩
theorem nextW_high (B W : Nat → Int) (u : Nat) : nextW B W (u + 16) = (sm1 (W (u + 14)) + W (u + 9) + sm0 (W (u + 1)) + W u) % 4294967296 := by
 unfold nextW
 rw [if_neg (by omega)]
 rfl
set_option maxHeartbeats 1000000 in
theorem word_high (B W : Nat → Int) (u : Nat) (gb gw : Nat) (tw : TypeId) (w : World) (hW : Words 64 W) (hl : u < 48)
  (hw : objAt w gw = some (.cells (ints .u32 64 W) tw (0, 0))) :
  Calls Tryz.prog 234 #[.int .i64 (u + 16 : Nat), .pointer (some ⟨gb, 0, none⟩), .pointer (some ⟨gw, 0, none⟩)] w fun e w' => e = .returned (.int .u32 (nextW B W (u + 16))) ∧ Below w.heap.size w w' := by
 have lw := lt_of_objAt hw
 have k2 := hW (u + 14) (by omega); have k15 := hW (u + 1) (by omega)
 have hlt : ¬ (((u + 16 : Nat) : Int) < 16) := by omega
 have hlt' : decide (((u + 16 : Nat) : Int) < 16) = false := by simp; omega
 have q2 := w32_sm1 k2; have q15 := w32_sm0 k15
 have k7 := hW (u + 9) (by omega); have k16 := hW u (by omega)
 obtain ⟨p2, r2⟩ := q2; obtain ⟨p15, r15⟩ := q15; obtain ⟨p7, r7⟩ := k7; obtain ⟨p16, r16⟩ := k16
 have H : Hid (nextW B W (u + 16) = (sm1 (W (u + 14)) + W (u + 9) + sm0 (W (u + 1)) + W u) % 4294967296) := nextW_high B W u
 have i2 : u + 14 < 64 := by omega
 have i7 : u + 9 < 64 := by omega
 have i15 : u + 1 < 64 := by omega
 have i16 : u < 64 := by omega
 clear hW
 go_enter Tryz.func234, Tryz.ntmps234
 go_wp2
 ((first | (with_reducible refine wp_region_on (by kernel_rfl) (by kernel_rfl) ?_) | refine wp_region_more (by kernel_rfl) (by kernel_rfl) ?_); (repeat (first | go_big_quiet_skip | (go_big_quiet_want; go_big_quiet_op; first | go_big_quiet_on | (apply Exists.intro; refine ⟨fun _ => ?_, ?_⟩; (focus (first | (with_reducible exact Calls.of_more (sm1_any (W (u + 14)) _ k2)) | (with_reducible exact Calls.of_more (sm0_any (W (u + 1)) _ k15)))); go_big_quiet_on)))); refine wpQuiet_nil ?_; rintro _ ⟨mq, rfl⟩)
 go_wp2
 go_ret
 rw [H.out]
 exact ⟨ret_u32 (by omega), by exact grew_auto⟩
set_option maxHeartbeats 1000000 in
theorem table_any (B : Nat → Int) (w : World) (hB : Bytes 64 B) :
  Calls Tryz.prog 188 #[.agg (ints .u8 64 B)] w fun e w' => e = .returned (.agg (ints .u32 64 (sch B 64))) ∧ Below w.heap.size w w' := by
 have hG := Grew.refl w
 have fb : True := trivial
 have fr : True := trivial
 have fv : True := trivial
 go_enter Tryz.func188, Tryz.ntmps188
 go_wp2_with fail
 replace fb : objAt (((w.alloc (.cells (ints .u8 64 (B)) 127)).alloc (.cells (ints .u32 64 (nought)) 261)).alloc (.cells (ints .u32 64 (nought)) 261)) (w.heap.size) = some (.cells (ints .u8 64 (B)) 127) := by exact keep_auto
 replace fr : objAt (((w.alloc (.cells (ints .u8 64 (B)) 127)).alloc (.cells (ints .u32 64 (nought)) 261)).alloc (.cells (ints .u32 64 (nought)) 261)) (w.heap.size + 1) = some (.cells (ints .u32 64 (nought)) 261) := by exact keep_auto
 replace fv : objAt (((w.alloc (.cells (ints .u8 64 (B)) 127)).alloc (.cells (ints .u32 64 (nought)) 261)).alloc (.cells (ints .u32 64 (nought)) 261)) (w.heap.size + 1 + 1) = some (.cells (ints .u32 64 (nought)) 261) := by exact keep_auto
 replace hG : Below w.heap.size w (((w.alloc (.cells (ints .u8 64 (B)) 127)).alloc (.cells (ints .u32 64 (nought)) 261)).alloc (.cells (ints .u32 64 (nought)) 261)) := by exact grew_auto
 generalize ((w.alloc (.cells (ints .u8 64 (B)) 127)).alloc (.cells (ints .u32 64 (nought)) 261)).alloc (.cells (ints .u32 64 (nought)) 261) = w1 at *
 have lfb := lt_of_objAt fb
 have lfr := lt_of_objAt fr
 have lfv := lt_of_objAt fv
 go_wp2_with fail
 go_loopw [7] (fun i wr => ∃ k : Nat, k ≤ 64 ∧ i = .int .i64 k ∧ Below w.heap.size w wr ∧ objAt wr (w.heap.size) = some (.cells (ints .u8 64 (B)) 127) ∧ objAt wr (w.heap.size + 1) = some (.cells (ints .u32 64 (nought)) 261) ∧ objAt wr (w.heap.size + 1 + 1) = some (.cells (ints .u32 64 (sch B k)) 261)) (fun i _ => 64 - (intOf i).toNat)
 case atStart => exact ⟨0, by omega, rfl, hG, fb, fr, fv⟩
 case round =>
  clear fb fr fv hG lfb lfr lfv
  obtain ⟨k, hk, rfl, hG, fb, fr, fv⟩ := hrel
  have lfb := lt_of_objAt fb
  have lfr := lt_of_objAt fr
  have lfv := lt_of_objAt fv
  by_cases hlt : k < 64
  ·have hs := sch_words B hB k
   have S : Hid (upd (sch B k) k (nextW B (sch B k) k) = sch B (k + 1)) := rfl
   by_cases h16 : k < 16
   ·go_wp2_with fail
    (refine (word_low B (sch B k) k _ _ _ _ _ hB h16 fb fv).mono ?_; rintro e w2 ⟨rfl, hb⟩; replace fb : objAt w2 (w.heap.size) = some (.cells (ints .u8 64 (B)) 127) := keep_below hb (by exact keep_auto); have lfb := lt_of_objAt fb; replace fr : objAt w2 (w.heap.size + 1) = some (.cells (ints .u32 64 (nought)) 261) := keep_below hb (by exact keep_auto); have lfr := lt_of_objAt fr; replace fv : objAt w2 (w.heap.size + 1 + 1) = some (.cells (ints .u32 64 (sch B k)) 261) := keep_below hb (by exact keep_auto); have lfv := lt_of_objAt fv; replace hG : Below w.heap.size w w2 := Grew.trans (by exact grew_auto) hb; clear hb)
    generalize nextW B (sch B k) k = V at *
    go_wp2
    go_roundw
    case rel => exact ⟨k + 1, by omega, by go_num, by exact grew_auto, by exact keep_auto, by exact keep_auto, by rw [← S.out]; exact keep_row _ fv⟩
    case measure => simp [intOf]; omega
   ·obtain ⟨u, rfl⟩ : ∃ u, k = u + 16 := ⟨k - 16, by omega⟩
    go_wp2_with fail
    (refine (word_high B (sch B (u + 16)) u _ _ _ _ (fun i _ => hs i) (by omega) fv).mono ?_; rintro e w2 ⟨rfl, hb⟩; replace fb : objAt w2 (w.heap.size) = some (.cells (ints .u8 64 (B)) 127) := keep_below hb (by exact keep_auto); have lfb := lt_of_objAt fb; replace fr : objAt w2 (w.heap.size + 1) = some (.cells (ints .u32 64 (nought)) 261) := keep_below hb (by exact keep_auto); have lfr := lt_of_objAt fr; replace fv : objAt w2 (w.heap.size + 1 + 1) = some (.cells (ints .u32 64 (sch B (u + 16))) 261) := keep_below hb (by exact keep_auto); have lfv := lt_of_objAt fv; replace hG : Below w.heap.size w w2 := Grew.trans (by exact grew_auto) hb; clear hb)
    generalize nextW B (sch B (u + 16)) (u + 16) = V at *
    have i1 : u + 16 < 64 := by omega
    go_wp2
    go_roundw
    case rel => exact ⟨u + 16 + 1, by omega, by go_num, by exact grew_auto, by exact keep_auto, by exact keep_auto, by rw [← S.out]; exact keep_row _ fv⟩
    case measure => simp [intOf]; omega
  ·obtain rfl : k = 64 := by omega
   clear hlt
   go_wp2
   refine ret_row rfl _ 261 _ (0, 0) _ rfl (keep_row _ fr) Tryz.underlying261 rfl (by rw [ints_size]; kernel_rfl) rfl ⟨rfl, by exact grew_auto⟩
end Go.Proofs.YtdoolhbmekahdaaGreatDoor
namespace Go.Proofs.YtdoolhbmekahdaaGreatDoor
open Go.RowKit
set_option linter.unusedVariables false
set_option linter.unusedSimpArgs false
def Tabs (w : World) : Prop := (∃ t, objAt w 1 = some (.cells (ints .u32 8 sqF) t (0, 0))) ∧ ∃ t, objAt w 4 = some (.cells (ints .u32 64 cubeF) t (0, 0))
theorem Tabs.later {w w' : World} (h : Tabs w) (hb : Below w.heap.size w w') : Tabs w' := by
 obtain ⟨⟨t, h1⟩, t', h2⟩ := h
 exact ⟨⟨t, keep_below hb h1⟩, t', keep_below hb h2⟩
theorem thr_eq (A B : Nat → Int) (i : Nat) : (A i + runR (sch B 64) (absH A) 64 i) % 4294967296 = thr A B i := rfl
theorem eight_is (s : Nat → Int) : ints .u32 8 (eightF (s 0) (s 1) (s 2) (s 3) (s 4) (s 5) (s 6) (s 7)) = ints .u32 8 s := ints_congr fun i hi => by
 rcases (by omega : i = 0 ∨ i = 1 ∨ i = 2 ∨ i = 3 ∨ i = 4 ∨ i = 5 ∨ i = 6 ∨ i = 7) with rfl | rfl | rfl | rfl | rfl | rfl | rfl | rfl <;> rfl
theorem through_any (A B : Nat → Int) (w : World) (hA : Words 8 A) (hB : Bytes 64 B) (hT : Tabs w) :
  Calls Tryz.prog 150 #[.agg (ints .u32 8 A), .agg (ints .u8 64 B)] w fun e w' => e = .returned (.agg (ints .u32 8 (thr A B))) ∧ Below w.heap.size w w' := by
 obtain ⟨⟨ts, fS⟩, tc, fC⟩ := hT
 have l0S := lt_of_objAt fS
 have l0C := lt_of_objAt fC
 have hG := Grew.refl w
 have fa : True := trivial
 have fb : True := trivial
 have fr : True := trivial
 go_enter Tryz.func150, Tryz.ntmps150
 go_wp2_with fail
 replace fa : objAt (((w.alloc (.cells (ints .u32 8 (A)) 126)).alloc (.cells (ints .u8 64 (B)) 127)).alloc (.cells (ints .u32 8 (nought)) 126)) (w.heap.size) = some (.cells (ints .u32 8 (A)) 126) := by exact keep_auto
 replace fb : objAt (((w.alloc (.cells (ints .u32 8 (A)) 126)).alloc (.cells (ints .u8 64 (B)) 127)).alloc (.cells (ints .u32 8 (nought)) 126)) (w.heap.size + 1) = some (.cells (ints .u8 64 (B)) 127) := by exact keep_auto
 replace fr : objAt (((w.alloc (.cells (ints .u32 8 (A)) 126)).alloc (.cells (ints .u8 64 (B)) 127)).alloc (.cells (ints .u32 8 (nought)) 126)) (w.heap.size + 1 + 1) = some (.cells (ints .u32 8 (nought)) 126) := by exact keep_auto
 replace fS : objAt (((w.alloc (.cells (ints .u32 8 (A)) 126)).alloc (.cells (ints .u8 64 (B)) 127)).alloc (.cells (ints .u32 8 (nought)) 126)) (1) = some (.cells (ints .u32 8 sqF) ts) := by exact keep_auto
 replace fC : objAt (((w.alloc (.cells (ints .u32 8 (A)) 126)).alloc (.cells (ints .u8 64 (B)) 127)).alloc (.cells (ints .u32 8 (nought)) 126)) (4) = some (.cells (ints .u32 64 cubeF) tc) := by exact keep_auto
 replace hG : Below w.heap.size w (((w.alloc (.cells (ints .u32 8 (A)) 126)).alloc (.cells (ints .u8 64 (B)) 127)).alloc (.cells (ints .u32 8 (nought)) 126)) := by exact grew_auto
 generalize ((w.alloc (.cells (ints .u32 8 (A)) 126)).alloc (.cells (ints .u8 64 (B)) 127)).alloc (.cells (ints .u32 8 (nought)) 126) = w1 at *
 have lfa := lt_of_objAt fa
 have lfb := lt_of_objAt fb
 have lfr := lt_of_objAt fr
 have lfS := lt_of_objAt fS
 have lfC := lt_of_objAt fC
 go_wp2_with fail
 (refine (table_any B _ hB).mono ?_; rintro e w2 ⟨rfl, hb⟩; replace fa : objAt w2 (w.heap.size) = some (.cells (ints .u32 8 (A)) 126) := keep_below hb (by exact keep_auto); have lfa := lt_of_objAt fa; replace fb : objAt w2 (w.heap.size + 1) = some (.cells (ints .u8 64 (B)) 127) := keep_below hb (by exact keep_auto); have lfb := lt_of_objAt fb; replace fr : objAt w2 (w.heap.size + 1 + 1) = some (.cells (ints .u32 8 (nought)) 126) := keep_below hb (by exact keep_auto); have lfr := lt_of_objAt fr; replace fS : objAt w2 (1) = some (.cells (ints .u32 8 sqF) ts) := keep_below hb (by exact keep_auto); have lfS := lt_of_objAt fS; replace fC : objAt w2 (4) = some (.cells (ints .u32 64 cubeF) tc) := keep_below hb (by exact keep_auto); have lfC := lt_of_objAt fC; replace hG : Below w.heap.size w w2 := Grew.trans (by exact grew_auto) hb; clear hb)
 have nta : ¬ (w2.heap.size = w.heap.size) := by omega
 have ntb : ¬ (w2.heap.size = w.heap.size + 1) := by omega
 have ntr : ¬ (w2.heap.size = w.heap.size + 1 + 1) := by omega
 have ntS : ¬ (w2.heap.size = 1) := by omega
 have ntC : ¬ (w2.heap.size = 4) := by omega
 go_wp2_with fail
 have ft : objAt (w2.alloc (.cells (ints .u32 64 (sch B 64)) 261)) w2.heap.size = some (.cells (ints .u32 64 (sch B 64)) 261) := objAt_alloc_at _ _ _ rfl
 replace fa : objAt (w2.alloc (.cells (ints .u32 64 (sch B 64)) 261)) (w.heap.size) = some (.cells (ints .u32 8 (A)) 126) := keep_alloc _ fa
 replace fb : objAt (w2.alloc (.cells (ints .u32 64 (sch B 64)) 261)) (w.heap.size + 1) = some (.cells (ints .u8 64 (B)) 127) := keep_alloc _ fb
 replace fr : objAt (w2.alloc (.cells (ints .u32 64 (sch B 64)) 261)) (w.heap.size + 1 + 1) = some (.cells (ints .u32 8 (nought)) 126) := keep_alloc _ fr
 replace fS : objAt (w2.alloc (.cells (ints .u32 64 (sch B 64)) 261)) (1) = some (.cells (ints .u32 8 sqF) ts) := keep_alloc _ fS
 replace fC : objAt (w2.alloc (.cells (ints .u32 64 (sch B 64)) 261)) (4) = some (.cells (ints .u32 64 cubeF) tc) := keep_alloc _ fC
 replace hG : Below w.heap.size w (w2.alloc (.cells (ints .u32 64 (sch B 64)) 261)) := Grew.alloc hG _
 clear lfa lfb lfr lfS lfC
 generalize w2.alloc (.cells (ints .u32 64 (sch B 64)) 261) = w3 at *
 generalize w2.heap.size = gt at *
 have lfa := lt_of_objAt fa
 have lfb := lt_of_objAt fb
 have lfr := lt_of_objAt fr
 have lfS := lt_of_objAt fS
 have lfC := lt_of_objAt fC
 have lft := lt_of_objAt ft
 have hW := sch_words B hB 64
 have hR := runR_words (sch B 64) (absH A) (absH_words A)
 have F8 : Hid (∀ i, (A i + runR (sch B 64) (absH A) 64 i) % 4294967296 = thr A B i) := thr_eq A B
 have R0 : Hid (runR (sch B 64) (absH A) 0 = absH A) := rfl
 have RS : Hid (∀ k, runR (sch B 64) (absH A) (k + 1) = rnd (sch B 64) k (runR (sch B 64) (absH A) k)) := fun _ => rfl
 obtain ⟨F, hF0⟩ : ∃ F, F = thr A B := ⟨_, rfl⟩
 have hF : Hid (F = thr A B) := hF0
 rw [← hF0] at F8
 clear hF0
 generalize sch B 64 = W at *
 generalize hRR : runR W (absH A) = R at *
 clear hRR
 have ba0 := hA 0 (by decide)
 have bs0 := sq_w32 0
 unfold W32 at ba0 bs0
 have ba1 := hA 1 (by decide)
 have bs1 := sq_w32 1
 unfold W32 at ba1 bs1
 have ba2 := hA 2 (by decide)
 have bs2 := sq_w32 2
 unfold W32 at ba2 bs2
 have ba3 := hA 3 (by decide)
 have bs3 := sq_w32 3
 unfold W32 at ba3 bs3
 have ba4 := hA 4 (by decide)
 have bs4 := sq_w32 4
 unfold W32 at ba4 bs4
 have ba5 := hA 5 (by decide)
 have bs5 := sq_w32 5
 unfold W32 at ba5 bs5
 have ba6 := hA 6 (by decide)
 have bs6 := sq_w32 6
 unfold W32 at ba6 bs6
 have ba7 := hA 7 (by decide)
 have bs7 := sq_w32 7
 unfold W32 at ba7 bs7
 go_wp2_with fail
 ((first | (with_reducible refine wp_region_on (by kernel_rfl) (by kernel_rfl) ?_) | refine wp_region_more (by kernel_rfl) (by kernel_rfl) ?_); (repeat (first | go_big_quiet_skip | (go_big_quiet_want; go_big_quiet_op; first | go_big_quiet_on | (apply Exists.intro; refine ⟨fun _ => ?_, ?_⟩; (focus (fail)); go_big_quiet_on)))); refine wpQuiet_nil ?_; rintro _ ⟨mq, rfl⟩)
 replace fa : objAt (more w3 mq) (w.heap.size) = some (.cells (ints .u32 8 (A)) 126) := keep_more _ fa
 replace fb : objAt (more w3 mq) (w.heap.size + 1) = some (.cells (ints .u8 64 (B)) 127) := keep_more _ fb
 replace fr : objAt (more w3 mq) (w.heap.size + 1 + 1) = some (.cells (ints .u32 8 (nought)) 126) := keep_more _ fr
 replace fS : objAt (more w3 mq) (1) = some (.cells (ints .u32 8 sqF) ts) := keep_more _ fS
 replace fC : objAt (more w3 mq) (4) = some (.cells (ints .u32 64 cubeF) tc) := keep_more _ fC
 replace ft : objAt (more w3 mq) (gt) = some (.cells (ints .u32 64 (W)) 261) := keep_more _ ft
 replace hG : Below w.heap.size w (more w3 mq) := Grew.more hG _
 clear lfa lfb lfr lfS lfC lft
 generalize more w3 mq = w4 at *
 have lfa := lt_of_objAt fa
 have lfb := lt_of_objAt fb
 have lfr := lt_of_objAt fr
 have lfS := lt_of_objAt fS
 have lfC := lt_of_objAt fC
 have lft := lt_of_objAt ft
 go_wp2_with fail
 ((first | (with_reducible refine wp_region_on (by kernel_rfl) (by kernel_rfl) ?_) | refine wp_region_more (by kernel_rfl) (by kernel_rfl) ?_); (repeat (first | go_big_quiet_skip | (go_big_quiet_want; go_big_quiet_op; first | go_big_quiet_on | (apply Exists.intro; refine ⟨fun _ => ?_, ?_⟩; (focus (fail)); go_big_quiet_on)))); refine wpQuiet_nil ?_; rintro _ ⟨mq, rfl⟩)
 replace fa : objAt (more w4 mq) (w.heap.size) = some (.cells (ints .u32 8 (A)) 126) := keep_more _ fa
 replace fb : objAt (more w4 mq) (w.heap.size + 1) = some (.cells (ints .u8 64 (B)) 127) := keep_more _ fb
 replace fr : objAt (more w4 mq) (w.heap.size + 1 + 1) = some (.cells (ints .u32 8 (nought)) 126) := keep_more _ fr
 replace fS : objAt (more w4 mq) (1) = some (.cells (ints .u32 8 sqF) ts) := keep_more _ fS
 replace fC : objAt (more w4 mq) (4) = some (.cells (ints .u32 64 cubeF) tc) := keep_more _ fC
 replace ft : objAt (more w4 mq) (gt) = some (.cells (ints .u32 64 (W)) 261) := keep_more _ ft
 replace hG : Below w.heap.size w (more w4 mq) := Grew.more hG _
 clear lfa lfb lfr lfS lfC lft
 generalize more w4 mq = w5 at *
 have lfa := lt_of_objAt fa
 have lfb := lt_of_objAt fb
 have lfr := lt_of_objAt fr
 have lfS := lt_of_objAt fS
 have lfC := lt_of_objAt fC
 have lft := lt_of_objAt ft
 clear ba0 bs0 ba1 bs1 ba2 bs2 ba3 bs3 ba4 bs4 ba5 bs5 ba6 bs6 ba7 bs7
 go_wp2_with fail
 go_loopw [6, 7, 8, 9, 10, 11, 12, 13, 61] (fun v0 v1 v2 v3 v4 v5 v6 v7 i wr => ∃ k : Nat, k ≤ 64 ∧ i = .int .i64 k ∧ v0 = .int .u32 (R k 0) ∧ v1 = .int .u32 (R k 1) ∧ v2 = .int .u32 (R k 2) ∧ v3 = .int .u32 (R k 3) ∧ v4 = .int .u32 (R k 4) ∧ v5 = .int .u32 (R k 5) ∧ v6 = .int .u32 (R k 6) ∧ v7 = .int .u32 (R k 7) ∧ Below w.heap.size w wr ∧ objAt wr (w.heap.size) = some (.cells (ints .u32 8 (A)) 126) ∧ objAt wr (w.heap.size + 1) = some (.cells (ints .u8 64 (B)) 127) ∧ objAt wr (w.heap.size + 1 + 1) = some (.cells (ints .u32 8 (nought)) 126) ∧ objAt wr (1) = some (.cells (ints .u32 8 sqF) ts) ∧ objAt wr (4) = some (.cells (ints .u32 64 cubeF) tc) ∧ objAt wr (gt) = some (.cells (ints .u32 64 (W)) 261)) (fun _ _ _ _ _ _ _ _ i _ => 64 - (intOf i).toNat)
 case atStart => exact ⟨0, by omega, rfl, by rw [R0.out]; rfl, by rw [R0.out]; rfl, by rw [R0.out]; rfl, by rw [R0.out]; rfl, by rw [R0.out]; rfl, by rw [R0.out]; rfl, by rw [R0.out]; rfl, by rw [R0.out]; rfl, hG, fa, fb, fr, fS, fC, ft⟩
 case round =>
  clear fa lfa fb lfb fr lfr fS lfS fC lfC ft lft hG
  obtain ⟨k, hk, rfl, rfl, rfl, rfl, rfl, rfl, rfl, rfl, rfl, hG, fa, fb, fr, fS, fC, ft⟩ := hrel
  have lfa := lt_of_objAt fa
  have lfb := lt_of_objAt fb
  have lfr := lt_of_objAt fr
  have lfS := lt_of_objAt fS
  have lfC := lt_of_objAt fC
  have lft := lt_of_objAt ft
  by_cases hlt : k < 64
  ·have hs := hR k
   have E : Hid (R (k + 1) = rnd W k (R k)) := RS.out k
   generalize R k = s at *
   have b0 := hs 0 (by decide)
   have b1 := hs 1 (by decide)
   have b2 := hs 2 (by decide)
   have b3 := hs 3 (by decide)
   have b4 := hs 4 (by decide)
   have b5 := hs 5 (by decide)
   have b6 := hs 6 (by decide)
   have b7 := hs 7 (by decide)
   have bW := hW k
   have bC := cube_w32 k
   have bc := w32_chs b4 b5 b6
   have bg := w32_gr1 b4
   have bm := w32_maj b0 b1 b2
   have bh := w32_gr0 b0
   have hc : bits .xor .u32 (bits .and .u32 (s 4) (s 5)) (bits .and .u32 (4294967295 - s 4) (s 6)) = chs (s 4) (s 5) (s 6) := by unfold chs; rfl
   have hm : bits .or .u32 (bits .or .u32 (bits .and .u32 (s 0) (s 1)) (bits .and .u32 (s 0) (s 2))) (bits .and .u32 (s 1) (s 2)) = maj (s 0) (s 1) (s 2) := by unfold maj; rfl
   have hn : bits .xor .u32 (if IntKind.u32.signed = true then -1 else IntKind.u32.max) (s 4) = 4294967295 - s 4 := u32_not (s 4) b4
   have hn2 : bits .xor .u32 4294967295 (s 4) = 4294967295 - s 4 := u32_not (s 4) b4
   have et1 := tOne_is W k s
   have et2 := tTwo_is s
   have bt1 := w32_tOne W k s
   have bt2 := w32_tTwo s
   have p1 := fun w => gr1_any (s 4) w b4
   have p0 := fun w => gr0_any (s 0) w b0
   unfold W32 at b0 b1 b2 b3 b4 b5 b6 b7 bW bC bc bg bm bh bt1 bt2
   clear hs
   go_wp2_with fail
   ((first | (with_reducible refine wp_region_on (by kernel_rfl) (by kernel_rfl) ?_) | refine wp_region_more (by kernel_rfl) (by kernel_rfl) ?_); (repeat (first | go_big_quiet_skip | (go_big_quiet_want; go_big_quiet_op; first | go_big_quiet_on | (apply Exists.intro; refine ⟨fun _ => ?_, ?_⟩; (focus (first | (with_reducible exact Calls.of_more (p1 _)))); go_big_quiet_on)))); refine wpQuiet_nil ?_; rintro _ ⟨mq, rfl⟩)
   replace fa : objAt (more wr mq) (w.heap.size) = some (.cells (ints .u32 8 (A)) 126) := keep_more _ fa
   replace fb : objAt (more wr mq) (w.heap.size + 1) = some (.cells (ints .u8 64 (B)) 127) := keep_more _ fb
   replace fr : objAt (more wr mq) (w.heap.size + 1 + 1) = some (.cells (ints .u32 8 (nought)) 126) := keep_more _ fr
   replace fS : objAt (more wr mq) (1) = some (.cells (ints .u32 8 sqF) ts) := keep_more _ fS
   replace fC : objAt (more wr mq) (4) = some (.cells (ints .u32 64 cubeF) tc) := keep_more _ fC
   replace ft : objAt (more wr mq) (gt) = some (.cells (ints .u32 64 (W)) 261) := keep_more _ ft
   replace hG : Below w.heap.size w (more wr mq) := Grew.more hG _
   clear lfa lfb lfr lfS lfC lft
   generalize more wr mq = w6 at *
   have lfa := lt_of_objAt fa
   have lfb := lt_of_objAt fb
   have lfr := lt_of_objAt fr
   have lfS := lt_of_objAt fS
   have lfC := lt_of_objAt fC
   have lft := lt_of_objAt ft
   go_wp2_with fail
   (refine (p0 _).mono ?_; rintro e w7 ⟨rfl, hb⟩; replace fa : objAt w7 (w.heap.size) = some (.cells (ints .u32 8 (A)) 126) := keep_below hb (by exact keep_auto); have lfa := lt_of_objAt fa; replace fb : objAt w7 (w.heap.size + 1) = some (.cells (ints .u8 64 (B)) 127) := keep_below hb (by exact keep_auto); have lfb := lt_of_objAt fb; replace fr : objAt w7 (w.heap.size + 1 + 1) = some (.cells (ints .u32 8 (nought)) 126) := keep_below hb (by exact keep_auto); have lfr := lt_of_objAt fr; replace fS : objAt w7 (1) = some (.cells (ints .u32 8 sqF) ts) := keep_below hb (by exact keep_auto); have lfS := lt_of_objAt fS; replace fC : objAt w7 (4) = some (.cells (ints .u32 64 cubeF) tc) := keep_below hb (by exact keep_auto); have lfC := lt_of_objAt fC; replace ft : objAt w7 (gt) = some (.cells (ints .u32 64 (W)) 261) := keep_below hb (by exact keep_auto); have lft := lt_of_objAt ft; replace hG : Below w.heap.size w w7 := Grew.trans (by exact grew_auto) hb; clear hb)
   clear p0 p1 hn hn2
   have e0 : Hid (rnd W k s 0 = (tOne W k s + tTwo s) % 4294967296) := rfl
   have e4 : Hid (rnd W k s 4 = (s 3 + tOne W k s) % 4294967296) := rfl
   go_wp2
   go_roundw
   case rel =>
    refine ⟨k + 1, by omega, by go_num, ?_, ?_, ?_, ?_, ?_, ?_, ?_, ?_, by exact grew_auto, fa, fb, fr, fS, fC, ft⟩ <;> rw [E.out]
    ·rw [e0.out]
    ·rfl
    ·rfl
    ·rfl
    ·rw [e4.out]
    ·rfl
    ·rfl
    ·rfl
   case measure => simp [intOf]; omega
  ·obtain rfl : k = 64 := by omega
   clear hlt hk
   have e8 := eight_is (R 64)
   have hs := hR 64
   have F8 : Hid (∀ i, (A i + R 64 i) % 4294967296 = F i) := F8
   generalize R 64 = s at *
   have b0 := hs 0 (by decide)
   have b1 := hs 1 (by decide)
   have b2 := hs 2 (by decide)
   have b3 := hs 3 (by decide)
   have b4 := hs 4 (by decide)
   have b5 := hs 5 (by decide)
   have b6 := hs 6 (by decide)
   have b7 := hs 7 (by decide)
   clear b0 b1 b2 b3 b4 b5 b6 b7
   go_wp2_with fail
   clear e8
   go_loopw [121] (fun i wr2 => ∃ k : Nat, k ≤ 8 ∧ i = .int .i64 k ∧ Below w.heap.size w wr2 ∧ objAt wr2 (w.heap.size) = some (.cells (ints .u32 8 (mix F A k)) 126) ∧ objAt wr2 (w.heap.size + 1) = some (.cells (ints .u8 64 (B)) 127) ∧ objAt wr2 (w.heap.size + 1 + 1) = some (.cells (ints .u32 8 (nought)) 126) ∧ objAt wr2 (1) = some (.cells (ints .u32 8 sqF) ts) ∧ objAt wr2 (4) = some (.cells (ints .u32 64 cubeF) tc) ∧ objAt wr2 (gt) = some (.cells (ints .u32 64 (W)) 261)) (fun i _ => 8 - (intOf i).toNat)
   case atStart => exact ⟨0, by omega, rfl, hG, by rw [mix_zero]; exact fa, fb, fr, fS, fC, ft⟩
   case round =>
    clear fa lfa fb lfb fr lfr fS lfS fC lfC ft lft hG
    obtain ⟨k, hk, rfl, hG, fa, fb, fr, fS, fC, ft⟩ := hrel
    have lfa := lt_of_objAt fa
    have lfb := lt_of_objAt fb
    have lfr := lt_of_objAt fr
    have lfS := lt_of_objAt fS
    have lfC := lt_of_objAt fC
    have lft := lt_of_objAt ft
    by_cases hlt : k < 8
    ·have ba := hA k hlt
     have bs := hs k hlt
     unfold W32 at ba bs
     have hmx := mix_at F A k
     have e := F8.out k
     have S : Hid (upd (mix F A k) k (F k) = mix F A (k + 1)) := mix_succ F A k
     go_wp2
     go_roundw
     case rel => exact ⟨k + 1, by omega, by go_num, by exact grew_auto, by rw [← S.out]; exact keep_row _ fa, by exact keep_auto, by exact keep_auto, by exact keep_auto, by exact keep_auto, by exact keep_auto⟩
     case measure => simp [intOf]; omega
    ·obtain rfl : k = 8 := by omega
     clear hlt
     rw [ints_mix] at fa
     go_wp2
     rw [← hF.out]
     refine ret_row rfl _ 126 _ (0, 0) _ rfl (keep_row _ fr) Tryz.underlying126 rfl (by rw [ints_size]; kernel_rfl) rfl ⟨rfl, by exact grew_auto⟩
end Go.Proofs.YtdoolhbmekahdaaGreatDoor
