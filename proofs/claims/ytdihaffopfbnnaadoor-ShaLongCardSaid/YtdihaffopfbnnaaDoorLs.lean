/- ShaSums, ShaLong. -/
import Derived.Test.YtdihaffopfbnnaaDoorRs
import Derived.Test.YtdihaffopfbnnaaDoorMa
namespace Go.Proofs.YtdihaffopfbnnaaDoor
open Go.RowKit
set_option linter.unusedVariables false
set_option linter.unusedSimpArgs false

attribute [local irreducible] strOf shaF zerosB padB fullB hashT
set_option maxRecDepth 100000 in
set_option maxHeartbeats 4000000 in
theorem sums7_any (s : ByteArray) (w : World) (hk : s.size ≤ 9223372036854775807) (hT : Tabs w) :
    Calls Tryd.prog 3 #[.string s] w fun e w' => e = .returned (.bool true) ∧ Below w.heap.size w w' := by
  have hTT : Hid (Tabs w) := hT
  clear hT
  by_cases hs5 : s.size ≤ 2000
  case neg =>
    have hs6 : 2000 < s.size := by omega
    have hG := Grew.refl w
    go_enter Tryd.func3, Tryd.ntmps3
    go_wp2_with fail
    (refine (awake7_any _ hTT.out).mono ?_; rintro e w1 ⟨rfl, hb⟩; replace hG : Below w.heap.size w w1 := Grew.trans (by (repeat (first | assumption | exact Grew.refl _ | refine Grew.more ?_ _ | refine Grew.alloc ?_ _ | refine Grew.drewN ?_ _ | refine Grew.setRow ?_ _ _ (by omega) | refine Grew.setRow ?_ _ _ (by simp; omega) | refine Grew.setRow ?_ _ _ (by simp)))) hb; clear hb)
    go_wp2
    go_ret
    exact ⟨rfl, by (repeat (first | assumption | exact Grew.refl _ | refine Grew.more ?_ _ | refine Grew.alloc ?_ _ | refine Grew.drewN ?_ _ | refine Grew.setRow ?_ _ _ (by omega) | refine Grew.setRow ?_ _ _ (by simp; omega) | refine Grew.setRow ?_ _ _ (by simp)))⟩
  have c1 : ∀ (g : Nat) (W : World), objAt W g = some (.cells #[.string s] 9) → Tabs W → Calls Tryd.prog 10 #[.slice (some ⟨g, 0, none⟩) 1 1] W fun e w' => e = .returned (.agg (ints .u8 32 (shaF s))) ∧ Below W.heap.size W w' := fun g W h hT => sum_one s g _ _ W (by omega) h hT
  have c2 : ∀ W : World, Calls Tryd.prog 11 #[.string s] W fun e w' => e = .returned (.agg (ints .u8 32 (shaF s))) ∧ Below W.heap.size W w' := fun W => refsum_any s W (by omega)
  have c3 : ∀ (g : Nat) (W : World), objAt W g = some (.cells #[.string s] 9) → Tabs W → Calls Tryd.prog 13 #[.agg (hashB ByteArray.empty), .slice (some ⟨g, 0, none⟩) 1 1] W fun e w' => e = .returned (.agg (hashB s)) ∧ Below W.heap.size W w' := fun g W h hT => by
    have := write_one ByteArray.empty s g _ _ W (by show 0 + _ < _; omega) h hT
    rw [ByteArray.empty_append] at this
    exact this
  have c4 := fun W : World => len_b s W
  have hmb := same_refl 32 (shaF s)
  generalize shaF s = X at *
  have hG := Grew.refl w
  go_enter Tryd.func3, Tryd.ntmps3
  go_wp2_with fail
  (refine (awake7_any _ hTT.out).mono ?_; rintro e w1 ⟨rfl, hb⟩; replace hG : Below w.heap.size w w1 := Grew.trans (by (repeat (first | assumption | exact Grew.refl _ | refine Grew.more ?_ _ | refine Grew.alloc ?_ _ | refine Grew.drewN ?_ _ | refine Grew.setRow ?_ _ _ (by omega) | refine Grew.setRow ?_ _ _ (by simp; omega) | refine Grew.setRow ?_ _ _ (by simp)))) hb; clear hb)
  go_wp2_with fail
  have fx : objAt (w1.alloc (.cells #[.string (s)] 9)) w1.heap.size = some (.cells #[.string (s)] 9) := objAt_alloc_at _ _ _ rfl
  replace hG : Below w.heap.size w (w1.alloc (.cells #[.string (s)] 9)) := Grew.alloc hG _
  generalize w1.alloc (.cells #[.string (s)] 9) = w2 at *
  generalize w1.heap.size = gx at *
  have lfx := lt_of_objAt fx
  go_wp2_with fail
  (refine (c1 _ _ fx (hTT.out.later hG)).mono ?_; rintro e w3 ⟨rfl, hb⟩; replace fx : objAt w3 (gx) = some (.cells #[.string (s)] 9) := keep_below hb (by (repeat (first | assumption | exact objAt_alloc_at _ _ _ rfl | (refine objAt_alloc_at _ _ _ ?_; (simp; done)) | refine keep_alloc _ ?_ | refine keep_drewN _ ?_ | refine keep_more _ ?_ | exact keep_row _ (by assumption) | apply keep_row | refine keep_setRow _ _ ?_ (by first | omega | (simp; omega) | simp)))); have lfx := lt_of_objAt fx; replace hG : Below w.heap.size w w3 := Grew.trans (by (repeat (first | assumption | exact Grew.refl _ | refine Grew.more ?_ _ | refine Grew.alloc ?_ _ | refine Grew.drewN ?_ _ | refine Grew.setRow ?_ _ _ (by omega) | refine Grew.setRow ?_ _ _ (by simp; omega) | refine Grew.setRow ?_ _ _ (by simp)))) hb; clear hb)
  go_wp2_with fail
  (refine (c2 _).mono ?_; rintro e w4 ⟨rfl, hb⟩; replace fx : objAt w4 (gx) = some (.cells #[.string (s)] 9) := keep_below hb (by (repeat (first | assumption | exact objAt_alloc_at _ _ _ rfl | (refine objAt_alloc_at _ _ _ ?_; (simp; done)) | refine keep_alloc _ ?_ | refine keep_drewN _ ?_ | refine keep_more _ ?_ | exact keep_row _ (by assumption) | apply keep_row | refine keep_setRow _ _ ?_ (by first | omega | (simp; omega) | simp)))); have lfx := lt_of_objAt fx; replace hG : Below w.heap.size w w4 := Grew.trans (by (repeat (first | assumption | exact Grew.refl _ | refine Grew.more ?_ _ | refine Grew.alloc ?_ _ | refine Grew.drewN ?_ _ | refine Grew.setRow ?_ _ _ (by omega) | refine Grew.setRow ?_ _ _ (by simp; omega) | refine Grew.setRow ?_ _ _ (by simp)))) hb; clear hb)
  go_wp2_with fail
  (refine (new_b _).mono ?_; rintro e w5 ⟨rfl, hb⟩; replace fx : objAt w5 (gx) = some (.cells #[.string (s)] 9) := keep_below hb (by (repeat (first | assumption | exact objAt_alloc_at _ _ _ rfl | (refine objAt_alloc_at _ _ _ ?_; (simp; done)) | refine keep_alloc _ ?_ | refine keep_drewN _ ?_ | refine keep_more _ ?_ | exact keep_row _ (by assumption) | apply keep_row | refine keep_setRow _ _ ?_ (by first | omega | (simp; omega) | simp)))); have lfx := lt_of_objAt fx; replace hG : Below w.heap.size w w5 := Grew.trans (by (repeat (first | assumption | exact Grew.refl _ | refine Grew.more ?_ _ | refine Grew.alloc ?_ _ | refine Grew.drewN ?_ _ | refine Grew.setRow ?_ _ _ (by omega) | refine Grew.setRow ?_ _ _ (by simp; omega) | refine Grew.setRow ?_ _ _ (by simp)))) hb; clear hb)
  go_wp2_with fail
  have fy : objAt (w5.alloc (.cells #[.string (s)] 9)) w5.heap.size = some (.cells #[.string (s)] 9) := objAt_alloc_at _ _ _ rfl
  replace fx : objAt (w5.alloc (.cells #[.string (s)] 9)) (gx) = some (.cells #[.string (s)] 9) := keep_alloc _ fx
  replace hG : Below w.heap.size w (w5.alloc (.cells #[.string (s)] 9)) := Grew.alloc hG _
  clear lfx
  generalize w5.alloc (.cells #[.string (s)] 9) = w6 at *
  generalize w5.heap.size = gy at *
  have lfx := lt_of_objAt fx
  have lfy := lt_of_objAt fy
  go_wp2_with fail
  (refine (c3 _ _ fy (hTT.out.later hG)).mono ?_; rintro e w7 ⟨rfl, hb⟩; replace fx : objAt w7 (gx) = some (.cells #[.string (s)] 9) := keep_below hb (by (repeat (first | assumption | exact objAt_alloc_at _ _ _ rfl | (refine objAt_alloc_at _ _ _ ?_; (simp; done)) | refine keep_alloc _ ?_ | refine keep_drewN _ ?_ | refine keep_more _ ?_ | exact keep_row _ (by assumption) | apply keep_row | refine keep_setRow _ _ ?_ (by first | omega | (simp; omega) | simp)))); have lfx := lt_of_objAt fx; replace fy : objAt w7 (gy) = some (.cells #[.string (s)] 9) := keep_below hb (by (repeat (first | assumption | exact objAt_alloc_at _ _ _ rfl | (refine objAt_alloc_at _ _ _ ?_; (simp; done)) | refine keep_alloc _ ?_ | refine keep_drewN _ ?_ | refine keep_more _ ?_ | exact keep_row _ (by assumption) | apply keep_row | refine keep_setRow _ _ ?_ (by first | omega | (simp; omega) | simp)))); have lfy := lt_of_objAt fy; replace hG : Below w.heap.size w w7 := Grew.trans (by (repeat (first | assumption | exact Grew.refl _ | refine Grew.more ?_ _ | refine Grew.alloc ?_ _ | refine Grew.drewN ?_ _ | refine Grew.setRow ?_ _ _ (by omega) | refine Grew.setRow ?_ _ _ (by simp; omega) | refine Grew.setRow ?_ _ _ (by simp)))) hb; clear hb)
  go_wp2_with fail
  (refine (c4 _).mono ?_; rintro e w8 ⟨rfl, hb⟩; replace fx : objAt w8 (gx) = some (.cells #[.string (s)] 9) := keep_below hb (by (repeat (first | assumption | exact objAt_alloc_at _ _ _ rfl | (refine objAt_alloc_at _ _ _ ?_; (simp; done)) | refine keep_alloc _ ?_ | refine keep_drewN _ ?_ | refine keep_more _ ?_ | exact keep_row _ (by assumption) | apply keep_row | refine keep_setRow _ _ ?_ (by first | omega | (simp; omega) | simp)))); have lfx := lt_of_objAt fx; replace fy : objAt w8 (gy) = some (.cells #[.string (s)] 9) := keep_below hb (by (repeat (first | assumption | exact objAt_alloc_at _ _ _ rfl | (refine objAt_alloc_at _ _ _ ?_; (simp; done)) | refine keep_alloc _ ?_ | refine keep_drewN _ ?_ | refine keep_more _ ?_ | exact keep_row _ (by assumption) | apply keep_row | refine keep_setRow _ _ ?_ (by first | omega | (simp; omega) | simp)))); have lfy := lt_of_objAt fy; replace hG : Below w.heap.size w w8 := Grew.trans (by (repeat (first | assumption | exact Grew.refl _ | refine Grew.more ?_ _ | refine Grew.alloc ?_ _ | refine Grew.drewN ?_ _ | refine Grew.setRow ?_ _ _ (by omega) | refine Grew.setRow ?_ _ _ (by simp; omega) | refine Grew.setRow ?_ _ _ (by simp)))) hb; clear hb)
  go_wp2
  go_ret
  exact ⟨rfl, by (repeat (first | assumption | exact Grew.refl _ | refine Grew.more ?_ _ | refine Grew.alloc ?_ _ | refine Grew.drewN ?_ _ | refine Grew.setRow ?_ _ _ (by omega) | refine Grew.setRow ?_ _ _ (by simp; omega) | refine Grew.setRow ?_ _ _ (by simp)))⟩
/-- one byte, so often -/
def lonB (c : Int) (n : Nat) : ByteArray := ⟨(Lib.repeatL (strOf 1 fun _ => c).data.toList n).toArray⟩
theorem lonB_size (c : Int) (n : Nat) : (lonB c n).size = n := by
  have h1 : (strOf 1 fun _ => c).data.toList.length = 1 := by
    have : (strOf 1 fun _ => c).data.toList.length = (strOf 1 fun _ => c).size := rfl
    rw [this, strOf_size]
  have h2 : (lonB c n).size = (Lib.repeatL (strOf 1 fun _ => c).data.toList n).length := rfl
  rw [h2, Lib.repeatL_length, h1, Nat.mul_one]
theorem lon_any (c : Int) (n : Nat) (W : World) (hn : n ≤ 140737488355328) : Calls Tryd.prog 17 #[.string (strOf 1 fun _ => c), .int .i64 n] W fun e w' => e = .returned (.string (lonB c n)) ∧ Below W.heap.size W w' :=
  Tryd.strings_Repeat (strOf 1 fun _ => c) n W (by omega) (by rw [strOf_size]; omega)
theorem one_byte (c : Int) : ints .u8 1 (fun _ => c) = #[.int .u8 c] := by unfold ints; rfl
attribute [local irreducible] lonB
set_option maxRecDepth 100000 in
set_option maxHeartbeats 4000000 in
theorem long7_any (c n : Int) (w : World) (hc0 : 0 ≤ c) (hc1 : c ≤ 255) (hn0 : 0 ≤ n) (hn1 : n ≤ 65535) (hT : Tabs w) :
    Calls Tryd.prog 5 #[.int .u8 c, .int .u16 n] w fun e w' => e = .returned (.bool true) ∧ Below w.heap.size w w' := by
  have hTT : Hid (Tabs w) := hT
  clear hT
  obtain ⟨N, rfl⟩ := Int.eq_ofNat_of_zero_le hn0
  obtain ⟨m, hm⟩ : ∃ m, N % 700 = m := ⟨_, rfl⟩
  have hmi : (N : Int) % 700 = (m : Int) := by omega
  have hm7 : m < 700 := by omega
  have hsz := lonB_size c m
  have c0 := fun W : World => lon_any c m W (by omega)
  have c1 : ∀ (g : Nat) (W : World), objAt W g = some (.cells #[.string (lonB c m)] 9) → Tabs W → Calls Tryd.prog 10 #[.slice (some ⟨g, 0, none⟩) 1 1] W fun e w' => e = .returned (.agg (ints .u8 32 (shaF (lonB c m)))) ∧ Below W.heap.size W w' := fun g W h hT => sum_one _ g _ _ W (by omega) h hT
  have c2 : ∀ W : World, Calls Tryd.prog 11 #[.string (lonB c m)] W fun e w' => e = .returned (.agg (ints .u8 32 (shaF (lonB c m)))) ∧ Below W.heap.size W w' := fun W => refsum_any _ W (by omega)
  have hmb := same_refl 32 (shaF (lonB c m))
  have hcv : ∀ W : World, (convert 43 9 (.slice (some ⟨W.heap.size, 0, none⟩) 1 1)).run Tryd.prog (W.alloc (.cells #[.int .u8 c] 5)) = .ok (.string (strOf 1 fun _ => c)) (W.alloc (.cells #[.int .u8 c] 5)) := fun W =>
    run_str (P := Tryd.prog) Tryd.underlying43 Tryd.underlying5 Tryd.underlying9 _ 1 1 1 (fun _ => c) _ (te := 5) (fr := (0, 0)) (by rw [one_byte]; exact objAt_alloc_at _ _ _ rfl) (by omega)
  generalize shaF (lonB c m) = X at *
  generalize lonB c m = S at *
  generalize (strOf 1 fun _ => c) = C1 at *
  clear hm
  have hG := Grew.refl w
  go_enter Tryd.func5, Tryd.ntmps5
  go_wp2_with fail
  (refine (awake7_any _ hTT.out).mono ?_; rintro e w1 ⟨rfl, hb⟩; replace hG : Below w.heap.size w w1 := Grew.trans (by (repeat (first | assumption | exact Grew.refl _ | refine Grew.more ?_ _ | refine Grew.alloc ?_ _ | refine Grew.drewN ?_ _ | refine Grew.setRow ?_ _ _ (by omega) | refine Grew.setRow ?_ _ _ (by simp; omega) | refine Grew.setRow ?_ _ _ (by simp)))) hb; clear hb)
  go_wp2_with fail
  (refine (c0 _).mono ?_; rintro e w2 ⟨rfl, hb⟩; replace hG : Below w.heap.size w w2 := Grew.trans (by (repeat (first | assumption | exact Grew.refl _ | refine Grew.more ?_ _ | refine Grew.alloc ?_ _ | refine Grew.drewN ?_ _ | refine Grew.setRow ?_ _ _ (by omega) | refine Grew.setRow ?_ _ _ (by simp; omega) | refine Grew.setRow ?_ _ _ (by simp)))) hb; clear hb)
  go_wp2_with fail
  have fx : objAt (w2.alloc (.cells #[.string (S)] 9)) w2.heap.size = some (.cells #[.string (S)] 9) := objAt_alloc_at _ _ _ rfl
  replace hG : Below w.heap.size w (w2.alloc (.cells #[.string (S)] 9)) := Grew.alloc hG _
  generalize w2.alloc (.cells #[.string (S)] 9) = w3 at *
  generalize w2.heap.size = gx at *
  have lfx := lt_of_objAt fx
  go_wp2_with fail
  (refine (c1 _ _ fx (hTT.out.later hG)).mono ?_; rintro e w4 ⟨rfl, hb⟩; replace fx : objAt w4 (gx) = some (.cells #[.string (S)] 9) := keep_below hb (by (repeat (first | assumption | exact objAt_alloc_at _ _ _ rfl | (refine objAt_alloc_at _ _ _ ?_; (simp; done)) | refine keep_alloc _ ?_ | refine keep_drewN _ ?_ | refine keep_more _ ?_ | exact keep_row _ (by assumption) | apply keep_row | refine keep_setRow _ _ ?_ (by first | omega | (simp; omega) | simp)))); have lfx := lt_of_objAt fx; replace hG : Below w.heap.size w w4 := Grew.trans (by (repeat (first | assumption | exact Grew.refl _ | refine Grew.more ?_ _ | refine Grew.alloc ?_ _ | refine Grew.drewN ?_ _ | refine Grew.setRow ?_ _ _ (by omega) | refine Grew.setRow ?_ _ _ (by simp; omega) | refine Grew.setRow ?_ _ _ (by simp)))) hb; clear hb)
  go_wp2_with fail
  (refine (c2 _).mono ?_; rintro e w5 ⟨rfl, hb⟩; replace fx : objAt w5 (gx) = some (.cells #[.string (S)] 9) := keep_below hb (by (repeat (first | assumption | exact objAt_alloc_at _ _ _ rfl | (refine objAt_alloc_at _ _ _ ?_; (simp; done)) | refine keep_alloc _ ?_ | refine keep_drewN _ ?_ | refine keep_more _ ?_ | exact keep_row _ (by assumption) | apply keep_row | refine keep_setRow _ _ ?_ (by first | omega | (simp; omega) | simp)))); have lfx := lt_of_objAt fx; replace hG : Below w.heap.size w w5 := Grew.trans (by (repeat (first | assumption | exact Grew.refl _ | refine Grew.more ?_ _ | refine Grew.alloc ?_ _ | refine Grew.drewN ?_ _ | refine Grew.setRow ?_ _ _ (by omega) | refine Grew.setRow ?_ _ _ (by simp; omega) | refine Grew.setRow ?_ _ _ (by simp)))) hb; clear hb)
  go_wp2
  go_ret
  exact ⟨rfl, by (repeat (first | assumption | exact Grew.refl _ | refine Grew.more ?_ _ | refine Grew.alloc ?_ _ | refine Grew.drewN ?_ _ | refine Grew.setRow ?_ _ _ (by omega) | refine Grew.setRow ?_ _ _ (by simp; omega) | refine Grew.setRow ?_ _ _ (by simp)))⟩
end Go.Proofs.YtdihaffopfbnnaaDoor
