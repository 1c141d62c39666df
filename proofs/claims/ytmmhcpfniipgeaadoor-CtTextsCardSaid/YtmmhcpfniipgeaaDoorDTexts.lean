/- The law CtTexts answers true, and turns nothing that was there. -/
import Derived.Test.YtmmhcpfniipgeaaDoorDRef
import Derived.Test.YtmmhcpfniipgeaaDoorDRefHex
import Derived.Test.YtmmhcpfniipgeaaDoorDAwake
namespace Go.Proofs.YtmmhcpfniipgeaaDoor
open Go.RowKit
set_option linter.unusedVariables false
set_option linter.unusedSimpArgs false
theorem dig_bd (n : Int) (h0 : 0 ≤ n) (h1 : n < 16) : 0 ≤ dig n ∧ dig n < 128 := by unfold dig; split <;> omega
theorem hexd_bd (a : Nat → Int) (ha : Bytes 32 a) (i : Nat) (hi : i < 64) : 0 ≤ hexd a i ∧ hexd a i < 128 := by
  have h := ha (i / 2) (by omega)
  unfold hexd
  split
  · exact dig_bd _ (by omega) (by omega)
  · exact dig_bd _ (by omega) (by omega)
theorem byteAt_list (t : ByteArray) (L : List UInt8) (ht : t.data.toList = L) (i : Nat) (b : UInt8) (hb : L[i]? = some b) : byteAt t i = (b.toNat : Int) := by
  subst ht
  rw [Array.getElem?_toList] at hb
  obtain ⟨hi, e⟩ := Array.getElem?_eq_some_iff.1 hb
  have hlt : i < t.size := hi
  rw [← byteAt_lt t i hlt, ← e]
  rfl
theorem text_is (a : Nat → Int) (g : Int → UInt8) (t : ByteArray) (ha : Bytes 32 a) (ht : t.data.toList = (List.range 64).map fun i => g (hexd a i))
    (hg : ∀ n : Int, 0 ≤ n → n < 16 → dgt ((g (dig n)).toNat : Int) = true ∧ wth ((g (dig n)).toNat : Int) = n) : okD t = true ∧ same 32 (keyD t) a = true := by
  have hb : ∀ i, i < 64 → byteAt t i = ((g (hexd a i)).toNat : Int) := fun i hi => byteAt_list t _ ht i _ (by simp [hi])
  have hsz : t.size = 64 := by
    have := congrArg List.length ht
    simpa using this
  have hp : ∀ i, i < 32 → byteAt t (2 * i) = ((g (dig (a i / 16))).toNat : Int) ∧ byteAt t (2 * i + 1) = ((g (dig (a i % 16))).toNat : Int) := fun i hi =>
    ⟨by rw [hb _ (by omega), hexd_even], by rw [hb _ (by omega), hexd_odd]⟩
  have hok : okD t = true := (okD_iff t).2 ⟨hsz, fun i hi => by
    have h := ha i hi
    unfold okAt
    rw [(hp i hi).1, (hp i hi).2, (hg _ (by omega) (by omega)).1, (hg _ (by omega) (by omega)).1]
    rfl⟩
  refine ⟨hok, (same_iff _ _ _).2 fun i hi => ?_⟩
  have h := ha i hi
  rw [key_yes hok, keyF_at, (hp i hi).1, (hp i hi).2, (hg _ (by omega) (by omega)).2, (hg _ (by omega) (by omega)).2]
  omega
theorem low_digs : ∀ n : Fin 16, dgt ((UInt8.ofNat (dig (n.val : Int)).toNat).toNat : Int) = true ∧ wth ((UInt8.ofNat (dig (n.val : Int)).toNat).toNat : Int) = n.val := by decide +kernel
theorem great_digs : ∀ n : Fin 16, dgt ((Lib.upperB (UInt8.ofNat (dig (n.val : Int)).toNat)).toNat : Int) = true ∧ wth ((Lib.upperB (UInt8.ofNat (dig (n.val : Int)).toNat)).toNat : Int) = n.val := by decide +kernel
theorem low_at (n : Int) (h0 : 0 ≤ n) (h1 : n < 16) : dgt ((UInt8.ofNat (dig n).toNat).toNat : Int) = true ∧ wth ((UInt8.ofNat (dig n).toNat).toNat : Int) = n := by
  have := low_digs ⟨n.toNat, by omega⟩
  rwa [show ((n.toNat : Nat) : Int) = n from Int.toNat_of_nonneg h0] at this
theorem great_at (n : Int) (h0 : 0 ≤ n) (h1 : n < 16) : dgt ((Lib.upperB (UInt8.ofNat (dig n).toNat)).toNat : Int) = true ∧ wth ((Lib.upperB (UInt8.ofNat (dig n).toNat)).toNat : Int) = n := by
  have := great_digs ⟨n.toNat, by omega⟩
  rwa [show ((n.toNat : Nat) : Int) = n from Int.toNat_of_nonneg h0] at this
theorem hex_list (a : Nat → Int) : (strOf 64 (hexd a)).data.toList = (List.range 64).map fun i => UInt8.ofNat (hexd a i).toNat := by
  rw [← toList_data, strOf_list]
theorem hex_back (a : Nat → Int) (ha : Bytes 32 a) : okD (strOf 64 (hexd a)) = true ∧ same 32 (keyD (strOf 64 (hexd a))) a = true :=
  text_is a (fun x => UInt8.ofNat x.toNat) _ ha (hex_list a) low_at
theorem great_back (a : Nat → Int) (ha : Bytes 32 a) : okD ⟨(Lib.toUpperA (strOf 64 (hexd a)).data.toList).toArray⟩ = true ∧ same 32 (keyD ⟨(Lib.toUpperA (strOf 64 (hexd a)).data.toList).toArray⟩) a = true :=
  text_is a (fun x => Lib.upperB (UInt8.ofNat x.toNat)) _ ha (by
    rw [hex_list]
    simp [Lib.toUpperA]) great_at
theorem hex_ascii (a : Nat → Int) (ha : Bytes 32 a) : ∀ (j : Nat) (b : UInt8), (strOf 64 (hexd a)).data.toList[j]? = some b → b.toNat < 128 := by
  intro j b hb
  rw [hex_list] at hb
  have hj : j < 64 := by
    have := (List.getElem?_eq_some_iff.1 hb).1
    simpa using this
  have hd := hexd_bd a ha j hj
  have e : b = UInt8.ofNat (hexd a j).toNat := by simpa [hj] using hb.symm
  subst e
  have h2 : (hexd a j).toNat < 128 := by omega
  simp [UInt8.toNat_ofNat']
  omega
set_option maxHeartbeats 2000000 in
theorem texts_walk (k A B C : Nat → Int) (H U s : ByteArray) (c : Bool) (w : World) (hk : Bytes 32 k) (sA : same 32 A k = true) (sB : same 32 B k = true) (hH : (H.toList == H.toList) = true) (hc : (c == c) = true)
    (c1 : ∀ w, Calls Tryd.prog 6 #[.agg (ints .u8 32 k)] w fun e w' => e = .returned (.string H) ∧ Below w.heap.size w w')
    (c2 : ∀ w, Calls Tryd.prog 9 #[.agg (ints .u8 32 k)] w fun e w' => e = .returned (.string H) ∧ Below w.heap.size w w')
    (c3 : ∀ w, Calls Tryd.prog 5 #[.string H] w fun e w' => e = .returned (.tuple #[.agg (ints .u8 32 A), .bool true]) ∧ Below w.heap.size w w')
    (c4 : ∀ w, Calls Tryd.prog 7 #[.string H] w fun e w' => e = .returned (.string U) ∧ Below w.heap.size w w')
    (c5 : ∀ w, Calls Tryd.prog 5 #[.string U] w fun e w' => e = .returned (.tuple #[.agg (ints .u8 32 B), .bool true]) ∧ Below w.heap.size w w')
    (c6 : ∀ w, Calls Tryd.prog 5 #[.string s] w fun e w' => e = .returned (.tuple #[.agg (ints .u8 32 C), .bool c]) ∧ Below w.heap.size w w')
    (c7 : ∀ w, Calls Tryd.prog 8 #[.string s] w fun e w' => e = .returned (.tuple #[.agg (ints .u8 32 C), .bool c]) ∧ Below w.heap.size w w') :
    Calls Tryd.prog 3 #[.agg (ints .u8 32 k), .string s] w fun e w' => e = .returned (.bool true) ∧ Below w.heap.size w w' := by
  have hG := Grew.refl w
  have sC := same_refl 32 C
  have f0 : True := trivial
  go_enter Tryd.func3, Tryd.ntmps3
  go_wp2_with fail
  (refine (awake_any _).mono ?_; rintro e w1 ⟨rfl, hb⟩; replace f0 : objAt w1 (w.heap.size) = some (.cells (ints .u8 32 k) 23) := keep_below hb (by (repeat (first | assumption | exact objAt_alloc_at _ _ _ rfl | (refine objAt_alloc_at _ _ _ ?_; (simp; done)) | refine keep_alloc _ ?_ | refine keep_drewN _ ?_ | refine keep_more _ ?_ | exact keep_row _ (by assumption) | refine keep_setRow _ _ ?_ (by first | omega | (simp; omega) | simp)))); have lf0 := lt_of_objAt f0; replace hG : Below w.heap.size w w1 := Grew.trans (by (repeat (first | assumption | exact Grew.refl _ | refine Grew.more ?_ _ | refine Grew.alloc ?_ _ | refine Grew.drewN ?_ _ | refine Grew.setRow ?_ _ _ (by omega) | refine Grew.setRow ?_ _ _ (by simp; omega) | refine Grew.setRow ?_ _ _ (by simp)))) hb; clear hb)
  go_wp2_with fail
  · go_ret
    exact ⟨rfl, by (repeat (first | assumption | exact Grew.refl _ | refine Grew.more ?_ _ | refine Grew.alloc ?_ _ | refine Grew.drewN ?_ _ | refine Grew.setRow ?_ _ _ (by omega) | refine Grew.setRow ?_ _ _ (by simp; omega) | refine Grew.setRow ?_ _ _ (by simp)))⟩
  · (refine (c1 _).mono ?_; rintro e w2 ⟨rfl, hb⟩; replace f0 : objAt w2 (w.heap.size) = some (.cells (ints .u8 32 k) 23) := keep_below hb (by (repeat (first | assumption | exact objAt_alloc_at _ _ _ rfl | (refine objAt_alloc_at _ _ _ ?_; (simp; done)) | refine keep_alloc _ ?_ | refine keep_drewN _ ?_ | refine keep_more _ ?_ | exact keep_row _ (by assumption) | refine keep_setRow _ _ ?_ (by first | omega | (simp; omega) | simp)))); have lf0 := lt_of_objAt f0; replace hG : Below w.heap.size w w2 := Grew.trans (by (repeat (first | assumption | exact Grew.refl _ | refine Grew.more ?_ _ | refine Grew.alloc ?_ _ | refine Grew.drewN ?_ _ | refine Grew.setRow ?_ _ _ (by omega) | refine Grew.setRow ?_ _ _ (by simp; omega) | refine Grew.setRow ?_ _ _ (by simp)))) hb; clear hb)
    go_wp2_with fail
    (refine (c3 _).mono ?_; rintro e w3 ⟨rfl, hb⟩; replace f0 : objAt w3 (w.heap.size) = some (.cells (ints .u8 32 k) 23) := keep_below hb (by (repeat (first | assumption | exact objAt_alloc_at _ _ _ rfl | (refine objAt_alloc_at _ _ _ ?_; (simp; done)) | refine keep_alloc _ ?_ | refine keep_drewN _ ?_ | refine keep_more _ ?_ | exact keep_row _ (by assumption) | refine keep_setRow _ _ ?_ (by first | omega | (simp; omega) | simp)))); have lf0 := lt_of_objAt f0; replace hG : Below w.heap.size w w3 := Grew.trans (by (repeat (first | assumption | exact Grew.refl _ | refine Grew.more ?_ _ | refine Grew.alloc ?_ _ | refine Grew.drewN ?_ _ | refine Grew.setRow ?_ _ _ (by omega) | refine Grew.setRow ?_ _ _ (by simp; omega) | refine Grew.setRow ?_ _ _ (by simp)))) hb; clear hb)
    have fA : True := trivial
    go_wp2_with fail
    (refine (c1 _).mono ?_; rintro e w4 ⟨rfl, hb⟩; replace f0 : objAt w4 (w.heap.size) = some (.cells (ints .u8 32 k) 23) := keep_below hb (by (repeat (first | assumption | exact objAt_alloc_at _ _ _ rfl | (refine objAt_alloc_at _ _ _ ?_; (simp; done)) | refine keep_alloc _ ?_ | refine keep_drewN _ ?_ | refine keep_more _ ?_ | exact keep_row _ (by assumption) | refine keep_setRow _ _ ?_ (by first | omega | (simp; omega) | simp)))); have lf0 := lt_of_objAt f0; replace fA : objAt w4 (w3.heap.size) = some (.cells (ints .u8 32 A) 23) := keep_below hb (by (repeat (first | assumption | exact objAt_alloc_at _ _ _ rfl | (refine objAt_alloc_at _ _ _ ?_; (simp; done)) | refine keep_alloc _ ?_ | refine keep_drewN _ ?_ | refine keep_more _ ?_ | exact keep_row _ (by assumption) | refine keep_setRow _ _ ?_ (by first | omega | (simp; omega) | simp)))); have lfA := lt_of_objAt fA; replace hG : Below w.heap.size w w4 := Grew.trans (by (repeat (first | assumption | exact Grew.refl _ | refine Grew.more ?_ _ | refine Grew.alloc ?_ _ | refine Grew.drewN ?_ _ | refine Grew.setRow ?_ _ _ (by omega) | refine Grew.setRow ?_ _ _ (by simp; omega) | refine Grew.setRow ?_ _ _ (by simp)))) hb; clear hb)
    go_wp2_with fail
    (refine (c4 _).mono ?_; rintro e w5 ⟨rfl, hb⟩; replace f0 : objAt w5 (w.heap.size) = some (.cells (ints .u8 32 k) 23) := keep_below hb (by (repeat (first | assumption | exact objAt_alloc_at _ _ _ rfl | (refine objAt_alloc_at _ _ _ ?_; (simp; done)) | refine keep_alloc _ ?_ | refine keep_drewN _ ?_ | refine keep_more _ ?_ | exact keep_row _ (by assumption) | refine keep_setRow _ _ ?_ (by first | omega | (simp; omega) | simp)))); have lf0 := lt_of_objAt f0; replace fA : objAt w5 (w3.heap.size) = some (.cells (ints .u8 32 A) 23) := keep_below hb (by (repeat (first | assumption | exact objAt_alloc_at _ _ _ rfl | (refine objAt_alloc_at _ _ _ ?_; (simp; done)) | refine keep_alloc _ ?_ | refine keep_drewN _ ?_ | refine keep_more _ ?_ | exact keep_row _ (by assumption) | refine keep_setRow _ _ ?_ (by first | omega | (simp; omega) | simp)))); have lfA := lt_of_objAt fA; replace hG : Below w.heap.size w w5 := Grew.trans (by (repeat (first | assumption | exact Grew.refl _ | refine Grew.more ?_ _ | refine Grew.alloc ?_ _ | refine Grew.drewN ?_ _ | refine Grew.setRow ?_ _ _ (by omega) | refine Grew.setRow ?_ _ _ (by simp; omega) | refine Grew.setRow ?_ _ _ (by simp)))) hb; clear hb)
    go_wp2_with fail
    (refine (c5 _).mono ?_; rintro e w6 ⟨rfl, hb⟩; replace f0 : objAt w6 (w.heap.size) = some (.cells (ints .u8 32 k) 23) := keep_below hb (by (repeat (first | assumption | exact objAt_alloc_at _ _ _ rfl | (refine objAt_alloc_at _ _ _ ?_; (simp; done)) | refine keep_alloc _ ?_ | refine keep_drewN _ ?_ | refine keep_more _ ?_ | exact keep_row _ (by assumption) | refine keep_setRow _ _ ?_ (by first | omega | (simp; omega) | simp)))); have lf0 := lt_of_objAt f0; replace fA : objAt w6 (w3.heap.size) = some (.cells (ints .u8 32 A) 23) := keep_below hb (by (repeat (first | assumption | exact objAt_alloc_at _ _ _ rfl | (refine objAt_alloc_at _ _ _ ?_; (simp; done)) | refine keep_alloc _ ?_ | refine keep_drewN _ ?_ | refine keep_more _ ?_ | exact keep_row _ (by assumption) | refine keep_setRow _ _ ?_ (by first | omega | (simp; omega) | simp)))); have lfA := lt_of_objAt fA; replace hG : Below w.heap.size w w6 := Grew.trans (by (repeat (first | assumption | exact Grew.refl _ | refine Grew.more ?_ _ | refine Grew.alloc ?_ _ | refine Grew.drewN ?_ _ | refine Grew.setRow ?_ _ _ (by omega) | refine Grew.setRow ?_ _ _ (by simp; omega) | refine Grew.setRow ?_ _ _ (by simp)))) hb; clear hb)
    have fB : True := trivial
    go_wp2_with fail
    (refine (c6 _).mono ?_; rintro e w7 ⟨rfl, hb⟩; replace f0 : objAt w7 (w.heap.size) = some (.cells (ints .u8 32 k) 23) := keep_below hb (by (repeat (first | assumption | exact objAt_alloc_at _ _ _ rfl | (refine objAt_alloc_at _ _ _ ?_; (simp; done)) | refine keep_alloc _ ?_ | refine keep_drewN _ ?_ | refine keep_more _ ?_ | exact keep_row _ (by assumption) | refine keep_setRow _ _ ?_ (by first | omega | (simp; omega) | simp)))); have lf0 := lt_of_objAt f0; replace fA : objAt w7 (w3.heap.size) = some (.cells (ints .u8 32 A) 23) := keep_below hb (by (repeat (first | assumption | exact objAt_alloc_at _ _ _ rfl | (refine objAt_alloc_at _ _ _ ?_; (simp; done)) | refine keep_alloc _ ?_ | refine keep_drewN _ ?_ | refine keep_more _ ?_ | exact keep_row _ (by assumption) | refine keep_setRow _ _ ?_ (by first | omega | (simp; omega) | simp)))); have lfA := lt_of_objAt fA; replace fB : objAt w7 (w6.heap.size) = some (.cells (ints .u8 32 B) 23) := keep_below hb (by (repeat (first | assumption | exact objAt_alloc_at _ _ _ rfl | (refine objAt_alloc_at _ _ _ ?_; (simp; done)) | refine keep_alloc _ ?_ | refine keep_drewN _ ?_ | refine keep_more _ ?_ | exact keep_row _ (by assumption) | refine keep_setRow _ _ ?_ (by first | omega | (simp; omega) | simp)))); have lfB := lt_of_objAt fB; replace hG : Below w.heap.size w w7 := Grew.trans (by (repeat (first | assumption | exact Grew.refl _ | refine Grew.more ?_ _ | refine Grew.alloc ?_ _ | refine Grew.drewN ?_ _ | refine Grew.setRow ?_ _ _ (by omega) | refine Grew.setRow ?_ _ _ (by simp; omega) | refine Grew.setRow ?_ _ _ (by simp)))) hb; clear hb)
    have fC : True := trivial
    go_wp2_with fail
    (refine (c7 _).mono ?_; rintro e w8 ⟨rfl, hb⟩; replace f0 : objAt w8 (w.heap.size) = some (.cells (ints .u8 32 k) 23) := keep_below hb (by (repeat (first | assumption | exact objAt_alloc_at _ _ _ rfl | (refine objAt_alloc_at _ _ _ ?_; (simp; done)) | refine keep_alloc _ ?_ | refine keep_drewN _ ?_ | refine keep_more _ ?_ | exact keep_row _ (by assumption) | refine keep_setRow _ _ ?_ (by first | omega | (simp; omega) | simp)))); have lf0 := lt_of_objAt f0; replace fA : objAt w8 (w3.heap.size) = some (.cells (ints .u8 32 A) 23) := keep_below hb (by (repeat (first | assumption | exact objAt_alloc_at _ _ _ rfl | (refine objAt_alloc_at _ _ _ ?_; (simp; done)) | refine keep_alloc _ ?_ | refine keep_drewN _ ?_ | refine keep_more _ ?_ | exact keep_row _ (by assumption) | refine keep_setRow _ _ ?_ (by first | omega | (simp; omega) | simp)))); have lfA := lt_of_objAt fA; replace fB : objAt w8 (w6.heap.size) = some (.cells (ints .u8 32 B) 23) := keep_below hb (by (repeat (first | assumption | exact objAt_alloc_at _ _ _ rfl | (refine objAt_alloc_at _ _ _ ?_; (simp; done)) | refine keep_alloc _ ?_ | refine keep_drewN _ ?_ | refine keep_more _ ?_ | exact keep_row _ (by assumption) | refine keep_setRow _ _ ?_ (by first | omega | (simp; omega) | simp)))); have lfB := lt_of_objAt fB; replace fC : objAt w8 (w7.heap.size) = some (.cells (ints .u8 32 C) 23) := keep_below hb (by (repeat (first | assumption | exact objAt_alloc_at _ _ _ rfl | (refine objAt_alloc_at _ _ _ ?_; (simp; done)) | refine keep_alloc _ ?_ | refine keep_drewN _ ?_ | refine keep_more _ ?_ | exact keep_row _ (by assumption) | refine keep_setRow _ _ ?_ (by first | omega | (simp; omega) | simp)))); have lfC := lt_of_objAt fC; replace hG : Below w.heap.size w w8 := Grew.trans (by (repeat (first | assumption | exact Grew.refl _ | refine Grew.more ?_ _ | refine Grew.alloc ?_ _ | refine Grew.drewN ?_ _ | refine Grew.setRow ?_ _ _ (by omega) | refine Grew.setRow ?_ _ _ (by simp; omega) | refine Grew.setRow ?_ _ _ (by simp)))) hb; clear hb)
    go_wp2_with fail
    ((first | (with_reducible refine wp_region_on (by kernel_rfl) (by kernel_rfl) ?_) | refine wp_region_more (by kernel_rfl) (by kernel_rfl) ?_); (repeat (first | go_big_quiet_skip | (go_big_quiet_want; go_big_quiet_op; first | go_big_quiet_on | (apply Exists.intro; refine ⟨fun _ => ?_, ?_⟩; (focus (first | (with_reducible exact Calls.of_more (c1 _)) | (with_reducible exact Calls.of_more (c2 _)))); go_big_quiet_on)))); refine wpQuiet_nil ?_; rintro _ ⟨mq, rfl⟩)
    go_wp2
    go_ret
    exact ⟨rfl, by (repeat (first | assumption | exact Grew.refl _ | refine Grew.more ?_ _ | refine Grew.alloc ?_ _ | refine Grew.drewN ?_ _ | refine Grew.setRow ?_ _ _ (by omega) | refine Grew.setRow ?_ _ _ (by simp; omega) | refine Grew.setRow ?_ _ _ (by simp)))⟩
theorem texts_any (k : Nat → Int) (s : ByteArray) (w : World) (hk : Bytes 32 k) :
    Calls Tryd.prog 3 #[.agg (ints .u8 32 k), .string s] w fun e w' => e = .returned (.bool true) ∧ Below w.heap.size w w' := by
  have h1 := hex_back k hk
  have h2 := great_back k hk
  refine texts_walk k _ _ _ _ _ s _ w hk h1.2 h2.2 (beq_self_eq_true _) (beq_self_eq_true _) (fun w => hex_any k w hk) (fun w => refHex_any k w hk) (fun w => ?_) (fun w => Tryd.strings_ToUpper_ascii _ w ?_ (hex_ascii k hk)) (fun w => ?_) (fun w => parse_any s w) (fun w => refParse_any s w)
  · have := parse_any (strOf 64 (hexd k)) w
    rwa [h1.1] at this
  · rw [size_strOf]; decide
  · have := parse_any ⟨(Lib.toUpperA (strOf 64 (hexd k)).data.toList).toArray⟩ w
    rwa [h2.1] at this
end Go.Proofs.YtmmhcpfniipgeaaDoor
