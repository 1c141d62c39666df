/- Bytes of a text, changed and handed back: mac.each, mac.Block. -/
import Derived.Test.YtdihaffopfbnnaaDoorSa
namespace Go.Proofs.YtdihaffopfbnnaaDoor
open Go.RowKit
set_option linter.unusedVariables false
set_option linter.unusedSimpArgs false

attribute [local irreducible] strOf shaF zerosB padB fullB hashT
/-! a text's bytes, as an array of the call's own: frozen behind its end -/
def lenB (w : World) (s : ByteArray) : Nat := (bytesRow s (grownCap w s.size 0 5)).size
theorem lenB_le (w : World) (s : ByteArray) : s.size ≤ lenB w s := by
  unfold lenB bytesRow
  have : (s.data.map (fun b => Value.int .u8 b.toNat)).size = s.size := Array.size_map
  rw [Array.size_append, this]; omega
theorem bytesRow_is (w : World) (s : ByteArray) : bytesRow s (grownCap w s.size 0 5) = ints .u8 (lenB w s) (byteAt s) := by
  apply Array.ext_getElem?
  intro i
  have hsz : (s.data.map (fun b => Value.int .u8 b.toNat)).size = s.size := Array.size_map
  by_cases h : i < lenB w s
  · rw [ints_get _ _ _ _ h]
    unfold bytesRow
    by_cases hi : i < s.size
    · rw [Array.getElem?_append_left (by rw [hsz]; exact hi), Array.getElem?_map, ← byteAt_lt s i hi]
      have : s.data[i]? = some s[i] := Array.getElem?_eq_getElem hi
      rw [this]; rfl
    · unfold lenB bytesRow at h
      rw [Array.size_append, hsz, Array.size_replicate] at h
      rw [Array.getElem?_append_right (by rw [hsz]; omega), hsz, Array.getElem?_replicate, if_pos (by omega), byteAt_out s i hi]
  · rw [Array.getElem?_eq_none (by unfold lenB at h; omega), Array.getElem?_eq_none (by rw [ints_size]; omega)]
@[go_sem high] theorem conv_bytes (w : World) (s : ByteArray) : (convert 9 43 (.string s)).run Tryd.prog w = .ok (.slice (some ⟨w.heap.size, 0, none⟩) s.size (grownCap w s.size 0 5)) (w.drew.alloc (.cells (ints .u8 (lenB w s) (byteAt s)) 5 (lenB w s, lenB w s + 1))) := by
  rw [run_bytes_of_string w 9 43 5 s Tryd.underlying9 Tryd.underlying43 Tryd.underlying5, bytesRow_is, ints_size]
@[go_sem] theorem setCellOf_late (w : World) (n i : Nat) (v : Value) (c : Array Value) (t : TypeId) (lo hi : Nat) (h : objAt w n = some (.cells c t (lo, hi))) : setCellOf w n i v (some (.cells c t (lo, hi))) = w.setRow n (c.setIfInBounds i v) := by
  rw [← h, ← setCell_obj]
  unfold objAt at h
  exact setCell_eq_setRow w n i c t (lo, hi) v h
@[go_sem] theorem frozenOf_late (c : Array Value) (t : TypeId) (i lo hi : Nat) (h : i < lo) : frozenOf (some (.cells c t (lo, hi))) i = false := by
  unfold frozenOf
  simp; omega
def eachF (s : ByteArray) (c : Int) : Nat → Int := fun i => bits .xor .u8 (byteAt s i) c
/-- each byte by exclusive or with one -/
def eachB (s : ByteArray) (c : Int) : ByteArray := strOf s.size (eachF s c)
theorem eachB_size (s : ByteArray) (c : Int) : (eachB s c).size = s.size := strOf_size _ _
set_option maxRecDepth 100000 in
set_option maxHeartbeats 4000000 in
theorem each_any (s : ByteArray) (c : Int) (w : World) (hs : s.size ≤ 9223372036854775807) :
    Calls Tryd.prog 40 #[.string s, .int .u8 c] w fun e w' => e = .returned (.string (eachB s c)) ∧ Below w.heap.size w w' := by
  have hb := byteAt_bytes s
  have hN := lenB_le w s
  generalize hL : lenB w s = N at *
  have hF : Hid (∀ i, bits .xor .u8 (byteAt s i) c = eachF s c i) := fun i => rfl
  generalize hC : grownCap w s.size 0 5 = C at *
  go_enter Tryd.func40, Tryd.ntmps40
  go_wp2_with fail
  go_loopw [11] (fun i wr => ∃ k : Nat, k ≤ s.size ∧ i = .int .i64 k ∧ Below w.heap.size w wr ∧ objAt wr w.heap.size = some (.cells (ints .u8 N (mix (eachF s c) (byteAt s) k)) 5 (N, N + 1))) (fun i _ => s.size - (intOf i).toNat)
  case atStart => exact ⟨0, by omega, rfl, by (repeat (first | assumption | exact Grew.refl _ | refine Grew.more ?_ _ | refine Grew.alloc ?_ _ | refine Grew.drewN ?_ _ | refine Grew.setRow ?_ _ _ (by omega) | refine Grew.setRow ?_ _ _ (by simp; omega) | refine Grew.setRow ?_ _ _ (by simp))), by rw [mix_zero]; exact objAt_alloc_at _ _ _ rfl⟩
  case round =>
    obtain ⟨k, hk, rfl, hG, fb⟩ := hrel
    have lfb := lt_of_objAt fb
    by_cases hlt : k < s.size
    · have hkN : k < N := by omega
      have hm := mix_at (eachF s c) (byteAt s) k
      have e := hF.out k
      have S : Hid (upd (mix (eachF s c) (byteAt s) k) k (eachF s c k) = mix (eachF s c) (byteAt s) (k + 1)) := mix_succ _ _ k
      go_wp2
      rw [S.out]
      go_roundw
      case rel => exact ⟨k + 1, by omega, by go_num, by (repeat (first | assumption | exact Grew.refl _ | refine Grew.more ?_ _ | refine Grew.alloc ?_ _ | refine Grew.drewN ?_ _ | refine Grew.setRow ?_ _ _ (by omega) | refine Grew.setRow ?_ _ _ (by simp; omega) | refine Grew.setRow ?_ _ _ (by simp))), keep_row _ fb⟩
      case measure => simp [intOf]; omega
    · obtain rfl : k = s.size := by omega
      clear hlt
      have hc := run_str (P := Tryd.prog) (src := 43) (dst := 9) Tryd.underlying43 Tryd.underlying5 Tryd.underlying9 w.heap.size s.size C N (mix (eachF s c) (byteAt s) s.size) wr fb hN
      rw [show strOf s.size (mix (eachF s c) (byteAt s) s.size) = eachB s c from strOf_congr fun i hi => by simp [mix, hi]] at hc
      go_wp2
      go_ret
      exact ⟨rfl, by (repeat (first | assumption | exact Grew.refl _ | refine Grew.more ?_ _ | refine Grew.alloc ?_ _ | refine Grew.drewN ?_ _ | refine Grew.setRow ?_ _ _ (by omega) | refine Grew.setRow ?_ _ _ (by simp; omega) | refine Grew.setRow ?_ _ _ (by simp)))⟩
theorem each_bytes (s : ByteArray) (c : Nat) (hc : c < 256) (i : Nat) : 0 ≤ eachF s c i ∧ eachF s c i ≤ 255 := by
  obtain ⟨h0, h1⟩ := byteAt_bd s i
  obtain ⟨a, ha, ha2⟩ := u8_nat _ h0 h1
  unfold eachF
  rw [ha, u8_xor a c ha2 hc]
  have hx : a ^^^ c < 2 ^ 8 := Nat.xor_lt_two_pow (by omega) (by omega)
  omega
/-- a key, no longer than a block; .. as a block -/
def shortB (key : ByteArray) : ByteArray := if 64 < key.size then strOf 32 (shaF key) else key
def blockB (key : ByteArray) : ByteArray := shortB key ++ zerosB (64 - (shortB key).size)
theorem blockB_eq (key : ByteArray) : Hid (blockB key = shortB key ++ zerosB (64 - (shortB key).size)) := rfl
theorem short_le (key : ByteArray) : (shortB key).size ≤ 64 := by
  unfold shortB
  split
  · rw [strOf_size]; omega
  · omega
theorem blockB_size (key : ByteArray) : (blockB key).size = 64 := by
  have := short_le key
  unfold blockB
  rw [ByteArray.size_append, zerosB_size]; omega
@[go_sem high] theorem slice_key (w : World) (g : Nat) : (Instr.sliceAt 24 (.pointer (some ⟨g, 0, none⟩)) none none none).run Tryd.prog w = .ok (.slice (some ⟨g, 0, none⟩) 32 32) w := by kernel_rfl
/-- the contracts, for slices of the call's own -/
theorem sum_one (a : ByteArray) (g : Nat) (t : TypeId) (fr : Nat × Nat) (W : World) (hs : a.size < 1152921504606846976) (h : objAt W g = some (.cells #[.string a] t fr)) (hT : Tabs W) :
    Calls Tryd.prog 10 #[.slice (some ⟨g, 0, none⟩) 1 1] W fun e w' => e = .returned (.agg (ints .u8 32 (shaF a))) ∧ Below W.heap.size W w' := by
  have := sumS_any (some ⟨g, 0, none⟩) 1 1 (oneS a) W (by rw [cat_one]; exact hs) (by decide) (strs_one h) hT
  rw [cat_one] at this
  exact this
theorem sum_two (a b : ByteArray) (g : Nat) (t : TypeId) (fr : Nat × Nat) (W : World) (hs : a.size + b.size < 1152921504606846976) (h : objAt W g = some (.cells #[.string a, .string b] t fr)) (hT : Tabs W) :
    Calls Tryd.prog 10 #[.slice (some ⟨g, 0, none⟩) 2 2] W fun e w' => e = .returned (.agg (ints .u8 32 (shaF (a ++ b)))) ∧ Below W.heap.size W w' := by
  have := sumS_any (some ⟨g, 0, none⟩) 2 2 (twoS a b) W (by rw [cat_two, ByteArray.size_append]; exact hs) (by decide) (strs_two h) hT
  rw [cat_two] at this
  exact this
theorem write_one (s a : ByteArray) (g : Nat) (t : TypeId) (fr : Nat × Nat) (W : World) (hs : s.size + a.size < 1152921504606846976) (h : objAt W g = some (.cells #[.string a] t fr)) (hT : Tabs W) :
    Calls Tryd.prog 13 #[.agg (hashB s), .slice (some ⟨g, 0, none⟩) 1 1] W fun e w' => e = .returned (.agg (hashB (s ++ a))) ∧ Below W.heap.size W w' := by
  have := write_b s (some ⟨g, 0, none⟩) 1 1 (oneS a) W (by rw [cat_one]; exact hs) (by decide) (strs_one h) hT
  rw [cat_one] at this
  exact this
theorem block_rest (k : ByteArray) (hk : k.size ≤ 64) : ((64 : Int) - (k.size : Int)) = ((64 - k.size : Nat) : Int) := by omega
attribute [irreducible] eachB shortB blockB eachF
set_option maxRecDepth 100000 in
set_option maxHeartbeats 4000000 in
theorem block_any (key : ByteArray) (w : World) (hk : key.size < 1152921504606846976) (hT : Tabs w) :
    Calls Tryd.prog 21 #[.string key] w fun e w' => e = .returned (.string (blockB key)) ∧ Below w.heap.size w w' := by
  have H := blockB_eq key
  have hTT : Hid (Tabs w) := hT
  clear hT
  by_cases hl : 64 < key.size
  · have e : shortB key = strOf 32 (shaF key) := by unfold shortB; rw [if_pos hl]
    have h32 : (shortB key).size = 32 := by rw [e, strOf_size]
    rw [h32, e] at H
    clear e h32
    have hr := repeat0 32 (by decide)
    have k1 : FitsS (strOf 32 (shaF key)) (zerosB 32) := by unfold FitsS; rw [zerosB_size, strOf_size]; decide
    have hG := Grew.refl w
    go_enter Tryd.func21, Tryd.ntmps21
    go_wp2_with fail
    have fx : objAt (w.alloc (.cells #[.string key] 9)) w.heap.size = some (.cells #[.string key] 9) := objAt_alloc_at _ _ _ rfl
    replace hG : Below w.heap.size w (w.alloc (.cells #[.string key] 9)) := Grew.alloc hG _
    generalize w.alloc (.cells #[.string key] 9) = w1 at *
    have lfx := lt_of_objAt fx
    go_wp2_with fail
    (refine (sum_one key _ _ _ _ hk fx (hTT.out.later hG)).mono ?_; rintro e w2 ⟨rfl, hb⟩; replace fx : objAt w2 (w.heap.size) = some (.cells #[.string key] 9) := keep_below hb (by (repeat (first | assumption | exact objAt_alloc_at _ _ _ rfl | (refine objAt_alloc_at _ _ _ ?_; (simp; done)) | refine keep_alloc _ ?_ | refine keep_drewN _ ?_ | refine keep_more _ ?_ | exact keep_row _ (by assumption) | apply keep_row | refine keep_setRow _ _ ?_ (by first | omega | (simp; omega) | simp)))); have lfx := lt_of_objAt fx; replace hG : Below w.heap.size w w2 := Grew.trans (by (repeat (first | assumption | exact Grew.refl _ | refine Grew.more ?_ _ | refine Grew.alloc ?_ _ | refine Grew.drewN ?_ _ | refine Grew.setRow ?_ _ _ (by omega) | refine Grew.setRow ?_ _ _ (by simp; omega) | refine Grew.setRow ?_ _ _ (by simp)))) hb; clear hb)
    go_wp2_with fail
    have fk : objAt (w2.alloc (.cells (ints .u8 32 (shaF key)) 24)) w2.heap.size = some (.cells (ints .u8 32 (shaF key)) 24) := objAt_alloc_at _ _ _ rfl
    replace fx : objAt (w2.alloc (.cells (ints .u8 32 (shaF key)) 24)) (w.heap.size) = some (.cells #[.string key] 9) := keep_alloc _ fx
    replace hG : Below w.heap.size w (w2.alloc (.cells (ints .u8 32 (shaF key)) 24)) := Grew.alloc hG _
    clear lfx
    generalize w2.alloc (.cells (ints .u8 32 (shaF key)) 24) = w3 at *
    generalize w2.heap.size = gk at *
    have lfx := lt_of_objAt fx
    have lfk := lt_of_objAt fk
    have hc := run_str (P := Tryd.prog) (src := 43) (dst := 9) Tryd.underlying43 Tryd.underlying5 Tryd.underlying9 gk 32 32 32 (shaF key) w3 fk (by omega)
    go_wp2_with fail
    rw [hc]
    go_wp2_with fail
    (refine (hr _).mono ?_; rintro e w4 ⟨rfl, hb⟩; replace fx : objAt w4 (w.heap.size) = some (.cells #[.string key] 9) := keep_below hb (by (repeat (first | assumption | exact objAt_alloc_at _ _ _ rfl | (refine objAt_alloc_at _ _ _ ?_; (simp; done)) | refine keep_alloc _ ?_ | refine keep_drewN _ ?_ | refine keep_more _ ?_ | exact keep_row _ (by assumption) | apply keep_row | refine keep_setRow _ _ ?_ (by first | omega | (simp; omega) | simp)))); have lfx := lt_of_objAt fx; replace fk : objAt w4 (gk) = some (.cells (ints .u8 32 (shaF key)) 24) := keep_below hb (by (repeat (first | assumption | exact objAt_alloc_at _ _ _ rfl | (refine objAt_alloc_at _ _ _ ?_; (simp; done)) | refine keep_alloc _ ?_ | refine keep_drewN _ ?_ | refine keep_more _ ?_ | exact keep_row _ (by assumption) | apply keep_row | refine keep_setRow _ _ ?_ (by first | omega | (simp; omega) | simp)))); have lfk := lt_of_objAt fk; replace hG : Below w.heap.size w w4 := Grew.trans (by (repeat (first | assumption | exact Grew.refl _ | refine Grew.more ?_ _ | refine Grew.alloc ?_ _ | refine Grew.drewN ?_ _ | refine Grew.setRow ?_ _ _ (by omega) | refine Grew.setRow ?_ _ _ (by simp; omega) | refine Grew.setRow ?_ _ _ (by simp)))) hb; clear hb)
    go_wp2
    go_ret
    rw [H.out]
    exact ⟨rfl, by (repeat (first | assumption | exact Grew.refl _ | refine Grew.more ?_ _ | refine Grew.alloc ?_ _ | refine Grew.drewN ?_ _ | refine Grew.setRow ?_ _ _ (by omega) | refine Grew.setRow ?_ _ _ (by simp; omega) | refine Grew.setRow ?_ _ _ (by simp)))⟩
  · have e : shortB key = key := by unfold shortB; rw [if_neg hl]
    rw [e] at H
    clear e
    obtain ⟨z, hz⟩ : ∃ z, 64 - key.size = z := ⟨_, rfl⟩
    have hzi : (64 : Int) - (key.size : Int) = (z : Int) := by omega
    have hz64 : z ≤ 64 := by omega
    rw [hz] at H
    have hr := repeat0 z (by omega)
    have k1 : FitsS key (zerosB z) := by unfold FitsS; rw [zerosB_size]; omega
    clear hz
    have hG := Grew.refl w
    go_enter Tryd.func21, Tryd.ntmps21
    go_wp2_with fail
    (refine (hr _).mono ?_; rintro e w1 ⟨rfl, hb⟩; replace hG : Below w.heap.size w w1 := Grew.trans (by (repeat (first | assumption | exact Grew.refl _ | refine Grew.more ?_ _ | refine Grew.alloc ?_ _ | refine Grew.drewN ?_ _ | refine Grew.setRow ?_ _ _ (by omega) | refine Grew.setRow ?_ _ _ (by simp; omega) | refine Grew.setRow ?_ _ _ (by simp)))) hb; clear hb)
    go_wp2
    go_ret
    rw [H.out]
    exact ⟨rfl, by (repeat (first | assumption | exact Grew.refl _ | refine Grew.more ?_ _ | refine Grew.alloc ?_ _ | refine Grew.drewN ?_ _ | refine Grew.setRow ?_ _ _ (by omega) | refine Grew.setRow ?_ _ _ (by simp; omega) | refine Grew.setRow ?_ _ _ (by simp)))⟩
end Go.Proofs.YtdihaffopfbnnaaDoor
