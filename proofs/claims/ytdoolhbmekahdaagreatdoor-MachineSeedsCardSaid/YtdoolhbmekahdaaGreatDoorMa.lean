/- Ma -/
import Derived.Test.YtdoolhbmekahdaaGreatDoorOw
import Derived.Test.YtdoolhbmekahdaaGreatDoorSa
import Derived.SliceStrings
import Derived.Deep.DeepHandedRow
set_option maxRecDepth 100000
set_option maxHeartbeats 4000000
namespace Go.Proofs.YtdoolhbmekahdaaGreatDoor
open Go.ChangeShapes Go.WideShapes Go.ChangeAt Go.RowKit
set_option linter.unusedVariables false
set_option linter.unusedSimpArgs false
theorem cat_list (F : Nat → ByteArray) : ∀ n, (catS F n).data.toList = ((List.range n).map fun j => (F j).data.toList).flatten
 | 0 => rfl
 | n + 1 => by
  show (catS F n ++ F n).data.toList = _
  rw [ByteArray.toList_data_append, cat_list F n, List.range_succ, List.map_append, List.flatten_append]
  simp
theorem join_flat : ∀ l : List (List UInt8), Lib.join l [] = l.flatten
 | [] => rfl
 | [x] => by simp [Lib.join, List.intercalate]
 | x :: y :: r => by
  have ih := join_flat (y :: r)
  unfold Lib.join at ih ⊢
  have e : ([] : List UInt8).intercalate (x :: y :: r) = x ++ ([] : List UInt8).intercalate (y :: r) := by simp [List.intercalate]
  rw [e, ih]
  simp
theorem join_cat (F : Nat → ByteArray) (n : Nat) : Lib.join (((List.range (n + 1)).map F).map (·.data.toList)) [] = (catS F (n + 1)).data.toList := by
 rw [join_flat, cat_list, List.map_map]
 rfl
theorem join_any (oa : Option Addr) (n c : Nat) (F : Nat → ByteArray) (W : World) (hS : StrsAt W oa n F) (hc : n ≤ c) (hl : (catS F n).size + n ≤ 140737488355328) :
  Calls Tryz.prog 18 #[.slice oa n c, .string ⟨#[]⟩] W fun e w' => e = .returned (.string (catS F n)) ∧ Below W.heap.size W w' := by
 cases n with
 | zero =>
  refine (Tryz.strings_Join_none oa c ⟨#[]⟩ W).mono ?_
  rintro e w' ⟨rfl, rfl⟩
  exact ⟨rfl, Grew.refl _⟩
 | succ n =>
  rcases hS with h | ⟨ad, rfl, hcell⟩
  ·omega
  ·have h0 := hcell W (Grew.refl W) 0 (by omega)
   have hspot : ad.spot = none := by
    have e : ad.add 0 = ad := by simp [Addr.add]
    rw [e] at h0
    unfold World.cell? at h0
    split at h0
    ·split at h0
     ·cases h0
     ·rename_i hs
      cases hx : ad.spot with
      | none => rfl
      | some z => rw [hx] at hs; simp at hs
    ·cases h0
   obtain ⟨bk, o, sp⟩ := ad
   simp only at hspot
   subst hspot
   have hlen : ((List.range (n + 1)).map F).length = n + 1 := by simp
   have hj := Tryz.strings_Join bk o c ((List.range (n + 1)).map F) ⟨#[]⟩ W (fun j x hx => by
    rw [List.getElem?_map] at hx
    have hjn : j < n + 1 := by
     rcases Nat.lt_or_ge j (n + 1) with h | h
     ·exact h
     ·rw [List.getElem?_eq_none (by simpa using h)] at hx; cases hx
    rw [List.getElem?_range hjn] at hx
    obtain rfl := Option.some.inj hx
    have := hcell W (Grew.refl W) j hjn
    have e : (⟨bk, o, none⟩ : Addr).add j = ⟨bk, o + j, none⟩ := by unfold Addr.add; split <;> simp_all
    rw [e] at this
    exact this) (by
    have := cell_lt h0
    have e : (⟨bk, o, none⟩ : Addr).add 0 = ⟨bk, o, none⟩ := by simp [Addr.add]
    rw [e] at this
    exact this) (by omega) (by omega) (by
    have e : (Lib.join (((List.range (n + 1)).map F).map (·.data.toList)) []).length = (catS F (n + 1)).size := by rw [join_cat]; exact Array.length_toList
    show (Lib.join (((List.range (n + 1)).map F).map (·.data.toList)) []).length ≤ _
    omega)
   rw [hlen] at hj
   refine hj.mono ?_
   rintro e w' ⟨rfl, hb⟩
   refine ⟨?_, hb⟩
   have e : (Lib.join (((List.range (n + 1)).map F).map (·.data.toList)) (⟨#[]⟩ : ByteArray).data.toList) = (catS F (n + 1)).data.toList := join_cat F n
   rw [e]
end Go.Proofs.YtdoolhbmekahdaaGreatDoor
namespace Go.Proofs.YtdoolhbmekahdaaGreatDoor
open Go.RowKit
set_option linter.unusedVariables false
set_option linter.unusedSimpArgs false
attribute [local irreducible] strOf shaF zerosB padB fullB hashT
def lenB (w : World) (s : ByteArray) : Nat := (bytesRow s (grownCap w s.size 0 5)).size
theorem lenB_le (w : World) (s : ByteArray) : s.size ≤ lenB w s := by
 unfold lenB bytesRow
 have : (s.data.map (fun b => Value.int .u8 b.toNat)).size = s.size := Array.size_map
 rw [Array.size_append, this]; omega
theorem bytesRow_is (w : World) (s : ByteArray) : bytesRow s (grownCap w s.size 0 5) = ints .u8 (lenB w s) (byteAt s) := by
 apply Array.ext_getElem?
 intro i
 have hsz : (s.data.map (fun b => Value.int .u8 b.toNat)).size = s.size := Array.size_map
 by_cases h : i < lenB w s
 ·rw [ints_get _ _ _ _ h]
  unfold bytesRow
  by_cases hi : i < s.size
  ·rw [Array.getElem?_append_left (by rw [hsz]; exact hi), Array.getElem?_map, ← byteAt_lt s i hi]
   have : s.data[i]? = some s[i] := Array.getElem?_eq_getElem hi
   rw [this]; rfl
  ·unfold lenB bytesRow at h
   rw [Array.size_append, hsz, Array.size_replicate] at h
   rw [Array.getElem?_append_right (by rw [hsz]; omega), hsz, Array.getElem?_replicate, if_pos (by omega), byteAt_out s i hi]
 ·rw [Array.getElem?_eq_none (by unfold lenB at h; omega), Array.getElem?_eq_none (by rw [ints_size]; omega)]
@[go_sem high] theorem conv_bytes (w : World) (s : ByteArray) : (convert 9 36 (.string s)).run Tryz.prog w = .ok (.slice (some ⟨w.heap.size, 0, none⟩) s.size (grownCap w s.size 0 5)) (w.drew.alloc (.cells (ints .u8 (lenB w s) (byteAt s)) 5 (lenB w s, lenB w s + 1))) := by
 rw [run_bytes_of_string w 9 36 5 s Tryz.underlying9 Tryz.underlying36 Tryz.underlying5, bytesRow_is, ints_size]
@[go_sem] theorem setCellOf_late (w : World) (n i : Nat) (v : Value) (c : Array Value) (t : TypeId) (lo hi : Nat) (h : objAt w n = some (.cells c t (lo, hi))) : setCellOf w n i v (some (.cells c t (lo, hi))) = w.setRow n (c.setIfInBounds i v) := by
 rw [← h, ← setCell_obj]
 unfold objAt at h
 exact setCell_eq_setRow w n i c t (lo, hi) v h
@[go_sem] theorem frozenOf_late (c : Array Value) (t : TypeId) (i lo hi : Nat) (h : i < lo) : frozenOf (some (.cells c t (lo, hi))) i = false := by
 unfold frozenOf
 simp; omega
def eachF (s : ByteArray) (c : Int) : Nat → Int := fun i => bits .xor .u8 (byteAt s i) c
def eachB (s : ByteArray) (c : Int) : ByteArray := strOf s.size (eachF s c)
theorem eachB_size (s : ByteArray) (c : Int) : (eachB s c).size = s.size := strOf_size _ _
theorem each_any (s : ByteArray) (c : Int) (w : World) (hs : s.size ≤ 9223372036854775807) :
  Calls Tryz.prog 74 #[.string s, .int .u8 c] w fun e w' => e = .returned (.string (eachB s c)) ∧ Below w.heap.size w w' := by
 have hb := byteAt_bytes s
 have hN := lenB_le w s
 generalize hL : lenB w s = N at *
 have hF : Hid (∀ i, bits .xor .u8 (byteAt s i) c = eachF s c i) := fun i => rfl
 generalize hC : grownCap w s.size 0 5 = C at *
 go_enter Tryz.func74, Tryz.ntmps74
 go_wp2_with fail
 go_loopw [11] (fun i wr => ∃ k : Nat, k ≤ s.size ∧ i = .int .i64 k ∧ Below w.heap.size w wr ∧ objAt wr w.heap.size = some (.cells (ints .u8 N (mix (eachF s c) (byteAt s) k)) 5 (N, N + 1))) (fun i _ => s.size - (intOf i).toNat)
 case atStart => exact ⟨0, by omega, rfl, by exact grew_auto, by rw [mix_zero]; exact objAt_alloc_at _ _ _ rfl⟩
 case round =>
  obtain ⟨k, hk, rfl, hG, fb⟩ := hrel
  have lfb := lt_of_objAt fb
  by_cases hlt : k < s.size
  ·have hkN : k < N := by omega
   have hm := mix_at (eachF s c) (byteAt s) k
   have e := hF.out k
   have S : Hid (upd (mix (eachF s c) (byteAt s) k) k (eachF s c k) = mix (eachF s c) (byteAt s) (k + 1)) := mix_succ _ _ k
   go_wp2
   rw [S.out]
   go_roundw
   case rel => exact ⟨k + 1, by omega, by go_num, by exact grew_auto, keep_row _ fb⟩
   case measure => simp [intOf]; omega
  ·obtain rfl : k = s.size := by omega
   clear hlt
   have hc := run_str (P := Tryz.prog) (src := 36) (dst := 9) Tryz.underlying36 Tryz.underlying5 Tryz.underlying9 w.heap.size s.size C N (mix (eachF s c) (byteAt s) s.size) wr fb hN
   rw [show strOf s.size (mix (eachF s c) (byteAt s) s.size) = eachB s c from strOf_congr fun i hi => by simp [mix, hi]] at hc
   go_wp2
   go_ret
   exact ⟨rfl, by exact grew_auto⟩
def shortB (key : ByteArray) : ByteArray := if 64 < key.size then strOf 32 (shaF key) else key
def blockB (key : ByteArray) : ByteArray := shortB key ++ zerosB (64 - (shortB key).size)
theorem blockB_eq (key : ByteArray) : Hid (blockB key = shortB key ++ zerosB (64 - (shortB key).size)) := rfl
theorem short_le (key : ByteArray) : (shortB key).size ≤ 64 := by
 unfold shortB
 split
 ·rw [strOf_size]; omega
 ·omega
theorem blockB_size (key : ByteArray) : (blockB key).size = 64 := by
 have := short_le key
 unfold blockB
 rw [ByteArray.size_append, zerosB_size]; omega
@[go_sem high] theorem slice_key (w : World) (g : Nat) : (Instr.sliceAt 27 (.pointer (some ⟨g, 0, none⟩)) none none none).run Tryz.prog w = .ok (.slice (some ⟨g, 0, none⟩) 32 32) w := by kernel_rfl
theorem sum_one (a : ByteArray) (g : Nat) (t : TypeId) (fr : Nat × Nat) (W : World) (hs : a.size < 1152921504606846976) (h : objAt W g = some (.cells #[.string a] t fr)) (hT : Tabs W) :
  Calls Tryz.prog 76 #[.slice (some ⟨g, 0, none⟩) 1 1] W fun e w' => e = .returned (.agg (ints .u8 32 (shaF a))) ∧ Below W.heap.size W w' := by
 have := sumS_any (some ⟨g, 0, none⟩) 1 1 (oneS a) W (by rw [cat_one]; exact hs) (by decide) (strs_one h) hT
 rw [cat_one] at this
 exact this
theorem sum_two (a b : ByteArray) (g : Nat) (t : TypeId) (fr : Nat × Nat) (W : World) (hs : a.size + b.size < 1152921504606846976) (h : objAt W g = some (.cells #[.string a, .string b] t fr)) (hT : Tabs W) :
  Calls Tryz.prog 76 #[.slice (some ⟨g, 0, none⟩) 2 2] W fun e w' => e = .returned (.agg (ints .u8 32 (shaF (a ++ b)))) ∧ Below W.heap.size W w' := by
 have := sumS_any (some ⟨g, 0, none⟩) 2 2 (twoS a b) W (by rw [cat_two, ByteArray.size_append]; exact hs) (by decide) (strs_two h) hT
 rw [cat_two] at this
 exact this
theorem write_one (s a : ByteArray) (g : Nat) (t : TypeId) (fr : Nat × Nat) (W : World) (hs : s.size + a.size < 1152921504606846976) (h : objAt W g = some (.cells #[.string a] t fr)) (hT : Tabs W) :
  Calls Tryz.prog 73 #[.agg (hashB s), .slice (some ⟨g, 0, none⟩) 1 1] W fun e w' => e = .returned (.agg (hashB (s ++ a))) ∧ Below W.heap.size W w' := by
 have := write_b s (some ⟨g, 0, none⟩) 1 1 (oneS a) W (by rw [cat_one]; exact hs) (by decide) (strs_one h) hT
 rw [cat_one] at this
 exact this
attribute [irreducible] eachB shortB blockB eachF
theorem block_any (key : ByteArray) (w : World) (hk : key.size < 1152921504606846976) (hT : Tabs w) :
  Calls Tryz.prog 71 #[.string key] w fun e w' => e = .returned (.string (blockB key)) ∧ Below w.heap.size w w' := by
 have H := blockB_eq key
 have hTT : Hid (Tabs w) := hT
 clear hT
 by_cases hl : 64 < key.size
 ·have e : shortB key = strOf 32 (shaF key) := by unfold shortB; rw [if_pos hl]
  have h32 : (shortB key).size = 32 := by rw [e, strOf_size]
  rw [h32, e] at H
  clear e h32
  have hr := repeat0 32 (by decide)
  have k1 : FitsS (strOf 32 (shaF key)) (zerosB 32) := by unfold FitsS; rw [zerosB_size, strOf_size]; decide
  have hG := Grew.refl w
  go_enter Tryz.func71, Tryz.ntmps71
  go_wp2_with fail
  have fx : objAt (w.alloc (.cells #[.string key] 9)) w.heap.size = some (.cells #[.string key] 9) := objAt_alloc_at _ _ _ rfl
  replace hG : Below w.heap.size w (w.alloc (.cells #[.string key] 9)) := Grew.alloc hG _
  generalize w.alloc (.cells #[.string key] 9) = w1 at *
  have lfx := lt_of_objAt fx
  go_wp2_with fail
  (refine (sum_one key _ _ _ _ hk fx (hTT.out.later hG)).mono ?_; rintro e w2 ⟨rfl, hb⟩; replace fx : objAt w2 (w.heap.size) = some (.cells #[.string key] 9) := keep_below hb (by exact keep_auto); have lfx := lt_of_objAt fx; replace hG : Below w.heap.size w w2 := Grew.trans (by exact grew_auto) hb; clear hb)
  go_wp2_with fail
  have fk : objAt (w2.alloc (.cells (ints .u8 32 (shaF key)) 27)) w2.heap.size = some (.cells (ints .u8 32 (shaF key)) 27) := objAt_alloc_at _ _ _ rfl
  replace fx : objAt (w2.alloc (.cells (ints .u8 32 (shaF key)) 27)) (w.heap.size) = some (.cells #[.string key] 9) := keep_alloc _ fx
  replace hG : Below w.heap.size w (w2.alloc (.cells (ints .u8 32 (shaF key)) 27)) := Grew.alloc hG _
  clear lfx
  generalize w2.alloc (.cells (ints .u8 32 (shaF key)) 27) = w3 at *
  generalize w2.heap.size = gk at *
  have lfx := lt_of_objAt fx
  have lfk := lt_of_objAt fk
  have hc := run_str (P := Tryz.prog) (src := 36) (dst := 9) Tryz.underlying36 Tryz.underlying5 Tryz.underlying9 gk 32 32 32 (shaF key) w3 fk (by omega)
  go_wp2_with fail
  rw [hc]
  go_wp2_with fail
  (refine (hr _).mono ?_; rintro e w4 ⟨rfl, hb⟩; replace fx : objAt w4 (w.heap.size) = some (.cells #[.string key] 9) := keep_below hb (by exact keep_auto); have lfx := lt_of_objAt fx; replace fk : objAt w4 (gk) = some (.cells (ints .u8 32 (shaF key)) 27) := keep_below hb (by exact keep_auto); have lfk := lt_of_objAt fk; replace hG : Below w.heap.size w w4 := Grew.trans (by exact grew_auto) hb; clear hb)
  go_wp2
  go_ret
  rw [H.out]
  exact ⟨rfl, by exact grew_auto⟩
 ·have e : shortB key = key := by unfold shortB; rw [if_neg hl]
  rw [e] at H
  clear e
  obtain ⟨z, hz⟩ : ∃ z, 64 - key.size = z := ⟨_, rfl⟩
  have hzi : (64 : Int) - (key.size : Int) = (z : Int) := by omega
  have hz64 : z ≤ 64 := by omega
  rw [hz] at H
  have hr := repeat0 z (by omega)
  have k1 : FitsS key (zerosB z) := by unfold FitsS; rw [zerosB_size]; omega
  clear hz
  have hG := Grew.refl w
  go_enter Tryz.func71, Tryz.ntmps71
  go_wp2_with fail
  (refine (hr _).mono ?_; rintro e w1 ⟨rfl, hb⟩; replace hG : Below w.heap.size w w1 := Grew.trans (by exact grew_auto) hb; clear hb)
  go_wp2
  go_ret
  rw [H.out]
  exact ⟨rfl, by exact grew_auto⟩
end Go.Proofs.YtdoolhbmekahdaaGreatDoor
namespace Go.Proofs.YtdoolhbmekahdaaGreatDoor
open Go.RowKit
set_option linter.unusedVariables false
set_option linter.unusedSimpArgs false
attribute [local irreducible] strOf shaF zerosB padB fullB hashT
def macF (key s : ByteArray) : Nat → Int := shaF (eachB (blockB key) 92 ++ strOf 32 (shaF (eachB (blockB key) 54 ++ s)))
theorem mac_bytes (key s : ByteArray) : Bytes 32 (macF key s) := sha_bytes _
theorem macF_eq (key s : ByteArray) : Hid (macF key s = shaF (eachB (blockB key) 92 ++ strOf 32 (shaF (eachB (blockB key) 54 ++ s)))) := rfl
attribute [local irreducible] macF
theorem macS_any (key : ByteArray) (oa : Option Addr) (n c : Nat) (F : Nat → ByteArray) (w : World) (hk : key.size < 1152921504606846976) (hl : (catS F n).size < 1152921504606840000) (hn : n ≤ 9223372036854775807) (hS : StrsAt w oa n F) (hT : Tabs w) :
  Calls Tryz.prog 31 #[.string key, .slice oa n c] w fun e w' => e = .returned (.agg (ints .u8 32 (macF key (catS F n)))) ∧ Below w.heap.size w w' := by
 have H := macF_eq key (catS F n)
 have hTT : Hid (Tabs w) := hT
 have hb64 := blockB_size key
 have he1 : (eachB (blockB key) 54).size = 64 := by rw [eachB_size, hb64]
 have he2 : (eachB (blockB key) 92).size = 64 := by rw [eachB_size, hb64]
 have c1 := fun W : World => each_any (blockB key) 54 W (by omega)
 have c2 := fun W : World => each_any (blockB key) 92 W (by omega)
 have hw : Hid (∀ W : World, Below w.heap.size w W → Calls Tryz.prog 73 #[.agg (hashB (eachB (blockB key) 54)), .slice oa n c] W fun e w' => e = .returned (.agg (hashB (eachB (blockB key) 54 ++ catS F n))) ∧ Below W.heap.size W w') := fun W hW => by
  have := write_b (eachB (blockB key) 54) oa n c F W (by omega) hn (hS.later hW) (hT.later hW)
  exact this
 have hbl : Hid (∀ W : World, Below w.heap.size w W → Calls Tryz.prog 71 #[.string key] W fun e w' => e = .returned (.string (blockB key)) ∧ Below W.heap.size W w') := fun W hW => block_any key W hk (hT.later hW)
 have hsm : Hid (∀ W : World, Below w.heap.size w W → Calls Tryz.prog 75 #[.agg (hashB (eachB (blockB key) 54 ++ catS F n))] W fun e w' => e = .returned (.agg (ints .u8 32 (shaF (eachB (blockB key) 54 ++ catS F n)))) ∧ Below W.heap.size W w') := fun W hW => sum_b (eachB (blockB key) 54 ++ catS F n) W (by rw [ByteArray.size_append]; omega) (hT.later hW)
 have hfit : Hid ((eachB (blockB key) 92).size + (strOf 32 (shaF (eachB (blockB key) 54 ++ catS F n))).size < 1152921504606846976) := by
  show _ + _ < _
  rw [he2, strOf_size]; decide
 have hfit1 : Hid (ByteArray.empty.size + (eachB (blockB key) 54).size < 1152921504606846976) := by
  show _ + _ < _
  rw [he1]; decide
 have hemp : Hid (∀ a : ByteArray, ByteArray.empty ++ a = a) := fun a => ByteArray.empty_append
 clear hS hT hl he1 he2 hb64
 have hG := Grew.refl w
 have fr : True := trivial
 go_enter Tryz.func31, Tryz.ntmps31
 go_wp2_with fail
 replace fr : objAt (w.alloc (.cells (ints .u8 32 (nought)) 27)) (w.heap.size) = some (.cells (ints .u8 32 (nought)) 27) := by exact keep_auto
 replace hG : Below w.heap.size w (w.alloc (.cells (ints .u8 32 (nought)) 27)) := by exact grew_auto
 generalize w.alloc (.cells (ints .u8 32 (nought)) 27) = w1 at *
 have lfr := lt_of_objAt fr
 go_wp2_with fail
 (refine (hbl.out _ hG).mono ?_; rintro e w2 ⟨rfl, hb⟩; replace fr : objAt w2 (w.heap.size) = some (.cells (ints .u8 32 (nought)) 27) := keep_below hb (by exact keep_auto); have lfr := lt_of_objAt fr; replace hG : Below w.heap.size w w2 := Grew.trans (by exact grew_auto) hb; clear hb)
 go_wp2_with fail
 (refine (new_b _).mono ?_; rintro e w3 ⟨rfl, hb⟩; replace fr : objAt w3 (w.heap.size) = some (.cells (ints .u8 32 (nought)) 27) := keep_below hb (by exact keep_auto); have lfr := lt_of_objAt fr; replace hG : Below w.heap.size w w3 := Grew.trans (by exact grew_auto) hb; clear hb)
 go_wp2_with fail
 (refine (c1 _).mono ?_; rintro e w4 ⟨rfl, hb⟩; replace fr : objAt w4 (w.heap.size) = some (.cells (ints .u8 32 (nought)) 27) := keep_below hb (by exact keep_auto); have lfr := lt_of_objAt fr; replace hG : Below w.heap.size w w4 := Grew.trans (by exact grew_auto) hb; clear hb)
 have lr0 : ¬ (w4.heap.size = w.heap.size) := by omega
 go_wp2_with fail
 have fx : objAt (w4.alloc (.cells #[.string (eachB (blockB key) 54)] 9)) w4.heap.size = some (.cells #[.string (eachB (blockB key) 54)] 9) := objAt_alloc_at _ _ _ rfl
 replace fr : objAt (w4.alloc (.cells #[.string (eachB (blockB key) 54)] 9)) (w.heap.size) = some (.cells (ints .u8 32 (nought)) 27) := keep_alloc _ fr
 replace hG : Below w.heap.size w (w4.alloc (.cells #[.string (eachB (blockB key) 54)] 9)) := Grew.alloc hG _
 clear lfr
 generalize w4.alloc (.cells #[.string (eachB (blockB key) 54)] 9) = w5 at *
 generalize w4.heap.size = gx at *
 have lfr := lt_of_objAt fr
 have lfx := lt_of_objAt fx
 go_wp2_with fail
 (refine (write_one ByteArray.empty _ _ _ _ _ hfit1.out fx (hTT.out.later hG)).mono ?_; rintro e w6 ⟨rfl, hb⟩; replace fr : objAt w6 (w.heap.size) = some (.cells (ints .u8 32 (nought)) 27) := keep_below hb (by exact keep_auto); have lfr := lt_of_objAt fr; replace fx : objAt w6 (gx) = some (.cells #[.string (eachB (blockB key) 54)] 9) := keep_below hb (by exact keep_auto); have lfx := lt_of_objAt fx; replace hG : Below w.heap.size w w6 := Grew.trans (by exact grew_auto) hb; clear hb)
 rw [hemp.out]
 go_wp2_with fail
 (refine (hw.out _ hG).mono ?_; rintro e w7 ⟨rfl, hb⟩; replace fr : objAt w7 (w.heap.size) = some (.cells (ints .u8 32 (nought)) 27) := keep_below hb (by exact keep_auto); have lfr := lt_of_objAt fr; replace fx : objAt w7 (gx) = some (.cells #[.string (eachB (blockB key) 54)] 9) := keep_below hb (by exact keep_auto); have lfx := lt_of_objAt fx; replace hG : Below w.heap.size w w7 := Grew.trans (by exact grew_auto) hb; clear hb)
 go_wp2_with fail
 (refine (hsm.out _ hG).mono ?_; rintro e w8 ⟨rfl, hb⟩; replace fr : objAt w8 (w.heap.size) = some (.cells (ints .u8 32 (nought)) 27) := keep_below hb (by exact keep_auto); have lfr := lt_of_objAt fr; replace fx : objAt w8 (gx) = some (.cells #[.string (eachB (blockB key) 54)] 9) := keep_below hb (by exact keep_auto); have lfx := lt_of_objAt fx; replace hG : Below w.heap.size w w8 := Grew.trans (by exact grew_auto) hb; clear hb)
 have lk0 : ¬ (w8.heap.size = w.heap.size) := by omega
 go_wp2_with fail
 have fk : objAt (w8.alloc (.cells (ints .u8 32 (shaF (eachB (blockB key) 54 ++ catS F n))) 27)) w8.heap.size = some (.cells (ints .u8 32 (shaF (eachB (blockB key) 54 ++ catS F n))) 27) := objAt_alloc_at _ _ _ rfl
 replace fr : objAt (w8.alloc (.cells (ints .u8 32 (shaF (eachB (blockB key) 54 ++ catS F n))) 27)) (w.heap.size) = some (.cells (ints .u8 32 (nought)) 27) := keep_alloc _ fr
 replace fx : objAt (w8.alloc (.cells (ints .u8 32 (shaF (eachB (blockB key) 54 ++ catS F n))) 27)) (gx) = some (.cells #[.string (eachB (blockB key) 54)] 9) := keep_alloc _ fx
 replace hG : Below w.heap.size w (w8.alloc (.cells (ints .u8 32 (shaF (eachB (blockB key) 54 ++ catS F n))) 27)) := Grew.alloc hG _
 clear lfr lfx
 generalize w8.alloc (.cells (ints .u8 32 (shaF (eachB (blockB key) 54 ++ catS F n))) 27) = w9 at *
 generalize w8.heap.size = gk at *
 have lfr := lt_of_objAt fr
 have lfx := lt_of_objAt fx
 have lfk := lt_of_objAt fk
 generalize hX : shaF (eachB (blockB key) 54 ++ catS F n) = X at *
 have hc := fun m : More => run_str (P := Tryz.prog) (src := 36) (dst := 9) Tryz.underlying36 Tryz.underlying5 Tryz.underlying9 gk 32 32 32 X (more w9 m) (keep_more m fk) (by omega)
 go_wp2_with fail
 ((first | (with_reducible refine wp_region_tail_on 4 (by kernel_rfl) (by kernel_rfl) (by kernel_rfl) (by kernel_rfl) (by kernel_rfl) ?_) | refine wp_region_tail_more 4 (by kernel_rfl) (by kernel_rfl) (by kernel_rfl) (by kernel_rfl) (by kernel_rfl) ?_); simp only [List.take_succ_cons, List.take_zero]; (repeat (first | go_big_quiet_skip | (go_big_quiet_want; go_big_quiet_op; first | go_big_quiet_on | (apply Exists.intro; refine ⟨fun _ => ?_, ?_⟩; (focus (first | (with_reducible exact Calls.of_more (c2 _)))); go_big_quiet_on)))); refine wpQuiet_nil ?_; rintro _ ⟨mq, rfl⟩)
 (refine tail_one (i := 4) (fuel := 2) (by kernel_rfl) rfl ?_; intro K hK; go_simp; refine hK _ _ ?_; clear hK K)
 refine tail_one (i := 5) (fuel := 1) (by kernel_rfl) rfl ?_
 intro K hK
 go_simp
 refine (sum_two _ _ _ _ _ _ hfit.out (objAt_alloc_at _ _ _ rfl) (hTT.out.later (by exact grew_auto))).mono ?_
 rintro e9 w9 ⟨rfl, hb9⟩
 have er : objAt w9 (w.heap.size) = some (.cells (ints .u8 32 (nought)) 27) := keep_below hb9 (by exact keep_auto)
 have hG9 : Below w.heap.size w w9 := Grew.trans (by exact grew_auto) hb9
 have ler := lt_of_objAt er
 clear hb9
 refine hK _ _ ?_
 clear hK K
 (refine tail_one (i := 6) (fuel := 0) (by kernel_rfl) rfl ?_; intro K hK; go_simp; refine hK _ _ ?_; clear hK K)
 (refine wpAny_done (by kernel_rfl) ?_ _)
 go_wp2
 refine ret_row rfl _ 27 _ (0, 0) _ rfl (keep_row _ er) Tryz.underlying27 rfl (by rw [ints_size]; kernel_rfl) rfl ⟨by rw [H.out], by exact grew_auto⟩
end Go.Proofs.YtdoolhbmekahdaaGreatDoor
namespace Go.Proofs.YtdoolhbmekahdaaGreatDoor
open Go.RowKit
set_option linter.unusedVariables false
set_option linter.unusedSimpArgs false
theorem mac_none : ((List.range 64).map fun i => UInt8.ofNat (hexd (macF ByteArray.empty ByteArray.empty) i).toNat) = [98, 54, 49, 51, 54, 55, 57, 97, 48, 56, 49, 52, 100, 57, 101, 99, 55, 55, 50, 102, 57, 53, 100, 55, 55, 56, 99, 51, 53, 102, 99, 53, 102, 102, 49, 54, 57, 55, 99, 52, 57, 51, 55, 49, 53, 54, 53, 51, 99, 54, 99, 55, 49, 50, 49, 52, 52, 50, 57, 50, 99, 53, 97, 100] := by decide +kernel
attribute [local irreducible] strOf shaF zerosB padB fullB hashT
attribute [local irreducible] macF
theorem mac_one (key s : ByteArray) (g : Nat) (W : World) (hk : key.size < 1152921504606846976) (hs : s.size < 1152921504606840000) (h : StrsAt W (some ⟨g, 0, none⟩) 1 (oneS s)) (hT : Tabs W) :
  Calls Tryz.prog 31 #[.string key, .slice (some ⟨g, 0, none⟩) 1 1] W fun e w' => e = .returned (.agg (ints .u8 32 (macF key s))) ∧ Below W.heap.size W w' := by
 have := macS_any key (some ⟨g, 0, none⟩) 1 1 (oneS s) W hk (by rw [cat_one]; exact hs) (by decide) h hT
 rw [cat_one] at this
 exact this
theorem awake8_any (w : World) (hT : Tabs w) :
  Calls Tryz.prog 422 #[] w fun e w' => e = .returned (.bool true) ∧ Below w.heap.size w w' := by
 have h2 : ((strOf 64 (hexd (macF ByteArray.empty ByteArray.empty))).toList == [98, 54, 49, 51, 54, 55, 57, 97, 48, 56, 49, 52, 100, 57, 101, 99, 55, 55, 50, 102, 57, 53, 100, 55, 55, 56, 99, 51, 53, 102, 99, 53, 102, 102, 49, 54, 57, 55, 99, 52, 57, 51, 55, 49, 53, 54, 53, 51, 99, 54, 99, 55, 49, 50, 49, 52, 52, 50, 57, 50, 99, 53, 97, 100]) = true := by
  rw [strOf_list, mac_none]
  exact beq_self_eq_true _
 have hs : Hid (∀ W : World, Below w.heap.size w W → Calls Tryz.prog 31 #[.string ByteArray.empty, .slice none 0 0] W fun e w' => e = .returned (.agg (ints .u8 32 (macF ByteArray.empty ByteArray.empty))) ∧ Below W.heap.size W w') := fun W hW => macS_any ByteArray.empty none 0 0 (oneS ByteArray.empty) W (by decide) (by decide) (by decide) (strs_none _ _) (hT.later hW)
 have hb := mac_bytes ByteArray.empty ByteArray.empty
 generalize macF ByteArray.empty ByteArray.empty = F at *
 have hG := Grew.refl w
 go_enter Tryz.func422, Tryz.ntmps422
 go_wp2_with fail
 (refine (Awake7_any _ hT).mono ?_; rintro e w1 ⟨rfl, hb⟩; replace hG : Below w.heap.size w w1 := Grew.trans (by exact grew_auto) hb; clear hb)
 go_wp2_with fail
 (refine (hs.out _ hG).mono ?_; rintro e w2 ⟨rfl, hb⟩; replace hG : Below w.heap.size w w2 := Grew.trans (by exact grew_auto) hb; clear hb)
 go_wp2_with fail
 (refine (hex_any F _ hb).mono ?_; rintro e w3 ⟨rfl, hb⟩; replace hG : Below w.heap.size w w3 := Grew.trans (by exact grew_auto) hb; clear hb)
 go_wp2
 go_ret
 exact ⟨rfl, by exact grew_auto⟩
end Go.Proofs.YtdoolhbmekahdaaGreatDoor
