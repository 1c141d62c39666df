/- Ma -/
import Derived.Test.YtfglcifnjaknnaaGreatDoorOw
import Derived.Test.YtfglcifnjaknnaaGreatDoorSa
import Derived.SliceStrings
import Derived.Deep.DeepHandedRow
set_option linter.unusedVariables false
set_option linter.unusedSimpArgs false
set_option maxRecDepth 100000
set_option maxHeartbeats 4000000
namespace Go.Proofs.YtfglcifnjaknnaaGreatDoor
open Go.ChangeShapes Go.WideShapes Go.ChangeAt Go.RowKit
theorem zqt4 (F : Nat -> ByteArray) : ∀ n, (catS F n).data.toList = ((List.range n).map fun j => (F j).data.toList).flatten
 | 0 => rfl
 | n + 1 => by
  show (catS F n ++ F n).data.toList = _
  rw [ByteArray.toList_data_append, zqt4 F n, List.range_succ, List.map_append, List.flatten_append]
  simp
theorem zqpp : ∀ l : List (List UInt8), Lib.join l [] = l.flatten
 | [] => rfl
 | [x] => by simp [Lib.join, List.intercalate]
 | x :: y :: r => by
  have ih := zqpp (y :: r);unfold Lib.join at ih ⊢;have e : ([] : List UInt8).intercalate (x :: y :: r) = x ++ ([] : List UInt8).intercalate (y :: r) := by simp [List.intercalate]
  rw [e, ih]
  simp
theorem zquc (F : Nat -> ByteArray) (n : Nat) : Lib.join (((List.range (n + 1)).map F).map (·.data.toList)) [] = (catS F (n + 1)).data.toList := by
 rw [zqpp, zqt4, List.map_map]
 rfl
theorem zqu0 (oa : Option Addr) (n c : Nat) (F : Nat -> ByteArray) (W : World) (hS : StrsAt W oa n F) (hc : n <= c) (hl : (catS F n).size + n <= 140737488355328) :
  Calls Tryz.prog 153 #[.slice oa n c, .string ⟨#[]⟩] W (Rt W (.string (catS F n))) := by
 cases n with
 | zero =>
  refine (Tryz.strings_Join_none oa c ⟨#[]⟩ W).mono ?_
  rintro e w' ⟨rfl, rfl⟩;exact ⟨rfl, Grew.refl _⟩
 | succ n =>
  rcases hS with h | ⟨ad, rfl, hcell⟩
  ·omega
  ·have h0 := hcell W (Grew.refl W) 0 (by omega)
   have hspot : ad.spot = none := by
    have e : ad.add 0 = ad := by simp [Addr.add]
    rw [e] at h0;unfold World.cell? at h0
    split at h0
    ·split at h0
     ·cases h0
     ·rename_i hs
      cases hx : ad.spot with
      | none => rfl
      | some z => rw [hx] at hs; simp at hs
    ·cases h0
   obtain ⟨bk, o, sp⟩ := ad
   simp only at hspot
   subst hspot;have hlen : ((List.range (n + 1)).map F).length = n + 1 := by simp
   have hj := Tryz.strings_Join bk o c ((List.range (n + 1)).map F) ⟨#[]⟩ W (fun j x hx => by
    rw [List.getElem?_map] at hx;have hjn : j < n + 1 := by
     rcases Nat.lt_or_ge j (n + 1) with h | h
     ·exact h
     ·rw [List.getElem?_eq_none (by simpa using h)] at hx; cases hx
    rw [List.getElem?_range hjn] at hx;obtain rfl := Option.some.inj hx;have := hcell W (Grew.refl W) j hjn;have e : (⟨bk, o, none⟩ : Addr).add j = ⟨bk, o + j, none⟩ := by unfold Addr.add; split <;> simp_all
    rw [e] at this;exact this) (by
    have := cell_lt h0;have e : (⟨bk, o, none⟩ : Addr).add 0 = ⟨bk, o, none⟩ := by simp [Addr.add]
    rw [e] at this;exact this) (by omega) (by omega) (by
    have e : (Lib.join (((List.range (n + 1)).map F).map (·.data.toList)) []).length = (catS F (n + 1)).size := by rw [zquc]; exact Array.length_toList
    show (Lib.join (((List.range (n + 1)).map F).map (·.data.toList)) []).length <= _
    omega)
   rw [hlen] at hj;refine hj.mono ?_
   rintro e w' ⟨rfl, hb⟩;refine ⟨?_, hb⟩;have e : (Lib.join (((List.range (n + 1)).map F).map (·.data.toList)) (⟨#[]⟩ : ByteArray).data.toList) = (catS F (n + 1)).data.toList := zquc F n;rw [e]
end Go.Proofs.YtfglcifnjaknnaaGreatDoor
namespace Go.Proofs.YtfglcifnjaknnaaGreatDoor
open Go.RowKit
attribute [local irreducible] strOf shaF zqcd padB zqc0 zqbv
def lenB (w : World) (s : ByteArray) : Nat := (bytesRow s (grownCap w s.size 0 5)).size
theorem zq90 (w : World) (s : ByteArray) : s.size <= lenB w s := by
 unfold lenB bytesRow;have : (s.data.map (fun b => Value.int .u8 b.toNat)).size = s.size := Array.size_map;rw [Array.size_append, this]; omega
theorem zqs2 (w : World) (s : ByteArray) : bytesRow s (grownCap w s.size 0 5) = ints .u8 (lenB w s) (byteAt s) := by
 apply Array.ext_getElem?
 intro i;have hsz : (s.data.map (fun b => Value.int .u8 b.toNat)).size = s.size := Array.size_map
 by_cases h : i < lenB w s
 ·rw [zqal _ _ _ _ h]
  unfold bytesRow
  by_cases hi : i < s.size
  ·rw [Array.getElem?_append_left (by rw [hsz]; exact hi), Array.getElem?_map, <- zqdr s i hi]
   have : s.data[i]? = some s[i] := Array.getElem?_eq_getElem hi
   rw [this]; rfl
  ·unfold lenB bytesRow at h
   rw [Array.size_append, hsz, Array.size_replicate] at h;rw [Array.getElem?_append_right (by rw [hsz]; omega), hsz, Array.getElem?_replicate, if_pos (by omega), zqx8 s i hi]
 ·rw [Array.getElem?_eq_none (by unfold lenB at h; omega), Array.getElem?_eq_none (by rw [zqi]; omega)]
@[go_sem high] theorem zrdg (w : World) (s : ByteArray) : (convert 9 157 (.string s)).run Tryz.prog w = .ok (.slice (some ⟨w.heap.size, 0, none⟩) s.size (grownCap w s.size 0 5)) (w.drew.alloc (.cells (ints .u8 (lenB w s) (byteAt s)) 5 (lenB w s, lenB w s + 1))) := by
 rw [run_bytes_of_string w 9 157 5 s Tryz.underlying9 Tryz.underlying157 Tryz.underlying5, zqs2, zqi]
@[go_sem] theorem zq3g (w : World) (n i : Nat) (v : Value) (c : Array Value) (t : TypeId) (lo hi : Nat) (h : zqe w n = some (.cells c t (lo, hi))) : zqgg w n i v (some (.cells c t (lo, hi))) = w.setRow n (c.setIfInBounds i v) := by
 rw [<- h, <- zqlu];unfold zqe at h;exact setCell_eq_setRow w n i c t (lo, hi) v h
@[go_sem] theorem zq4j (c : Array Value) (t : TypeId) (i lo hi : Nat) (h : i < lo) : zqf7 (some (.cells c t (lo, hi))) i = false := by
 unfold zqf7
 simp; omega
def zqmr (s : ByteArray) (c : Int) : Nat -> Int := fun i => bits .xor .u8 (byteAt s i) c
def zqcv (s : ByteArray) (c : Int) : ByteArray := strOf s.size (zqmr s c)
theorem zqnw (s : ByteArray) (c : Int) : (zqcv s c).size = s.size := zq5 _ _
theorem zqvk (s : ByteArray) (c : Int) (w : World) (hs : s.size <= 9223372036854775807) :
  Calls Tryz.prog 111 #[.string s, .int .u8 c] w (Rt w (.string (zqcv s c))) := by
 have hb := zqka s;have hN := zq90 w s;generalize hL : lenB w s = N at *;have hF : Hid (∀ i, bits .xor .u8 (byteAt s i) c = zqmr s c i) := fun i => rfl;generalize hC : grownCap w s.size 0 5 = C at *
 go_enter Tryz.func111, Tryz.ntmps111
 go_wp2_with fail
 go_loopw [11] (fun i wr => ∃ k : Nat, k <= s.size /\ i = .int .i64 k /\ Below w.heap.size w wr /\ zqe wr w.heap.size = some (.cells (ints .u8 N (mix (zqmr s c) (byteAt s) k)) 5 (N, N + 1))) (fun i _ => s.size - (intOf i).toNat)
 case atStart => exact ⟨0, by omega, rfl, by exact zqf, by rw [zqf9]; exact zqg _ _ _ rfl⟩
 case round =>
  obtain ⟨k, hk, rfl, hG, fb⟩ := hrel;have lfb := zqa fb
  by_cases hlt : k < s.size
  ·have hkN : k < N := by omega
   have hm := zqnl (zqmr s c) (byteAt s) k;have e := hF.out k;have S : Hid (upd (mix (zqmr s c) (byteAt s) k) k (zqmr s c k) = mix (zqmr s c) (byteAt s) (k + 1)) := zqfv _ _ k;go_wp2;rw [S.out]
   go_roundw
   case rel => exact ⟨k + 1, by omega, by go_num, by exact zqf, zqq _ fb⟩
   case measure => simp [intOf]; omega
  ·obtain rfl : k = s.size := by omega
   clear hlt;have hc := zqdj (P := Tryz.prog) (src := 157) (dst := 9) Tryz.underlying157 Tryz.underlying5 Tryz.underlying9 w.heap.size s.size C N (mix (zqmr s c) (byteAt s) s.size) wr fb hN;rw [show strOf s.size (mix (zqmr s c) (byteAt s) s.size) = zqcv s c from zqhn fun i hi => by simp [mix, hi]] at hc;go_wp2;go_ret;exact ⟨rfl, by exact zqf⟩
def zqgb (key : ByteArray) : ByteArray := if 64 < key.size then strOf 32 (shaF key) else key
def zqbe (key : ByteArray) : ByteArray := zqgb key ++ zqcd (64 - (zqgb key).size)
theorem zq26 (key : ByteArray) : Hid (zqbe key = zqgb key ++ zqcd (64 - (zqgb key).size)) := rfl
theorem zq5q (key : ByteArray) : (zqgb key).size <= 64 := by
 unfold zqgb
 split
 ·rw [zq5]; omega
 ·omega
theorem zqrz (key : ByteArray) : (zqbe key).size = 64 := by
 have := zq5q key;unfold zqbe;rw [ByteArray.size_append, zqdi]; omega
@[go_sem high] theorem zrgj (w : World) (g : Nat) : (Instr.sliceAt 29 (.pointer (some ⟨g, 0, none⟩)) none none none).run Tryz.prog w = .ok (.slice (some ⟨g, 0, none⟩) 32 32) w := by kernel_rfl
theorem zrap (a : ByteArray) (g : Nat) (t : TypeId) (fr : Nat × Nat) (W : World) (hs : a.size < 1152921504606846976) (h : zqe W g = some (.cells #[.string a] t fr)) (hT : Tabs W) :
  Calls Tryz.prog 113 #[.slice (some ⟨g, 0, none⟩) 1 1] W (Rt W (.agg (ints .u8 32 (shaF a)))) := by
 have := zqof (some ⟨g, 0, none⟩) 1 1 (oneS a) W (by rw [zqfc]; exact hs) (by decide) (zqg0 h) hT;rw [zqfc] at this;exact this
theorem zq2z (a b : ByteArray) (g : Nat) (t : TypeId) (fr : Nat × Nat) (W : World) (hs : a.size + b.size < 1152921504606846976) (h : zqe W g = some (.cells #[.string a, .string b] t fr)) (hT : Tabs W) :
  Calls Tryz.prog 113 #[.slice (some ⟨g, 0, none⟩) 2 2] W (Rt W (.agg (ints .u8 32 (shaF (a ++ b))))) := by
 have := zqof (some ⟨g, 0, none⟩) 2 2 (twoS a b) W (by rw [zq13, ByteArray.size_append]; exact hs) (by decide) (zq4o h) hT;rw [zq13] at this;exact this
theorem zqz4 (s a : ByteArray) (g : Nat) (t : TypeId) (fr : Nat × Nat) (W : World) (hs : s.size + a.size < 1152921504606846976) (h : zqe W g = some (.cells #[.string a] t fr)) (hT : Tabs W) :
  Calls Tryz.prog 110 #[.agg (zqja s), .slice (some ⟨g, 0, none⟩) 1 1] W (Rt W (.agg (zqja (s ++ a)))) := by
 have := zq14 s (some ⟨g, 0, none⟩) 1 1 (oneS a) W (by rw [zqfc]; exact hs) (by decide) (zqg0 h) hT;rw [zqfc] at this;exact this
attribute [irreducible] zqcv zqgb zqbe zqmr
theorem zq16 (key : ByteArray) (w : World) (hk : key.size < 1152921504606846976) (hT : Tabs w) :
  Calls Tryz.prog 108 #[.string key] w (Rt w (.string (zqbe key))) := by
 have H := zq26 key;have hTT : Hid (Tabs w) := hT;clear hT
 by_cases hl : 64 < key.size
 ·have e : zqgb key = strOf 32 (shaF key) := by unfold zqgb; rw [if_pos hl]
  have h32 : (zqgb key).size = 32 := by rw [e, zq5]
  rw [h32, e] at H;clear e h32;have hr := zq12 32 (by decide);have k1 : zqmw (strOf 32 (shaF key)) (zqcd 32) := by unfold zqmw; rw [zqdi, zq5]; decide
  have hG := Grew.refl w
  go_enter Tryz.func108, Tryz.ntmps108
  go_wp2_with fail;have fx : zqe (w.alloc (.cells #[.string key] 9)) w.heap.size = some (.cells #[.string key] 9) := zqg _ _ _ rfl;replace hG : Below w.heap.size w (w.alloc (.cells #[.string key] 9)) := Grew.alloc hG _;generalize w.alloc (.cells #[.string key] 9) = w1 at *;have lfx := zqa fx;go_wp2_with fail
  (refine (zrap key _ _ _ _ hk fx (hTT.out.later hG)).mono ?_; rintro e w2 ⟨rfl, hb⟩; replace fx : zqe w2 (w.heap.size) = some (.cells #[.string key] 9) := zqc hb (by exact zqh); have lfx := zqa fx; replace hG : Below w.heap.size w w2 := Grew.trans (by exact zqf) hb; clear hb)
  go_wp2_with fail;have fk : zqe (w2.alloc (.cells (ints .u8 32 (shaF key)) 29)) w2.heap.size = some (.cells (ints .u8 32 (shaF key)) 29) := zqg _ _ _ rfl;replace fx : zqe (w2.alloc (.cells (ints .u8 32 (shaF key)) 29)) (w.heap.size) = some (.cells #[.string key] 9) := zqj _ fx;replace hG : Below w.heap.size w (w2.alloc (.cells (ints .u8 32 (shaF key)) 29)) := Grew.alloc hG _;clear lfx;generalize w2.alloc (.cells (ints .u8 32 (shaF key)) 29) = w3 at *;generalize w2.heap.size = gk at *;have lfx := zqa fx;have lfk := zqa fk;have hc := zqdj (P := Tryz.prog) (src := 157) (dst := 9) Tryz.underlying157 Tryz.underlying5 Tryz.underlying9 gk 32 32 32 (shaF key) w3 fk (by omega);go_wp2_with fail;rw [hc];go_wp2_with fail
  (refine (hr _).mono ?_; rintro e w4 ⟨rfl, hb⟩; replace fx : zqe w4 (w.heap.size) = some (.cells #[.string key] 9) := zqc hb (by exact zqh); have lfx := zqa fx; replace fk : zqe w4 (gk) = some (.cells (ints .u8 32 (shaF key)) 29) := zqc hb (by exact zqh); have lfk := zqa fk; replace hG : Below w.heap.size w w4 := Grew.trans (by exact zqf) hb; clear hb)
  go_wp2;go_ret;rw [H.out];exact ⟨rfl, by exact zqf⟩
 ·have e : zqgb key = key := by unfold zqgb; rw [if_neg hl]
  rw [e] at H;clear e;obtain ⟨z, hz⟩ : ∃ z, 64 - key.size = z := ⟨_, rfl⟩
  have hzi : (64 : Int) - (key.size : Int) = (z : Int) := by omega
  have hz64 : z <= 64 := by omega
  rw [hz] at H;have hr := zq12 z (by omega);have k1 : zqmw key (zqcd z) := by unfold zqmw; rw [zqdi]; omega
  clear hz;have hG := Grew.refl w
  go_enter Tryz.func108, Tryz.ntmps108
  go_wp2_with fail
  (refine (hr _).mono ?_; rintro e w1 ⟨rfl, hb⟩; replace hG : Below w.heap.size w w1 := Grew.trans (by exact zqf) hb; clear hb)
  go_wp2;go_ret;rw [H.out];exact ⟨rfl, by exact zqf⟩
end Go.Proofs.YtfglcifnjaknnaaGreatDoor
namespace Go.Proofs.YtfglcifnjaknnaaGreatDoor
open Go.RowKit
attribute [local irreducible] strOf shaF zqcd padB zqc0 zqbv
def macF (key s : ByteArray) : Nat -> Int := shaF (zqcv (zqbe key) 92 ++ strOf 32 (shaF (zqcv (zqbe key) 54 ++ s)))
theorem zqis (key s : ByteArray) : Bytes 32 (macF key s) := zqpu _
theorem zq9t (key s : ByteArray) : Hid (macF key s = shaF (zqcv (zqbe key) 92 ++ strOf 32 (shaF (zqcv (zqbe key) 54 ++ s)))) := rfl
attribute [local irreducible] macF
theorem zqku (key : ByteArray) (oa : Option Addr) (n c : Nat) (F : Nat -> ByteArray) (w : World) (hk : key.size < 1152921504606846976) (hl : (catS F n).size < 1152921504606840000) (hn : n <= 9223372036854775807) (hS : StrsAt w oa n F) (hT : Tabs w) :
  Calls Tryz.prog 78 #[.string key, .slice oa n c] w (Rt w (.agg (ints .u8 32 (macF key (catS F n))))) := by
 have H := zq9t key (catS F n);have hTT : Hid (Tabs w) := hT;have hb64 := zqrz key;have he1 : (zqcv (zqbe key) 54).size = 64 := by rw [zqnw, hb64]
 have he2 : (zqcv (zqbe key) 92).size = 64 := by rw [zqnw, hb64]
 have c1 := fun W : World => zqvk (zqbe key) 54 W (by omega);have c2 := fun W : World => zqvk (zqbe key) 92 W (by omega);have hw : Hid (∀ W : World, Below w.heap.size w W -> Calls Tryz.prog 110 #[.agg (zqja (zqcv (zqbe key) 54)), .slice oa n c] W (Rt W (.agg (zqja (zqcv (zqbe key) 54 ++ catS F n))))) := fun W hW => by
  have := zq14 (zqcv (zqbe key) 54) oa n c F W (by omega) hn (hS.later hW) (hT.later hW);exact this
 have hbl : Hid (∀ W : World, Below w.heap.size w W -> Calls Tryz.prog 108 #[.string key] W (Rt W (.string (zqbe key)))) := fun W hW => zq16 key W hk (hT.later hW);have hsm : Hid (∀ W : World, Below w.heap.size w W -> Calls Tryz.prog 112 #[.agg (zqja (zqcv (zqbe key) 54 ++ catS F n))] W (Rt W (.agg (ints .u8 32 (shaF (zqcv (zqbe key) 54 ++ catS F n)))))) := fun W hW => zrkl (zqcv (zqbe key) 54 ++ catS F n) W (by rw [ByteArray.size_append]; omega) (hT.later hW);have hfit : Hid ((zqcv (zqbe key) 92).size + (strOf 32 (shaF (zqcv (zqbe key) 54 ++ catS F n))).size < 1152921504606846976) := by
  show _ + _ < _
  rw [he2, zq5]; decide
 have hfit1 : Hid (ByteArray.empty.size + (zqcv (zqbe key) 54).size < 1152921504606846976) := by
  show _ + _ < _
  rw [he1]; decide
 have hemp : Hid (∀ a : ByteArray, ByteArray.empty ++ a = a) := fun a => ByteArray.empty_append;clear hS hT hl he1 he2 hb64;have hG := Grew.refl w;have fr : True := trivial
 go_enter Tryz.func78, Tryz.ntmps78
 go_wp2_with fail;generalize hW : w.alloc (.cells (ints .u8 32 (zqd)) 29) = w1;replace fr : zqe w1 (w.heap.size) = some (.cells (ints .u8 32 (zqd)) 29) := zqs hW;replace hG : Below w.heap.size w w1 := zqam hW;clear hW;have lfr := zqa fr;go_wp2_with fail
 (refine (hbl.out _ hG).mono ?_; rintro e w2 ⟨rfl, hb⟩; replace fr := zqc hb fr; have lfr := zqa fr; replace hG : Below w.heap.size w w2 := Grew.trans (by exact zqf) hb; clear hb)
 go_wp2_with fail
 (refine (zrlk _).mono ?_; rintro e w3 ⟨rfl, hb⟩; replace fr := zqc hb fr; have lfr := zqa fr; replace hG : Below w.heap.size w w3 := Grew.trans (by exact zqf) hb; clear hb)
 go_wp2_with fail
 (refine (c1 _).mono ?_; rintro e w4 ⟨rfl, hb⟩; replace fr := zqc hb fr; have lfr := zqa fr; replace hG : Below w.heap.size w w4 := Grew.trans (by exact zqf) hb; clear hb)
 have lr0 : ¬ (w4.heap.size = w.heap.size) := by omega
 go_wp2_with fail;have fx : zqe (w4.alloc (.cells #[.string (zqcv (zqbe key) 54)] 9)) w4.heap.size = some (.cells #[.string (zqcv (zqbe key) 54)] 9) := zqg _ _ _ rfl;replace fr : zqe (w4.alloc (.cells #[.string (zqcv (zqbe key) 54)] 9)) (w.heap.size) = some (.cells (ints .u8 32 (zqd)) 29) := zqj _ fr;replace hG : Below w.heap.size w (w4.alloc (.cells #[.string (zqcv (zqbe key) 54)] 9)) := Grew.alloc hG _;clear lfr;generalize w4.alloc (.cells #[.string (zqcv (zqbe key) 54)] 9) = w5 at *;generalize w4.heap.size = gx at *;have lfr := zqa fr;have lfx := zqa fx;go_wp2_with fail
 (refine (zqz4 ByteArray.empty _ _ _ _ _ hfit1.out fx (hTT.out.later hG)).mono ?_; rintro e w6 ⟨rfl, hb⟩; replace fr : zqe w6 (w.heap.size) = some (.cells (ints .u8 32 (zqd)) 29) := zqc hb (by exact zqh); have lfr := zqa fr; replace fx : zqe w6 (gx) = some (.cells #[.string (zqcv (zqbe key) 54)] 9) := zqc hb (by exact zqh); have lfx := zqa fx; replace hG : Below w.heap.size w w6 := Grew.trans (by exact zqf) hb; clear hb)
 rw [hemp.out];go_wp2_with fail
 (refine (hw.out _ hG).mono ?_; rintro e w7 ⟨rfl, hb⟩; replace fr : zqe w7 (w.heap.size) = some (.cells (ints .u8 32 (zqd)) 29) := zqc hb (by exact zqh); have lfr := zqa fr; replace fx : zqe w7 (gx) = some (.cells #[.string (zqcv (zqbe key) 54)] 9) := zqc hb (by exact zqh); have lfx := zqa fx; replace hG : Below w.heap.size w w7 := Grew.trans (by exact zqf) hb; clear hb)
 go_wp2_with fail
 (refine (hsm.out _ hG).mono ?_; rintro e w8 ⟨rfl, hb⟩; replace fr : zqe w8 (w.heap.size) = some (.cells (ints .u8 32 (zqd)) 29) := zqc hb (by exact zqh); have lfr := zqa fr; replace fx : zqe w8 (gx) = some (.cells #[.string (zqcv (zqbe key) 54)] 9) := zqc hb (by exact zqh); have lfx := zqa fx; replace hG : Below w.heap.size w w8 := Grew.trans (by exact zqf) hb; clear hb)
 have lk0 : ¬ (w8.heap.size = w.heap.size) := by omega
 go_wp2_with fail;have fk : zqe (w8.alloc (.cells (ints .u8 32 (shaF (zqcv (zqbe key) 54 ++ catS F n))) 29)) w8.heap.size = some (.cells (ints .u8 32 (shaF (zqcv (zqbe key) 54 ++ catS F n))) 29) := zqg _ _ _ rfl;replace fr : zqe (w8.alloc (.cells (ints .u8 32 (shaF (zqcv (zqbe key) 54 ++ catS F n))) 29)) (w.heap.size) = some (.cells (ints .u8 32 (zqd)) 29) := zqj _ fr;replace fx : zqe (w8.alloc (.cells (ints .u8 32 (shaF (zqcv (zqbe key) 54 ++ catS F n))) 29)) (gx) = some (.cells #[.string (zqcv (zqbe key) 54)] 9) := zqj _ fx;replace hG : Below w.heap.size w (w8.alloc (.cells (ints .u8 32 (shaF (zqcv (zqbe key) 54 ++ catS F n))) 29)) := Grew.alloc hG _;clear lfr lfx;generalize w8.alloc (.cells (ints .u8 32 (shaF (zqcv (zqbe key) 54 ++ catS F n))) 29) = w9 at *;generalize w8.heap.size = gk at *;have lfr := zqa fr
 have lfx := zqa fx;have lfk := zqa fk;generalize hX : shaF (zqcv (zqbe key) 54 ++ catS F n) = X at *;have hc := fun m : More => zqdj (P := Tryz.prog) (src := 157) (dst := 9) Tryz.underlying157 Tryz.underlying5 Tryz.underlying9 gk 32 32 32 X (more w9 m) (zqp m fk) (by omega);go_wp2_with fail
 ((first | (with_reducible refine zqav 4 zqb zqb zqb zqb zqb ?_) | refine zqan 4 zqb zqb zqb zqb zqb ?_); simp only [List.take_succ_cons, List.take_zero]; (repeat (first | go_big_quiet_skip | (go_big_quiet_want; go_big_quiet_op; first | go_big_quiet_on | (apply Exists.intro; refine ⟨fun _ => ?_, ?_⟩; (focus (first | (with_reducible exact Calls.of_more (c2 _)))); go_big_quiet_on)))); refine wpQuiet_nil ?_; rintro _ ⟨mq, rfl⟩)
 (refine zqt (i := 4) (fuel := 2) zqb rfl ?_; intro K hK; go_simp; refine hK _ _ ?_; clear hK K)
 refine zqt (i := 5) (fuel := 1) zqb rfl ?_
 intro K hK
 go_simp
 refine (zq2z _ _ _ _ _ _ hfit.out (zqg _ _ _ rfl) (hTT.out.later (by exact zqf))).mono ?_
 rintro e9 w9 ⟨rfl, hb9⟩;have er : zqe w9 (w.heap.size) = some (.cells (ints .u8 32 (zqd)) 29) := zqc hb9 (by exact zqh);have hG9 : Below w.heap.size w w9 := Grew.trans (by exact zqf) hb9;have ler := zqa er;clear hb9;refine hK _ _ ?_
 clear hK K
 (refine zqt (i := 6) (fuel := 0) zqb rfl ?_; intro K hK; go_simp; refine hK _ _ ?_; clear hK K)
 (refine wpAny_done zqb ?_ _)
 go_wp2;refine zqag rfl _ 29 _ (0, 0) _ rfl (zqq _ er) Tryz.underlying29 rfl (by rw [zqi]; kernel_rfl) rfl ⟨by rw [H.out], by exact zqf⟩
theorem check_any (key : ByteArray) (tag : Nat -> Int) (oa : Option Addr) (n c : Nat) (F : Nat -> ByteArray) (w : World) (ht : Bytes 32 tag) (hk : key.size < 1152921504606846976) (hl : (catS F n).size < 1152921504606840000) (hn : n <= 9223372036854775807) (hS : StrsAt w oa n F) (hT : Tabs w) :
  Calls Tryz.prog 77 #[.string key, .agg (ints .u8 32 tag), .slice oa n c] w (Rt w (.bool (same 32 tag (macF key (catS F n))))) := by
 have hw : Hid (∀ W : World, Below w.heap.size w W -> Calls Tryz.prog 78 #[.string key, .slice oa n c] W (Rt W (.agg (ints .u8 32 (macF key (catS F n)))))) := fun W hW => zqku key oa n c F W hk hl hn (hS.later hW) (hT.later hW);have hb := zqis key (catS F n);generalize macF key (catS F n) = M at *;clear hS hT hl;have hG := Grew.refl w;have ft : True := trivial
 go_enter Tryz.func77, Tryz.ntmps77
 go_wp2_with fail;generalize hW : w.alloc (.cells (ints .u8 32 (tag)) 29) = w1;replace ft : zqe w1 (w.heap.size) = some (.cells (ints .u8 32 (tag)) 29) := zqs hW;replace hG : Below w.heap.size w w1 := zqam hW;clear hW;have lft := zqa ft;have hw2 := fun m => hw.out (more w1 m) (Grew.more hG m);go_wp2_with fail
 ((first | (with_reducible refine zqab zqb zqb ?_) | refine zq2 zqb zqb ?_); (repeat (first | go_big_quiet_skip | (go_big_quiet_want; go_big_quiet_op; first | go_big_quiet_on | (apply Exists.intro; refine ⟨fun _ => ?_, ?_⟩; (focus (first | (with_reducible exact Calls.of_more (hw2 _)) | (with_reducible exact Calls.of_more (zqkw tag M _ ht hb)))); go_big_quiet_on)))); refine wpQuiet_nil ?_; rintro _ ⟨mq, rfl⟩)
 go_wp2;go_ret;exact ⟨rfl, by exact zqf⟩
end Go.Proofs.YtfglcifnjaknnaaGreatDoor
namespace Go.Proofs.YtfglcifnjaknnaaGreatDoor
open Go.RowKit
theorem zq3z : ((List.range 64).map fun i => UInt8.ofNat (hexd (macF ByteArray.empty ByteArray.empty) i).toNat) = [98, 54, 49, 51, 54, 55, 57, 97, 48, 56, 49, 52, 100, 57, 101, 99, 55, 55, 50, 102, 57, 53, 100, 55, 55, 56, 99, 51, 53, 102, 99, 53, 102, 102, 49, 54, 57, 55, 99, 52, 57, 51, 55, 49, 53, 54, 53, 51, 99, 54, 99, 55, 49, 50, 49, 52, 52, 50, 57, 50, 99, 53, 97, 100] := by decide +kernel
attribute [local irreducible] strOf shaF zqcd padB zqc0 zqbv
attribute [local irreducible] macF
theorem zq0y (key s : ByteArray) (g : Nat) (W : World) (hk : key.size < 1152921504606846976) (hs : s.size < 1152921504606840000) (h : StrsAt W (some ⟨g, 0, none⟩) 1 (oneS s)) (hT : Tabs W) :
  Calls Tryz.prog 78 #[.string key, .slice (some ⟨g, 0, none⟩) 1 1] W (Rt W (.agg (ints .u8 32 (macF key s)))) := by
 have := zqku key (some ⟨g, 0, none⟩) 1 1 (oneS s) W hk (by rw [zqfc]; exact hs) (by decide) h hT;rw [zqfc] at this;exact this
theorem zqwi (w : World) (hT : Tabs w) :
  Calls Tryz.prog 249 #[] w (Rt w (.bool true)) := by
 have h2 : ((strOf 64 (hexd (macF ByteArray.empty ByteArray.empty))).toList == [98, 54, 49, 51, 54, 55, 57, 97, 48, 56, 49, 52, 100, 57, 101, 99, 55, 55, 50, 102, 57, 53, 100, 55, 55, 56, 99, 51, 53, 102, 99, 53, 102, 102, 49, 54, 57, 55, 99, 52, 57, 51, 55, 49, 53, 54, 53, 51, 99, 54, 99, 55, 49, 50, 49, 52, 52, 50, 57, 50, 99, 53, 97, 100]) = true := by
  rw [zqen, zq3z];exact beq_self_eq_true _
 have hs : Hid (∀ W : World, Below w.heap.size w W -> Calls Tryz.prog 78 #[.string ByteArray.empty, .slice none 0 0] W (Rt W (.agg (ints .u8 32 (macF ByteArray.empty ByteArray.empty))))) := fun W hW => zqku ByteArray.empty none 0 0 (oneS ByteArray.empty) W (by decide) (by decide) (by decide) (zqgj _ _) (hT.later hW);have hb := zqis ByteArray.empty ByteArray.empty;generalize macF ByteArray.empty ByteArray.empty = F at *;have hG := Grew.refl w
 go_enter Tryz.func249, Tryz.ntmps249
 go_wp2_with fail
 (refine (zqxk _ hT).mono ?_; rintro e w1 ⟨rfl, hb⟩; replace hG : Below w.heap.size w w1 := Grew.trans (by exact zqf) hb; clear hb)
 go_wp2_with fail
 (refine (hs.out _ hG).mono ?_; rintro e w2 ⟨rfl, hb⟩; replace hG : Below w.heap.size w w2 := Grew.trans (by exact zqf) hb; clear hb)
 go_wp2_with fail
 (refine (zqtc F _ hb).mono ?_; rintro e w3 ⟨rfl, hb⟩; replace hG : Below w.heap.size w w3 := Grew.trans (by exact zqf) hb; clear hb)
 go_wp2;go_ret;exact ⟨rfl, by exact zqf⟩
end Go.Proofs.YtfglcifnjaknnaaGreatDoor
