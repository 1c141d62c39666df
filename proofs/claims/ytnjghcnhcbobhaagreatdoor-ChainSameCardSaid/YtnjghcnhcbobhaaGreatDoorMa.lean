/- Ma -/
import Derived.Test.YtnjghcnhcbobhaaGreatDoorOw
import Derived.Test.YtnjghcnhcbobhaaGreatDoorSa
import Derived.SliceStrings
import Derived.Deep.DeepHandedRow
set_option linter.unusedVariables false
set_option linter.unusedSimpArgs false
set_option maxRecDepth 100000
set_option maxHeartbeats 4000000
namespace Go.Proofs.YtnjghcnhcbobhaaGreatDoor
open Go.ChangeShapes Go.WideShapes Go.ChangeAt Go.RowKit
theorem zqww (F : Nat -> ByteArray) : ∀ n, (catS F n).data.toList = ((List.range n).map fun j => (F j).data.toList).flatten
 | 0 => rfl
 | n + 1 => by
  show (catS F n ++ F n).data.toList = _
  rw [ByteArray.toList_data_append, zqww F n, List.range_succ, List.map_append, List.flatten_append]
  simp
theorem zqsc : ∀ l : List (List UInt8), Lib.join l [] = l.flatten
 | [] => rfl
 | [x] => by simp [Lib.join, List.intercalate]
 | x :: y :: r => by
  have ih := zqsc (y :: r);unfold Lib.join at ih ⊢;have e : ([] : List UInt8).intercalate (x :: y :: r) = x ++ ([] : List UInt8).intercalate (y :: r) := by simp [List.intercalate]
  rw [e, ih]
  simp
theorem zqw4 (F : Nat -> ByteArray) (n : Nat) : Lib.join (((List.range (n + 1)).map F).map (·.data.toList)) [] = (catS F (n + 1)).data.toList := by
 rw [zqsc, zqww, List.map_map]
 rfl
theorem zqvq (oa : Option Addr) (n c : Nat) (F : Nat -> ByteArray) (W : World) (hS : StrsAt W oa n F) (hc : n <= c) (hl : (catS F n).size + n <= 140737488355328) :
  Calls Tryz.prog 91 #[.slice oa n c, .string ⟨#[]⟩] W (Rt W (.string (catS F n))) := by
 cases n with
 | zero =>
  refine (Tryz.strings_Join_none oa c ⟨#[]⟩ W).mono ?_
  rintro e w' ⟨rfl, rfl⟩;exact ⟨rfl, Grew.refl _⟩
 | succ n =>
  rcases hS with h | ⟨ad, rfl, hcell⟩
  ·omega
  ·have h0 := hcell W (Grew.refl W) 0 (by omega)
   have hspot : ad.spot = none := by
    have e : ad.add 0 = ad := by simp [Addr.add]
    rw [e] at h0;unfold World.cell? at h0
    split at h0
    ·split at h0
     ·cases h0
     ·rename_i hs
      cases hx : ad.spot with
      | none => rfl
      | some z => rw [hx] at hs; simp at hs
    ·cases h0
   obtain ⟨bk, o, sp⟩ := ad
   simp only at hspot
   subst hspot;have hlen : ((List.range (n + 1)).map F).length = n + 1 := by simp
   have hj := Tryz.strings_Join bk o c ((List.range (n + 1)).map F) ⟨#[]⟩ W (fun j x hx => by
    rw [List.getElem?_map] at hx;have hjn : j < n + 1 := by
     rcases Nat.lt_or_ge j (n + 1) with h | h
     ·exact h
     ·rw [List.getElem?_eq_none (by simpa using h)] at hx; cases hx
    rw [List.getElem?_range hjn] at hx;obtain rfl := Option.some.inj hx;have := hcell W (Grew.refl W) j hjn;have e : (⟨bk, o, none⟩ : Addr).add j = ⟨bk, o + j, none⟩ := by unfold Addr.add; split <;> simp_all
    rw [e] at this;exact this) (by
    have := cell_lt h0;have e : (⟨bk, o, none⟩ : Addr).add 0 = ⟨bk, o, none⟩ := by simp [Addr.add]
    rw [e] at this;exact this) (by omega) (by omega) (by
    have e : (Lib.join (((List.range (n + 1)).map F).map (·.data.toList)) []).length = (catS F (n + 1)).size := by rw [zqw4]; exact Array.length_toList
    show (Lib.join (((List.range (n + 1)).map F).map (·.data.toList)) []).length <= _
    omega)
   rw [hlen] at hj;refine hj.mono ?_
   rintro e w' ⟨rfl, hb⟩;refine ⟨?_, hb⟩;have e : (Lib.join (((List.range (n + 1)).map F).map (·.data.toList)) (⟨#[]⟩ : ByteArray).data.toList) = (catS F (n + 1)).data.toList := zqw4 F n;rw [e]
end Go.Proofs.YtnjghcnhcbobhaaGreatDoor
namespace Go.Proofs.YtnjghcnhcbobhaaGreatDoor
open Go.RowKit
attribute [local irreducible] strOf shaF zqap padB zqbv zqb5
def lenB (w : World) (s : ByteArray) : Nat := (bytesRow s (grownCap w s.size 0 5)).size
theorem zrei (w : World) (s : ByteArray) : s.size <= lenB w s := by
 unfold lenB bytesRow;have : (s.data.map (fun b => Value.int .u8 b.toNat)).size = s.size := Array.size_map;rw [Array.size_append, this]; omega
theorem zqti (w : World) (s : ByteArray) : bytesRow s (grownCap w s.size 0 5) = ints .u8 (lenB w s) (byteAt s) := by
 apply Array.ext_getElem?
 intro i;have hsz : (s.data.map (fun b => Value.int .u8 b.toNat)).size = s.size := Array.size_map
 by_cases h : i < lenB w s
 ·rw [zqal _ _ _ _ h]
  unfold bytesRow
  by_cases hi : i < s.size
  ·rw [Array.getElem?_append_left (by rw [hsz]; exact hi), Array.getElem?_map, <- zqde s i hi]
   have : s.data[i]? = some s[i] := Array.getElem?_eq_getElem hi
   rw [this]; rfl
  ·unfold lenB bytesRow at h
   rw [Array.size_append, hsz, Array.size_replicate] at h;rw [Array.getElem?_append_right (by rw [hsz]; omega), hsz, Array.getElem?_replicate, if_pos (by omega), zqx6 s i hi]
 ·rw [Array.getElem?_eq_none (by unfold lenB at h; omega), Array.getElem?_eq_none (by rw [zqj]; omega)]
@[go_sem high] theorem zrho (w : World) (s : ByteArray) : (convert 9 144 (.string s)).run Tryz.prog w = .ok (.slice (some ⟨w.heap.size, 0, none⟩) s.size (grownCap w s.size 0 5)) (w.drew.alloc (.cells (ints .u8 (lenB w s) (byteAt s)) 5 (lenB w s, lenB w s + 1))) := by
 rw [run_bytes_of_string w 9 144 5 s Tryz.underlying9 Tryz.underlying144 Tryz.underlying5, zqti, zqj]
@[go_sem] theorem zq5r (w : World) (n i : Nat) (v : Value) (c : Array Value) (t : TypeId) (lo hi : Nat) (h : zqd w n = some (.cells c t (lo, hi))) : zqgy w n i v (some (.cells c t (lo, hi))) = w.setRow n (c.setIfInBounds i v) := by
 rw [<- h, <- zql7];unfold zqd at h;exact setCell_eq_setRow w n i c t (lo, hi) v h
@[go_sem] theorem zq6a (c : Array Value) (t : TypeId) (i lo hi : Nat) (h : i < lo) : zqgo (some (.cells c t (lo, hi))) i = false := by
 unfold zqgo
 simp; omega
def zqiz (s : ByteArray) (c : Int) : Nat -> Int := fun i => bits .xor .u8 (byteAt s i) c
def zqcv (s : ByteArray) (c : Int) : ByteArray := strOf s.size (zqiz s c)
theorem zqhj (s : ByteArray) (c : Int) : (zqcv s c).size = s.size := zq1 _ _
theorem zqw2 (s : ByteArray) (c : Int) (w : World) (hs : s.size <= 9223372036854775807) :
  Calls Tryz.prog 114 #[.string s, .int .u8 c] w (Rt w (.string (zqcv s c))) := by
 have hb := zqk4 s;have hN := zrei w s;generalize hL : lenB w s = N at *;have hF : Hid (∀ i, bits .xor .u8 (byteAt s i) c = zqiz s c i) := fun i => rfl;generalize hC : grownCap w s.size 0 5 = C at *
 go_enter Tryz.func114, Tryz.ntmps114
 go_wp2_with fail
 go_loopw [11] (fun i wr => ∃ k : Nat, k <= s.size /\ i = .int .i64 k /\ Below w.heap.size w wr /\ zqd wr w.heap.size = some (.cells (ints .u8 N (mix (zqiz s c) (byteAt s) k)) 5 (N, N + 1))) (fun i _ => s.size - (intOf i).toNat)
 case atStart => exact ⟨0, by omega, rfl, by exact zqf, by rw [zqf9]; exact zqg _ _ _ rfl⟩
 case round =>
  obtain ⟨k, hk, rfl, hG, fb⟩ := hrel;have lfb := zqa fb
  by_cases hlt : k < s.size
  ·have hkN : k < N := by omega
   have hm := zqon (zqiz s c) (byteAt s) k;have e := hF.out k;have S : Hid (upd (mix (zqiz s c) (byteAt s) k) k (zqiz s c k) = mix (zqiz s c) (byteAt s) (k + 1)) := zqga _ _ k;go_wp2;rw [S.out]
   go_roundw
   case rel => exact ⟨k + 1, by omega, by go_num, by exact zqf, zqr _ fb⟩
   case measure => simp [intOf]; omega
  ·obtain rfl : k = s.size := by omega
   clear hlt;have hc := zqdq (P := Tryz.prog) (src := 144) (dst := 9) Tryz.underlying144 Tryz.underlying5 Tryz.underlying9 w.heap.size s.size C N (mix (zqiz s c) (byteAt s) s.size) wr fb hN;rw [show strOf s.size (mix (zqiz s c) (byteAt s) s.size) = zqcv s c from zqio fun i hi => by simp [mix, hi]] at hc;go_wp2;go_ret;exact ⟨rfl, by exact zqf⟩
def zqdp (key : ByteArray) : ByteArray := if 64 < key.size then strOf 32 (shaF key) else key
def zqbk (key : ByteArray) : ByteArray := zqdp key ++ zqap (64 - (zqdp key).size)
theorem zqry (key : ByteArray) : Hid (zqbk key = zqdp key ++ zqap (64 - (zqdp key).size)) := rfl
theorem zqvu (key : ByteArray) : (zqdp key).size <= 64 := by
 unfold zqdp
 split
 ·rw [zq1]; omega
 ·omega
theorem zql4 (key : ByteArray) : (zqbk key).size = 64 := by
 have := zqvu key;unfold zqbk;rw [ByteArray.size_append, zqbu]; omega
@[go_sem high] theorem zrk0 (w : World) (g : Nat) : (Instr.sliceAt 44 (.pointer (some ⟨g, 0, none⟩)) none none none).run Tryz.prog w = .ok (.slice (some ⟨g, 0, none⟩) 32 32) w := by kernel_rfl
theorem zrcv (a : ByteArray) (g : Nat) (t : TypeId) (fr : Nat × Nat) (W : World) (hs : a.size < 1152921504606846976) (h : zqd W g = some (.cells #[.string a] t fr)) (hT : Tabs W) :
  Calls Tryz.prog 116 #[.slice (some ⟨g, 0, none⟩) 1 1] W (Rt W (.agg (ints .u8 32 (shaF a)))) := by
 have := zqqf (some ⟨g, 0, none⟩) 1 1 (oneS a) W (by rw [zqfs]; exact hs) (by decide) (zqh0 h) hT;rw [zqfs] at this;exact this
theorem zq1m (a b : ByteArray) (g : Nat) (t : TypeId) (fr : Nat × Nat) (W : World) (hs : a.size + b.size < 1152921504606846976) (h : zqd W g = some (.cells #[.string a, .string b] t fr)) (hT : Tabs W) :
  Calls Tryz.prog 116 #[.slice (some ⟨g, 0, none⟩) 2 2] W (Rt W (.agg (ints .u8 32 (shaF (a ++ b))))) := by
 have := zqqf (some ⟨g, 0, none⟩) 2 2 (twoS a b) W (by rw [zq4u, ByteArray.size_append]; exact hs) (by decide) (zq9r h) hT;rw [zq4u] at this;exact this
theorem zq1s (s a : ByteArray) (g : Nat) (t : TypeId) (fr : Nat × Nat) (W : World) (hs : s.size + a.size < 1152921504606846976) (h : zqd W g = some (.cells #[.string a] t fr)) (hT : Tabs W) :
  Calls Tryz.prog 113 #[.agg (zqj4 s), .slice (some ⟨g, 0, none⟩) 1 1] W (Rt W (.agg (zqj4 (s ++ a)))) := by
 have := zq2d s (some ⟨g, 0, none⟩) 1 1 (oneS a) W (by rw [zqfs]; exact hs) (by decide) (zqh0 h) hT;rw [zqfs] at this;exact this
attribute [irreducible] zqcv zqdp zqbk zqiz
theorem zq3f (key : ByteArray) (w : World) (hk : key.size < 1152921504606846976) (hT : Tabs w) :
  Calls Tryz.prog 111 #[.string key] w (Rt w (.string (zqbk key))) := by
 have H := zqry key;have hTT : Hid (Tabs w) := hT;clear hT
 by_cases hl : 64 < key.size
 ·have e : zqdp key = strOf 32 (shaF key) := by unfold zqdp; rw [if_pos hl]
  have h32 : (zqdp key).size = 32 := by rw [e, zq1]
  rw [h32, e] at H;clear e h32;have hr := zq3d 32 (by decide);have k1 : zqgv (strOf 32 (shaF key)) (zqap 32) := by unfold zqgv; rw [zqbu, zq1]; decide
  have hG := Grew.refl w
  go_enter Tryz.func111, Tryz.ntmps111
  go_wp2_with fail;have fx : zqd (w.alloc (.cells #[.string key] 9)) w.heap.size = some (.cells #[.string key] 9) := zqg _ _ _ rfl;replace hG : Below w.heap.size w (w.alloc (.cells #[.string key] 9)) := Grew.alloc hG _;generalize w.alloc (.cells #[.string key] 9) = w1 at *;have lfx := zqa fx;go_wp2_with fail
  (refine (zrcv key _ _ _ _ hk fx (hTT.out.later hG)).mono ?_; rintro e w2 ⟨rfl, hb⟩; replace fx : zqd w2 (w.heap.size) = some (.cells #[.string key] 9) := zqc hb (by exact zqh); have lfx := zqa fx; replace hG : Below w.heap.size w w2 := Grew.trans (by exact zqf) hb; clear hb)
  go_wp2_with fail;have fk : zqd (w2.alloc (.cells (ints .u8 32 (shaF key)) 44)) w2.heap.size = some (.cells (ints .u8 32 (shaF key)) 44) := zqg _ _ _ rfl;replace fx : zqd (w2.alloc (.cells (ints .u8 32 (shaF key)) 44)) (w.heap.size) = some (.cells #[.string key] 9) := zqi _ fx;replace hG : Below w.heap.size w (w2.alloc (.cells (ints .u8 32 (shaF key)) 44)) := Grew.alloc hG _;clear lfx;generalize w2.alloc (.cells (ints .u8 32 (shaF key)) 44) = w3 at *;generalize w2.heap.size = gk at *;have lfx := zqa fx;have lfk := zqa fk;have hc := zqdq (P := Tryz.prog) (src := 144) (dst := 9) Tryz.underlying144 Tryz.underlying5 Tryz.underlying9 gk 32 32 32 (shaF key) w3 fk (by omega);go_wp2_with fail;rw [hc];go_wp2_with fail
  (refine (hr _).mono ?_; rintro e w4 ⟨rfl, hb⟩; replace fx : zqd w4 (w.heap.size) = some (.cells #[.string key] 9) := zqc hb (by exact zqh); have lfx := zqa fx; replace fk : zqd w4 (gk) = some (.cells (ints .u8 32 (shaF key)) 44) := zqc hb (by exact zqh); have lfk := zqa fk; replace hG : Below w.heap.size w w4 := Grew.trans (by exact zqf) hb; clear hb)
  go_wp2;go_ret;rw [H.out];exact ⟨rfl, by exact zqf⟩
 ·have e : zqdp key = key := by unfold zqdp; rw [if_neg hl]
  rw [e] at H;clear e;obtain ⟨z, hz⟩ : ∃ z, 64 - key.size = z := ⟨_, rfl⟩
  have hzi : (64 : Int) - (key.size : Int) = (z : Int) := by omega
  have hz64 : z <= 64 := by omega
  rw [hz] at H;have hr := zq3d z (by omega);have k1 : zqgv key (zqap z) := by unfold zqgv; rw [zqbu]; omega
  clear hz;have hG := Grew.refl w
  go_enter Tryz.func111, Tryz.ntmps111
  go_wp2_with fail
  (refine (hr _).mono ?_; rintro e w1 ⟨rfl, hb⟩; replace hG : Below w.heap.size w w1 := Grew.trans (by exact zqf) hb; clear hb)
  go_wp2;go_ret;rw [H.out];exact ⟨rfl, by exact zqf⟩
end Go.Proofs.YtnjghcnhcbobhaaGreatDoor
namespace Go.Proofs.YtnjghcnhcbobhaaGreatDoor
open Go.RowKit
attribute [local irreducible] strOf shaF zqap padB zqbv zqb5
def macF (key s : ByteArray) : Nat -> Int := shaF (zqcv (zqbk key) 92 ++ strOf 32 (shaF (zqcv (zqbk key) 54 ++ s)))
theorem zqg6 (key s : ByteArray) : Bytes 32 (macF key s) := zqri _
theorem zq2c (key s : ByteArray) : Hid (macF key s = shaF (zqcv (zqbk key) 92 ++ strOf 32 (shaF (zqcv (zqbk key) 54 ++ s)))) := rfl
attribute [local irreducible] macF
theorem zqlm (key : ByteArray) (oa : Option Addr) (n c : Nat) (F : Nat -> ByteArray) (w : World) (hk : key.size < 1152921504606846976) (hl : (catS F n).size < 1152921504606840000) (hn : n <= 9223372036854775807) (hS : StrsAt w oa n F) (hT : Tabs w) :
  Calls Tryz.prog 82 #[.string key, .slice oa n c] w (Rt w (.agg (ints .u8 32 (macF key (catS F n))))) := by
 have H := zq2c key (catS F n);have hTT : Hid (Tabs w) := hT;have hb64 := zql4 key;have he1 : (zqcv (zqbk key) 54).size = 64 := by rw [zqhj, hb64]
 have he2 : (zqcv (zqbk key) 92).size = 64 := by rw [zqhj, hb64]
 have c1 := fun W : World => zqw2 (zqbk key) 54 W (by omega);have c2 := fun W : World => zqw2 (zqbk key) 92 W (by omega);have hw : Hid (∀ W : World, Below w.heap.size w W -> Calls Tryz.prog 113 #[.agg (zqj4 (zqcv (zqbk key) 54)), .slice oa n c] W (Rt W (.agg (zqj4 (zqcv (zqbk key) 54 ++ catS F n))))) := fun W hW => by
  have := zq2d (zqcv (zqbk key) 54) oa n c F W (by omega) hn (hS.later hW) (hT.later hW);exact this
 have hbl : Hid (∀ W : World, Below w.heap.size w W -> Calls Tryz.prog 111 #[.string key] W (Rt W (.string (zqbk key)))) := fun W hW => zq3f key W hk (hT.later hW);have hsm : Hid (∀ W : World, Below w.heap.size w W -> Calls Tryz.prog 115 #[.agg (zqj4 (zqcv (zqbk key) 54 ++ catS F n))] W (Rt W (.agg (ints .u8 32 (shaF (zqcv (zqbk key) 54 ++ catS F n)))))) := fun W hW => zrp0 (zqcv (zqbk key) 54 ++ catS F n) W (by rw [ByteArray.size_append]; omega) (hT.later hW);have hfit : Hid ((zqcv (zqbk key) 92).size + (strOf 32 (shaF (zqcv (zqbk key) 54 ++ catS F n))).size < 1152921504606846976) := by
  show _ + _ < _
  rw [he2, zq1]; decide
 have hfit1 : Hid (ByteArray.empty.size + (zqcv (zqbk key) 54).size < 1152921504606846976) := by
  show _ + _ < _
  rw [he1]; decide
 have hemp : Hid (∀ a : ByteArray, ByteArray.empty ++ a = a) := fun a => ByteArray.empty_append;clear hS hT hl he1 he2 hb64;have hG := Grew.refl w;have fr : True := trivial
 go_enter Tryz.func82, Tryz.ntmps82
 go_wp2_with fail;generalize hW : w.alloc (.cells (ints .u8 32 (zqe)) 44) = w1;replace fr : zqd w1 (w.heap.size) = some (.cells (ints .u8 32 (zqe)) 44) := zqs hW;replace hG : Below w.heap.size w w1 := zqak hW;clear hW;have lfr := zqa fr;go_wp2_with fail
 (refine (hbl.out _ hG).mono ?_; rintro e w2 ⟨rfl, hb⟩; replace fr := zqc hb fr; have lfr := zqa fr; replace hG : Below w.heap.size w w2 := Grew.trans (by exact zqf) hb; clear hb)
 go_wp2_with fail
 (refine (zrn2 _).mono ?_; rintro e w3 ⟨rfl, hb⟩; replace fr := zqc hb fr; have lfr := zqa fr; replace hG : Below w.heap.size w w3 := Grew.trans (by exact zqf) hb; clear hb)
 go_wp2_with fail
 (refine (c1 _).mono ?_; rintro e w4 ⟨rfl, hb⟩; replace fr := zqc hb fr; have lfr := zqa fr; replace hG : Below w.heap.size w w4 := Grew.trans (by exact zqf) hb; clear hb)
 have lr0 : ¬ (w4.heap.size = w.heap.size) := by omega
 go_wp2_with fail;have fx : zqd (w4.alloc (.cells #[.string (zqcv (zqbk key) 54)] 9)) w4.heap.size = some (.cells #[.string (zqcv (zqbk key) 54)] 9) := zqg _ _ _ rfl;replace fr : zqd (w4.alloc (.cells #[.string (zqcv (zqbk key) 54)] 9)) (w.heap.size) = some (.cells (ints .u8 32 (zqe)) 44) := zqi _ fr;replace hG : Below w.heap.size w (w4.alloc (.cells #[.string (zqcv (zqbk key) 54)] 9)) := Grew.alloc hG _;clear lfr;generalize w4.alloc (.cells #[.string (zqcv (zqbk key) 54)] 9) = w5 at *;generalize w4.heap.size = gx at *;have lfr := zqa fr;have lfx := zqa fx;go_wp2_with fail
 (refine (zq1s ByteArray.empty _ _ _ _ _ hfit1.out fx (hTT.out.later hG)).mono ?_; rintro e w6 ⟨rfl, hb⟩; replace fr : zqd w6 (w.heap.size) = some (.cells (ints .u8 32 (zqe)) 44) := zqc hb (by exact zqh); have lfr := zqa fr; replace fx : zqd w6 (gx) = some (.cells #[.string (zqcv (zqbk key) 54)] 9) := zqc hb (by exact zqh); have lfx := zqa fx; replace hG : Below w.heap.size w w6 := Grew.trans (by exact zqf) hb; clear hb)
 rw [hemp.out];go_wp2_with fail
 (refine (hw.out _ hG).mono ?_; rintro e w7 ⟨rfl, hb⟩; replace fr : zqd w7 (w.heap.size) = some (.cells (ints .u8 32 (zqe)) 44) := zqc hb (by exact zqh); have lfr := zqa fr; replace fx : zqd w7 (gx) = some (.cells #[.string (zqcv (zqbk key) 54)] 9) := zqc hb (by exact zqh); have lfx := zqa fx; replace hG : Below w.heap.size w w7 := Grew.trans (by exact zqf) hb; clear hb)
 go_wp2_with fail
 (refine (hsm.out _ hG).mono ?_; rintro e w8 ⟨rfl, hb⟩; replace fr : zqd w8 (w.heap.size) = some (.cells (ints .u8 32 (zqe)) 44) := zqc hb (by exact zqh); have lfr := zqa fr; replace fx : zqd w8 (gx) = some (.cells #[.string (zqcv (zqbk key) 54)] 9) := zqc hb (by exact zqh); have lfx := zqa fx; replace hG : Below w.heap.size w w8 := Grew.trans (by exact zqf) hb; clear hb)
 have lk0 : ¬ (w8.heap.size = w.heap.size) := by omega
 go_wp2_with fail;have fk : zqd (w8.alloc (.cells (ints .u8 32 (shaF (zqcv (zqbk key) 54 ++ catS F n))) 44)) w8.heap.size = some (.cells (ints .u8 32 (shaF (zqcv (zqbk key) 54 ++ catS F n))) 44) := zqg _ _ _ rfl;replace fr : zqd (w8.alloc (.cells (ints .u8 32 (shaF (zqcv (zqbk key) 54 ++ catS F n))) 44)) (w.heap.size) = some (.cells (ints .u8 32 (zqe)) 44) := zqi _ fr;replace fx : zqd (w8.alloc (.cells (ints .u8 32 (shaF (zqcv (zqbk key) 54 ++ catS F n))) 44)) (gx) = some (.cells #[.string (zqcv (zqbk key) 54)] 9) := zqi _ fx;replace hG : Below w.heap.size w (w8.alloc (.cells (ints .u8 32 (shaF (zqcv (zqbk key) 54 ++ catS F n))) 44)) := Grew.alloc hG _;clear lfr lfx;generalize w8.alloc (.cells (ints .u8 32 (shaF (zqcv (zqbk key) 54 ++ catS F n))) 44) = w9 at *;generalize w8.heap.size = gk at *;have lfr := zqa fr
 have lfx := zqa fx;have lfk := zqa fk;generalize hX : shaF (zqcv (zqbk key) 54 ++ catS F n) = X at *;have hc := fun m : More => zqdq (P := Tryz.prog) (src := 144) (dst := 9) Tryz.underlying144 Tryz.underlying5 Tryz.underlying9 gk 32 32 32 X (more w9 m) (zqq m fk) (by omega);go_wp2_with fail
 ((first | (with_reducible refine zqa2 4 zqb zqb zqb zqb zqb ?_) | refine zqar 4 zqb zqb zqb zqb zqb ?_); simp only [List.take_succ_cons, List.take_zero]; (repeat (first | go_big_quiet_skip | (go_big_quiet_want; go_big_quiet_op; first | go_big_quiet_on | (apply Exists.intro; refine ⟨fun _ => ?_, ?_⟩; (focus (first | (with_reducible exact Calls.of_more (c2 _)))); go_big_quiet_on)))); refine wpQuiet_nil ?_; rintro _ ⟨mq, rfl⟩)
 (refine zqu (i := 4) (fuel := 2) zqb rfl ?_; intro K hK; go_simp; refine hK _ _ ?_; clear hK K)
 refine zqu (i := 5) (fuel := 1) zqb rfl ?_
 intro K hK
 go_simp
 refine (zq1m _ _ _ _ _ _ hfit.out (zqg _ _ _ rfl) (hTT.out.later (by exact zqf))).mono ?_
 rintro e9 w9 ⟨rfl, hb9⟩;have er : zqd w9 (w.heap.size) = some (.cells (ints .u8 32 (zqe)) 44) := zqc hb9 (by exact zqh);have hG9 : Below w.heap.size w w9 := Grew.trans (by exact zqf) hb9;have ler := zqa er;clear hb9;refine hK _ _ ?_
 clear hK K
 (refine zqu (i := 6) (fuel := 0) zqb rfl ?_; intro K hK; go_simp; refine hK _ _ ?_; clear hK K)
 (refine wpAny_done zqb ?_ _)
 go_wp2;refine zqaf rfl _ 44 _ (0, 0) _ rfl (zqr _ er) Tryz.underlying44 rfl (by rw [zqj]; kernel_rfl) rfl ⟨by rw [H.out], by exact zqf⟩
theorem check_any (key : ByteArray) (tag : Nat -> Int) (oa : Option Addr) (n c : Nat) (F : Nat -> ByteArray) (w : World) (ht : Bytes 32 tag) (hk : key.size < 1152921504606846976) (hl : (catS F n).size < 1152921504606840000) (hn : n <= 9223372036854775807) (hS : StrsAt w oa n F) (hT : Tabs w) :
  Calls Tryz.prog 83 #[.string key, .agg (ints .u8 32 tag), .slice oa n c] w (Rt w (.bool (same 32 tag (macF key (catS F n))))) := by
 have hw : Hid (∀ W : World, Below w.heap.size w W -> Calls Tryz.prog 82 #[.string key, .slice oa n c] W (Rt W (.agg (ints .u8 32 (macF key (catS F n)))))) := fun W hW => zqlm key oa n c F W hk hl hn (hS.later hW) (hT.later hW);have hb := zqg6 key (catS F n);generalize macF key (catS F n) = M at *;clear hS hT hl;have hG := Grew.refl w;have ft : True := trivial
 go_enter Tryz.func83, Tryz.ntmps83
 go_wp2_with fail;generalize hW : w.alloc (.cells (ints .u8 32 (tag)) 44) = w1;replace ft : zqd w1 (w.heap.size) = some (.cells (ints .u8 32 (tag)) 44) := zqs hW;replace hG : Below w.heap.size w w1 := zqak hW;clear hW;have lft := zqa ft;have hw2 := fun m => hw.out (more w1 m) (Grew.more hG m);go_wp2_with fail
 ((first | (with_reducible refine zq8 zqb zqb ?_) | refine zqz zqb zqb ?_); (repeat (first | go_big_quiet_skip | (go_big_quiet_want; go_big_quiet_op; first | go_big_quiet_on | (apply Exists.intro; refine ⟨fun _ => ?_, ?_⟩; (focus (first | (with_reducible exact Calls.of_more (hw2 _)) | (with_reducible exact Calls.of_more (zqlh tag M _ ht hb)))); go_big_quiet_on)))); refine wpQuiet_nil ?_; rintro _ ⟨mq, rfl⟩)
 go_wp2;go_ret;exact ⟨rfl, by exact zqf⟩
end Go.Proofs.YtnjghcnhcbobhaaGreatDoor
namespace Go.Proofs.YtnjghcnhcbobhaaGreatDoor
open Go.RowKit
theorem zq8z : ((List.range 64).map fun i => UInt8.ofNat (hexd (macF ByteArray.empty ByteArray.empty) i).toNat) = [98, 54, 49, 51, 54, 55, 57, 97, 48, 56, 49, 52, 100, 57, 101, 99, 55, 55, 50, 102, 57, 53, 100, 55, 55, 56, 99, 51, 53, 102, 99, 53, 102, 102, 49, 54, 57, 55, 99, 52, 57, 51, 55, 49, 53, 54, 53, 51, 99, 54, 99, 55, 49, 50, 49, 52, 52, 50, 57, 50, 99, 53, 97, 100] := by decide +kernel
attribute [local irreducible] strOf shaF zqap padB zqbv zqb5
attribute [local irreducible] macF
theorem zq1a (key s : ByteArray) (g : Nat) (W : World) (hk : key.size < 1152921504606846976) (hs : s.size < 1152921504606840000) (h : StrsAt W (some ⟨g, 0, none⟩) 1 (oneS s)) (hT : Tabs W) :
  Calls Tryz.prog 82 #[.string key, .slice (some ⟨g, 0, none⟩) 1 1] W (Rt W (.agg (ints .u8 32 (macF key s)))) := by
 have := zqlm key (some ⟨g, 0, none⟩) 1 1 (oneS s) W hk (by rw [zqfs]; exact hs) (by decide) h hT;rw [zqfs] at this;exact this
theorem zqzo (w : World) (hT : Tabs w) :
  Calls Tryz.prog 243 #[] w (Rt w (.bool true)) := by
 have h2 : ((strOf 64 (hexd (macF ByteArray.empty ByteArray.empty))).toList == [98, 54, 49, 51, 54, 55, 57, 97, 48, 56, 49, 52, 100, 57, 101, 99, 55, 55, 50, 102, 57, 53, 100, 55, 55, 56, 99, 51, 53, 102, 99, 53, 102, 102, 49, 54, 57, 55, 99, 52, 57, 51, 55, 49, 53, 54, 53, 51, 99, 54, 99, 55, 49, 50, 49, 52, 52, 50, 57, 50, 99, 53, 97, 100]) = true := by
  rw [zqe2, zq8z];exact beq_self_eq_true _
 have hs : Hid (∀ W : World, Below w.heap.size w W -> Calls Tryz.prog 82 #[.string ByteArray.empty, .slice none 0 0] W (Rt W (.agg (ints .u8 32 (macF ByteArray.empty ByteArray.empty))))) := fun W hW => zqlm ByteArray.empty none 0 0 (oneS ByteArray.empty) W (by decide) (by decide) (by decide) (zqhb _ _) (hT.later hW);have hb := zqg6 ByteArray.empty ByteArray.empty;generalize macF ByteArray.empty ByteArray.empty = F at *;have hG := Grew.refl w
 go_enter Tryz.func243, Tryz.ntmps243
 go_wp2_with fail
 (refine (zqyj _ hT).mono ?_; rintro e w1 ⟨rfl, hb⟩; replace hG : Below w.heap.size w w1 := Grew.trans (by exact zqf) hb; clear hb)
 go_wp2_with fail
 (refine (hs.out _ hG).mono ?_; rintro e w2 ⟨rfl, hb⟩; replace hG : Below w.heap.size w w2 := Grew.trans (by exact zqf) hb; clear hb)
 go_wp2_with fail
 (refine (zqud F _ hb).mono ?_; rintro e w3 ⟨rfl, hb⟩; replace hG : Below w.heap.size w w3 := Grew.trans (by exact zqf) hb; clear hb)
 go_wp2;go_ret;exact ⟨rfl, by exact zqf⟩
end Go.Proofs.YtnjghcnhcbobhaaGreatDoor
