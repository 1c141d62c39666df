/- Ma -/
import Derived.Test.YtconieddcjpbjaaGreatDoorSa
set_option linter.unusedVariables false
set_option linter.unusedSimpArgs false
set_option maxRecDepth 100000
set_option maxHeartbeats 4000000
namespace Go.Proofs.YtconieddcjpbjaaGreatDoor
open Go.RowKit
attribute [local irreducible] strOf shaF zqay padB zqb8 zqcf
def lenB (w : World) (s : ByteArray) : Nat := (bytesRow s (grownCap w s.size 0 5)).size
theorem zra5 (w : World) (s : ByteArray) : s.size <= lenB w s := by
 unfold lenB bytesRow;have : (s.data.map (fun b => Value.int .u8 b.toNat)).size = s.size := Array.size_map;rw [Array.size_append, this]; omega
theorem zque (w : World) (s : ByteArray) : bytesRow s (grownCap w s.size 0 5) = ints .u8 (lenB w s) (byteAt s) := by
 apply Array.ext_getElem?
 intro i;have hsz : (s.data.map (fun b => Value.int .u8 b.toNat)).size = s.size := Array.size_map
 by_cases h : i < lenB w s
 ·rw [zqa9 _ _ _ _ h]
  unfold bytesRow
  by_cases hi : i < s.size
  ·rw [Array.getElem?_append_left (by rw [hsz]; exact hi), Array.getElem?_map, <- zqeg s i hi]
   have : s.data[i]? = some s[i] := Array.getElem?_eq_getElem hi
   rw [this]; rfl
  ·unfold lenB bytesRow at h
   rw [Array.size_append, hsz, Array.size_replicate] at h;rw [Array.getElem?_append_right (by rw [hsz]; omega), hsz, Array.getElem?_replicate, if_pos (by omega), zqyf s i hi]
 ·rw [Array.getElem?_eq_none (by unfold lenB at h; omega), Array.getElem?_eq_none (by rw [zqh]; omega)]
@[go_sem high] theorem zrew (w : World) (s : ByteArray) : (convert 9 135 (.string s)).run Tryz.prog w = .ok (.slice (some ⟨w.heap.size, 0, none⟩) s.size (grownCap w s.size 0 5)) (w.drew.alloc (.cells (ints .u8 (lenB w s) (byteAt s)) 5 (lenB w s, lenB w s + 1))) := by
 rw [run_bytes_of_string w 9 135 5 s Tryz.underlying9 Tryz.underlying135 Tryz.underlying5, zque, zqh]
@[go_sem] theorem zq5t (w : World) (n i : Nat) (v : Value) (c : Array Value) (t : TypeId) (lo hi : Nat) (h : zqd w n = some (.cells c t (lo, hi))) : zqho w n i v (some (.cells c t (lo, hi))) = w.setRow n (c.setIfInBounds i v) := by
 rw [<- h, <- zqnb];unfold zqd at h;exact setCell_eq_setRow w n i c t (lo, hi) v h
@[go_sem] theorem zq72 (c : Array Value) (t : TypeId) (i lo hi : Nat) (h : i < lo) : zqgz (some (.cells c t (lo, hi))) i = false := by
 unfold zqgz
 simp; omega
def zqkc (s : ByteArray) (c : Int) : Nat -> Int := fun i => bits .xor .u8 (byteAt s i) c
def zqdb (s : ByteArray) (c : Int) : ByteArray := strOf s.size (zqkc s c)
theorem zqib (s : ByteArray) (c : Int) : (zqdb s c).size = s.size := zqal _ _
theorem zqxw (s : ByteArray) (c : Int) (w : World) (hs : s.size <= 9223372036854775807) :
  Calls Tryz.prog 154 #[.string s, .int .u8 c] w (Rt w (.string (zqdb s c))) := by
 have hb := zql2 s;have hN := zra5 w s;generalize hL : lenB w s = N at *;have hF : Hid (∀ i, bits .xor .u8 (byteAt s i) c = zqkc s c i) := fun i => rfl;generalize hC : grownCap w s.size 0 5 = C at *
 go_enter Tryz.func154, Tryz.ntmps154
 go_wp2_with fail
 go_loopw [11] (fun i wr => ∃ k : Nat, k <= s.size /\ i = .int .i64 k /\ Below w.heap.size w wr /\ zqd wr w.heap.size = some (.cells (ints .u8 N (mix (zqkc s c) (byteAt s) k)) 5 (N, N + 1))) (fun i _ => s.size - (intOf i).toNat)
 case atStart => exact ⟨0, by omega, rfl, by exact zqf, by rw [zqf2]; exact zqj _ _ _ rfl⟩
 case round =>
  obtain ⟨k, hk, rfl, hG, fb⟩ := hrel;have lfb := zqa fb
  by_cases hlt : k < s.size
  ·have hkN : k < N := by omega
   have hm := zqne (zqkc s c) (byteAt s) k;have e := hF.out k;have S : Hid (upd (mix (zqkc s c) (byteAt s) k) k (zqkc s c k) = mix (zqkc s c) (byteAt s) (k + 1)) := zqe9 _ _ k;go_wp2;rw [S.out]
   go_roundw
   case rel => exact ⟨k + 1, by omega, by go_num, by exact zqf, zqs _ fb⟩
   case measure => simp [intOf]; omega
  ·obtain rfl : k = s.size := by omega
   clear hlt;have hc := zqft (P := Tryz.prog) (src := 135) (dst := 9) Tryz.underlying135 Tryz.underlying5 Tryz.underlying9 w.heap.size s.size C N (mix (zqkc s c) (byteAt s) s.size) wr fb hN;rw [show strOf s.size (mix (zqkc s c) (byteAt s) s.size) = zqdb s c from zqno fun i hi => by simp [mix, hi]] at hc;go_wp2;go_ret;exact ⟨rfl, by exact zqf⟩
def zqd1 (key : ByteArray) : ByteArray := if 64 < key.size then strOf 32 (shaF key) else key
def zqbr (key : ByteArray) : ByteArray := zqd1 key ++ zqay (64 - (zqd1 key).size)
theorem zqr3 (key : ByteArray) : Hid (zqbr key = zqd1 key ++ zqay (64 - (zqd1 key).size)) := rfl
theorem zqxf (key : ByteArray) : (zqd1 key).size <= 64 := by
 unfold zqd1
 split
 ·rw [zqal]; omega
 ·omega
theorem zqmz (key : ByteArray) : (zqbr key).size = 64 := by
 have := zqxf key;unfold zqbr;rw [ByteArray.size_append, zqb4]; omega
@[go_sem high] theorem zriq (w : World) (g : Nat) : (Instr.sliceAt 24 (.pointer (some ⟨g, 0, none⟩)) none none none).run Tryz.prog w = .ok (.slice (some ⟨g, 0, none⟩) 32 32) w := by kernel_rfl
theorem zrbv (a : ByteArray) (g : Nat) (t : TypeId) (fr : Nat × Nat) (W : World) (hs : a.size < 1152921504606846976) (h : zqd W g = some (.cells #[.string a] t fr)) (hT : Tabs W) :
  Calls Tryz.prog 156 #[.slice (some ⟨g, 0, none⟩) 1 1] W (Rt W (.agg (ints .u8 32 (shaF a)))) := by
 have := zqrc (some ⟨g, 0, none⟩) 1 1 (oneS a) W (by rw [zqld]; exact hs) (by decide) (zqqr h) hT;rw [zqld] at this;exact this
theorem zrb0 (a b : ByteArray) (g : Nat) (t : TypeId) (fr : Nat × Nat) (W : World) (hs : a.size + b.size < 1152921504606846976) (h : zqd W g = some (.cells #[.string a, .string b] t fr)) (hT : Tabs W) :
  Calls Tryz.prog 156 #[.slice (some ⟨g, 0, none⟩) 2 2] W (Rt W (.agg (ints .u8 32 (shaF (a ++ b))))) := by
 have := zqrc (some ⟨g, 0, none⟩) 2 2 (twoS a b) W (by rw [zq38, ByteArray.size_append]; exact hs) (by decide) (zq6t h) hT;rw [zq38] at this;exact this
theorem zq2r (s a : ByteArray) (g : Nat) (t : TypeId) (fr : Nat × Nat) (W : World) (hs : s.size + a.size < 1152921504606846976) (h : zqd W g = some (.cells #[.string a] t fr)) (hT : Tabs W) :
  Calls Tryz.prog 153 #[.agg (zqkn s), .slice (some ⟨g, 0, none⟩) 1 1] W (Rt W (.agg (zqkn (s ++ a)))) := by
 have := zq17 s (some ⟨g, 0, none⟩) 1 1 (oneS a) W (by rw [zqld]; exact hs) (by decide) (zqqr h) hT;rw [zqld] at this;exact this
attribute [irreducible] zqdb zqd1 zqbr zqkc
theorem zq4k (key : ByteArray) (w : World) (hk : key.size < 1152921504606846976) (hT : Tabs w) :
  Calls Tryz.prog 151 #[.string key] w (Rt w (.string (zqbr key))) := by
 have H := zqr3 key;have hTT : Hid (Tabs w) := hT;clear hT
 by_cases hl : 64 < key.size
 ·have e : zqd1 key = strOf 32 (shaF key) := by unfold zqd1; rw [if_pos hl]
  have h32 : (zqd1 key).size = 32 := by rw [e, zqal]
  rw [h32, e] at H;clear e h32;have hr := zq31 32 (by decide);have k1 : zqjb (strOf 32 (shaF key)) (zqay 32) := by unfold zqjb; rw [zqb4, zqal]; decide
  have hG := Grew.refl w
  go_enter Tryz.func151, Tryz.ntmps151
  go_wp2_with fail;have fx : zqd (w.alloc (.cells #[.string key] 9)) w.heap.size = some (.cells #[.string key] 9) := zqj _ _ _ rfl;replace hG : Below w.heap.size w (w.alloc (.cells #[.string key] 9)) := Grew.alloc hG _;generalize w.alloc (.cells #[.string key] 9) = w1 at *;have lfx := zqa fx;go_wp2_with fail
  (refine (zrbv key _ _ _ _ hk fx (hTT.out.later hG)).mono ?_; rintro e w2 ⟨rfl, hb⟩; replace fx : zqd w2 (w.heap.size) = some (.cells #[.string key] 9) := zqb hb (by exact zqe); have lfx := zqa fx; replace hG : Below w.heap.size w w2 := Grew.trans (by exact zqf) hb; clear hb)
  go_wp2_with fail;have fk : zqd (w2.alloc (.cells (ints .u8 32 (shaF key)) 24)) w2.heap.size = some (.cells (ints .u8 32 (shaF key)) 24) := zqj _ _ _ rfl;replace fx : zqd (w2.alloc (.cells (ints .u8 32 (shaF key)) 24)) (w.heap.size) = some (.cells #[.string key] 9) := zqm _ fx;replace hG : Below w.heap.size w (w2.alloc (.cells (ints .u8 32 (shaF key)) 24)) := Grew.alloc hG _;clear lfx;generalize w2.alloc (.cells (ints .u8 32 (shaF key)) 24) = w3 at *;generalize w2.heap.size = gk at *;have lfx := zqa fx;have lfk := zqa fk;have hc := zqft (P := Tryz.prog) (src := 135) (dst := 9) Tryz.underlying135 Tryz.underlying5 Tryz.underlying9 gk 32 32 32 (shaF key) w3 fk (by omega);go_wp2_with fail;rw [hc];go_wp2_with fail
  (refine (hr _).mono ?_; rintro e w4 ⟨rfl, hb⟩; replace fx : zqd w4 (w.heap.size) = some (.cells #[.string key] 9) := zqb hb (by exact zqe); have lfx := zqa fx; replace fk : zqd w4 (gk) = some (.cells (ints .u8 32 (shaF key)) 24) := zqb hb (by exact zqe); have lfk := zqa fk; replace hG : Below w.heap.size w w4 := Grew.trans (by exact zqf) hb; clear hb)
  go_wp2;go_ret;rw [H.out];exact ⟨rfl, by exact zqf⟩
 ·have e : zqd1 key = key := by unfold zqd1; rw [if_neg hl]
  rw [e] at H;clear e;obtain ⟨z, hz⟩ : ∃ z, 64 - key.size = z := ⟨_, rfl⟩
  have hzi : (64 : Int) - (key.size : Int) = (z : Int) := by omega
  have hz64 : z <= 64 := by omega
  rw [hz] at H;have hr := zq31 z (by omega);have k1 : zqjb key (zqay z) := by unfold zqjb; rw [zqb4]; omega
  clear hz;have hG := Grew.refl w
  go_enter Tryz.func151, Tryz.ntmps151
  go_wp2_with fail
  (refine (hr _).mono ?_; rintro e w1 ⟨rfl, hb⟩; replace hG : Below w.heap.size w w1 := Grew.trans (by exact zqf) hb; clear hb)
  go_wp2;go_ret;rw [H.out];exact ⟨rfl, by exact zqf⟩
end Go.Proofs.YtconieddcjpbjaaGreatDoor
namespace Go.Proofs.YtconieddcjpbjaaGreatDoor
open Go.RowKit
attribute [local irreducible] strOf shaF zqay padB zqb8 zqcf
def macF (key s : ByteArray) : Nat -> Int := shaF (zqdb (zqbr key) 92 ++ strOf 32 (shaF (zqdb (zqbr key) 54 ++ s)))
theorem zqtm (key s : ByteArray) : Bytes 32 (macF key s) := zqsb _
theorem zq5l (key s : ByteArray) : Hid (macF key s = shaF (zqdb (zqbr key) 92 ++ strOf 32 (shaF (zqdb (zqbr key) 54 ++ s)))) := rfl
attribute [local irreducible] macF
theorem zqq7 (key : ByteArray) (oa : Option Addr) (n c : Nat) (F : Nat -> ByteArray) (w : World) (hk : key.size < 1152921504606846976) (hl : (catS F n).size < 1152921504606840000) (hn : n <= 9223372036854775807) (hS : StrsAt w oa n F) (hT : Tabs w) :
  Calls Tryz.prog 140 #[.string key, .slice oa n c] w (Rt w (.agg (ints .u8 32 (macF key (catS F n))))) := by
 have H := zq5l key (catS F n);have hTT : Hid (Tabs w) := hT;have hb64 := zqmz key;have he1 : (zqdb (zqbr key) 54).size = 64 := by rw [zqib, hb64]
 have he2 : (zqdb (zqbr key) 92).size = 64 := by rw [zqib, hb64]
 have c1 := fun W : World => zqxw (zqbr key) 54 W (by omega);have c2 := fun W : World => zqxw (zqbr key) 92 W (by omega);have hw : Hid (∀ W : World, Below w.heap.size w W -> Calls Tryz.prog 153 #[.agg (zqkn (zqdb (zqbr key) 54)), .slice oa n c] W (Rt W (.agg (zqkn (zqdb (zqbr key) 54 ++ catS F n))))) := fun W hW => by
  have := zq17 (zqdb (zqbr key) 54) oa n c F W (by omega) hn (hS.later hW) (hT.later hW);exact this
 have hbl : Hid (∀ W : World, Below w.heap.size w W -> Calls Tryz.prog 151 #[.string key] W (Rt W (.string (zqbr key)))) := fun W hW => zq4k key W hk (hT.later hW);have hsm : Hid (∀ W : World, Below w.heap.size w W -> Calls Tryz.prog 155 #[.agg (zqkn (zqdb (zqbr key) 54 ++ catS F n))] W (Rt W (.agg (ints .u8 32 (shaF (zqdb (zqbr key) 54 ++ catS F n)))))) := fun W hW => zrk0 (zqdb (zqbr key) 54 ++ catS F n) W (by rw [ByteArray.size_append]; omega) (hT.later hW);have hfit : Hid ((zqdb (zqbr key) 92).size + (strOf 32 (shaF (zqdb (zqbr key) 54 ++ catS F n))).size < 1152921504606846976) := by
  show _ + _ < _
  rw [he2, zqal]; decide
 have hfit1 : Hid (ByteArray.empty.size + (zqdb (zqbr key) 54).size < 1152921504606846976) := by
  show _ + _ < _
  rw [he1]; decide
 have hemp : Hid (∀ a : ByteArray, ByteArray.empty ++ a = a) := fun a => ByteArray.empty_append;clear hS hT hl he1 he2 hb64;have hG := Grew.refl w;have fr : True := trivial
 go_enter Tryz.func140, Tryz.ntmps140
 go_wp2_with fail;generalize hW : w.alloc (.cells (ints .u8 32 (zqg)) 24) = w1;replace fr : zqd w1 (w.heap.size) = some (.cells (ints .u8 32 (zqg)) 24) := zqk hW;replace hG : Below w.heap.size w w1 := zq2 hW;clear hW;have lfr := zqa fr;go_wp2_with fail
 (refine (hbl.out _ hG).mono ?_; rintro e w2 ⟨rfl, hb⟩; replace fr := zqb hb fr; have lfr := zqa fr; replace hG : Below w.heap.size w w2 := Grew.trans (by exact zqf) hb; clear hb)
 go_wp2_with fail
 (refine (zrle _).mono ?_; rintro e w3 ⟨rfl, hb⟩; replace fr := zqb hb fr; have lfr := zqa fr; replace hG : Below w.heap.size w w3 := Grew.trans (by exact zqf) hb; clear hb)
 go_wp2_with fail
 (refine (c1 _).mono ?_; rintro e w4 ⟨rfl, hb⟩; replace fr := zqb hb fr; have lfr := zqa fr; replace hG : Below w.heap.size w w4 := Grew.trans (by exact zqf) hb; clear hb)
 have lr0 : ¬ (w4.heap.size = w.heap.size) := by omega
 go_wp2_with fail;have fx : zqd (w4.alloc (.cells #[.string (zqdb (zqbr key) 54)] 9)) w4.heap.size = some (.cells #[.string (zqdb (zqbr key) 54)] 9) := zqj _ _ _ rfl;replace fr : zqd (w4.alloc (.cells #[.string (zqdb (zqbr key) 54)] 9)) (w.heap.size) = some (.cells (ints .u8 32 (zqg)) 24) := zqm _ fr;replace hG : Below w.heap.size w (w4.alloc (.cells #[.string (zqdb (zqbr key) 54)] 9)) := Grew.alloc hG _;clear lfr;generalize w4.alloc (.cells #[.string (zqdb (zqbr key) 54)] 9) = w5 at *;generalize w4.heap.size = gx at *;have lfr := zqa fr;have lfx := zqa fx;go_wp2_with fail
 (refine (zq2r ByteArray.empty _ _ _ _ _ hfit1.out fx (hTT.out.later hG)).mono ?_; rintro e w6 ⟨rfl, hb⟩; replace fr : zqd w6 (w.heap.size) = some (.cells (ints .u8 32 (zqg)) 24) := zqb hb (by exact zqe); have lfr := zqa fr; replace fx : zqd w6 (gx) = some (.cells #[.string (zqdb (zqbr key) 54)] 9) := zqb hb (by exact zqe); have lfx := zqa fx; replace hG : Below w.heap.size w w6 := Grew.trans (by exact zqf) hb; clear hb)
 rw [hemp.out];go_wp2_with fail
 (refine (hw.out _ hG).mono ?_; rintro e w7 ⟨rfl, hb⟩; replace fr : zqd w7 (w.heap.size) = some (.cells (ints .u8 32 (zqg)) 24) := zqb hb (by exact zqe); have lfr := zqa fr; replace fx : zqd w7 (gx) = some (.cells #[.string (zqdb (zqbr key) 54)] 9) := zqb hb (by exact zqe); have lfx := zqa fx; replace hG : Below w.heap.size w w7 := Grew.trans (by exact zqf) hb; clear hb)
 go_wp2_with fail
 (refine (hsm.out _ hG).mono ?_; rintro e w8 ⟨rfl, hb⟩; replace fr : zqd w8 (w.heap.size) = some (.cells (ints .u8 32 (zqg)) 24) := zqb hb (by exact zqe); have lfr := zqa fr; replace fx : zqd w8 (gx) = some (.cells #[.string (zqdb (zqbr key) 54)] 9) := zqb hb (by exact zqe); have lfx := zqa fx; replace hG : Below w.heap.size w w8 := Grew.trans (by exact zqf) hb; clear hb)
 have lk0 : ¬ (w8.heap.size = w.heap.size) := by omega
 go_wp2_with fail;have fk : zqd (w8.alloc (.cells (ints .u8 32 (shaF (zqdb (zqbr key) 54 ++ catS F n))) 24)) w8.heap.size = some (.cells (ints .u8 32 (shaF (zqdb (zqbr key) 54 ++ catS F n))) 24) := zqj _ _ _ rfl;replace fr : zqd (w8.alloc (.cells (ints .u8 32 (shaF (zqdb (zqbr key) 54 ++ catS F n))) 24)) (w.heap.size) = some (.cells (ints .u8 32 (zqg)) 24) := zqm _ fr;replace fx : zqd (w8.alloc (.cells (ints .u8 32 (shaF (zqdb (zqbr key) 54 ++ catS F n))) 24)) (gx) = some (.cells #[.string (zqdb (zqbr key) 54)] 9) := zqm _ fx;replace hG : Below w.heap.size w (w8.alloc (.cells (ints .u8 32 (shaF (zqdb (zqbr key) 54 ++ catS F n))) 24)) := Grew.alloc hG _;clear lfr lfx;generalize w8.alloc (.cells (ints .u8 32 (shaF (zqdb (zqbr key) 54 ++ catS F n))) 24) = w9 at *;generalize w8.heap.size = gk at *;have lfr := zqa fr
 have lfx := zqa fx;have lfk := zqa fk;generalize hX : shaF (zqdb (zqbr key) 54 ++ catS F n) = X at *;have hc := fun m : More => zqft (P := Tryz.prog) (src := 135) (dst := 9) Tryz.underlying135 Tryz.underlying5 Tryz.underlying9 gk 32 32 32 X (more w9 m) (zql m fk) (by omega);go_wp2_with fail
 ((first | (with_reducible refine zq8 4 zqc zqc zqc zqc zqc ?_) | refine zq4 4 zqc zqc zqc zqc zqc ?_); simp only [List.take_succ_cons, List.take_zero]; (repeat (first | go_big_quiet_skip | (go_big_quiet_want; go_big_quiet_op; first | go_big_quiet_on | (apply Exists.intro; refine ⟨fun _ => ?_, ?_⟩; (focus (first | (with_reducible exact Calls.of_more (c2 _)))); go_big_quiet_on)))); refine wpQuiet_nil ?_; rintro _ ⟨mq, rfl⟩)
 (refine zqaa (i := 4) (fuel := 2) zqc rfl ?_; intro K hK; go_simp; refine hK _ _ ?_; clear hK K)
 refine zqaa (i := 5) (fuel := 1) zqc rfl ?_
 intro K hK
 go_simp
 refine (zrb0 _ _ _ _ _ _ hfit.out (zqj _ _ _ rfl) (hTT.out.later (by exact zqf))).mono ?_
 rintro e9 w9 ⟨rfl, hb9⟩;have er : zqd w9 (w.heap.size) = some (.cells (ints .u8 32 (zqg)) 24) := zqb hb9 (by exact zqe);have hG9 : Below w.heap.size w w9 := Grew.trans (by exact zqf) hb9;have ler := zqa er;clear hb9;refine hK _ _ ?_
 clear hK K
 (refine zqaa (i := 6) (fuel := 0) zqc rfl ?_; intro K hK; go_simp; refine hK _ _ ?_; clear hK K)
 (refine wpAny_done zqc ?_ _)
 go_wp2;refine zqaf rfl _ 24 _ (0, 0) _ rfl (zqs _ er) Tryz.underlying24 rfl (by rw [zqh]; kernel_rfl) rfl ⟨by rw [H.out], by exact zqf⟩
end Go.Proofs.YtconieddcjpbjaaGreatDoor
namespace Go.Proofs.YtconieddcjpbjaaGreatDoor
open Go.RowKit
theorem zq8x : ((List.range 64).map fun i => UInt8.ofNat (hexd (macF ByteArray.empty ByteArray.empty) i).toNat) = [98, 54, 49, 51, 54, 55, 57, 97, 48, 56, 49, 52, 100, 57, 101, 99, 55, 55, 50, 102, 57, 53, 100, 55, 55, 56, 99, 51, 53, 102, 99, 53, 102, 102, 49, 54, 57, 55, 99, 52, 57, 51, 55, 49, 53, 54, 53, 51, 99, 54, 99, 55, 49, 50, 49, 52, 52, 50, 57, 50, 99, 53, 97, 100] := by decide +kernel
attribute [local irreducible] strOf shaF zqay padB zqb8 zqcf
attribute [local irreducible] macF
theorem zrd0 (key s : ByteArray) (g : Nat) (W : World) (hk : key.size < 1152921504606846976) (hs : s.size < 1152921504606840000) (h : StrsAt W (some ⟨g, 0, none⟩) 1 (oneS s)) (hT : Tabs W) :
  Calls Tryz.prog 140 #[.string key, .slice (some ⟨g, 0, none⟩) 1 1] W (Rt W (.agg (ints .u8 32 (macF key s)))) := by
 have := zqq7 key (some ⟨g, 0, none⟩) 1 1 (oneS s) W hk (by rw [zqld]; exact hs) (by decide) h hT;rw [zqld] at this;exact this
theorem zqzm (w : World) (hT : Tabs w) :
  Calls Tryz.prog 188 #[] w (Rt w (.bool true)) := by
 have h2 : ((strOf 64 (hexd (macF ByteArray.empty ByteArray.empty))).toList == [98, 54, 49, 51, 54, 55, 57, 97, 48, 56, 49, 52, 100, 57, 101, 99, 55, 55, 50, 102, 57, 53, 100, 55, 55, 56, 99, 51, 53, 102, 99, 53, 102, 102, 49, 54, 57, 55, 99, 52, 57, 51, 55, 49, 53, 54, 53, 51, 99, 54, 99, 55, 49, 50, 49, 52, 52, 50, 57, 50, 99, 53, 97, 100]) = true := by
  rw [zqgm, zq8x];exact beq_self_eq_true _
 have hs : Hid (∀ W : World, Below w.heap.size w W -> Calls Tryz.prog 140 #[.string ByteArray.empty, .slice none 0 0] W (Rt W (.agg (ints .u8 32 (macF ByteArray.empty ByteArray.empty))))) := fun W hW => zqq7 ByteArray.empty none 0 0 (oneS ByteArray.empty) W (by decide) (by decide) (by decide) (zqkb _ _) (hT.later hW);have hb := zqtm ByteArray.empty ByteArray.empty;generalize macF ByteArray.empty ByteArray.empty = F at *;have hG := Grew.refl w
 go_enter Tryz.func188, Tryz.ntmps188
 go_wp2_with fail
 (refine (zq07 _ hT).mono ?_; rintro e w1 ⟨rfl, hb⟩; replace hG : Below w.heap.size w w1 := Grew.trans (by exact zqf) hb; clear hb)
 go_wp2_with fail
 (refine (hs.out _ hG).mono ?_; rintro e w2 ⟨rfl, hb⟩; replace hG : Below w.heap.size w w2 := Grew.trans (by exact zqf) hb; clear hb)
 go_wp2_with fail
 (refine (zquy F _ hb).mono ?_; rintro e w3 ⟨rfl, hb⟩; replace hG : Below w.heap.size w w3 := Grew.trans (by exact zqf) hb; clear hb)
 go_wp2;go_ret;exact ⟨rfl, by exact zqf⟩
end Go.Proofs.YtconieddcjpbjaaGreatDoor
