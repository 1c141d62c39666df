/- Rs -/
import Derived.Test.YtconieddcjpbjaaGreatDoorBk
import Derived.Test.YtconieddcjpbjaaGreatDoorOw
import Derived.Test.YtconieddcjpbjaaGreatDoorMa
set_option linter.unusedVariables false
set_option linter.unusedSimpArgs false
set_option maxRecDepth 100000
set_option maxHeartbeats 4000000
namespace Go.Proofs.YtconieddcjpbjaaGreatDoor
open Go.RowKit
attribute [local irreducible] strOf shaF zqay padB zqb8 zqcf
theorem zqsz {w : World} {base g n c : Nat} {G : Nat -> Int} {t : TypeId} (h : w.ownsRow base t 1 (.slice (some ⟨g, 0, none⟩) n c) n (rowL .u8 G n)) : BytesAt w g 0 n G /\ n <= c := by
 rcases h.2 with ⟨h0, _⟩ | ⟨g', cap, cur, h0, hb, hg, hnc, hcm, hcs, htake⟩
 ·cases h0
 ·cases h0
  have hlt : g < w.heap.size := zqa (show zqd w g = _ from hg);refine ⟨⟨hlt, fun i hi => ?_⟩, hnc⟩;rw [show zqd w g = some (.cells cur t (0, 0)) from hg, zqb7, Nat.zero_add];have h1 := zqjw .u8 G n i hi;rw [<- htake, List.getElem?_take, if_pos (by omega)] at h1
  simpa using h1
theorem BytesAt.part {w : World} {g n : Nat} {G : Nat -> Int} (h : BytesAt w g 0 n G) (o m : Nat) (hm : o + m <= n) : BytesAt w g o m (fun i => G (o + i)) :=
 ⟨h.1, fun i hi => by have := h.2 (o + i) (by omega); rwa [Nat.zero_add] at this⟩
def zqta (f g : Nat -> Int) : Prop := ∀ i, i < 8 -> f i = g i
theorem WordsAt.same {w : World} {g o : Nat} {G G' : Nat -> Int} (h : WordsAt w g o 8 G) (e : zqta G' G) : WordsAt w g o 8 G' := ⟨h.1, fun i hi => by rw [e i hi]; exact h.2 i hi⟩
theorem zqxk : (#[.int .u32 1779033703, .int .u32 3144134277, .int .u32 1013904242, .int .u32 2773480762, .int .u32 1359893119, .int .u32 2600822924, .int .u32 528734635, .int .u32 1541459225] : Array Value) = ints .u32 8 sqF := by kernel_rfl
set_option maxHeartbeats 8000000 in
theorem zqks (s : ByteArray) (w : World) (hs : s.size <= 1000000000) :
  Calls Tryz.prog 162 #[.string s] w (Rt w (.agg (ints .u8 32 (shaF s)))) := by
 have hfs := zqto s;obtain ⟨m, hm⟩ : ∃ m, (zqb8 s).size = 64 * m := ⟨(zqb8 s).size / 64, by omega⟩
 have hdiv : (zqb8 s).size / 64 = m := by omega
 have hm1 : 0 < m := by omega
 have hm2 : m <= 20000000 := by omega
 have hF : Hid (∀ i, absH (AA (byteAt (zqb8 s)) m) (i / 4) / 2 ^ (24 - i % 4 * 8) % 256 = shaF s i) := fun i => by rw [<- hdiv]; unfold shaF; rfl
 have hp := fun W : World => zqya s W hs;have hGb : Hid (∀ i, 0 <= byteAt (zqb8 s) i /\ byteAt (zqb8 s) i <= 255) := fun i => zqhh _ i;rw [hm] at hp;clear hfs hdiv;generalize shaF s = F at *;generalize byteAt (zqb8 s) = G at *;clear hm;have A0 : Hid (zqta (absH (AA G 0)) sqF) := fun i _ => by
  have := zqir i;unfold W32 at this
  show (sqF i + zqg i) % 4294967296 = sqF i
  unfold zqg
  omega
 have AS : Hid (∀ j, absH (AA G (j + 1)) = cmp (absH (AA G j)) (fun i => G (64 * j + i))) := fun j => zq7n _ _;have AW : Hid (∀ j, Words 8 (absH (AA G j))) := fun j => zqpl _;obtain ⟨A, hA⟩ : ∃ A : Nat -> Nat -> Int, A = fun j => absH (AA G j) := ⟨_, rfl⟩
 have eA : ∀ j, absH (AA G j) = A j := fun j => by rw [hA]
 simp only [eA] at A0 AS AW hF
 clear hA eA;have hG := Grew.refl w
 go_enter Tryz.func162, Tryz.ntmps162
 go_wp2_with fail;have e8 := zqxk;refine (hp _).mono ?_
 rintro e w2 ⟨gp, cap, rfl, hb2, own2⟩;have fr : zqd w2 w.heap.size = some (.cells (ints .u8 32 (zqg)) 23) := zqb hb2 (by exact zqe);have hG2 : Below w.heap.size w w2 := Grew.trans (by exact zqf) hb2;have fw : zqd w2 (w.heap.size + 1) = some (.cells (ints .u32 8 sqF) 120) := zqb hb2 (by rw [<- zqxk]; exact zqe);have lr := zqa fr;have lw := zqa fw;have hW2 : Hid (WordsAt w2 (w.heap.size + 1) 0 8 (A 0)) := (zqpi fw).same A0.out;obtain ⟨hP2, hcap⟩ := zqsz own2;have hPP : Hid (BytesAt w2 gp 0 (64 * m) G) := hP2;clear own2 hP2 hb2 hp fw e8;go_wp2_with fail
 go_loopw [3, 5] (fun v i wr => ∃ j g c : Nat, j <= m /\ i = .int .i64 ((64 * j : Nat) : Int) /\ v = .slice (some ⟨g, 0, none⟩) 8 c /\ Below w2.heap.size w2 wr /\ Hid (WordsAt wr g 0 8 (A j))) (fun _ i _ => 64 * m - (intOf i).toNat)
 case atStart => exact ⟨0, _, 8, by omega, rfl, rfl, Grew.refl _, hW2⟩
 case round =>
  clear hW2 lw;obtain ⟨j, g, c, hj, rfl, rfl, hL, WV⟩ := hrel
  by_cases hlt : j < m
  ·have hbB := (hPP.out.later hL).part (64 * j) 64 (by omega)
   have hc := fun cb w' (h1 : WordsAt w' g 0 8 (A j)) h2 => zqub (A j) (fun i => G (64 * j + i)) g c gp (64 * j) cb w' (fun i _ => hGb.out _) (AW.out j) h1 h2;rw [<- AS.out j] at hc;have n0 : (64 * (j : Int)).toNat = 64 * j := by omega
   have n1 : (64 * (j : Int) + 64).toNat = 64 * j + 64 := by omega
   have i0 : (0 : Int) <= 64 * (j : Int) := by omega
   have i1 : 64 * (j : Int) < 64 * (m : Int) := by omega
   have i2 : 64 * (j : Int) + 64 <= (cap : Int) := by omega
   have i3 : 64 * (j : Int) <= 64 * (j : Int) + 64 := by omega
   have n2 : 64 * j + 64 - 64 * j = 64 := by omega
   go_wp2_with fail;refine (hc _ _ WV.out hbB).mono ?_
   rintro e w3 ⟨g3, c3, rfl, hW3, hb3⟩;go_wp2
   go_roundw
   case rel => exact ⟨j + 1, g3, c3, by omega, by go_num, rfl, Grew.trans hL hb3, hW3⟩
   case measure => simp [intOf]; omega
  ·obtain rfl : j = m := by omega
   have i1 : ¬ (64 * (j : Int) < 64 * (j : Int)) := by omega
   clear hlt hj hPP AS A0;have hWs := AW.out j;have hFF : Hid (∀ i, A j (i / 4) / 2 ^ (24 - i % 4 * 8) % 256 = F i) := hF;clear hF AW;have fr3 : zqd wr w.heap.size = some (.cells (ints .u8 32 (zqg)) 23) := zqb hL fr;have hG3 : Below w.heap.size w wr := Grew.trans hG2 hL;clear fr lr hL hG2 hG;generalize A j = S at *;obtain ⟨w5, rfl⟩ : ∃ w5, w5 = wr := ⟨_, rfl⟩
   have lr := zqa fr3;go_wp2_with fail
   go_loopw [7] (fun i wr => ∃ k : Nat, k <= 32 /\ i = .int .i64 k /\ Below w5.heap.size w5 wr /\ zqd wr w5.heap.size = some (.cells (ints .u8 32 (zqcj F k)) 23)) (fun i _ => 32 - (intOf i).toNat)
   case atStart => exact ⟨0, by omega, rfl, Grew.alloc (Grew.refl _) _, by rw [zqc9]; exact zqe⟩
   case round =>
    obtain ⟨k, hk, rfl, hM, fk⟩ := hrel;have lfk := zqa fk
    by_cases hlt : k < 32
    ·have SS : Hid (upd (zqcj F k) k (F k) = zqcj F (k + 1)) := zqcl F k
     have hv := hFF.out k;obtain ⟨q, hq⟩ : ∃ q, k / 4 = q := ⟨_, rfl⟩
     obtain ⟨r, hr⟩ : ∃ r, k % 4 = r := ⟨_, rfl⟩
     have hq8 : q < 8 := by omega
     have hr4 : r < 4 := by omega
     have hqi : (k : Int) / 4 = (q : Int) := by omega
     have hri : (k : Int) % 4 = (r : Int) := by omega
     rw [hq, hr] at hv;have ba := hWs q hq8;have hWV := WV.out.later hM;have lv := hWV.1;have cv := hWV.at0 q hq8;have hn : (24 - 8 * (r : Int)).toNat = 24 - r * 8 := by omega
     have hmv := fun w => move_any (S q) (24 - 8 * (r : Int)) w ba (by omega) (by omega);rw [hn] at hmv;have bm : W32 (S q / 2 ^ (24 - r * 8)) := zqqg ba _ (Int.pow_pos (by decide));have hlk : k < 32 := hlt;generalize S q / 2 ^ (24 - r * 8) = Z at *;have HV : Hid (Z % 256 = F k) := hv;generalize F k = V at *;unfold W32 at bm ba;have iq1 : (q : Int) < 8 := by omega
     clear hv hq hr hWV;go_wp2_with fail;refine (hmv _).mono ?_
     rintro e w6 ⟨rfl, hb6⟩;have fk6 : zqd w6 w5.heap.size = some (.cells (ints .u8 32 (zqcj F k)) 23) := zqb hb6 fk;have hM6 := Grew.trans hM hb6;clear fk hb6 hM cv lv hmv;go_wp2;rw [HV.out, SS.out]
     go_roundw
     case rel => exact ⟨k + 1, by omega, by go_num, by exact zqf, by exact zqe⟩
     case measure => simp [intOf]; omega
    ·obtain rfl : k = 32 := by omega
     clear hlt hk;rw [zqdi] at fk;have fr6 : zqd wr w.heap.size = some (.cells (ints .u8 32 (zqg)) 23) := zqb hM fr3;have hG6 := Grew.trans hG3 hM;go_wp2;refine zqaf rfl _ 23 _ (0, 0) _ rfl (zqs _ fr6) Tryz.underlying23 rfl (by rw [zqh]; kernel_rfl) rfl ⟨rfl, by exact zqf⟩
end Go.Proofs.YtconieddcjpbjaaGreatDoor
namespace Go.Proofs.YtconieddcjpbjaaGreatDoor
open Go.RowKit
attribute [local irreducible] strOf shaF zqay padB zqb8 zqcf
theorem zq7l {base n : Nat} {v : Value} {G : Nat -> Int} {t : TypeId} {w : World} (h : w.ownsRow base t 1 v n (rowL .u8 G n)) : (convert 135 9 v).run Tryz.prog w = .ok (.string (strOf n G)) w := by
 rcases h.2 with ⟨rfl, rfl⟩ | ⟨g, cap, cur, rfl, hb, hg, hnc, hcm, hcs, htake⟩
 ·rw [run_convert_bytes_nil w 135 5 Tryz.underlying135 Tryz.underlying5 0 0 _ Tryz.underlying9]
  unfold strOf
  rfl
 ·rw [run_convert_bytes_string w _ _ _ _ n cap Tryz.underlying135 Tryz.underlying5 Tryz.underlying9]
  unfold strOf;refine run_bytesToString w _ n cap ((List.range n).map G) ?_
  have h2 := run_loadCells_list (P := Tryz.prog) w ⟨g, 0, none⟩ (((List.range n).map G).map (Value.int .u8)) (fun j u hu => by
   have hadd : (⟨g, 0, none⟩ : Addr).add j = ⟨g, j, none⟩ := by unfold Addr.add; split <;> simp_all
   rw [hadd, cell_of_row w g j _ _ _ hg];have hj : j < n := by
    rcases Nat.lt_or_ge j n with h | h
    ·exact h
    ·rw [List.getElem?_eq_none (by simpa using h)] at hu; cases hu
   have h1 := zqjw .u8 G n j hj;rw [<- htake, List.getElem?_take, if_pos (by omega)] at h1;rw [List.map_map, List.getElem?_map, List.getElem?_range hj] at hu;rw [<- hu]
   simpa using h1)
  simpa using h2
theorem zq0k (k : Nat) : zqay k ++ ⟨#[0]⟩ = zqay (k + 1) := by
 have h : (zqay k ++ ⟨#[0]⟩ : ByteArray).data.toList = (zqay (k + 1)).data.toList := by
  rw [ByteArray.data_append, Array.toList_append, zqil, zqil, List.replicate_succ']
 cases h1 : (zqay k ++ ⟨#[0]⟩ : ByteArray)
 cases h2 : zqay (k + 1)
 rw [h1, h2] at h
 simp only [ByteArray.mk.injEq]
 exact Array.toList_inj.1 h
theorem zqsj (K : ByteArray) (k : Nat) : K ++ zqay k ++ ⟨#[0]⟩ = K ++ zqay (k + 1) := by rw [ByteArray.append_assoc, zq0k]
theorem zq0b (K : ByteArray) : K ++ zqay 0 = K := by
 have : zqay 0 = ByteArray.empty := by unfold zqay; rfl
 rw [this, ByteArray.append_empty]
theorem zqo5 (s : ByteArray) (k : Nat) (w : World) (h : k < s.size) : (Instr.index 9 (.string s) (.int .i64 k)).run Tryz.prog w = .ok (.int .u8 (byteAt s k)) w := by
 rw [<- zqeg s k h];have h0 : (0 : Int) <= (k : Int) := by omega
 have h1 : (k : Int) < (s.size : Int) := by omega
 simp [go_sem, h0, h1, h]
@[go_sem high] theorem zrei (w : World) (g : Nat) : (Instr.sliceAt 23 (.pointer (some ⟨g, 0, none⟩)) none none none).run Tryz.prog w = .ok (.slice (some ⟨g, 0, none⟩) 32 32) w := by kernel_rfl
set_option maxHeartbeats 1000000 in
theorem zqki (k : Nat -> Int) (w : World) :
  Calls Tryz.prog 104 #[.agg (ints .u8 32 k)] w (Rt w (.string (strOf 32 k))) := by
 have hG := Grew.refl w;have fk : True := trivial
 go_enter Tryz.func104, Tryz.ntmps104
 go_wp2_with fail;generalize hW : w.alloc (.cells (ints .u8 32 (k)) 23) = w1;replace fk : zqd w1 (w.heap.size) = some (.cells (ints .u8 32 (k)) 23) := zqk hW;replace hG : Below w.heap.size w w1 := zq2 hW;clear hW;have lfk := zqa fk;have hc := zqft (P := Tryz.prog) (src := 135) (dst := 9) Tryz.underlying135 Tryz.underlying5 Tryz.underlying9 w.heap.size 32 32 32 k w1 fk (by omega);go_wp2_with fail;rw [hc];go_wp2;go_ret;exact ⟨rfl, by exact zqf⟩
theorem zqr7 (s : ByteArray) (c : Int) (w : World) (h0 : 0 <= c) (h1 : c < 256) (hs : s.size <= 1000000000) :
  Calls Tryz.prog 163 #[.string s, .int .u8 c] w (Rt w (.string (zqdb s c))) := by
 have hF : Hid (∀ i, bits .xor .u8 (byteAt s i) c = zqkc s c i) := fun i => by unfold zqkc; rfl
 have hE : Hid (strOf s.size (zqkc s c) = zqdb s c) := by show _ = _; unfold zqdb; rfl
 generalize zqkc s c = E at *;generalize zqdb s c = R at *
 go_enter Tryz.func163, Tryz.ntmps163
 go_wp2_with fail
 go_loopw [5, 6] (fun v i wr => ∃ (k : Nat) (v0 : Value), v0 = v /\ k <= s.size /\ i = .int .i64 k /\ Below w.heap.size w wr /\ Hid (wr.ownsRow w.heap.size 5 1 v0 k (rowL .u8 E k))) (fun _ i _ => s.size - (intOf i).toNat)
 case atStart => exact ⟨0, _, rfl, by omega, rfl, Grew.refl _, World.ownsRow_nil _ _ _ _⟩
 case round =>
  obtain ⟨k, v0, rfl, hk, rfl, hG, OWN⟩ := hrel
  by_cases hlt : k < s.size
  ·have e := hF.out k
   have hb := zqhh s k;have hix := fun w => zqo5 s k w hlt;obtain ⟨g3, c3, w3, hr3, own3, hG3, _, _⟩ := zqha w (wr.alloc (.cells #[.int .u8 (E k)] 5)) w.heap.size v0 k E wr.heap.size 5 135 (0, 0) (OWN.out.alloc _) (by omega) (zqj _ _ _ rfl) (Grew.alloc hG _) (Nat.le_refl _) (by have := (Grew.alloc hG (.cells #[.int .u8 (E k)] 5)).size; omega);have OWN3 : Hid (w3.ownsRow w.heap.size 5 1 (.slice (some ⟨g3, 0, none⟩) (k + 1) c3) (k + 1) (rowL .u8 E (k + 1))) := own3;clear own3;go_wp2
   go_roundw
   case rel => exact ⟨k + 1, _, rfl, by omega, by go_num, hG3, OWN3⟩
   case measure => simp [intOf]; omega
  ·obtain rfl : k = s.size := by omega
   clear hlt;have hc := zq7l OWN.out;rw [hE.out] at hc;go_wp2;go_ret;exact ⟨rfl, hG⟩
theorem zqzf (key : ByteArray) (w : World) (hk : key.size <= 1000000000) :
  Calls Tryz.prog 161 #[.string key] w (Rt w (.string (zqbr key))) := by
 have H := zqr3 key;have hKb : Hid (zqd1 key ++ zqay (64 - (zqd1 key).size) = zqbr key) := H.out.symm;have hK64 : (zqd1 key).size <= 64 := zqxf key;have hKz : Hid (zqd1 key ++ zqay 0 = zqd1 key) := zq0b _;clear H;generalize zqbr key = R at *
 by_cases hl : 64 < key.size
 ·have e : zqd1 key = strOf 32 (shaF key) := by unfold zqd1; rw [if_pos hl]
  have h1 := fun w => zqks key w hk;have h2 := fun w => zqki (shaF key) w;rw [<- e] at h2;clear e;generalize zqd1 key = K at *;generalize shaF key = F at *;have hG := Grew.refl w
  go_enter Tryz.func161, Tryz.ntmps161
  go_wp2_with fail
  (refine (h1 _).mono ?_; rintro e w1 ⟨rfl, hb⟩; replace hG : Below w.heap.size w w1 := Grew.trans (by exact zqf) hb; clear hb)
  go_wp2_with fail
  (refine (h2 _).mono ?_; rintro e w2 ⟨rfl, hb⟩; replace hG : Below w.heap.size w w2 := Grew.trans (by exact zqf) hb; clear hb)
  clear h1 h2;go_wp2_with fail
  go_loopw [0] (fun v wr => ∃ k : Nat, K.size + k <= 64 /\ v = .string (K ++ zqay k) /\ Below w.heap.size w wr) (fun v _ => match v with | .string s => 64 - s.size | _ => 0)
  case atStart => exact ⟨0, by omega, by rw [hKz.out], by exact zqf⟩
  case round =>
   clear hG;obtain ⟨k, hk2, rfl, hG⟩ := hrel;have hsz : (K ++ zqay k).size = K.size + k := by rw [ByteArray.size_append, zqb4]
   have hft : zqjb (K ++ zqay k) ⟨#[0]⟩ := by show _ + 1 <= _; omega
   have hnx : Hid (K ++ zqay k ++ ⟨#[0]⟩ = K ++ zqay (k + 1)) := zqsj K k;have hsn : Hid ((K ++ zqay (k + 1)).size = K.size + (k + 1)) := by show _ = _; rw [ByteArray.size_append, zqb4]
   obtain ⟨T2, hT2⟩ : ∃ T2, Hid (K ++ zqay (k + 1) = T2) := ⟨_, rfl⟩
   rw [hT2.out] at hnx hsn
   by_cases hlt : K.size + k < 64
   ·generalize hT1 : K ++ zqay k = T1 at *
    have hl1 : (K.size : Int) + (k : Int) < 64 := by omega
    go_wp2;rw [hnx.out]
    go_roundw
    case rel => exact ⟨k + 1, by omega, by rw [<- hT2.out], hG⟩
    case measure =>
     have := hsn.out
     simp
     omega
   ·have e : K.size + k = 64 := by omega
    have hB : Hid (K ++ zqay k = R) := by
     show _ = _
     rw [<- hKb.out]
     congr 2
     omega
    generalize K ++ zqay k = T1 at *;have hl1 : ¬ ((K.size : Int) + (k : Int) < 64) := by omega
    go_wp2;go_ret;have hB9 := hB.out;subst hB9;exact ⟨rfl, hG⟩
 ·have e : zqd1 key = key := by unfold zqd1; rw [if_neg hl]
  rw [e] at hKb hK64 hKz;have hl2 : ¬ ((64 : Int) < key.size) := by omega
  obtain ⟨K, hKe⟩ : ∃ K, Hid (key = K) := ⟨_, rfl⟩
  rw [hKe.out] at hKb hK64 hKz;have hG := Grew.refl w
  go_enter Tryz.func161, Tryz.ntmps161
  go_wp2_with fail
  go_loopw [0] (fun v wr => ∃ k : Nat, K.size + k <= 64 /\ v = .string (K ++ zqay k) /\ Below w.heap.size w wr) (fun v _ => match v with | .string s => 64 - s.size | _ => 0)
  case atStart => exact ⟨0, by omega, by rw [hKz.out, <- hKe.out], by exact zqf⟩
  case round =>
   clear hG;obtain ⟨k, hk2, rfl, hG⟩ := hrel;have hsz : (K ++ zqay k).size = K.size + k := by rw [ByteArray.size_append, zqb4]
   have hft : zqjb (K ++ zqay k) ⟨#[0]⟩ := by show _ + 1 <= _; omega
   have hnx : Hid (K ++ zqay k ++ ⟨#[0]⟩ = K ++ zqay (k + 1)) := zqsj K k;have hsn : Hid ((K ++ zqay (k + 1)).size = K.size + (k + 1)) := by show _ = _; rw [ByteArray.size_append, zqb4]
   obtain ⟨T2, hT2⟩ : ∃ T2, Hid (K ++ zqay (k + 1) = T2) := ⟨_, rfl⟩
   rw [hT2.out] at hnx hsn
   by_cases hlt : K.size + k < 64
   ·generalize hT1 : K ++ zqay k = T1 at *
    have hl1 : (K.size : Int) + (k : Int) < 64 := by omega
    go_wp2;rw [hnx.out]
    go_roundw
    case rel => exact ⟨k + 1, by omega, by rw [<- hT2.out], hG⟩
    case measure =>
     have := hsn.out
     simp
     omega
   ·have e : K.size + k = 64 := by omega
    have hB : Hid (K ++ zqay k = R) := by
     show _ = _
     rw [<- hKb.out]
     congr 2
     omega
    generalize K ++ zqay k = T1 at *;have hl1 : ¬ ((K.size : Int) + (k : Int) < 64) := by omega
    go_wp2;go_ret;have hB9 := hB.out;subst hB9;exact ⟨rfl, hG⟩
theorem zqvz (key s B B1 B2 T1 : ByteArray) (F1 M : Nat -> Int) (w : World) (cb : ∀ W : World, Calls Tryz.prog 161 #[.string key] W (Rt W (.string B))) (c2 : ∀ W : World, Calls Tryz.prog 163 #[.string B, .int .u8 92] W (Rt W (.string B2))) (c1 : ∀ W : World, Calls Tryz.prog 163 #[.string B, .int .u8 54] W (Rt W (.string B1))) (hf1 : zqjb B1 s) (h1 : ∀ W : World, Calls Tryz.prog 162 #[.string (B1 ++ s)] W (Rt W (.agg (ints .u8 32 F1)))) (t1 : ∀ W : World, Calls Tryz.prog 104 #[.agg (ints .u8 32 F1)] W (Rt W (.string T1))) (hf2 : zqjb B2 T1) (h2 : ∀ W : World, Calls Tryz.prog 162 #[.string (B2 ++ T1)] W (Rt W (.agg (ints .u8 32 M)))) :
  Calls Tryz.prog 146 #[.string key, .string s] w (Rt w (.agg (ints .u8 32 M))) := by
 have hG := Grew.refl w;have fr : True := trivial
 go_enter Tryz.func146, Tryz.ntmps146
 go_wp2_with fail;generalize hW : w.alloc (.cells (ints .u8 32 (zqg)) 23) = w1;replace fr : zqd w1 (w.heap.size) = some (.cells (ints .u8 32 (zqg)) 23) := zqk hW;replace hG : Below w.heap.size w w1 := zq2 hW;clear hW;have lfr := zqa fr;go_wp2_with fail
 (refine (cb _).mono ?_; rintro e w2 ⟨rfl, hb⟩; replace fr := zqb hb fr; have lfr := zqa fr; replace hG : Below w.heap.size w w2 := Grew.trans (by exact zqf) hb; clear hb)
 go_wp2_with fail
 (refine (c2 _).mono ?_; rintro e w3 ⟨rfl, hb⟩; replace fr := zqb hb fr; have lfr := zqa fr; replace hG : Below w.heap.size w w3 := Grew.trans (by exact zqf) hb; clear hb)
 go_wp2_with fail
 (refine (c1 _).mono ?_; rintro e w4 ⟨rfl, hb⟩; replace fr := zqb hb fr; have lfr := zqa fr; replace hG : Below w.heap.size w w4 := Grew.trans (by exact zqf) hb; clear hb)
 go_wp2_with fail
 (refine (h1 _).mono ?_; rintro e w5 ⟨rfl, hb⟩; replace fr := zqb hb fr; have lfr := zqa fr; replace hG : Below w.heap.size w w5 := Grew.trans (by exact zqf) hb; clear hb)
 go_wp2_with fail
 (refine (t1 _).mono ?_; rintro e w6 ⟨rfl, hb⟩; replace fr := zqb hb fr; have lfr := zqa fr; replace hG : Below w.heap.size w w6 := Grew.trans (by exact zqf) hb; clear hb)
 go_wp2_with fail
 (refine (h2 _).mono ?_; rintro e w7 ⟨rfl, hb⟩; replace fr := zqb hb fr; have lfr := zqa fr; replace hG : Below w.heap.size w w7 := Grew.trans (by exact zqf) hb; clear hb)
 go_wp2;refine zqaf rfl _ 23 _ (0, 0) _ rfl (zqs _ fr) Tryz.underlying23 rfl (by rw [zqh]; kernel_rfl) rfl ⟨rfl, by exact zqf⟩
theorem zqp1 (key s : ByteArray) (w : World) (hk : key.size <= 100000000) (hs : s.size <= 100000000) :
  Calls Tryz.prog 146 #[.string key, .string s] w (Rt w (.agg (ints .u8 32 (macF key s)))) := by
 have H := zq5l key s;have hb64 := zqmz key;have he1 : (zqdb (zqbr key) 54).size = 64 := by rw [zqib, hb64]
 have he2 : (zqdb (zqbr key) 92).size = 64 := by rw [zqib, hb64]
 rw [H.out];exact zqvz key s _ _ _ _ _ _ w (fun W => zqzf key W (by omega)) (fun W => zqr7 (zqbr key) 92 W (by decide) (by decide) (by omega)) (fun W => zqr7 (zqbr key) 54 W (by decide) (by decide) (by omega))
  (by show _ + _ <= _; omega) (fun W => zqks _ W (by rw [ByteArray.size_append]; omega)) (fun W => zqki _ W) (by show _ + _ <= _; rw [zqal]; omega) (fun W => zqks _ W (by rw [ByteArray.size_append, zqal]; omega))
end Go.Proofs.YtconieddcjpbjaaGreatDoor
