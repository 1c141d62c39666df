/- Si -/
import Derived.Test.YtconieddcjpbjaaGreatDoorSh
import Derived.Test.YtconieddcjpbjaaGreatDoorShelf
set_option linter.unusedVariables false
set_option linter.unusedSimpArgs false
set_option maxRecDepth 100000
set_option maxHeartbeats 4000000
namespace Go.Proofs.YtconieddcjpbjaaGreatDoor
open Go.RowKit
def zqjb (a b : ByteArray) : Prop := a.size + b.size <= 9223372036854775807
@[go_sem high] theorem zrjb {P : Program} (w : World) (a b : ByteArray) (h : zqjb a b) : (Op.stringOp .add a b).run P w = .ok (.string (a ++ b)) w := run_string_add_sum w a b h
theorem zqmt (s : ByteArray) (i : Nat) : byteAt s i = match s.data.toList[i]? with | some b => (b.toNat : Int) | none => 0 := by
 unfold byteAt
 by_cases h : i < s.size
 ·rw [dif_pos h]
  have : s.data.toList[i]? = some s[i] := by
   rw [Array.getElem?_toList];exact Array.getElem?_eq_getElem h
  rw [this]
 ·rw [dif_neg h, List.getElem?_eq_none (by
   have : s.data.toList.length = s.size := Array.length_toList
   omega)]
theorem zqdn (s t : ByteArray) (i : Nat) (h : i < s.size) : byteAt (s ++ t) i = byteAt s i := by
 have h2 : i < (s ++ t).size := by rw [ByteArray.size_append]; omega
 unfold byteAt;rw [dif_pos h, dif_pos h2, ByteArray.getElem_append_left h]
theorem zqdo (s t : ByteArray) (i : Nat) (h : i < t.size) : byteAt (s ++ t) (s.size + i) = byteAt t i := by
 have h2 : s.size + i < (s ++ t).size := by rw [ByteArray.size_append]; omega
 unfold byteAt;rw [dif_pos h, dif_pos h2, ByteArray.getElem_append_right (by omega)]
 congr 3
 omega
theorem zqhh (s : ByteArray) (i : Nat) : 0 <= byteAt s i /\ byteAt s i <= 255 := by
 unfold byteAt
 split
 ·have := s[i].toNat_lt
  omega
 ·omega
theorem zqyf (s : ByteArray) (i : Nat) (h : ¬ i < s.size) : byteAt s i = 0 := by unfold byteAt; rw [dif_neg h]
theorem zqal (n : Nat) (f : Nat -> Int) : (strOf n f).size = n := by
 have h := congrArg List.length (zqgm n f);rw [ByteArray.toList_eq] at h
 simpa using h
theorem zqdt (n : Nat) (f : Nat -> Int) (i : Nat) (hi : i < n) (h : 0 <= f i /\ f i <= 255) : byteAt (strOf n f) i = f i := by
 have hl := zqgm n f;rw [ByteArray.toList_eq] at hl;rw [zqmt, hl, List.getElem?_map, List.getElem?_range hi]
 show ((UInt8.ofNat (f i).toNat).toNat : Int) = f i
 have e : (UInt8.ofNat (f i).toNat).toNat = (f i).toNat % 256 := rfl;rw [e]
 omega
def zqay (k : Nat) : ByteArray := ⟨(Lib.repeatL [0] k).toArray⟩
theorem zqil (k : Nat) : (zqay k).data.toList = List.replicate k 0 := by
 show Lib.repeatL (List.replicate 1 0) k = _
 rw [Lib.repeatL_replicate, Nat.mul_one]
theorem zqb4 (k : Nat) : (zqay k).size = k := by
 have h : (zqay k).data.toList.length = (zqay k).size := Array.length_toList;rw [<- h, zqil, List.length_replicate]
theorem zqsi (k i : Nat) : byteAt (zqay k) i = 0 := by
 rw [zqmt, zqil]
 by_cases h : i < k
 ·rw [List.getElem?_replicate, if_pos h]; rfl
 ·rw [List.getElem?_replicate, if_neg h]
def zqit (n : Nat) : Nat -> Int := fun i => 8 * (n : Int) / 2 ^ (56 - 8 * i) % 256
def padB (n : Nat) : ByteArray := ⟨#[128]⟩ ++ zqay ((119 - n % 64) % 64) ++ strOf 8 (zqit n)
theorem zqh0 (n : Nat) : (padB n).size = 9 + (119 - n % 64) % 64 := by
 unfold padB;rw [ByteArray.size_append, ByteArray.size_append, zqb4, zqal]
 show 1 + _ + 8 = _
 omega
theorem zq1d (n : Nat) : Bytes 8 (zqit n) := fun i _ => by unfold zqit; omega
@[go_sem high] theorem zrj9 (w : World) (g : Nat) : (Instr.sliceAt 220 (.pointer (some ⟨g, 0, none⟩)) none none none).run Tryz.prog w = .ok (.slice (some ⟨g, 0, none⟩) 8 8) w := by kernel_rfl
theorem zqzv (n : Nat) (w : World) (hn : n < 1152921504606846976) :
  Calls Tryz.prog 170 #[.int .u64 n] w (Rt w (.string (padB n))) := by
 have H : Hid (padB n = ⟨#[128]⟩ ++ zqay ((119 - n % 64) % 64) ++ strOf 8 (zqit n)) := rfl;obtain ⟨r, hr⟩ : ∃ r, n % 64 = r := ⟨_, rfl⟩
 have hr64 : r < 64 := by omega
 have hri : (n : Int) % 64 = (r : Int) := by omega
 rw [hr] at H;clear hr;obtain ⟨z, hz⟩ : ∃ z, (119 - r) % 64 = z := ⟨_, rfl⟩
 have hzi : (119 - (r : Int)) % 64 = (z : Int) := by omega
 have hz64 : z < 64 := by omega
 rw [hz] at H;clear hz;have hG := Grew.refl w;have ft : True := trivial
 go_enter Tryz.func170, Tryz.ntmps170
 clear ft;go_wp2_with fail
 go_loopw [11] (fun i wr => ∃ k : Nat, k <= 8 /\ i = .int .i64 k /\ wr = w.alloc (.cells (ints .u8 8 (zqcj (zqit n) k)) 220)) (fun i _ => 8 - (intOf i).toNat)
 case atStart => exact ⟨0, by omega, rfl, by rw [zqc9]⟩
 case round =>
  obtain ⟨k, hk, rfl, rfl⟩ := hrel
  by_cases hlt : k < 8
  ·have S : Hid (upd (zqcj (zqit n) k) k (8 * (n : Int) / 2 ^ (56 - 8 * k) % 256) = zqcj (zqit n) (k + 1)) := zqcl (zqit n) k
   go_wp2
   go_roundw
   case rel => exact ⟨k + 1, by omega, by go_num, by rw [S.out]⟩
   case measure => simp [intOf]; omega
  ·obtain rfl : k = 8 := by omega
   clear hlt;rw [zqdi];have hc := fun (m : More) => zqft (P := Tryz.prog) (src := 135) (dst := 9) Tryz.underlying135 Tryz.underlying5 Tryz.underlying9 w.heap.size 8 8 8 (zqit n) (more (w.alloc (.cells (ints .u8 8 (zqit n)) 220)) m) (te := 220) (fr := (0, 0)) (by simp [go_sem]) (by omega);have hrep : ∀ W : World, Calls Tryz.prog 168 #[.string ⟨#[0]⟩, .int .i64 z] W (Rt W (.string (zqay z))) := fun W => Tryz.strings_Repeat ⟨#[0]⟩ z W (by omega) (by show 1 * z <= 140737488355328; omega);have k1 : zqjb ⟨#[128]⟩ (zqay z) := by unfold zqjb; rw [zqb4]; show 1 + z <= _; omega
   have k2 : zqjb (⟨#[128]⟩ ++ zqay z) (strOf 8 (zqit n)) := by unfold zqjb; rw [ByteArray.size_append, zqb4, zqal]; show 1 + z + 8 <= _; omega
   go_wp2_with fail
   (try simp only [hzi])
   ((first | (with_reducible refine zq5 zqc zqc ?_) | refine zqt zqc zqc ?_); (repeat (first | go_big_quiet_skip | (go_big_quiet_want; go_big_quiet_op; first | go_big_quiet_on | (apply Exists.intro; refine ⟨fun _ => ?_, ?_⟩; (focus (first | (with_reducible exact Calls.of_more (hrep _)))); go_big_quiet_on)))); refine wpQuiet_nil ?_; rintro _ ⟨mq, rfl⟩)
   go_wp2;go_ret;rw [H.out];exact ⟨rfl, by exact zqf⟩
def zqb8 (s : ByteArray) : ByteArray := s ++ padB s.size
def shaF (s : ByteArray) : Nat -> Int := fun i => absH (AA (byteAt (zqb8 s)) ((zqb8 s).size / 64)) (i / 4) / 2 ^ (24 - i % 4 * 8) % 256
theorem zqsb (s : ByteArray) : Bytes 32 (shaF s) := fun i _ => by unfold shaF; omega
theorem zqwq (s : ByteArray) (w : World) (hs : s.size < 1152921504606846976) (hT : Tabs w) :
  Calls Tryz.prog 155 #[.agg (zqcf (byteAt s) s.size)] w (Rt w (.agg (ints .u8 32 (shaF s)))) := by
 have e0 : zqcf (byteAt s) s.size = zqcf (byteAt (zqb8 s)) s.size := zqnp _ fun i hi => (zqdn s _ i hi).symm;rw [e0];clear e0;have hps : (padB s.size).size = 9 + (119 - s.size % 64) % 64 := zqh0 _;have hfs : (zqb8 s).size = s.size + (padB s.size).size := ByteArray.size_append;have hp : ∀ i, i < (padB s.size).size -> byteAt (padB s.size) i = byteAt (zqb8 s) (s.size + i) := fun i hi => (zqdo s _ i hi).symm;have hwc : ∀ W : World, Tabs W -> Calls Tryz.prog 169 #[.agg (zqcf (byteAt (zqb8 s)) s.size), .string (padB s.size)] W (Rt W (.agg (zqcf (byteAt (zqb8 s)) (zqb8 s).size))) := fun W hW => by
  have := zqwp (byteAt (zqb8 s)) s.size (padB s.size) W (by omega) (fun i _ => zqhh _ i) hp hW;rw [<- hfs] at this;exact this
 have hbe := fun W => zqzv s.size W hs;have hF : Hid (∀ i, (sqF (i / 4) + AA (byteAt (zqb8 s)) ((zqb8 s).size / 64) (i / 4)) % 4294967296 / 2 ^ (24 - i % 4 * 8) % 256 = shaF s i) := fun i => rfl;have hA := zqwn (byteAt (zqb8 s)) ((zqb8 s).size / 64);unfold zqcf at hwc ⊢;generalize shaF s = F at *;generalize AA (byteAt (zqb8 s)) ((zqb8 s).size / 64) = A at *;generalize AA (byteAt (zqb8 s)) (s.size / 64) = A0 at *;generalize zqfu (byteAt (zqb8 s)) s.size = R0 at *;generalize zqfu (byteAt (zqb8 s)) (zqb8 s).size = R at *;generalize (zqb8 s).size = N at *;clear hp hps hfs;obtain ⟨⟨ts, fS⟩, tc, fC⟩ := hT;have l0S := zqa fS;have l0C := zqa fC;have hG := Grew.refl w;have fh : True := trivial;have fr : True := trivial
 go_enter Tryz.func155, Tryz.ntmps155
 go_wp2_with fail;generalize hW : (w.alloc (.cells (zqa7 (A0) (R0) (s.size)) 195)).alloc (.cells (ints .u8 32 (zqg)) 24) = w1;replace fh : zqd w1 (w.heap.size) = some (.cells (zqa7 (A0) (R0) (s.size)) 195) := zqk hW;replace fr : zqd w1 (w.heap.size + 1) = some (.cells (ints .u8 32 (zqg)) 24) := zqk hW;replace fS : zqd w1 (0) = some (.cells (ints .u32 8 sqF) ts) := zqk hW;replace fC : zqd w1 (2) = some (.cells (ints .u32 64 zqe5) tc) := zqk hW;replace hG : Below w.heap.size w w1 := zq2 hW;clear hW;have lfh := zqa fh;have lfr := zqa fr;have lfS := zqa fS;have lfC := zqa fC;have hwc2 := fun m => hwc (more w1 m) ⟨⟨ts, zql m fS⟩, tc, zql m fC⟩;clear hwc;go_wp2_with fail
 ((first | (with_reducible refine zq8 5 zqc zqc zqc zqc zqc ?_) | refine zq4 5 zqc zqc zqc zqc zqc ?_); simp only [List.take_succ_cons, List.take_zero]; (repeat (first | go_big_quiet_skip | (go_big_quiet_want; go_big_quiet_op; first | go_big_quiet_on | (apply Exists.intro; refine ⟨fun _ => ?_, ?_⟩; (focus (first | (with_reducible exact Calls.of_more (hbe _)) | (with_reducible exact Calls.of_more (hwc2 _)))); go_big_quiet_on)))); refine wpQuiet_nil ?_; rintro _ ⟨mq, rfl⟩)
 (refine zqaa (i := 5) (fuel := 0) zqc rfl ?_; intro K hK; go_simp; refine hK _ _ ?_; clear hK K)
 (refine wpAny_done zqc ?_ _)
 have eh : zqd (more (w1.setRow w.heap.size (zqa7 A R N)) mq) (w.heap.size) = some (.cells (zqa7 (A) (R) (N)) 195) := by exact zqe
 have er : zqd (more (w1.setRow w.heap.size (zqa7 A R N)) mq) (w.heap.size + 1) = some (.cells (ints .u8 32 (zqg)) 24) := by exact zqe
 have eS : zqd (more (w1.setRow w.heap.size (zqa7 A R N)) mq) (0) = some (.cells (ints .u32 8 sqF) ts) := by exact zqe
 have eC : zqd (more (w1.setRow w.heap.size (zqa7 A R N)) mq) (2) = some (.cells (ints .u32 64 zqe5) tc) := by exact zqe
 clear fh lfh fr lfr fS lfS fC lfC;replace hG : Below w.heap.size w (more (w1.setRow w.heap.size (zqa7 A R N)) mq) := by exact zqf
 generalize more (w1.setRow w.heap.size (zqa7 A R N)) mq = w2 at *;have fh := eh;have fr := er;have fS := eS;have fC := eC;clear eh er eS eC;have lfh := zqa fh;have lfr := zqa fr;have lfS := zqa fS;have lfC := zqa fC;have nkh : ¬ (w2.heap.size = w.heap.size) := by omega
 have nkr : ¬ (w2.heap.size = w.heap.size + 1) := by omega
 have nkS : ¬ (w2.heap.size = 0) := by omega
 have nkC : ¬ (w2.heap.size = 2) := by omega
 have lk : w.heap.size <= w2.heap.size := hG.size;go_wp2_with fail;have fk : zqd (w2.alloc (.cells (ints .u8 32 (zqg)) 24)) w2.heap.size = some (.cells (ints .u8 32 (zqg)) 24) := zqj _ _ _ rfl;replace fh : zqd (w2.alloc (.cells (ints .u8 32 (zqg)) 24)) (w.heap.size) = some (.cells (zqa7 (A) (R) (N)) 195) := zqm _ fh;replace fr : zqd (w2.alloc (.cells (ints .u8 32 (zqg)) 24)) (w.heap.size + 1) = some (.cells (ints .u8 32 (zqg)) 24) := zqm _ fr;replace fS : zqd (w2.alloc (.cells (ints .u8 32 (zqg)) 24)) (0) = some (.cells (ints .u32 8 sqF) ts) := zqm _ fS;replace fC : zqd (w2.alloc (.cells (ints .u8 32 (zqg)) 24)) (2) = some (.cells (ints .u32 64 zqe5) tc) := zqm _ fC;replace hG : Below w.heap.size w (w2.alloc (.cells (ints .u8 32 (zqg)) 24)) := Grew.alloc hG _;clear lfh lfr lfS lfC
 generalize w2.alloc (.cells (ints .u8 32 (zqg)) 24) = w3 at *;generalize w2.heap.size = gk at *;have lfh := zqa fh;have lfr := zqa fr;have lfS := zqa fS;have lfC := zqa fC;have lfk := zqa fk;go_wp2_with fail
 go_loopw [11] (fun i wr => ∃ k : Nat, k <= 32 /\ i = .int .i64 k /\ Below w.heap.size w wr /\ zqd wr (w.heap.size) = some (.cells (zqa7 (A) (R) (N)) 195) /\ zqd wr (w.heap.size + 1) = some (.cells (ints .u8 32 (zqg)) 24) /\ zqd wr (0) = some (.cells (ints .u32 8 sqF) ts) /\ zqd wr (2) = some (.cells (ints .u32 64 zqe5) tc) /\ zqd wr (gk) = some (.cells (ints .u8 32 (zqcj F k)) 24)) (fun i _ => 32 - (intOf i).toNat)
 case atStart => exact ⟨0, by omega, rfl, hG, fh, fr, fS, fC, by rw [zqc9]; exact fk⟩
 case round =>
  clear fh lfh fr lfr fS lfS fC lfC fk lfk hG;obtain ⟨k, hk, rfl, hG, fh, fr, fS, fC, fk⟩ := hrel;have lfh := zqa fh;have lfr := zqa fr;have lfS := zqa fS;have lfC := zqa fC;have lfk := zqa fk
  by_cases hlt : k < 32
  ·have S : Hid (upd (zqcj F k) k (F k) = zqcj F (k + 1)) := zqcl F k
   have hv := hF.out k;obtain ⟨q, hq⟩ : ∃ q, k / 4 = q := ⟨_, rfl⟩
   obtain ⟨j, hj⟩ : ∃ j, k % 4 = j := ⟨_, rfl⟩
   have hq8 : q < 8 := by omega
   have hj4 : j < 4 := by omega
   have hqi : (k : Int) / 4 = (q : Int) := by omega
   have hji : (k : Int) % 4 = (j : Int) := by omega
   rw [hq, hj] at hv;have ba := hA q;have bs := zqir q;unfold W32 at ba bs;have HV : Hid ((sqF q + A q) % 4294967296 / 2 ^ (24 - j * 8) % 256 = F k) := hv;generalize F k = V at *;clear hv hq hj;go_wp2_with fail
   ((first | (with_reducible refine zq5 zqc zqc ?_) | refine zqt zqc zqc ?_); (repeat (first | go_big_quiet_skip | (go_big_quiet_want; go_big_quiet_op; go_big_quiet_on))); refine wpQuiet_nil ?_; rintro _ ⟨mq, rfl⟩)
   go_wp2;rw [HV.out, S.out]
   go_roundw
   case rel => exact ⟨k + 1, by omega, by go_num, by exact zqf, by exact zqe, by exact zqe, by exact zqe, by exact zqe, by exact zqe⟩
   case measure => simp [intOf]; omega
  ·obtain rfl : k = 32 := by omega
   clear hlt;rw [zqdi] at fk;go_wp2;refine zqaf rfl _ 24 _ (0, 0) _ rfl (zqs _ fr) Tryz.underlying24 rfl (by rw [zqh]; kernel_rfl) rfl ⟨rfl, by exact zqf⟩
end Go.Proofs.YtconieddcjpbjaaGreatDoor
namespace Go.Proofs.YtconieddcjpbjaaGreatDoor
open Go.RowKit
def StrsAt (w : World) (oa : Option Addr) (n : Nat) (F : Nat -> ByteArray) : Prop :=
 n = 0 \/ ∃ ad : Addr, oa = some ad /\ ∀ w', Below w.heap.size w w' -> ∀ j, j < n -> w'.cell? (ad.add j) = some (.string (F j))
theorem StrsAt.later {w w' : World} {oa : Option Addr} {n : Nat} {F : Nat -> ByteArray} (h : StrsAt w oa n F) (hb : Below w.heap.size w w') : StrsAt w' oa n F := by
 rcases h with h | ⟨ad, ho, hl⟩
 ·exact .inl h
 ·exact .inr ⟨ad, ho, fun w'' hb' => hl w'' (Grew.trans hb hb')⟩
def catS (F : Nat -> ByteArray) : Nat -> ByteArray
 | 0 => ByteArray.empty
 | k + 1 => catS F k ++ F k
theorem zq13 (F : Nat -> ByteArray) (k : Nat) : ∀ n, k <= n -> (catS F k).size <= (catS F n).size
 | 0, h => by obtain rfl : k = 0 := by omega
              exact Nat.le_refl _
 | n + 1, h => by
  rcases (by omega : k = n + 1 \/ k <= n) with rfl | h'
  ·exact Nat.le_refl _
  ·have := zq13 F k n h'
   show _ <= (catS F n ++ F n).size
   rw [ByteArray.size_append]; omega
theorem zq9e (F : Nat -> ByteArray) (k i : Nat) (hi : i < (F k).size) : ∀ n, k < n -> byteAt (catS F n) ((catS F k).size + i) = byteAt (F k) i
 | 0, h => absurd h (Nat.not_lt_zero _)
 | n + 1, h => by
  show byteAt (catS F n ++ F n) _ = _
  rcases (by omega : k = n \/ k < n) with rfl | h'
  ·exact zqdo _ _ _ hi
  ·have h2 : (catS F (k + 1)).size <= (catS F n).size := zq13 F (k + 1) n h'
   have h3 : (catS F (k + 1)).size = (catS F k).size + (F k).size := ByteArray.size_append;rw [zqdn _ _ _ (by omega)];exact zq9e F k i hi n h'
theorem zq2n (w : World) : Calls Tryz.prog 152 #[] w (Rt w (.agg (zqcf (byteAt ByteArray.empty) 0))) := by
 go_enter Tryz.func152, Tryz.ntmps152
 go_wp2;refine zqaf rfl _ 195 _ (0, 0) _ rfl (zqj _ _ _ rfl) Tryz.underlying195 rfl (by rw [zqbi]; kernel_rfl) rfl ⟨?_, by exact zqf⟩
 rfl
theorem write_any (s : ByteArray) (oa : Option Addr) (n c : Nat) (F : Nat -> ByteArray) (w : World) (hl : s.size + (catS F n).size < 1152921504606846976) (hn : n <= 9223372036854775807) (hS : StrsAt w oa n F) (hT : Tabs w) :
  Calls Tryz.prog 153 #[.agg (zqcf (byteAt s) s.size), .slice oa n c] w (Rt w (.agg (zqcf (byteAt (s ++ catS F n)) (s ++ catS F n).size))) := by
 have e0 : zqcf (byteAt s) s.size = zqcf (byteAt (s ++ catS F n)) s.size := zqnp _ fun i hi => (zqdn s _ i hi).symm;rw [e0];clear e0;have hw : Hid (∀ k, k < n -> ∀ W : World, Tabs W -> Calls Tryz.prog 169 #[.agg (zqcf (byteAt (s ++ catS F n)) (s.size + (catS F k).size)), .string (F k)] W (Rt W (.agg (zqcf (byteAt (s ++ catS F n)) (s.size + (catS F (k + 1)).size))))) := fun k hk W hW => by
  have h1 := zq13 F (k + 1) n hk;have h3 : (catS F (k + 1)).size = (catS F k).size + (F k).size := ByteArray.size_append;have := zqwp (byteAt (s ++ catS F n)) (s.size + (catS F k).size) (F k) W (by omega) (fun i _ => zqhh _ i) (fun i hi => by
   rw [Nat.add_assoc, zqdo _ _ _ (by omega), zq9e F k i hi n hk]) hW
  rw [Nat.add_assoc, <- h3] at this;exact this
 have hl0 : (s ++ catS F n).size = s.size + (catS F n).size := ByteArray.size_append;rw [hl0];clear hl hl0;generalize byteAt (s ++ catS F n) = T at *;have hST : Hid (StrsAt w oa n F) := hS;have hTT : Hid (Tabs w) := hT;clear hS hT;have hG := Grew.refl w;have fh : True := trivial;have fr : True := trivial
 go_enter Tryz.func153, Tryz.ntmps153
 go_wp2_with fail;generalize hW : (w.alloc (.cells (zqcf T (s.size)) 195)).alloc (.cells (zqa7 (zqg) (zqg) (0)) 195) = w1;replace fh : zqd w1 (w.heap.size) = some (.cells (zqcf T (s.size)) 195) := zqk hW;replace fr : zqd w1 (w.heap.size + 1) = some (.cells (zqa7 (zqg) (zqg) (0)) 195) := zqk hW;replace hG : Below w.heap.size w w1 := zq2 hW;clear hW;have lfh := zqa fh;have lfr := zqa fr;go_wp2_with fail
 go_loopw [9] (fun i wr => ∃ k : Nat, k <= n /\ i = .int .i64 k /\ Below w.heap.size w wr /\ zqd wr (w.heap.size) = some (.cells (zqcf T (s.size + (catS F k).size)) 195) /\ zqd wr (w.heap.size + 1) = some (.cells (zqa7 (zqg) (zqg) (0)) 195)) (fun i _ => n - (intOf i).toNat)
 case atStart => exact ⟨0, by omega, rfl, hG, fh, fr⟩
 case round =>
  clear fh lfh fr lfr hG;obtain ⟨k, hk, rfl, hG, fh, fr⟩ := hrel;have lfh := zqa fh;have lfr := zqa fr
  by_cases hlt : k < n
  ·obtain ⟨ad, rfl, hcells⟩ : ∃ ad : Addr, oa = some ad /\ ∀ w', Below w.heap.size w w' -> ∀ j, j < n -> w'.cell? (ad.add j) = some (.string (F j)) := by
    rcases hST.out with h | h
    ·omega
    ·exact h
   have hcell := hcells wr hG k hlt;have hw2 := hw.out k hlt wr (hTT.out.later hG);clear hcells;go_wp2_with fail
   (refine (hw2).mono ?_; rintro e w2 ⟨rfl, hb⟩; replace fh : zqd w2 (w.heap.size) = some (.cells (zqcf T (s.size + (catS F k).size)) 195) := zqb hb (by exact zqe); have lfh := zqa fh; replace fr := zqb hb fr; have lfr := zqa fr; replace hG : Below w.heap.size w w2 := Grew.trans (by exact zqf) hb; clear hb)
   go_wp2
   go_roundw
   case rel => exact ⟨k + 1, by omega, by go_num, by exact zqf, by exact zqe, by exact zqe⟩
   case measure => simp [intOf]; omega
  ·obtain rfl : k = n := by omega
   clear hlt;go_wp2;refine zqaf rfl _ 195 _ (0, 0) _ rfl (zqs _ fr) Tryz.underlying195 rfl (by rw [zqk3]; kernel_rfl) rfl ⟨rfl, by exact zqf⟩
theorem zqrc (oa : Option Addr) (n c : Nat) (F : Nat -> ByteArray) (w : World) (hl : (catS F n).size < 1152921504606846976) (hn : n <= 9223372036854775807) (hS : StrsAt w oa n F) (hT : Tabs w) :
  Calls Tryz.prog 156 #[.slice oa n c] w (Rt w (.agg (ints .u8 32 (shaF (catS F n))))) := by
 have hw : Hid (∀ W : World, Below w.heap.size w W -> Calls Tryz.prog 153 #[.agg (zqcf (byteAt ByteArray.empty) 0), .slice oa n c] W (Rt W (.agg (zqcf (byteAt (catS F n)) (catS F n).size)))) := fun W hW => by
  have := write_any ByteArray.empty oa n c F W (by show 0 + _ < _; omega) hn (hS.later hW) (hT.later hW);rw [ByteArray.empty_append] at this;exact this
 have hs : Hid (∀ W : World, Below w.heap.size w W -> Calls Tryz.prog 155 #[.agg (zqcf (byteAt (catS F n)) (catS F n).size)] W (Rt W (.agg (ints .u8 32 (shaF (catS F n)))))) := fun W hW => zqwq (catS F n) W hl (hT.later hW);clear hS hT hl;have hG := Grew.refl w;have fr : True := trivial
 go_enter Tryz.func156, Tryz.ntmps156
 go_wp2_with fail;generalize hW : w.alloc (.cells (ints .u8 32 (zqg)) 24) = w1;replace fr : zqd w1 (w.heap.size) = some (.cells (ints .u8 32 (zqg)) 24) := zqk hW;replace hG : Below w.heap.size w w1 := zq2 hW;clear hW;have lfr := zqa fr;go_wp2_with fail
 (refine (zq2n _).mono ?_; rintro e w2 ⟨rfl, hb⟩; replace fr := zqb hb fr; have lfr := zqa fr; replace hG : Below w.heap.size w w2 := Grew.trans (by exact zqf) hb; clear hb)
 go_wp2_with fail
 (refine (hw.out _ hG).mono ?_; rintro e w3 ⟨rfl, hb⟩; replace fr := zqb hb fr; have lfr := zqa fr; replace hG : Below w.heap.size w w3 := Grew.trans (by exact zqf) hb; clear hb)
 go_wp2_with fail
 (refine (hs.out _ hG).mono ?_; rintro e w4 ⟨rfl, hb⟩; replace fr := zqb hb fr; have lfr := zqa fr; replace hG : Below w.heap.size w w4 := Grew.trans (by exact zqf) hb; clear hb)
 go_wp2;refine zqaf rfl _ 24 _ (0, 0) _ rfl (zqs _ fr) Tryz.underlying24 rfl (by rw [zqh]; kernel_rfl) rfl ⟨rfl, by exact zqf⟩
end Go.Proofs.YtconieddcjpbjaaGreatDoor
