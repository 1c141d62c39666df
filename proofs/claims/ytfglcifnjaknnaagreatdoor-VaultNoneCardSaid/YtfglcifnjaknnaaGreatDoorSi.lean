/- Si -/
import Derived.Test.YtfglcifnjaknnaaGreatDoorSh
import Derived.Test.YtfglcifnjaknnaaGreatDoorShelf
set_option linter.unusedVariables false
set_option linter.unusedSimpArgs false
set_option maxRecDepth 100000
set_option maxHeartbeats 4000000
namespace Go.Proofs.YtfglcifnjaknnaaGreatDoor
open Go.RowKit
def zqmw (a b : ByteArray) : Prop := a.size + b.size <= 9223372036854775807
@[go_sem high] theorem zric {P : Program} (w : World) (a b : ByteArray) (h : zqmw a b) : (Op.stringOp .add a b).run P w = .ok (.string (a ++ b)) w := run_string_add_sum w a b h
theorem zqtj (s : ByteArray) (i : Nat) : byteAt s i = match s.data.toList[i]? with | some b => (b.toNat : Int) | none => 0 := by
 unfold byteAt
 by_cases h : i < s.size
 ·rw [dif_pos h]
  have : s.data.toList[i]? = some s[i] := by
   rw [Array.getElem?_toList];exact Array.getElem?_eq_getElem h
  rw [this]
 ·rw [dif_neg h, List.getElem?_eq_none (by
   have : s.data.toList.length = s.size := Array.length_toList
   omega)]
theorem zqfu (s t : ByteArray) (i : Nat) (h : i < s.size) : byteAt (s ++ t) i = byteAt s i := by
 have h2 : i < (s ++ t).size := by rw [ByteArray.size_append]; omega
 unfold byteAt;rw [dif_pos h, dif_pos h2, ByteArray.getElem_append_left h]
theorem zqe7 (s t : ByteArray) (i : Nat) (h : i < t.size) : byteAt (s ++ t) (s.size + i) = byteAt t i := by
 have h2 : s.size + i < (s ++ t).size := by rw [ByteArray.size_append]; omega
 unfold byteAt;rw [dif_pos h, dif_pos h2, ByteArray.getElem_append_right (by omega)]
 congr 3
 omega
theorem zqmi (s : ByteArray) (i : Nat) : 0 <= byteAt s i /\ byteAt s i <= 255 := by
 unfold byteAt
 split
 ·have := s[i].toNat_lt
  omega
 ·omega
theorem zqx8 (s : ByteArray) (i : Nat) (h : ¬ i < s.size) : byteAt s i = 0 := by unfold byteAt; rw [dif_neg h]
theorem zq5 (n : Nat) (f : Nat -> Int) : (strOf n f).size = n := by
 have h := congrArg List.length (zqen n f);rw [ByteArray.toList_eq] at h
 simpa using h
theorem zqd6 (n : Nat) (f : Nat -> Int) (i : Nat) (hi : i < n) (h : 0 <= f i /\ f i <= 255) : byteAt (strOf n f) i = f i := by
 have hl := zqen n f;rw [ByteArray.toList_eq] at hl;rw [zqtj, hl, List.getElem?_map, List.getElem?_range hi]
 show ((UInt8.ofNat (f i).toNat).toNat : Int) = f i
 have e : (UInt8.ofNat (f i).toNat).toNat = (f i).toNat % 256 := rfl;rw [e]
 omega
def zqcd (k : Nat) : ByteArray := ⟨(Lib.repeatL [0] k).toArray⟩
theorem zqws (k : Nat) : (zqcd k).data.toList = List.replicate k 0 := by
 show Lib.repeatL (List.replicate 1 0) k = _
 rw [Lib.repeatL_replicate, Nat.mul_one]
theorem zqdi (k : Nat) : (zqcd k).size = k := by
 have h : (zqcd k).data.toList.length = (zqcd k).size := Array.length_toList;rw [<- h, zqws, List.length_replicate]
def zqo2 (n : Nat) : Nat -> Int := fun i => 8 * (n : Int) / 2 ^ (56 - 8 * i) % 256
def padB (n : Nat) : ByteArray := ⟨#[128]⟩ ++ zqcd ((119 - n % 64) % 64) ++ strOf 8 (zqo2 n)
theorem zq1q (n : Nat) : (padB n).size = 9 + (119 - n % 64) % 64 := by
 unfold padB;rw [ByteArray.size_append, ByteArray.size_append, zqdi, zq5]
 show 1 + _ + 8 = _
 omega
@[go_sem high] theorem zrhz (w : World) (g : Nat) : (Instr.sliceAt 263 (.pointer (some ⟨g, 0, none⟩)) none none none).run Tryz.prog w = .ok (.slice (some ⟨g, 0, none⟩) 8 8) w := by kernel_rfl
theorem zqvt (n : Nat) (w : World) (hn : n < 1152921504606846976) :
  Calls Tryz.prog 143 #[.int .u64 n] w (Rt w (.string (padB n))) := by
 have H : Hid (padB n = ⟨#[128]⟩ ++ zqcd ((119 - n % 64) % 64) ++ strOf 8 (zqo2 n)) := rfl;obtain ⟨r, hr⟩ : ∃ r, n % 64 = r := ⟨_, rfl⟩
 have hr64 : r < 64 := by omega
 have hri : (n : Int) % 64 = (r : Int) := by omega
 rw [hr] at H;clear hr;obtain ⟨z, hz⟩ : ∃ z, (119 - r) % 64 = z := ⟨_, rfl⟩
 have hzi : (119 - (r : Int)) % 64 = (z : Int) := by omega
 have hz64 : z < 64 := by omega
 rw [hz] at H;clear hz;have hG := Grew.refl w;have ft : True := trivial
 go_enter Tryz.func143, Tryz.ntmps143
 clear ft;go_wp2_with fail
 go_loopw [11] (fun i wr => ∃ k : Nat, k <= 8 /\ i = .int .i64 k /\ wr = w.alloc (.cells (ints .u8 8 (zqds (zqo2 n) k)) 263)) (fun i _ => 8 - (intOf i).toNat)
 case atStart => exact ⟨0, by omega, rfl, by rw [zqgi]⟩
 case round =>
  obtain ⟨k, hk, rfl, rfl⟩ := hrel
  by_cases hlt : k < 8
  ·have S : Hid (upd (zqds (zqo2 n) k) k (8 * (n : Int) / 2 ^ (56 - 8 * k) % 256) = zqds (zqo2 n) (k + 1)) := zqex (zqo2 n) k
   go_wp2
   go_roundw
   case rel => exact ⟨k + 1, by omega, by go_num, by rw [S.out]⟩
   case measure => simp [intOf]; omega
  ·obtain rfl : k = 8 := by omega
   clear hlt;rw [zqiz];have hc := fun (m : More) => zqdj (P := Tryz.prog) (src := 157) (dst := 9) Tryz.underlying157 Tryz.underlying5 Tryz.underlying9 w.heap.size 8 8 8 (zqo2 n) (more (w.alloc (.cells (ints .u8 8 (zqo2 n)) 263)) m) (te := 263) (fr := (0, 0)) (by simp [go_sem]) (by omega);have hrep : ∀ W : World, Calls Tryz.prog 141 #[.string ⟨#[0]⟩, .int .i64 z] W (Rt W (.string (zqcd z))) := fun W => Tryz.strings_Repeat ⟨#[0]⟩ z W (by omega) (by show 1 * z <= 140737488355328; omega);have k1 : zqmw ⟨#[128]⟩ (zqcd z) := by unfold zqmw; rw [zqdi]; show 1 + z <= _; omega
   have k2 : zqmw (⟨#[128]⟩ ++ zqcd z) (strOf 8 (zqo2 n)) := by unfold zqmw; rw [ByteArray.size_append, zqdi, zq5]; show 1 + z + 8 <= _; omega
   go_wp2_with fail
   (try simp only [hzi])
   ((first | (with_reducible refine zqab zqb zqb ?_) | refine zq2 zqb zqb ?_); (repeat (first | go_big_quiet_skip | (go_big_quiet_want; go_big_quiet_op; first | go_big_quiet_on | (apply Exists.intro; refine ⟨fun _ => ?_, ?_⟩; (focus (first | (with_reducible exact Calls.of_more (hrep _)))); go_big_quiet_on)))); refine wpQuiet_nil ?_; rintro _ ⟨mq, rfl⟩)
   go_wp2;go_ret;rw [H.out];exact ⟨rfl, by exact zqf⟩
def zqc0 (s : ByteArray) : ByteArray := s ++ padB s.size
def shaF (s : ByteArray) : Nat -> Int := fun i => absH (AA (byteAt (zqc0 s)) ((zqc0 s).size / 64)) (i / 4) / 2 ^ (24 - i % 4 * 8) % 256
theorem zqpu (s : ByteArray) : Bytes 32 (shaF s) := fun i _ => by unfold shaF; omega
theorem zque (s : ByteArray) (w : World) (hs : s.size < 1152921504606846976) (hT : Tabs w) :
  Calls Tryz.prog 112 #[.agg (zqbv (byteAt s) s.size)] w (Rt w (.agg (ints .u8 32 (shaF s)))) := by
 have e0 : zqbv (byteAt s) s.size = zqbv (byteAt (zqc0 s)) s.size := zqk0 _ fun i hi => (zqfu s _ i hi).symm;rw [e0];clear e0;have hps : (padB s.size).size = 9 + (119 - s.size % 64) % 64 := zq1q _;have hfs : (zqc0 s).size = s.size + (padB s.size).size := ByteArray.size_append;have hp : ∀ i, i < (padB s.size).size -> byteAt (padB s.size) i = byteAt (zqc0 s) (s.size + i) := fun i hi => (zqe7 s _ i hi).symm;have hwc : ∀ W : World, Tabs W -> Calls Tryz.prog 142 #[.agg (zqbv (byteAt (zqc0 s)) s.size), .string (padB s.size)] W (Rt W (.agg (zqbv (byteAt (zqc0 s)) (zqc0 s).size))) := fun W hW => by
  have := zquu (byteAt (zqc0 s)) s.size (padB s.size) W (by omega) (fun i _ => zqmi _ i) hp hW;rw [<- hfs] at this;exact this
 have hbe := fun W => zqvt s.size W hs;have hF : Hid (∀ i, (sqF (i / 4) + AA (byteAt (zqc0 s)) ((zqc0 s).size / 64) (i / 4)) % 4294967296 / 2 ^ (24 - i % 4 * 8) % 256 = shaF s i) := fun i => rfl;have hA := zqut (byteAt (zqc0 s)) ((zqc0 s).size / 64);unfold zqbv at hwc ⊢;generalize shaF s = F at *;generalize AA (byteAt (zqc0 s)) ((zqc0 s).size / 64) = A at *;generalize AA (byteAt (zqc0 s)) (s.size / 64) = A0 at *;generalize zqep (byteAt (zqc0 s)) s.size = R0 at *;generalize zqep (byteAt (zqc0 s)) (zqc0 s).size = R at *;generalize (zqc0 s).size = N at *;clear hp hps hfs;obtain ⟨⟨ts, fS⟩, tc, fC⟩ := hT;have l0S := zqa fS;have l0C := zqa fC;have hG := Grew.refl w;have fh : True := trivial;have fr : True := trivial
 go_enter Tryz.func112, Tryz.ntmps112
 go_wp2_with fail;generalize hW : (w.alloc (.cells (zqap (A0) (R0) (s.size)) 201)).alloc (.cells (ints .u8 32 (zqd)) 29) = w1;replace fh : zqe w1 (w.heap.size) = some (.cells (zqap (A0) (R0) (s.size)) 201) := zqs hW;replace fr : zqe w1 (w.heap.size + 1) = some (.cells (ints .u8 32 (zqd)) 29) := zqs hW;replace fS : zqe w1 (1) = some (.cells (ints .u32 8 sqF) ts) := zqs hW;replace fC : zqe w1 (2) = some (.cells (ints .u32 64 zqfa) tc) := zqs hW;replace hG : Below w.heap.size w w1 := zqam hW;clear hW;have lfh := zqa fh;have lfr := zqa fr;have lfS := zqa fS;have lfC := zqa fC;have hwc2 := fun m => hwc (more w1 m) ⟨⟨ts, zqp m fS⟩, tc, zqp m fC⟩;clear hwc;go_wp2_with fail
 ((first | (with_reducible refine zqav 5 zqb zqb zqb zqb zqb ?_) | refine zqan 5 zqb zqb zqb zqb zqb ?_); simp only [List.take_succ_cons, List.take_zero]; (repeat (first | go_big_quiet_skip | (go_big_quiet_want; go_big_quiet_op; first | go_big_quiet_on | (apply Exists.intro; refine ⟨fun _ => ?_, ?_⟩; (focus (first | (with_reducible exact Calls.of_more (hbe _)) | (with_reducible exact Calls.of_more (hwc2 _)))); go_big_quiet_on)))); refine wpQuiet_nil ?_; rintro _ ⟨mq, rfl⟩)
 (refine zqt (i := 5) (fuel := 0) zqb rfl ?_; intro K hK; go_simp; refine hK _ _ ?_; clear hK K)
 (refine wpAny_done zqb ?_ _)
 have eh : zqe (more (w1.setRow w.heap.size (zqap A R N)) mq) (w.heap.size) = some (.cells (zqap (A) (R) (N)) 201) := by exact zqh
 have er : zqe (more (w1.setRow w.heap.size (zqap A R N)) mq) (w.heap.size + 1) = some (.cells (ints .u8 32 (zqd)) 29) := by exact zqh
 have eS : zqe (more (w1.setRow w.heap.size (zqap A R N)) mq) (1) = some (.cells (ints .u32 8 sqF) ts) := by exact zqh
 have eC : zqe (more (w1.setRow w.heap.size (zqap A R N)) mq) (2) = some (.cells (ints .u32 64 zqfa) tc) := by exact zqh
 clear fh lfh fr lfr fS lfS fC lfC;replace hG : Below w.heap.size w (more (w1.setRow w.heap.size (zqap A R N)) mq) := by exact zqf
 generalize more (w1.setRow w.heap.size (zqap A R N)) mq = w2 at *;have fh := eh;have fr := er;have fS := eS;have fC := eC;clear eh er eS eC;have lfh := zqa fh;have lfr := zqa fr;have lfS := zqa fS;have lfC := zqa fC;have nkh : ¬ (w2.heap.size = w.heap.size) := by omega
 have nkr : ¬ (w2.heap.size = w.heap.size + 1) := by omega
 have nkS : ¬ (w2.heap.size = 1) := by omega
 have nkC : ¬ (w2.heap.size = 2) := by omega
 have lk : w.heap.size <= w2.heap.size := hG.size;go_wp2_with fail;have fk : zqe (w2.alloc (.cells (ints .u8 32 (zqd)) 29)) w2.heap.size = some (.cells (ints .u8 32 (zqd)) 29) := zqg _ _ _ rfl;replace fh : zqe (w2.alloc (.cells (ints .u8 32 (zqd)) 29)) (w.heap.size) = some (.cells (zqap (A) (R) (N)) 201) := zqj _ fh;replace fr : zqe (w2.alloc (.cells (ints .u8 32 (zqd)) 29)) (w.heap.size + 1) = some (.cells (ints .u8 32 (zqd)) 29) := zqj _ fr;replace fS : zqe (w2.alloc (.cells (ints .u8 32 (zqd)) 29)) (1) = some (.cells (ints .u32 8 sqF) ts) := zqj _ fS;replace fC : zqe (w2.alloc (.cells (ints .u8 32 (zqd)) 29)) (2) = some (.cells (ints .u32 64 zqfa) tc) := zqj _ fC;replace hG : Below w.heap.size w (w2.alloc (.cells (ints .u8 32 (zqd)) 29)) := Grew.alloc hG _;clear lfh lfr lfS lfC
 generalize w2.alloc (.cells (ints .u8 32 (zqd)) 29) = w3 at *;generalize w2.heap.size = gk at *;have lfh := zqa fh;have lfr := zqa fr;have lfS := zqa fS;have lfC := zqa fC;have lfk := zqa fk;go_wp2_with fail
 go_loopw [11] (fun i wr => ∃ k : Nat, k <= 32 /\ i = .int .i64 k /\ Below w.heap.size w wr /\ zqe wr (w.heap.size) = some (.cells (zqap (A) (R) (N)) 201) /\ zqe wr (w.heap.size + 1) = some (.cells (ints .u8 32 (zqd)) 29) /\ zqe wr (1) = some (.cells (ints .u32 8 sqF) ts) /\ zqe wr (2) = some (.cells (ints .u32 64 zqfa) tc) /\ zqe wr (gk) = some (.cells (ints .u8 32 (zqds F k)) 29)) (fun i _ => 32 - (intOf i).toNat)
 case atStart => exact ⟨0, by omega, rfl, hG, fh, fr, fS, fC, by rw [zqgi]; exact fk⟩
 case round =>
  clear fh lfh fr lfr fS lfS fC lfC fk lfk hG;obtain ⟨k, hk, rfl, hG, fh, fr, fS, fC, fk⟩ := hrel;have lfh := zqa fh;have lfr := zqa fr;have lfS := zqa fS;have lfC := zqa fC;have lfk := zqa fk
  by_cases hlt : k < 32
  ·have S : Hid (upd (zqds F k) k (F k) = zqds F (k + 1)) := zqex F k
   have hv := hF.out k;obtain ⟨q, hq⟩ : ∃ q, k / 4 = q := ⟨_, rfl⟩
   obtain ⟨j, hj⟩ : ∃ j, k % 4 = j := ⟨_, rfl⟩
   have hq8 : q < 8 := by omega
   have hj4 : j < 4 := by omega
   have hqi : (k : Int) / 4 = (q : Int) := by omega
   have hji : (k : Int) % 4 = (j : Int) := by omega
   rw [hq, hj] at hv;have ba := hA q;have bs := zqi1 q;unfold W32 at ba bs;have HV : Hid ((sqF q + A q) % 4294967296 / 2 ^ (24 - j * 8) % 256 = F k) := hv;generalize F k = V at *;clear hv hq hj;go_wp2_with fail
   ((first | (with_reducible refine zqab zqb zqb ?_) | refine zq2 zqb zqb ?_); (refine zAi ?_); refine wpQuiet_nil ?_; rintro _ ⟨mq, rfl⟩)
   go_wp2;rw [HV.out, S.out]
   go_roundw
   case rel => exact ⟨k + 1, by omega, by go_num, by exact zqf, by exact zqh, by exact zqh, by exact zqh, by exact zqh, by exact zqh⟩
   case measure => simp [intOf]; omega
  ·obtain rfl : k = 32 := by omega
   clear hlt;rw [zqiz] at fk;go_wp2;refine zqag rfl _ 29 _ (0, 0) _ rfl (zqq _ fr) Tryz.underlying29 rfl (by rw [zqi]; kernel_rfl) rfl ⟨rfl, by exact zqf⟩
def StrsAt (w : World) (oa : Option Addr) (n : Nat) (F : Nat -> ByteArray) : Prop :=
 n = 0 \/ ∃ ad : Addr, oa = some ad /\ ∀ w', Below w.heap.size w w' -> ∀ j, j < n -> w'.cell? (ad.add j) = some (.string (F j))
theorem StrsAt.later {w w' : World} {oa : Option Addr} {n : Nat} {F : Nat -> ByteArray} (h : StrsAt w oa n F) (hb : Below w.heap.size w w') : StrsAt w' oa n F := by
 rcases h with h | ⟨ad, ho, hl⟩
 ·exact .inl h
 ·exact .inr ⟨ad, ho, fun w'' hb' => hl w'' (Grew.trans hb hb')⟩
def catS (F : Nat -> ByteArray) : Nat -> ByteArray
 | 0 => ByteArray.empty
 | k + 1 => catS F k ++ F k
theorem zq00 (F : Nat -> ByteArray) (k : Nat) : ∀ n, k <= n -> (catS F k).size <= (catS F n).size
 | 0, h => by obtain rfl : k = 0 := by omega
              exact Nat.le_refl _
 | n + 1, h => by
  rcases (by omega : k = n + 1 \/ k <= n) with rfl | h'
  ·exact Nat.le_refl _
  ·have := zq00 F k n h'
   show _ <= (catS F n ++ F n).size
   rw [ByteArray.size_append]; omega
theorem zq7b (F : Nat -> ByteArray) (k i : Nat) (hi : i < (F k).size) : ∀ n, k < n -> byteAt (catS F n) ((catS F k).size + i) = byteAt (F k) i
 | 0, h => absurd h (Nat.not_lt_zero _)
 | n + 1, h => by
  show byteAt (catS F n ++ F n) _ = _
  rcases (by omega : k = n \/ k < n) with rfl | h'
  ·exact zqe7 _ _ _ hi
  ·have h2 : (catS F (k + 1)).size <= (catS F n).size := zq00 F (k + 1) n h'
   have h3 : (catS F (k + 1)).size = (catS F k).size + (F k).size := ByteArray.size_append;rw [zqfu _ _ _ (by omega)];exact zq7b F k i hi n h'
theorem zq2s (w : World) : Calls Tryz.prog 109 #[] w (Rt w (.agg (zqbv (byteAt ByteArray.empty) 0))) := by
 go_enter Tryz.func109, Tryz.ntmps109
 go_wp2;refine zqag rfl _ 201 _ (0, 0) _ rfl (zqg _ _ _ rfl) Tryz.underlying201 rfl (by rw [zqaz]; kernel_rfl) rfl ⟨?_, by exact zqf⟩
 rfl
theorem write_any (s : ByteArray) (oa : Option Addr) (n c : Nat) (F : Nat -> ByteArray) (w : World) (hl : s.size + (catS F n).size < 1152921504606846976) (hn : n <= 9223372036854775807) (hS : StrsAt w oa n F) (hT : Tabs w) :
  Calls Tryz.prog 110 #[.agg (zqbv (byteAt s) s.size), .slice oa n c] w (Rt w (.agg (zqbv (byteAt (s ++ catS F n)) (s ++ catS F n).size))) := by
 have e0 : zqbv (byteAt s) s.size = zqbv (byteAt (s ++ catS F n)) s.size := zqk0 _ fun i hi => (zqfu s _ i hi).symm;rw [e0];clear e0;have hw : Hid (∀ k, k < n -> ∀ W : World, Tabs W -> Calls Tryz.prog 142 #[.agg (zqbv (byteAt (s ++ catS F n)) (s.size + (catS F k).size)), .string (F k)] W (Rt W (.agg (zqbv (byteAt (s ++ catS F n)) (s.size + (catS F (k + 1)).size))))) := fun k hk W hW => by
  have h1 := zq00 F (k + 1) n hk;have h3 : (catS F (k + 1)).size = (catS F k).size + (F k).size := ByteArray.size_append;have := zquu (byteAt (s ++ catS F n)) (s.size + (catS F k).size) (F k) W (by omega) (fun i _ => zqmi _ i) (fun i hi => by
   rw [Nat.add_assoc, zqe7 _ _ _ (by omega), zq7b F k i hi n hk]) hW
  rw [Nat.add_assoc, <- h3] at this;exact this
 have hl0 : (s ++ catS F n).size = s.size + (catS F n).size := ByteArray.size_append;rw [hl0];clear hl hl0;generalize byteAt (s ++ catS F n) = T at *;have hST : Hid (StrsAt w oa n F) := hS;have hTT : Hid (Tabs w) := hT;clear hS hT;have hG := Grew.refl w;have fh : True := trivial;have fr : True := trivial
 go_enter Tryz.func110, Tryz.ntmps110
 go_wp2_with fail;generalize hW : (w.alloc (.cells (zqbv T (s.size)) 201)).alloc (.cells (zqap (zqd) (zqd) (0)) 201) = w1;replace fh : zqe w1 (w.heap.size) = some (.cells (zqbv T (s.size)) 201) := zqs hW;replace fr : zqe w1 (w.heap.size + 1) = some (.cells (zqap (zqd) (zqd) (0)) 201) := zqs hW;replace hG : Below w.heap.size w w1 := zqam hW;clear hW;have lfh := zqa fh;have lfr := zqa fr;go_wp2_with fail
 go_loopw [9] (fun i wr => ∃ k : Nat, k <= n /\ i = .int .i64 k /\ Below w.heap.size w wr /\ zqe wr (w.heap.size) = some (.cells (zqbv T (s.size + (catS F k).size)) 201) /\ zqe wr (w.heap.size + 1) = some (.cells (zqap (zqd) (zqd) (0)) 201)) (fun i _ => n - (intOf i).toNat)
 case atStart => exact ⟨0, by omega, rfl, hG, fh, fr⟩
 case round =>
  clear fh lfh fr lfr hG;obtain ⟨k, hk, rfl, hG, fh, fr⟩ := hrel;have lfh := zqa fh;have lfr := zqa fr
  by_cases hlt : k < n
  ·obtain ⟨ad, rfl, hcells⟩ : ∃ ad : Addr, oa = some ad /\ ∀ w', Below w.heap.size w w' -> ∀ j, j < n -> w'.cell? (ad.add j) = some (.string (F j)) := by
    rcases hST.out with h | h
    ·omega
    ·exact h
   have hcell := hcells wr hG k hlt;have hw2 := hw.out k hlt wr (hTT.out.later hG);clear hcells;go_wp2_with fail
   (refine (hw2).mono ?_; rintro e w2 ⟨rfl, hb⟩; replace fh : zqe w2 (w.heap.size) = some (.cells (zqbv T (s.size + (catS F k).size)) 201) := zqc hb (by exact zqh); have lfh := zqa fh; replace fr := zqc hb fr; have lfr := zqa fr; replace hG : Below w.heap.size w w2 := Grew.trans (by exact zqf) hb; clear hb)
   go_wp2
   go_roundw
   case rel => exact ⟨k + 1, by omega, by go_num, by exact zqf, by exact zqh, by exact zqh⟩
   case measure => simp [intOf]; omega
  ·obtain rfl : k = n := by omega
   clear hlt;go_wp2;refine zqag rfl _ 201 _ (0, 0) _ rfl (zqq _ fr) Tryz.underlying201 rfl (by rw [zqjv]; kernel_rfl) rfl ⟨rfl, by exact zqf⟩
theorem zqof (oa : Option Addr) (n c : Nat) (F : Nat -> ByteArray) (w : World) (hl : (catS F n).size < 1152921504606846976) (hn : n <= 9223372036854775807) (hS : StrsAt w oa n F) (hT : Tabs w) :
  Calls Tryz.prog 113 #[.slice oa n c] w (Rt w (.agg (ints .u8 32 (shaF (catS F n))))) := by
 have hw : Hid (∀ W : World, Below w.heap.size w W -> Calls Tryz.prog 110 #[.agg (zqbv (byteAt ByteArray.empty) 0), .slice oa n c] W (Rt W (.agg (zqbv (byteAt (catS F n)) (catS F n).size)))) := fun W hW => by
  have := write_any ByteArray.empty oa n c F W (by show 0 + _ < _; omega) hn (hS.later hW) (hT.later hW);rw [ByteArray.empty_append] at this;exact this
 have hs : Hid (∀ W : World, Below w.heap.size w W -> Calls Tryz.prog 112 #[.agg (zqbv (byteAt (catS F n)) (catS F n).size)] W (Rt W (.agg (ints .u8 32 (shaF (catS F n)))))) := fun W hW => zque (catS F n) W hl (hT.later hW);clear hS hT hl;have hG := Grew.refl w;have fr : True := trivial
 go_enter Tryz.func113, Tryz.ntmps113
 go_wp2_with fail;generalize hW : w.alloc (.cells (ints .u8 32 (zqd)) 29) = w1;replace fr : zqe w1 (w.heap.size) = some (.cells (ints .u8 32 (zqd)) 29) := zqs hW;replace hG : Below w.heap.size w w1 := zqam hW;clear hW;have lfr := zqa fr;go_wp2_with fail
 (refine (zq2s _).mono ?_; rintro e w2 ⟨rfl, hb⟩; replace fr := zqc hb fr; have lfr := zqa fr; replace hG : Below w.heap.size w w2 := Grew.trans (by exact zqf) hb; clear hb)
 go_wp2_with fail
 (refine (hw.out _ hG).mono ?_; rintro e w3 ⟨rfl, hb⟩; replace fr := zqc hb fr; have lfr := zqa fr; replace hG : Below w.heap.size w w3 := Grew.trans (by exact zqf) hb; clear hb)
 go_wp2_with fail
 (refine (hs.out _ hG).mono ?_; rintro e w4 ⟨rfl, hb⟩; replace fr := zqc hb fr; have lfr := zqa fr; replace hG : Below w.heap.size w w4 := Grew.trans (by exact zqf) hb; clear hb)
 go_wp2;refine zqag rfl _ 29 _ (0, 0) _ rfl (zqq _ fr) Tryz.underlying29 rfl (by rw [zqi]; kernel_rfl) rfl ⟨rfl, by exact zqf⟩
end Go.Proofs.YtfglcifnjaknnaaGreatDoor
