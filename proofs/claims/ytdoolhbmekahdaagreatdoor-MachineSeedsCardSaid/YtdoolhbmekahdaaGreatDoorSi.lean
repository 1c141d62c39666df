/- Si -/
import Derived.Test.YtdoolhbmekahdaaGreatDoorSh
import Derived.Test.YtdoolhbmekahdaaGreatDoorShelf
set_option maxRecDepth 100000
set_option maxHeartbeats 4000000
namespace Go.Proofs.YtdoolhbmekahdaaGreatDoor
open Go.RowKit
set_option linter.unusedVariables false
set_option linter.unusedSimpArgs false
def FitsS (a b : ByteArray) : Prop := a.size + b.size ≤ 9223372036854775807
@[go_sem high] theorem add_fits {P : Program} (w : World) (a b : ByteArray) (h : FitsS a b) : (Op.stringOp .add a b).run P w = .ok (.string (a ++ b)) w := run_string_add_sum w a b h
theorem byteAt_list (s : ByteArray) (i : Nat) : byteAt s i = match s.data.toList[i]? with | some b => (b.toNat : Int) | none => 0 := by
 unfold byteAt
 by_cases h : i < s.size
 ·rw [dif_pos h]
  have : s.data.toList[i]? = some s[i] := by
   rw [Array.getElem?_toList]
   exact Array.getElem?_eq_getElem h
  rw [this]
 ·rw [dif_neg h, List.getElem?_eq_none (by
   have : s.data.toList.length = s.size := Array.length_toList
   omega)]
theorem byteAt_left (s t : ByteArray) (i : Nat) (h : i < s.size) : byteAt (s ++ t) i = byteAt s i := by
 have h2 : i < (s ++ t).size := by rw [ByteArray.size_append]; omega
 unfold byteAt
 rw [dif_pos h, dif_pos h2, ByteArray.getElem_append_left h]
theorem byteAt_right (s t : ByteArray) (i : Nat) (h : i < t.size) : byteAt (s ++ t) (s.size + i) = byteAt t i := by
 have h2 : s.size + i < (s ++ t).size := by rw [ByteArray.size_append]; omega
 unfold byteAt
 rw [dif_pos h, dif_pos h2, ByteArray.getElem_append_right (by omega)]
 congr 3
 omega
theorem byteAt_bd (s : ByteArray) (i : Nat) : 0 ≤ byteAt s i ∧ byteAt s i ≤ 255 := by
 unfold byteAt
 split
 ·have := s[i].toNat_lt
  omega
 ·omega
theorem byteAt_out (s : ByteArray) (i : Nat) (h : ¬ i < s.size) : byteAt s i = 0 := by unfold byteAt; rw [dif_neg h]
theorem strOf_size (n : Nat) (f : Nat → Int) : (strOf n f).size = n := by
 have h := congrArg List.length (strOf_list n f)
 rw [ByteArray.toList_eq] at h
 simpa using h
theorem byteAt_strOf (n : Nat) (f : Nat → Int) (i : Nat) (hi : i < n) (h : 0 ≤ f i ∧ f i ≤ 255) : byteAt (strOf n f) i = f i := by
 have hl := strOf_list n f
 rw [ByteArray.toList_eq] at hl
 rw [byteAt_list, hl, List.getElem?_map, List.getElem?_range hi]
 show ((UInt8.ofNat (f i).toNat).toNat : Int) = f i
 have e : (UInt8.ofNat (f i).toNat).toNat = (f i).toNat % 256 := rfl
 rw [e]
 omega
def zerosB (k : Nat) : ByteArray := ⟨(Lib.repeatL [0] k).toArray⟩
theorem zeros_list (k : Nat) : (zerosB k).data.toList = List.replicate k 0 := by
 show Lib.repeatL (List.replicate 1 0) k = _
 rw [Lib.repeatL_replicate, Nat.mul_one]
theorem zerosB_size (k : Nat) : (zerosB k).size = k := by
 have h : (zerosB k).data.toList.length = (zerosB k).size := Array.length_toList
 rw [← h, zeros_list, List.length_replicate]
def toldF (n : Nat) : Nat → Int := fun i => 8 * (n : Int) / 2 ^ (56 - 8 * i) % 256
def padB (n : Nat) : ByteArray := ⟨#[128]⟩ ++ zerosB ((119 - n % 64) % 64) ++ strOf 8 (toldF n)
theorem padB_size (n : Nat) : (padB n).size = 9 + (119 - n % 64) % 64 := by
 unfold padB
 rw [ByteArray.size_append, ByteArray.size_append, zerosB_size, strOf_size]
 show 1 + _ + 8 = _
 omega
theorem told_bytes (n : Nat) : Bytes 8 (toldF n) := fun i _ => by unfold toldF; omega
@[go_sem high] theorem slice_b8 (w : World) (g : Nat) : (Instr.sliceAt 215 (.pointer (some ⟨g, 0, none⟩)) none none none).run Tryz.prog w = .ok (.slice (some ⟨g, 0, none⟩) 8 8) w := by kernel_rfl
theorem behind_any (n : Nat) (w : World) (hn : n < 1152921504606846976) :
  Calls Tryz.prog 117 #[.int .u64 n] w fun e w' => e = .returned (.string (padB n)) ∧ Below w.heap.size w w' := by
 have H : Hid (padB n = ⟨#[128]⟩ ++ zerosB ((119 - n % 64) % 64) ++ strOf 8 (toldF n)) := rfl
 obtain ⟨r, hr⟩ : ∃ r, n % 64 = r := ⟨_, rfl⟩
 have hr64 : r < 64 := by omega
 have hri : (n : Int) % 64 = (r : Int) := by omega
 rw [hr] at H
 clear hr
 obtain ⟨z, hz⟩ : ∃ z, (119 - r) % 64 = z := ⟨_, rfl⟩
 have hzi : (119 - (r : Int)) % 64 = (z : Int) := by omega
 have hz64 : z < 64 := by omega
 rw [hz] at H
 clear hz
 have hG := Grew.refl w
 have ft : True := trivial
 go_enter Tryz.func117, Tryz.ntmps117
 clear ft
 go_wp2_with fail
 go_loopw [11] (fun i wr => ∃ k : Nat, k ≤ 8 ∧ i = .int .i64 k ∧ wr = w.alloc (.cells (ints .u8 8 (part' (toldF n) k)) 215)) (fun i _ => 8 - (intOf i).toNat)
 case atStart => exact ⟨0, by omega, rfl, by rw [part_zero]⟩
 case round =>
  obtain ⟨k, hk, rfl, rfl⟩ := hrel
  by_cases hlt : k < 8
  ·have S : Hid (upd (part' (toldF n) k) k (8 * (n : Int) / 2 ^ (56 - 8 * k) % 256) = part' (toldF n) (k + 1)) := part_succ (toldF n) k
   go_wp2
   go_roundw
   case rel => exact ⟨k + 1, by omega, by go_num, by rw [S.out]⟩
   case measure => simp [intOf]; omega
  ·obtain rfl : k = 8 := by omega
   clear hlt
   rw [ints_part]
   have hc := fun (m : More) => run_str (P := Tryz.prog) (src := 36) (dst := 9) Tryz.underlying36 Tryz.underlying5 Tryz.underlying9 w.heap.size 8 8 8 (toldF n) (more (w.alloc (.cells (ints .u8 8 (toldF n)) 215)) m) (te := 215) (fr := (0, 0)) (by simp [go_sem]) (by omega)
   have hrep : ∀ W : World, Calls Tryz.prog 115 #[.string ⟨#[0]⟩, .int .i64 z] W fun e w' => e = .returned (.string (zerosB z)) ∧ Below W.heap.size W w' := fun W => Tryz.strings_Repeat ⟨#[0]⟩ z W (by omega) (by show 1 * z ≤ 140737488355328; omega)
   have k1 : FitsS ⟨#[128]⟩ (zerosB z) := by unfold FitsS; rw [zerosB_size]; show 1 + z ≤ _; omega
   have k2 : FitsS (⟨#[128]⟩ ++ zerosB z) (strOf 8 (toldF n)) := by unfold FitsS; rw [ByteArray.size_append, zerosB_size, strOf_size]; show 1 + z + 8 ≤ _; omega
   go_wp2_with fail
   (try simp only [hzi])
   ((first | (with_reducible refine wp_region_on (by kernel_rfl) (by kernel_rfl) ?_) | refine wp_region_more (by kernel_rfl) (by kernel_rfl) ?_); (repeat (first | go_big_quiet_skip | (go_big_quiet_want; go_big_quiet_op; first | go_big_quiet_on | (apply Exists.intro; refine ⟨fun _ => ?_, ?_⟩; (focus (first | (with_reducible exact Calls.of_more (hrep _)))); go_big_quiet_on)))); refine wpQuiet_nil ?_; rintro _ ⟨mq, rfl⟩)
   go_wp2
   go_ret
   rw [H.out]
   exact ⟨rfl, by exact grew_auto⟩
def fullB (s : ByteArray) : ByteArray := s ++ padB s.size
def shaF (s : ByteArray) : Nat → Int := fun i => absH (AA (byteAt (fullB s)) ((fullB s).size / 64)) (i / 4) / 2 ^ (24 - i % 4 * 8) % 256
theorem sha_bytes (s : ByteArray) : Bytes 32 (shaF s) := fun i _ => by unfold shaF; omega
theorem sumH_any (s : ByteArray) (w : World) (hs : s.size < 1152921504606846976) (hT : Tabs w) :
  Calls Tryz.prog 75 #[.agg (hashT (byteAt s) s.size)] w fun e w' => e = .returned (.agg (ints .u8 32 (shaF s))) ∧ Below w.heap.size w w' := by
 have e0 : hashT (byteAt s) s.size = hashT (byteAt (fullB s)) s.size := hashT_congr _ fun i hi => (byteAt_left s _ i hi).symm
 rw [e0]
 clear e0
 have hps : (padB s.size).size = 9 + (119 - s.size % 64) % 64 := padB_size _
 have hfs : (fullB s).size = s.size + (padB s.size).size := ByteArray.size_append
 have hp : ∀ i, i < (padB s.size).size → byteAt (padB s.size) i = byteAt (fullB s) (s.size + i) := fun i hi => (byteAt_right s _ i hi).symm
 have hwc : ∀ W : World, Tabs W → Calls Tryz.prog 116 #[.agg (hashT (byteAt (fullB s)) s.size), .string (padB s.size)] W fun e w' => e = .returned (.agg (hashT (byteAt (fullB s)) (fullB s).size)) ∧ Below W.heap.size W w' := fun W hW => by
  have := with_any (byteAt (fullB s)) s.size (padB s.size) W (by omega) (fun i _ => byteAt_bd _ i) hp hW
  rw [← hfs] at this
  exact this
 have hbe := fun W => behind_any s.size W hs
 have hF : Hid (∀ i, (sqF (i / 4) + AA (byteAt (fullB s)) ((fullB s).size / 64) (i / 4)) % 4294967296 / 2 ^ (24 - i % 4 * 8) % 256 = shaF s i) := fun i => rfl
 have hA := AA_words (byteAt (fullB s)) ((fullB s).size / 64)
 unfold hashT at hwc ⊢
 generalize shaF s = F at *
 generalize AA (byteAt (fullB s)) ((fullB s).size / 64) = A at *
 generalize AA (byteAt (fullB s)) (s.size / 64) = A0 at *
 generalize tailF (byteAt (fullB s)) s.size = R0 at *
 generalize tailF (byteAt (fullB s)) (fullB s).size = R at *
 generalize (fullB s).size = N at *
 clear hp hps hfs
 obtain ⟨⟨ts, fS⟩, tc, fC⟩ := hT
 have l0S := lt_of_objAt fS
 have l0C := lt_of_objAt fC
 have hG := Grew.refl w
 have fh : True := trivial
 have fr : True := trivial
 go_enter Tryz.func75, Tryz.ntmps75
 go_wp2_with fail
 replace fh : objAt ((w.alloc (.cells (hashC (A0) (R0) (s.size)) 129)).alloc (.cells (ints .u8 32 (nought)) 27)) (w.heap.size) = some (.cells (hashC (A0) (R0) (s.size)) 129) := by exact keep_auto
 replace fr : objAt ((w.alloc (.cells (hashC (A0) (R0) (s.size)) 129)).alloc (.cells (ints .u8 32 (nought)) 27)) (w.heap.size + 1) = some (.cells (ints .u8 32 (nought)) 27) := by exact keep_auto
 replace fS : objAt ((w.alloc (.cells (hashC (A0) (R0) (s.size)) 129)).alloc (.cells (ints .u8 32 (nought)) 27)) (1) = some (.cells (ints .u32 8 sqF) ts) := by exact keep_auto
 replace fC : objAt ((w.alloc (.cells (hashC (A0) (R0) (s.size)) 129)).alloc (.cells (ints .u8 32 (nought)) 27)) (4) = some (.cells (ints .u32 64 cubeF) tc) := by exact keep_auto
 replace hG : Below w.heap.size w ((w.alloc (.cells (hashC (A0) (R0) (s.size)) 129)).alloc (.cells (ints .u8 32 (nought)) 27)) := by exact grew_auto
 generalize (w.alloc (.cells (hashC (A0) (R0) (s.size)) 129)).alloc (.cells (ints .u8 32 (nought)) 27) = w1 at *
 have lfh := lt_of_objAt fh
 have lfr := lt_of_objAt fr
 have lfS := lt_of_objAt fS
 have lfC := lt_of_objAt fC
 have hwc2 := fun m => hwc (more w1 m) ⟨⟨ts, keep_more m fS⟩, tc, keep_more m fC⟩
 clear hwc
 go_wp2_with fail
 ((first | (with_reducible refine wp_region_tail_on 5 (by kernel_rfl) (by kernel_rfl) (by kernel_rfl) (by kernel_rfl) (by kernel_rfl) ?_) | refine wp_region_tail_more 5 (by kernel_rfl) (by kernel_rfl) (by kernel_rfl) (by kernel_rfl) (by kernel_rfl) ?_); simp only [List.take_succ_cons, List.take_zero]; (repeat (first | go_big_quiet_skip | (go_big_quiet_want; go_big_quiet_op; first | go_big_quiet_on | (apply Exists.intro; refine ⟨fun _ => ?_, ?_⟩; (focus (first | (with_reducible exact Calls.of_more (hbe _)) | (with_reducible exact Calls.of_more (hwc2 _)))); go_big_quiet_on)))); refine wpQuiet_nil ?_; rintro _ ⟨mq, rfl⟩)
 (refine tail_one (i := 5) (fuel := 0) (by kernel_rfl) rfl ?_; intro K hK; go_simp; refine hK _ _ ?_; clear hK K)
 (refine wpAny_done (by kernel_rfl) ?_ _)
 have eh : objAt (more (w1.setRow w.heap.size (hashC A R N)) mq) (w.heap.size) = some (.cells (hashC (A) (R) (N)) 129) := by exact keep_auto
 have er : objAt (more (w1.setRow w.heap.size (hashC A R N)) mq) (w.heap.size + 1) = some (.cells (ints .u8 32 (nought)) 27) := by exact keep_auto
 have eS : objAt (more (w1.setRow w.heap.size (hashC A R N)) mq) (1) = some (.cells (ints .u32 8 sqF) ts) := by exact keep_auto
 have eC : objAt (more (w1.setRow w.heap.size (hashC A R N)) mq) (4) = some (.cells (ints .u32 64 cubeF) tc) := by exact keep_auto
 clear fh lfh fr lfr fS lfS fC lfC
 replace hG : Below w.heap.size w (more (w1.setRow w.heap.size (hashC A R N)) mq) := by exact grew_auto
 generalize more (w1.setRow w.heap.size (hashC A R N)) mq = w2 at *
 have fh := eh
 have fr := er
 have fS := eS
 have fC := eC
 clear eh er eS eC
 have lfh := lt_of_objAt fh
 have lfr := lt_of_objAt fr
 have lfS := lt_of_objAt fS
 have lfC := lt_of_objAt fC
 have nkh : ¬ (w2.heap.size = w.heap.size) := by omega
 have nkr : ¬ (w2.heap.size = w.heap.size + 1) := by omega
 have nkS : ¬ (w2.heap.size = 1) := by omega
 have nkC : ¬ (w2.heap.size = 4) := by omega
 have lk : w.heap.size ≤ w2.heap.size := hG.size
 go_wp2_with fail
 have fk : objAt (w2.alloc (.cells (ints .u8 32 (nought)) 27)) w2.heap.size = some (.cells (ints .u8 32 (nought)) 27) := objAt_alloc_at _ _ _ rfl
 replace fh : objAt (w2.alloc (.cells (ints .u8 32 (nought)) 27)) (w.heap.size) = some (.cells (hashC (A) (R) (N)) 129) := keep_alloc _ fh
 replace fr : objAt (w2.alloc (.cells (ints .u8 32 (nought)) 27)) (w.heap.size + 1) = some (.cells (ints .u8 32 (nought)) 27) := keep_alloc _ fr
 replace fS : objAt (w2.alloc (.cells (ints .u8 32 (nought)) 27)) (1) = some (.cells (ints .u32 8 sqF) ts) := keep_alloc _ fS
 replace fC : objAt (w2.alloc (.cells (ints .u8 32 (nought)) 27)) (4) = some (.cells (ints .u32 64 cubeF) tc) := keep_alloc _ fC
 replace hG : Below w.heap.size w (w2.alloc (.cells (ints .u8 32 (nought)) 27)) := Grew.alloc hG _
 clear lfh lfr lfS lfC
 generalize w2.alloc (.cells (ints .u8 32 (nought)) 27) = w3 at *
 generalize w2.heap.size = gk at *
 have lfh := lt_of_objAt fh
 have lfr := lt_of_objAt fr
 have lfS := lt_of_objAt fS
 have lfC := lt_of_objAt fC
 have lfk := lt_of_objAt fk
 go_wp2_with fail
 go_loopw [11] (fun i wr => ∃ k : Nat, k ≤ 32 ∧ i = .int .i64 k ∧ Below w.heap.size w wr ∧ objAt wr (w.heap.size) = some (.cells (hashC (A) (R) (N)) 129) ∧ objAt wr (w.heap.size + 1) = some (.cells (ints .u8 32 (nought)) 27) ∧ objAt wr (1) = some (.cells (ints .u32 8 sqF) ts) ∧ objAt wr (4) = some (.cells (ints .u32 64 cubeF) tc) ∧ objAt wr (gk) = some (.cells (ints .u8 32 (part' F k)) 27)) (fun i _ => 32 - (intOf i).toNat)
 case atStart => exact ⟨0, by omega, rfl, hG, fh, fr, fS, fC, by rw [part_zero]; exact fk⟩
 case round =>
  clear fh lfh fr lfr fS lfS fC lfC fk lfk hG
  obtain ⟨k, hk, rfl, hG, fh, fr, fS, fC, fk⟩ := hrel
  have lfh := lt_of_objAt fh
  have lfr := lt_of_objAt fr
  have lfS := lt_of_objAt fS
  have lfC := lt_of_objAt fC
  have lfk := lt_of_objAt fk
  by_cases hlt : k < 32
  ·have S : Hid (upd (part' F k) k (F k) = part' F (k + 1)) := part_succ F k
   have hv := hF.out k
   obtain ⟨q, hq⟩ : ∃ q, k / 4 = q := ⟨_, rfl⟩
   obtain ⟨j, hj⟩ : ∃ j, k % 4 = j := ⟨_, rfl⟩
   have hq8 : q < 8 := by omega
   have hj4 : j < 4 := by omega
   have hqi : (k : Int) / 4 = (q : Int) := by omega
   have hji : (k : Int) % 4 = (j : Int) := by omega
   rw [hq, hj] at hv
   have ba := hA q
   have bs := sq_w32 q
   unfold W32 at ba bs
   have HV : Hid ((sqF q + A q) % 4294967296 / 2 ^ (24 - j * 8) % 256 = F k) := hv
   generalize F k = V at *
   clear hv hq hj
   go_wp2_with fail
   ((first | (with_reducible refine wp_region_on (by kernel_rfl) (by kernel_rfl) ?_) | refine wp_region_more (by kernel_rfl) (by kernel_rfl) ?_); (repeat (first | go_big_quiet_skip | (go_big_quiet_want; go_big_quiet_op; first | go_big_quiet_on | (apply Exists.intro; refine ⟨fun _ => ?_, ?_⟩; (focus (fail)); go_big_quiet_on)))); refine wpQuiet_nil ?_; rintro _ ⟨mq, rfl⟩)
   go_wp2
   rw [HV.out, S.out]
   go_roundw
   case rel => exact ⟨k + 1, by omega, by go_num, by exact grew_auto, by exact keep_auto, by exact keep_auto, by exact keep_auto, by exact keep_auto, by exact keep_auto⟩
   case measure => simp [intOf]; omega
  ·obtain rfl : k = 32 := by omega
   clear hlt
   rw [ints_part] at fk
   go_wp2
   refine ret_row rfl _ 27 _ (0, 0) _ rfl (keep_row _ fr) Tryz.underlying27 rfl (by rw [ints_size]; kernel_rfl) rfl ⟨rfl, by exact grew_auto⟩
end Go.Proofs.YtdoolhbmekahdaaGreatDoor
namespace Go.Proofs.YtdoolhbmekahdaaGreatDoor
open Go.RowKit
set_option linter.unusedVariables false
set_option linter.unusedSimpArgs false
def StrsAt (w : World) (oa : Option Addr) (n : Nat) (F : Nat → ByteArray) : Prop :=
 n = 0 ∨ ∃ ad : Addr, oa = some ad ∧ ∀ w', Below w.heap.size w w' → ∀ j, j < n → w'.cell? (ad.add j) = some (.string (F j))
theorem StrsAt.later {w w' : World} {oa : Option Addr} {n : Nat} {F : Nat → ByteArray} (h : StrsAt w oa n F) (hb : Below w.heap.size w w') : StrsAt w' oa n F := by
 rcases h with h | ⟨ad, ho, hl⟩
 ·exact .inl h
 ·exact .inr ⟨ad, ho, fun w'' hb' => hl w'' (Grew.trans hb hb')⟩
def catS (F : Nat → ByteArray) : Nat → ByteArray
 | 0 => ByteArray.empty
 | k + 1 => catS F k ++ F k
theorem cat_le (F : Nat → ByteArray) (k : Nat) : ∀ n, k ≤ n → (catS F k).size ≤ (catS F n).size
 | 0, h => by obtain rfl : k = 0 := by omega
              exact Nat.le_refl _
 | n + 1, h => by
  rcases (by omega : k = n + 1 ∨ k ≤ n) with rfl | h'
  ·exact Nat.le_refl _
  ·have := cat_le F k n h'
   show _ ≤ (catS F n ++ F n).size
   rw [ByteArray.size_append]; omega
theorem cat_at (F : Nat → ByteArray) (k i : Nat) (hi : i < (F k).size) : ∀ n, k < n → byteAt (catS F n) ((catS F k).size + i) = byteAt (F k) i
 | 0, h => absurd h (Nat.not_lt_zero _)
 | n + 1, h => by
  show byteAt (catS F n ++ F n) _ = _
  rcases (by omega : k = n ∨ k < n) with rfl | h'
  ·exact byteAt_right _ _ _ hi
  ·have h2 : (catS F (k + 1)).size ≤ (catS F n).size := cat_le F (k + 1) n h'
   have h3 : (catS F (k + 1)).size = (catS F k).size + (F k).size := ByteArray.size_append
   rw [byteAt_left _ _ _ (by omega)]
   exact cat_at F k i hi n h'
theorem sha_new (w : World) : Calls Tryz.prog 72 #[] w fun e w' => e = .returned (.agg (hashT (byteAt ByteArray.empty) 0)) ∧ Below w.heap.size w w' := by
 go_enter Tryz.func72, Tryz.ntmps72
 go_wp2
 refine ret_row rfl _ 129 _ (0, 0) _ rfl (objAt_alloc_at _ _ _ rfl) Tryz.underlying129 rfl (by rw [hashC_size]; kernel_rfl) rfl ⟨?_, by exact grew_auto⟩
 rfl
theorem write_any (s : ByteArray) (oa : Option Addr) (n c : Nat) (F : Nat → ByteArray) (w : World) (hl : s.size + (catS F n).size < 1152921504606846976) (hn : n ≤ 9223372036854775807) (hS : StrsAt w oa n F) (hT : Tabs w) :
  Calls Tryz.prog 73 #[.agg (hashT (byteAt s) s.size), .slice oa n c] w fun e w' => e = .returned (.agg (hashT (byteAt (s ++ catS F n)) (s ++ catS F n).size)) ∧ Below w.heap.size w w' := by
 have e0 : hashT (byteAt s) s.size = hashT (byteAt (s ++ catS F n)) s.size := hashT_congr _ fun i hi => (byteAt_left s _ i hi).symm
 rw [e0]
 clear e0
 have hw : Hid (∀ k, k < n → ∀ W : World, Tabs W → Calls Tryz.prog 116 #[.agg (hashT (byteAt (s ++ catS F n)) (s.size + (catS F k).size)), .string (F k)] W fun e w' => e = .returned (.agg (hashT (byteAt (s ++ catS F n)) (s.size + (catS F (k + 1)).size))) ∧ Below W.heap.size W w') := fun k hk W hW => by
  have h1 := cat_le F (k + 1) n hk
  have h3 : (catS F (k + 1)).size = (catS F k).size + (F k).size := ByteArray.size_append
  have := with_any (byteAt (s ++ catS F n)) (s.size + (catS F k).size) (F k) W (by omega) (fun i _ => byteAt_bd _ i) (fun i hi => by
   rw [Nat.add_assoc, byteAt_right _ _ _ (by omega), cat_at F k i hi n hk]) hW
  rw [Nat.add_assoc, ← h3] at this
  exact this
 have hl0 : (s ++ catS F n).size = s.size + (catS F n).size := ByteArray.size_append
 rw [hl0]
 clear hl hl0
 generalize byteAt (s ++ catS F n) = T at *
 have hST : Hid (StrsAt w oa n F) := hS
 have hTT : Hid (Tabs w) := hT
 clear hS hT
 have hG := Grew.refl w
 have fh : True := trivial
 have fr : True := trivial
 go_enter Tryz.func73, Tryz.ntmps73
 go_wp2_with fail
 replace fh : objAt ((w.alloc (.cells (hashT T (s.size)) 129)).alloc (.cells (hashC (nought) (nought) (0)) 129)) (w.heap.size) = some (.cells (hashT T (s.size)) 129) := by exact keep_auto
 replace fr : objAt ((w.alloc (.cells (hashT T (s.size)) 129)).alloc (.cells (hashC (nought) (nought) (0)) 129)) (w.heap.size + 1) = some (.cells (hashC (nought) (nought) (0)) 129) := by exact keep_auto
 replace hG : Below w.heap.size w ((w.alloc (.cells (hashT T (s.size)) 129)).alloc (.cells (hashC (nought) (nought) (0)) 129)) := by exact grew_auto
 generalize (w.alloc (.cells (hashT T (s.size)) 129)).alloc (.cells (hashC (nought) (nought) (0)) 129) = w1 at *
 have lfh := lt_of_objAt fh
 have lfr := lt_of_objAt fr
 go_wp2_with fail
 go_loopw [9] (fun i wr => ∃ k : Nat, k ≤ n ∧ i = .int .i64 k ∧ Below w.heap.size w wr ∧ objAt wr (w.heap.size) = some (.cells (hashT T (s.size + (catS F k).size)) 129) ∧ objAt wr (w.heap.size + 1) = some (.cells (hashC (nought) (nought) (0)) 129)) (fun i _ => n - (intOf i).toNat)
 case atStart => exact ⟨0, by omega, rfl, hG, fh, fr⟩
 case round =>
  clear fh lfh fr lfr hG
  obtain ⟨k, hk, rfl, hG, fh, fr⟩ := hrel
  have lfh := lt_of_objAt fh
  have lfr := lt_of_objAt fr
  by_cases hlt : k < n
  ·obtain ⟨ad, rfl, hcells⟩ : ∃ ad : Addr, oa = some ad ∧ ∀ w', Below w.heap.size w w' → ∀ j, j < n → w'.cell? (ad.add j) = some (.string (F j)) := by
    rcases hST.out with h | h
    ·omega
    ·exact h
   have hcell := hcells wr hG k hlt
   have hw2 := hw.out k hlt wr (hTT.out.later hG)
   clear hcells
   go_wp2_with fail
   (refine (hw2).mono ?_; rintro e w2 ⟨rfl, hb⟩; replace fh : objAt w2 (w.heap.size) = some (.cells (hashT T (s.size + (catS F k).size)) 129) := keep_below hb (by exact keep_auto); have lfh := lt_of_objAt fh; replace fr : objAt w2 (w.heap.size + 1) = some (.cells (hashC (nought) (nought) (0)) 129) := keep_below hb (by exact keep_auto); have lfr := lt_of_objAt fr; replace hG : Below w.heap.size w w2 := Grew.trans (by exact grew_auto) hb; clear hb)
   go_wp2
   go_roundw
   case rel => exact ⟨k + 1, by omega, by go_num, by exact grew_auto, by exact keep_auto, by exact keep_auto⟩
   case measure => simp [intOf]; omega
  ·obtain rfl : k = n := by omega
   clear hlt
   go_wp2
   refine ret_row rfl _ 129 _ (0, 0) _ rfl (keep_row _ fr) Tryz.underlying129 rfl (by rw [hashT_size]; kernel_rfl) rfl ⟨rfl, by exact grew_auto⟩
theorem sumS_any (oa : Option Addr) (n c : Nat) (F : Nat → ByteArray) (w : World) (hl : (catS F n).size < 1152921504606846976) (hn : n ≤ 9223372036854775807) (hS : StrsAt w oa n F) (hT : Tabs w) :
  Calls Tryz.prog 76 #[.slice oa n c] w fun e w' => e = .returned (.agg (ints .u8 32 (shaF (catS F n)))) ∧ Below w.heap.size w w' := by
 have hw : Hid (∀ W : World, Below w.heap.size w W → Calls Tryz.prog 73 #[.agg (hashT (byteAt ByteArray.empty) 0), .slice oa n c] W fun e w' => e = .returned (.agg (hashT (byteAt (catS F n)) (catS F n).size)) ∧ Below W.heap.size W w') := fun W hW => by
  have := write_any ByteArray.empty oa n c F W (by show 0 + _ < _; omega) hn (hS.later hW) (hT.later hW)
  rw [ByteArray.empty_append] at this
  exact this
 have hs : Hid (∀ W : World, Below w.heap.size w W → Calls Tryz.prog 75 #[.agg (hashT (byteAt (catS F n)) (catS F n).size)] W fun e w' => e = .returned (.agg (ints .u8 32 (shaF (catS F n)))) ∧ Below W.heap.size W w') := fun W hW => sumH_any (catS F n) W hl (hT.later hW)
 clear hS hT hl
 have hG := Grew.refl w
 have fr : True := trivial
 go_enter Tryz.func76, Tryz.ntmps76
 go_wp2_with fail
 replace fr : objAt (w.alloc (.cells (ints .u8 32 (nought)) 27)) (w.heap.size) = some (.cells (ints .u8 32 (nought)) 27) := by exact keep_auto
 replace hG : Below w.heap.size w (w.alloc (.cells (ints .u8 32 (nought)) 27)) := by exact grew_auto
 generalize w.alloc (.cells (ints .u8 32 (nought)) 27) = w1 at *
 have lfr := lt_of_objAt fr
 go_wp2_with fail
 (refine (sha_new _).mono ?_; rintro e w2 ⟨rfl, hb⟩; replace fr : objAt w2 (w.heap.size) = some (.cells (ints .u8 32 (nought)) 27) := keep_below hb (by exact keep_auto); have lfr := lt_of_objAt fr; replace hG : Below w.heap.size w w2 := Grew.trans (by exact grew_auto) hb; clear hb)
 go_wp2_with fail
 (refine (hw.out _ hG).mono ?_; rintro e w3 ⟨rfl, hb⟩; replace fr : objAt w3 (w.heap.size) = some (.cells (ints .u8 32 (nought)) 27) := keep_below hb (by exact keep_auto); have lfr := lt_of_objAt fr; replace hG : Below w.heap.size w w3 := Grew.trans (by exact grew_auto) hb; clear hb)
 go_wp2_with fail
 (refine (hs.out _ hG).mono ?_; rintro e w4 ⟨rfl, hb⟩; replace fr : objAt w4 (w.heap.size) = some (.cells (ints .u8 32 (nought)) 27) := keep_below hb (by exact keep_auto); have lfr := lt_of_objAt fr; replace hG : Below w.heap.size w w4 := Grew.trans (by exact grew_auto) hb; clear hb)
 go_wp2
 refine ret_row rfl _ 27 _ (0, 0) _ rfl (keep_row _ fr) Tryz.underlying27 rfl (by rw [ints_size]; kernel_rfl) rfl ⟨rfl, by exact grew_auto⟩
end Go.Proofs.YtdoolhbmekahdaaGreatDoor
