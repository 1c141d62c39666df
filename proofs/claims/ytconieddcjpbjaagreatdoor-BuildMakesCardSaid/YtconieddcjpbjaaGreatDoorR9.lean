/- R9 -/
import Derived.Test.YtconieddcjpbjaaGreatDoorMa
import Derived.Test.YtconieddcjpbjaaGreatDoorRs
import Derived.Test.YtconieddcjpbjaaGreatDoorShelf
set_option maxRecDepth 100000
set_option maxHeartbeats 4000000
namespace Go.Proofs.YtconieddcjpbjaaGreatDoor
open Go.RowKit
set_option linter.unusedVariables false
set_option linter.unusedSimpArgs false
def zqm8 (a b c : ByteArray) : Nat → ByteArray := fun j => if j = 0 then a else if j = 1 then b else c
theorem zqqk (a b c : ByteArray) : catS (zqm8 a b c) 3 = a ++ b ++ c := by
 show ByteArray.empty ++ a ++ b ++ c = _
 rw [ByteArray.empty_append]
theorem zqth (a b c : ByteArray) (W : World) : (Instr.buildSlice 156 3 #[(0, .string a), (1, .string b), (2, .string c)]).run Tryz.prog W = .ok (.slice (some ⟨W.heap.size, 0, none⟩) 3 3) (W.alloc (.cells #[.string a, .string b, .string c] 9)) := by kernel_rfl
def zqi7 (u v x : Value) : Sem Next := do pure (.value (← Instr.buildSlice 156 3 #[(0, u), (1, v), (2, x)]))
@[go_sem ↓ high] theorem zqw6 (ρ : Operand → Value) (d : Option Tmp) (x y z : Operand) (t : TypeId) (pos : String) (af : Array Edge) (g : Option (Nat × Bool)) :
  execOp ρ ⟨d, .buildSlice 156 3 #[(0, x), (1, y), (2, z)], t, pos, af, g⟩ = zqi7 (ρ x) (ρ y) (ρ z) := by
 unfold execOp zqi7
 simp
@[go_sem high] theorem op_buildS3' (ρ : Operand → Value) (d : Option Tmp) (x y z : Operand) (t : TypeId) (pos : String) (af : Array Edge) (g : Option (Nat × Bool)) :
  execOp ρ ⟨d, .buildSlice 156 3 #[(0, x), (1, y), (2, z)], t, pos, af, g⟩ = zqi7 (ρ x) (ρ y) (ρ z) := zqw6 ρ d x y z t pos af g
@[go_sem] theorem run_buildS3 (a b c : ByteArray) (W : World) : (zqi7 (.string a) (.string b) (.string c)).run Tryz.prog W = .ok (.value (.slice (some ⟨W.heap.size, 0, none⟩) 3 3)) (W.alloc (.cells #[.string a, .string b, .string c] 9)) := by
 unfold zqi7
 simp only [Sem.run_bind, zqth, Result.andThen_ok, Sem.run_pure]
attribute [irreducible] zqi7
theorem zqxo {W : World} {g : Nat} {a b c : ByteArray} {t : TypeId} {fr : Nat × Nat} (h : objAt W g = some (.cells #[.string a, .string b, .string c] t fr)) : StrsAt W (some ⟨g, 0, none⟩) 3 (zqm8 a b c) := by
 refine .inr ⟨_, rfl, fun w' hb j hj => ?_⟩
 have h' := zqb hb h
 unfold objAt at h'
 have e : (⟨g, 0, none⟩ : Addr).add j = ⟨g, j, none⟩ := by unfold Addr.add; split <;> simp_all
 rw [e, cell_of_row w' g _ _ _ _ h']
 rcases (by omega : j = 0 ∨ j = 1 ∨ j = 2) with rfl | rfl | rfl <;> rfl
theorem mac_three (key a b c : ByteArray) (g : Nat) (W : World) (hk : key.size < 1152921504606846976) (hs : a.size + b.size + c.size < 1152921504606840000) (h : StrsAt W (some ⟨g, 0, none⟩) 3 (zqm8 a b c)) (hT : Tabs W) :
  Calls Tryz.prog 140 #[.string key, .slice (some ⟨g, 0, none⟩) 3 3] W fun e w' => e = .returned (.agg (ints .u8 32 (macF key (a ++ b ++ c)))) ∧ Below W.heap.size W w' := by
 have := zqou key (some ⟨g, 0, none⟩) 3 3 (zqm8 a b c) W hk (by rw [zqqk, ByteArray.size_append, ByteArray.size_append]; exact hs) (by decide) h hT
 rw [zqqk] at this
 exact this
end Go.Proofs.YtconieddcjpbjaaGreatDoor
namespace Go.Proofs.YtconieddcjpbjaaGreatDoor
open Go.RowKit
set_option linter.unusedVariables false
set_option linter.unusedSimpArgs false
attribute [local irreducible] strOf shaF zqat padB fullB hashT macF
theorem zqgc {s t : ByteArray} (h : s.size = t.size) (h2 : ∀ i, i < s.size → byteAt s i = byteAt t i) : s = t := by
 apply ByteArray.ext
 apply Array.ext h
 intro i i1 i2
 have e := h2 i i1
 rw [← zqdn s i i1, ← zqdn t i i2] at e
 have e2 : (s[i]).toNat = (t[i]).toNat := by exact_mod_cast e
 exact UInt8.toNat_inj.1 e2
def byteB (i : Nat) : ByteArray := strOf 1 fun _ => ((i % 256 : Nat) : Int)
theorem zqjf (i : Nat) : (byteB i).size = 1 := zqak _ _
def tB (K info : ByteArray) : Nat → ByteArray
 | 0 => ByteArray.empty
 | i + 1 => strOf 32 (macF K (tB K info i ++ info ++ byteB (i + 1)))
theorem zqjn (K info : ByteArray) (i : Nat) : (tB K info (i + 1)).size = 32 := zqak _ _
theorem tB_le (K info : ByteArray) (i : Nat) : (tB K info i).size ≤ 32 := by
 cases i with
 | zero => exact Nat.zero_le _
 | succ i => rw [zqjn]; omega
def strmF (K info : ByteArray) : Nat → Int := fun i => byteAt (tB K info (i / 32 + 1)) (i % 32)
theorem zqj1 (K info : ByteArray) (i : Nat) : 0 ≤ strmF K info i ∧ strmF K info i ≤ 255 := zqga _ _
theorem zqqv (K info : ByteArray) (m : Nat) : strOf (32 * m) (strmF K info) ++ tB K info (m + 1) = strOf (32 * (m + 1)) (strmF K info) := by
 have hs : (strOf (32 * m) (strmF K info)).size = 32 * m := zqak _ _
 refine zqgc (by rw [ByteArray.size_append, zqak, zqak, zqjn]; omega) fun i hi => ?_
 rw [ByteArray.size_append, zqak, zqjn] at hi
 rw [zqda _ _ _ (by omega) (zqj1 _ _ _)]
 by_cases h : i < 32 * m
 ·rw [zqc8 _ _ _ (by rw [zqak]; exact h), zqda _ _ _ h (zqj1 _ _ _)]
 ·obtain ⟨k, rfl⟩ : ∃ k, i = 32 * m + k := ⟨i - 32 * m, by omega⟩
  have := zqc6 (strOf (32 * m) (strmF K info)) (tB K info (m + 1)) k (by rw [zqjn]; omega)
  rw [hs] at this
  rw [this]
  unfold strmF
  rw [show (32 * m + k) / 32 = m by omega, show (32 * m + k) % 32 = k by omega]
theorem zqj2 (f : Nat → Int) : strOf 0 f = ByteArray.empty := zqgc (by rw [zqak]; rfl) fun i hi => by rw [zqak] at hi; omega
theorem zqwf (s : ByteArray) (a b i : Nat) (h : a + i < b) (hb : b ≤ s.size) : byteAt (s.extract a b) i = byteAt s (a + i) := by
 have h1 : i < (s.extract a b).size := by rw [ByteArray.size_extract]; omega
 rw [← zqdn _ _ h1, ← zqdn _ _ (show a + i < s.size by omega), ByteArray.getElem_extract]
theorem zqo5 (N a n : Nat) (f : Nat → Int) (hf : ∀ i, 0 ≤ f i ∧ f i ≤ 255) (h : a + n ≤ N) : (strOf N f).extract a (a + n) = strOf n (fun i => f (a + i)) := by
 have hs : (strOf N f).size = N := zqak _ _
 refine zqgc (by rw [ByteArray.size_extract, zqak, zqak]; omega) fun i hi => ?_
 rw [ByteArray.size_extract, zqak] at hi
 rw [zqwf _ _ _ _ (by omega) (by omega), zqda _ _ _ (by omega) (hf _), zqda n (fun i => f (a + i)) _ (by omega) (hf _)]
theorem zqsg (N n : Nat) (f : Nat → Int) (hf : ∀ i, 0 ≤ f i ∧ f i ≤ 255) (h : n ≤ N) : (strOf N f).extract 0 n = strOf n f := by
 have := zqo5 N 0 n f hf (by omega)
 simpa using this
def oneF (K info : ByteArray) : Nat → Int := macF K (info ++ byteB 1)
theorem tB_one (K info : ByteArray) : tB K info 1 = strOf 32 (oneF K info) := by
 show strOf 32 (macF K (ByteArray.empty ++ info ++ byteB 1)) = _
 rw [ByteArray.empty_append]; rfl
theorem zqlr (K info : ByteArray) : Bytes 32 (oneF K info) := zqre _ _
theorem strm_one (K info : ByteArray) : strOf 32 (strmF K info) = strOf 32 (oneF K info) := by
 have := zqqv K info 0
 rw [zqj2, ByteArray.empty_append, tB_one] at this
 exact this.symm
def zqce (name secret info : ByteArray) : Nat → Int := oneF (strOf 32 (macF name secret)) info
theorem zqsm (name secret info : ByteArray) : Bytes 32 (zqce name secret info) := zqlr _ _
end Go.Proofs.YtconieddcjpbjaaGreatDoor
namespace Go.Proofs.YtconieddcjpbjaaGreatDoor
open Go.RowKit
set_option linter.unusedVariables false
set_option linter.unusedSimpArgs false
attribute [local irreducible] strOf shaF zqat padB fullB hashT
attribute [local irreducible] macF
theorem zqqs (c : Int) : ints .u8 1 (fun _ => c) = #[.int .u8 c] := by unfold ints; rfl
theorem conv_is {W : World} {g i : Nat} {x : Int} {t : TypeId} (h : Full g #[.int .u8 x] t W) (e : x = ((i % 256 : Nat) : Int)) (m : More) : (convert 135 9 (.slice (some ⟨g, 0, none⟩) 1 1)).run Tryz.prog (more W m) = .ok (.string (byteB i)) (more W m) := by
 subst e
 exact zqez (P := Tryz.prog) Tryz.underlying135 Tryz.underlying5 Tryz.underlying9 g 1 1 1 (fun _ => ((i % 256 : Nat) : Int)) (more W m) (te := t) (fr := (0, 0)) (zqk m (by rw [zqqs]; exact h)) (by decide)
theorem zqq8 (salt secret : ByteArray) (w : World) (hk : salt.size ≤ 100000000) (hs : secret.size ≤ 100000000) :
  Calls Tryz.prog 123 #[.string salt, .string secret] w fun e w' => e = .returned (.agg (ints .u8 32 (macF salt secret))) ∧ Below w.heap.size w w' := by
 have h := fun W : World => zqnz salt secret W hk hs
 generalize macF salt secret = M at *
 have hG := Grew.refl w
 have fr : True := trivial
 go_enter Tryz.func123, Tryz.ntmps123
 go_wp2_with fail
 replace fr : objAt (w.alloc (.cells (ints .u8 32 (zqd)) 23)) (w.heap.size) = some (.cells (ints .u8 32 (zqd)) 23) := by exact zqc
 replace hG : Below w.heap.size w (w.alloc (.cells (ints .u8 32 (zqd)) 23)) := by exact zqe
 generalize w.alloc (.cells (ints .u8 32 (zqd)) 23) = w1 at *
 have lfr := zqa fr
 go_wp2_with fail
 (refine (h _).mono ?_; rintro e w2 ⟨rfl, hb⟩; replace fr : objAt w2 (w.heap.size) = some (.cells (ints .u8 32 (zqd)) 23) := zqb hb (by exact zqc); have lfr := zqa fr; replace hG : Below w.heap.size w w2 := Grew.trans (by exact zqe) hb; clear hb)
 go_wp2
 refine zqai rfl _ 23 _ (0, 0) _ rfl (zqt _ fr) Tryz.underlying23 rfl (by rw [zqf]; kernel_rfl) rfl ⟨rfl, by exact zqe⟩
theorem t_zero (k : Nat → Int) (info : ByteArray) (w : World) :
  Calls Tryz.prog 145 #[.agg (ints .u8 32 k), .string info, .int .i64 0] w fun e w' => e = .returned (.string ByteArray.empty) ∧ Below w.heap.size w w' := by
 have hG := Grew.refl w
 have fk : True := trivial
 go_enter Tryz.func145, Tryz.ntmps145
 go_wp2_with fail
 replace fk : objAt (w.alloc (.cells (ints .u8 32 (k)) 23)) (w.heap.size) = some (.cells (ints .u8 32 (k)) 23) := by exact zqc
 replace hG : Below w.heap.size w (w.alloc (.cells (ints .u8 32 (k)) 23)) := by exact zqe
 generalize w.alloc (.cells (ints .u8 32 (k)) 23) = w1 at *
 have lfk := zqa fk
 go_wp2
 go_ret
 exact ⟨rfl, by exact zqe⟩
theorem t_one (k : Nat → Int) (info : ByteArray) (w : World) (hi : info.size ≤ 100000) :
  Calls Tryz.prog 145 #[.agg (ints .u8 32 k), .string info, .int .i64 1] w fun e w' => e = .returned (.string (tB (strOf 32 k) info 1)) ∧ Below w.heap.size w w' := by
 have c1 := fun W : World => zqix k W
 have c2 := fun W : World => t_zero k info W
 have f1 : FitsS ByteArray.empty info := by show 0 + _ ≤ _; omega
 have e1 : ByteArray.empty ++ info = info := ByteArray.empty_append
 have f2 : FitsS info (byteB 1) := by show _ + _ ≤ _; rw [zqjf]; omega
 have c3 := fun W : World => zqnz (strOf 32 k) (info ++ byteB 1) W (by rw [zqak]; omega) (by rw [ByteArray.size_append, zqjf]; omega)
 have c4 := fun W : World => zqix (oneF (strOf 32 k) info) W
 rw [← tB_one] at c4
 have e2 : macF (strOf 32 k) (info ++ byteB 1) = oneF (strOf 32 k) info := rfl
 rw [e2] at c3
 clear e2
 generalize oneF (strOf 32 k) info = M at *
 generalize tB (strOf 32 k) info 1 = R at *
 generalize strOf 32 k = K at *
 clear hi
 have hG := Grew.refl w
 have fk : True := trivial
 go_enter Tryz.func145, Tryz.ntmps145
 go_wp2_with fail
 replace fk : objAt (w.alloc (.cells (ints .u8 32 (k)) 23)) (w.heap.size) = some (.cells (ints .u8 32 (k)) 23) := by exact zqc
 replace hG : Below w.heap.size w (w.alloc (.cells (ints .u8 32 (k)) 23)) := by exact zqe
 generalize w.alloc (.cells (ints .u8 32 (k)) 23) = w1 at *
 have lfk := zqa fk
 go_wp2_with fail
 (refine zqdq (by kernel_rfl) (by kernel_rfl) ?_; (repeat (first | refine zqn rfl ?_ | (refine zql rfl ?_; apply Exists.intro))); refine zqbp ?_; intro γ hinj hbase; (repeat (first | (refine zqab rfl ?_; ((first | go_big_quiet_skip | (go_big_quiet_want; go_big_quiet_op; go_big_quiet_on)); refine wpQuiet_nil ?_)) | ((first | refine zqv rfl (fun _ => rfl) ?_ | ((try simp only [Nat.zero_add, Nat.reduceAdd]); apply zqaw zqi; (focus rfl); (focus (first | exact zqq _ | exact zqr _ _ | exact zqo _ | rfl)); (focus (exact zqm))) | ((try simp only [Nat.zero_add, Nat.reduceAdd]); apply zqac _ _ zqi; (focus rfl); (focus (intro W; (first | exact zqam _ | exact zqag _ | exact zqan _ | exact zqaf _ | exact zq3 _ | exact zq2 _))); (focus (first | exact zq1 _ _ _ | exact zqad _ _ | rfl)); (focus (exact zqm))) | ((try simp only [Nat.zero_add, Nat.reduceAdd]); apply zqah zqi; (focus rfl); (focus (intro W; simp only [List.map_toArray, List.map_cons, List.map_nil]; first | (with_reducible exact zqk8 _ W) | exact zqk8 _ W)); (focus (exact zqm))) | (apply zqao; (focus rfl); (focus rfl); (focus rfl); (focus (intro W hC hF; (try (have hcv := fun m => conv_is (i := 1) (known hF (List.mem_cons_self ..) (by decide +kernel)) (by decide) m)); go_big_quiet_want; go_big_quiet_op; (first | go_big_quiet_on | (apply Exists.intro; refine ⟨fun _ => ?_, ?_⟩; (focus (first | (with_reducible exact Calls.of_more (c1 _)) | (with_reducible exact Calls.of_more (c2 _)) | (with_reducible exact Calls.of_more (c3 _)) | (with_reducible exact Calls.of_more (c4 _)))); go_big_quiet_on)); exact wpQuiet_nil rfl)); (focus (first | exact fun _ => ⟨rfl, rfl⟩ | exact fun h => absurd h (by decide))))); ((first | go_big_quiet_skip | (go_big_quiet_want; go_big_quiet_op; go_big_quiet_on)); refine wpQuiet_nil ?_)) | refine zqu rfl (fun _ => rfl) ?_ | ((try simp only [Nat.zero_add, Nat.reduceAdd]); apply zqae (zq4 (hbase _)); (focus rfl); (focus rfl); (focus rfl); (focus (first | exact zqq _ | exact zqr _ _ | exact zqo _ | rfl)); rotate_left 3; (focus (exact zqbi)); rotate_right 3; (focus kernel_rfl); (focus (first | exact zqf _ _ _ | rfl)); (focus (first | exact zq6 _ _ _ | exact zqaj _ _ _ _ | kernel_rfl)); (focus (decide +kernel)); (focus (exact zqm))))))
 (refine zqbs ?_; rintro _ ⟨mq, rfl⟩ hF; simp only [List.forall_mem_cons] at hF; obtain - := hF)
 go_wp2
 go_ret
 exact ⟨rfl, by exact zqe⟩
theorem rone_any (k : Nat → Int) (info : ByteArray) (w : World) (hi : info.size ≤ 100000) :
  Calls Tryz.prog 122 #[.agg (ints .u8 32 k), .string info] w fun e w' => e = .returned (.agg (ints .u8 32 (oneF (strOf 32 k) info))) ∧ Below w.heap.size w w' := by
 have c1 := fun W : World => t_one k info W hi
 have hb := zqlr (strOf 32 k) info
 have hx : Hid (∀ j, j < 32 → byteAt (tB (strOf 32 k) info 1) j = oneF (strOf 32 k) info j) := fun j hj => by rw [tB_one]; exact zqda _ _ _ hj (hb j hj)
 have hz : (tB (strOf 32 k) info 1).size = 32 := zqjn _ _ _
 generalize oneF (strOf 32 k) info = F at *
 generalize tB (strOf 32 k) info 1 = T1 at *
 clear hi
 have hG := Grew.refl w
 have fk : True := trivial
 have fr : True := trivial
 go_enter Tryz.func122, Tryz.ntmps122
 go_wp2_with fail
 replace fk : objAt ((w.alloc (.cells (ints .u8 32 (k)) 23)).alloc (.cells (ints .u8 32 (zqd)) 23)) (w.heap.size) = some (.cells (ints .u8 32 (k)) 23) := by exact zqc
 replace fr : objAt ((w.alloc (.cells (ints .u8 32 (k)) 23)).alloc (.cells (ints .u8 32 (zqd)) 23)) (w.heap.size + 1) = some (.cells (ints .u8 32 (zqd)) 23) := by exact zqc
 replace hG : Below w.heap.size w ((w.alloc (.cells (ints .u8 32 (k)) 23)).alloc (.cells (ints .u8 32 (zqd)) 23)) := by exact zqe
 generalize (w.alloc (.cells (ints .u8 32 (k)) 23)).alloc (.cells (ints .u8 32 (zqd)) 23) = w1 at *
 have lfk := zqa fk
 have lfr := zqa fr
 go_wp2_with fail
 (refine (c1 _).mono ?_; rintro e w2 ⟨rfl, hb⟩; replace fk : objAt w2 (w.heap.size) = some (.cells (ints .u8 32 (k)) 23) := zqb hb (by exact zqc); have lfk := zqa fk; replace fr : objAt w2 (w.heap.size + 1) = some (.cells (ints .u8 32 (zqd)) 23) := zqb hb (by exact zqc); have lfr := zqa fr; replace hG : Below w.heap.size w w2 := Grew.trans (by exact zqe) hb; clear hb)
 have nkk : ¬ (w2.heap.size = w.heap.size) := by omega
 have nkr : ¬ (w2.heap.size = w.heap.size + 1) := by omega
 have lw : w.heap.size ≤ w2.heap.size := hG.size
 go_wp2_with fail
 have fo : objAt (w2.alloc (.cells (ints .u8 32 (zqd)) 23)) w2.heap.size = some (.cells (ints .u8 32 (zqd)) 23) := zqh _ _ _ rfl
 replace fk : objAt (w2.alloc (.cells (ints .u8 32 (zqd)) 23)) (w.heap.size) = some (.cells (ints .u8 32 (k)) 23) := zqp _ fk
 replace fr : objAt (w2.alloc (.cells (ints .u8 32 (zqd)) 23)) (w.heap.size + 1) = some (.cells (ints .u8 32 (zqd)) 23) := zqp _ fr
 replace hG : Below w.heap.size w (w2.alloc (.cells (ints .u8 32 (zqd)) 23)) := Grew.alloc hG _
 clear lfk lfr
 generalize w2.alloc (.cells (ints .u8 32 (zqd)) 23) = w3 at *
 generalize w2.heap.size = go at *
 have lfk := zqa fk
 have lfr := zqa fr
 have lfo := zqa fo
 go_wp2_with fail
 go_loopw [7] (fun i wr => ∃ j : Nat, j ≤ 32 ∧ i = .int .i64 j ∧ Below w.heap.size w wr ∧ objAt wr (w.heap.size) = some (.cells (ints .u8 32 (k)) 23) ∧ objAt wr (w.heap.size + 1) = some (.cells (ints .u8 32 (zqd)) 23) ∧ objAt wr (go) = some (.cells (ints .u8 32 (part' F j)) 23)) (fun i _ => 32 - (intOf i).toNat)
 case atStart => exact ⟨0, by omega, rfl, hG, fk, fr, by rw [zqcq]; exact fo⟩
 case round =>
  clear fk lfk fr lfr fo lfo hG
  obtain ⟨j, hj, rfl, hG, fk, fr, fo⟩ := hrel
  have lfk := zqa fk
  have lfr := zqa fr
  have lfo := zqa fo
  by_cases hlt : j < 32
  ·have hix := fun w => zqns T1 j w (by omega)
   have e := hx.out j hlt
   rw [e] at hix
   have SS : Hid (upd (part' F j) j (F j) = part' F (j + 1)) := zqb1 F j
   generalize F j = V at *
   go_wp2
   rw [SS.out]
   go_roundw
   case rel => exact ⟨j + 1, by omega, by go_num, by exact zqe, by exact zqc, by exact zqc, by exact zqc⟩
   case measure => simp [intOf]; omega
  ·obtain rfl : j = 32 := by omega
   clear hlt
   rw [zqc0] at fo
   go_wp2
   refine zqai rfl _ 23 _ (0, 0) _ rfl (zqt _ fr) Tryz.underlying23 rfl (by rw [zqf]; kernel_rfl) rfl ⟨rfl, by exact zqe⟩
end Go.Proofs.YtconieddcjpbjaaGreatDoor
namespace Go.Proofs.YtconieddcjpbjaaGreatDoor
open Go.RowKit
set_option linter.unusedVariables false
set_option linter.unusedSimpArgs false
attribute [local irreducible] strOf shaF zqat padB fullB hashT
attribute [local irreducible] macF
def zqo1 : Prop := ∀ (k : Nat → Int) (info : ByteArray) (n : Int) (W : World), Bytes 32 k → info.size ≤ 100000 → Tabs W → Calls Tryz.prog 139 #[.agg (ints .u8 32 k), .string info, .int .i64 n] W fun e w' => e = .returned (.tuple #[.string (if 0 ≤ n ∧ n ≤ 8160 then strOf n.toNat (strmF (strOf 32 k) info) else ByteArray.empty), .bool (decide (0 ≤ n ∧ n ≤ 8160))]) ∧ Below W.heap.size W w'
theorem zqlb (hE : zqo1) (k : Nat → Int) (info : ByteArray) (N : Nat) (W : World) (hk : Bytes 32 k) (hi : info.size ≤ 100000) (hN : N ≤ 8160) (hT : Tabs W) : Calls Tryz.prog 139 #[.agg (ints .u8 32 k), .string info, .int .i64 (N : Int)] W fun e w' => e = .returned (.tuple #[.string (strOf N (strmF (strOf 32 k) info)), .bool true]) ∧ Below W.heap.size W w' := by
 have h := hE k info N W hk hi hT
 have h0 : 0 ≤ (N : Int) ∧ (N : Int) ≤ 8160 := ⟨by omega, by omega⟩
 rw [if_pos h0, decide_eq_true h0, show ((N : Int)).toNat = N by omega] at h
 exact h
theorem zqx6 (w : World) (hT : Tabs w) :
  Calls Tryz.prog 180 #[] w fun e w' => e = .returned (.bool true) ∧ Below w.heap.size w w' := by
 have hG := Grew.refl w
 go_enter Tryz.func180, Tryz.ntmps180
 go_wp2_with fail
 (refine (zqwl _ hT).mono ?_; rintro e w1 ⟨rfl, hb⟩; replace hG : Below w.heap.size w w1 := Grew.trans (by exact zqe) hb; clear hb)
 go_wp2
 go_ret
 exact ⟨rfl, by exact zqe⟩
theorem zqvd (hE : zqo1) (w : World) (hT : Tabs w) :
  Calls Tryz.prog 173 #[] w fun e w' => e = .returned (.bool true) ∧ Below w.heap.size w w' := by
 have hTT : Hid (Tabs w) := hT
 clear hT
 have c0 : ∀ W : World, Below w.heap.size w W → Calls Tryz.prog 139 #[.agg (ints .u8 32 zqd), .string ByteArray.empty, .int .i64 0] W fun e w' => e = .returned (.tuple #[.string ByteArray.empty, .bool true]) ∧ Below W.heap.size W w' := fun W hW => by
  have := zqlb hE zqd ByteArray.empty 0 W (fun _ _ => ⟨Int.le_refl 0, by show (0 : Int) ≤ 255; decide⟩) (by decide) (by decide) (hTT.out.later hW)
  rw [zqj2] at this
  exact this
 have c1 : ∀ W : World, Below w.heap.size w W → Calls Tryz.prog 139 #[.agg (ints .u8 32 zqd), .string ByteArray.empty, .int .i64 1] W fun e w' => e = .returned (.tuple #[.string (strOf 1 (strmF (strOf 32 zqd) ByteArray.empty)), .bool true]) ∧ Below W.heap.size W w' := fun W hW => zqlb hE zqd ByteArray.empty 1 W (fun _ _ => ⟨Int.le_refl 0, by show (0 : Int) ≤ 255; decide⟩) (by decide) (by decide) (hTT.out.later hW)
 have hz : (strOf 1 (strmF (strOf 32 zqd) ByteArray.empty)).size = 1 := zqak _ _
 generalize strOf 1 (strmF (strOf 32 zqd) ByteArray.empty) = S1 at *
 clear hE
 have hG := Grew.refl w
 go_enter Tryz.func173, Tryz.ntmps173
 go_wp2_with fail
 (refine (c0 _ hG).mono ?_; rintro e w1 ⟨rfl, hb⟩; replace hG : Below w.heap.size w w1 := Grew.trans (by exact zqe) hb; clear hb)
 go_wp2_with fail
 (refine (c1 _ hG).mono ?_; rintro e w2 ⟨rfl, hb⟩; replace hG : Below w.heap.size w w2 := Grew.trans (by exact zqe) hb; clear hb)
 go_wp2_with fail
 (refine (zqx6 _ (hTT.out.later hG)).mono ?_; rintro e w3 ⟨rfl, hb⟩; replace hG : Below w.heap.size w w3 := Grew.trans (by exact zqe) hb; clear hb)
 go_wp2
 go_ret
 exact ⟨rfl, by exact zqe⟩
theorem zqvc (hE : zqo1) (w : World) (hT : Tabs w) :
  Calls Tryz.prog 159 #[] w fun e w' => e = .returned (.bool true) ∧ Below w.heap.size w w' := by
 have hG := Grew.refl w
 go_enter Tryz.func159, Tryz.ntmps159
 go_wp2_with fail
 (refine (zqvd hE _ hT).mono ?_; rintro e w1 ⟨rfl, hb⟩; replace hG : Below w.heap.size w w1 := Grew.trans (by exact zqe) hb; clear hb)
 go_wp2
 go_ret
 exact ⟨rfl, by exact zqe⟩
end Go.Proofs.YtconieddcjpbjaaGreatDoor
namespace Go.Proofs.YtconieddcjpbjaaGreatDoor
open Go.RowKit
set_option linter.unusedVariables false
set_option linter.unusedSimpArgs false
attribute [local irreducible] strOf shaF zqat padB fullB hashT
attribute [local irreducible] macF
end Go.Proofs.YtconieddcjpbjaaGreatDoor
