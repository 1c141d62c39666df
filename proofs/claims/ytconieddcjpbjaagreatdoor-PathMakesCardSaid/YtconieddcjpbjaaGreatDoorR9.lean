/- R9 -/
import Derived.Test.YtconieddcjpbjaaGreatDoorMa
import Derived.Test.YtconieddcjpbjaaGreatDoorRs
import Derived.Test.YtconieddcjpbjaaGreatDoorShelf
set_option linter.unusedVariables false
set_option linter.unusedSimpArgs false
set_option maxRecDepth 100000
set_option maxHeartbeats 4000000
namespace Go.Proofs.YtconieddcjpbjaaGreatDoor
open Go.RowKit
def zqpw (a b c : ByteArray) : Nat -> ByteArray := fun j => if j = 0 then a else if j = 1 then b else c
theorem zqrx (a b c : ByteArray) : catS (zqpw a b c) 3 = a ++ b ++ c := by
 show ByteArray.empty ++ a ++ b ++ c = _
 rw [ByteArray.empty_append]
theorem zqvf (a b c : ByteArray) (W : World) : (Instr.buildSlice 156 3 #[(0, .string a), (1, .string b), (2, .string c)]).run Tryz.prog W = .ok (.slice (some ⟨W.heap.size, 0, none⟩) 3 3) (W.alloc (.cells #[.string a, .string b, .string c] 9)) := by kernel_rfl
def zqkv (u v x : Value) : Sem Next := do pure (.value (<- Instr.buildSlice 156 3 #[(0, u), (1, v), (2, x)]))
@[go_sem ↓ high] theorem zq1e (ρ : Operand -> Value) (d : Option Tmp) (x y z : Operand) (t : TypeId) (pos : String) (af : Array Edge) (g : Option (Nat × Bool)) :
  execOp ρ ⟨d, .buildSlice 156 3 #[(0, x), (1, y), (2, z)], t, pos, af, g⟩ = zqkv (ρ x) (ρ y) (ρ z) := by
 unfold execOp zqkv
 simp
@[go_sem high] theorem zrck (ρ : Operand -> Value) (d : Option Tmp) (x y z : Operand) (t : TypeId) (pos : String) (af : Array Edge) (g : Option (Nat × Bool)) :
  execOp ρ ⟨d, .buildSlice 156 3 #[(0, x), (1, y), (2, z)], t, pos, af, g⟩ = zqkv (ρ x) (ρ y) (ρ z) := zq1e ρ d x y z t pos af g
@[go_sem] theorem zrd8 (a b c : ByteArray) (W : World) : (zqkv (.string a) (.string b) (.string c)).run Tryz.prog W = .ok (.value (.slice (some ⟨W.heap.size, 0, none⟩) 3 3)) (W.alloc (.cells #[.string a, .string b, .string c] 9)) := by
 unfold zqkv
 simp only [Sem.run_bind, zqvf, Result.andThen_ok, Sem.run_pure]
attribute [irreducible] zqkv
theorem zqz9 {W : World} {g : Nat} {a b c : ByteArray} {t : TypeId} {fr : Nat × Nat} (h : zqd W g = some (.cells #[.string a, .string b, .string c] t fr)) : StrsAt W (some ⟨g, 0, none⟩) 3 (zqpw a b c) := by
 refine .inr ⟨_, rfl, fun w' hb j hj => ?_⟩;have h' := zqb hb h;unfold zqd at h';have e : (⟨g, 0, none⟩ : Addr).add j = ⟨g, j, none⟩ := by unfold Addr.add; split <;> simp_all
 rw [e, cell_of_row w' g _ _ _ _ h']
 rcases (by omega : j = 0 \/ j = 1 \/ j = 2) with rfl | rfl | rfl <;> rfl
theorem zq2k (key a b c : ByteArray) (g : Nat) (W : World) (hk : key.size < 1152921504606846976) (hs : a.size + b.size + c.size < 1152921504606840000) (h : StrsAt W (some ⟨g, 0, none⟩) 3 (zqpw a b c)) (hT : Tabs W) :
  Calls Tryz.prog 140 #[.string key, .slice (some ⟨g, 0, none⟩) 3 3] W (Rt W (.agg (ints .u8 32 (macF key (a ++ b ++ c))))) := by
 have := zqq7 key (some ⟨g, 0, none⟩) 3 3 (zqpw a b c) W hk (by rw [zqrx, ByteArray.size_append, ByteArray.size_append]; exact hs) (by decide) h hT;rw [zqrx] at this;exact this
end Go.Proofs.YtconieddcjpbjaaGreatDoor
namespace Go.Proofs.YtconieddcjpbjaaGreatDoor
open Go.RowKit
attribute [local irreducible] strOf shaF zqay padB zqb8 zqcf macF
theorem zqhn {s t : ByteArray} (h : s.size = t.size) (h2 : ∀ i, i < s.size -> byteAt s i = byteAt t i) : s = t := by
 apply ByteArray.ext
 apply Array.ext h
 intro i i1 i2;have e := h2 i i1;rw [<- zqeg s i i1, <- zqeg t i i2] at e;have e2 : (s[i]).toNat = (t[i]).toNat := by exact_mod_cast e
 exact UInt8.toNat_inj.1 e2
def zqj7 (i : Nat) : ByteArray := strOf 1 fun _ => ((i % 256 : Nat) : Int)
theorem zqk8 (i : Nat) : (zqj7 i).size = 1 := zqal _ _
def tB (K info : ByteArray) : Nat -> ByteArray
 | 0 => ByteArray.empty
 | i + 1 => strOf 32 (macF K (tB K info i ++ info ++ zqj7 (i + 1)))
theorem zqlg (K info : ByteArray) (i : Nat) : (tB K info (i + 1)).size = 32 := zqal _ _
theorem zrkl (K info : ByteArray) (i : Nat) : (tB K info i).size <= 32 := by
 cases i with
 | zero => exact Nat.zero_le _
 | succ i => rw [zqlg]; omega
def zqf9 (K info : ByteArray) : Nat -> Int := fun i => byteAt (tB K info (i / 32 + 1)) (i % 32)
theorem zqlp (K info : ByteArray) (i : Nat) : 0 <= zqf9 K info i /\ zqf9 K info i <= 255 := zqhh _ _
theorem zqth (K info : ByteArray) (m : Nat) : strOf (32 * m) (zqf9 K info) ++ tB K info (m + 1) = strOf (32 * (m + 1)) (zqf9 K info) := by
 have hs : (strOf (32 * m) (zqf9 K info)).size = 32 * m := zqal _ _;refine zqhn (by rw [ByteArray.size_append, zqal, zqal, zqlg]; omega) fun i hi => ?_
 rw [ByteArray.size_append, zqal, zqlg] at hi;rw [zqdt _ _ _ (by omega) (zqlp _ _ _)]
 by_cases h : i < 32 * m
 ·rw [zqdn _ _ _ (by rw [zqal]; exact h), zqdt _ _ _ h (zqlp _ _ _)]
 ·obtain ⟨k, rfl⟩ : ∃ k, i = 32 * m + k := ⟨i - 32 * m, by omega⟩
  have := zqdo (strOf (32 * m) (zqf9 K info)) (tB K info (m + 1)) k (by rw [zqlg]; omega);rw [hs] at this;rw [this];unfold zqf9;rw [show (32 * m + k) / 32 = m by omega, show (32 * m + k) % 32 = k by omega]
theorem zqk6 (f : Nat -> Int) : strOf 0 f = ByteArray.empty := zqhn (by rw [zqal]; rfl) fun i hi => by rw [zqal] at hi; omega
theorem zqzd (s : ByteArray) (a b i : Nat) (h : a + i < b) (hb : b <= s.size) : byteAt (s.extract a b) i = byteAt s (a + i) := by
 have h1 : i < (s.extract a b).size := by rw [ByteArray.size_extract]; omega
 rw [<- zqeg _ _ h1, <- zqeg _ _ (show a + i < s.size by omega), ByteArray.getElem_extract]
theorem zqqu (N a n : Nat) (f : Nat -> Int) (hf : ∀ i, 0 <= f i /\ f i <= 255) (h : a + n <= N) : (strOf N f).extract a (a + n) = strOf n (fun i => f (a + i)) := by
 have hs : (strOf N f).size = N := zqal _ _;refine zqhn (by rw [ByteArray.size_extract, zqal, zqal]; omega) fun i hi => ?_
 rw [ByteArray.size_extract, zqal] at hi;rw [zqzd _ _ _ _ (by omega) (by omega), zqdt _ _ _ (by omega) (hf _), zqdt n (fun i => f (a + i)) _ (by omega) (hf _)]
theorem zqu9 (N n : Nat) (f : Nat -> Int) (hf : ∀ i, 0 <= f i /\ f i <= 255) (h : n <= N) : (strOf N f).extract 0 n = strOf n f := by
 have := zqqu N 0 n f hf (by omega)
 simpa using this
def oneF (K info : ByteArray) : Nat -> Int := macF K (info ++ zqj7 1)
theorem zq19 (K info : ByteArray) : tB K info 1 = strOf 32 (oneF K info) := by
 show strOf 32 (macF K (ByteArray.empty ++ info ++ zqj7 1)) = _
 rw [ByteArray.empty_append]; rfl
theorem zqm2 (K info : ByteArray) : Bytes 32 (oneF K info) := zqtm _ _
theorem zq61 (K info : ByteArray) : strOf 32 (zqf9 K info) = strOf 32 (oneF K info) := by
 have := zqth K info 0;rw [zqk6, ByteArray.empty_append, zq19] at this;exact this.symm
def zqb1 (name secret info : ByteArray) : Nat -> Int := oneF (strOf 32 (macF name secret)) info
theorem zqug (name secret info : ByteArray) : Bytes 32 (zqb1 name secret info) := zqm2 _ _
end Go.Proofs.YtconieddcjpbjaaGreatDoor
namespace Go.Proofs.YtconieddcjpbjaaGreatDoor
open Go.RowKit
attribute [local irreducible] strOf shaF zqay padB zqb8 zqcf
attribute [local irreducible] macF
theorem zqts (c : Int) : ints .u8 1 (fun _ => c) = #[.int .u8 c] := by unfold ints; rfl
theorem zq2w {W : World} {g i : Nat} {x : Int} {t : TypeId} (h : Full g #[.int .u8 x] t W) (e : x = ((i % 256 : Nat) : Int)) (m : More) : (convert 135 9 (.slice (some ⟨g, 0, none⟩) 1 1)).run Tryz.prog (more W m) = .ok (.string (zqj7 i)) (more W m) := by
 subst e;exact zqft (P := Tryz.prog) Tryz.underlying135 Tryz.underlying5 Tryz.underlying9 g 1 1 1 (fun _ => ((i % 256 : Nat) : Int)) (more W m) (te := t) (fr := (0, 0)) (zql m (by rw [zqts]; exact h)) (by decide)
theorem zqtt (salt secret : ByteArray) (w : World) (hk : salt.size <= 100000000) (hs : secret.size <= 100000000) :
  Calls Tryz.prog 123 #[.string salt, .string secret] w (Rt w (.agg (ints .u8 32 (macF salt secret)))) := by
 have h := fun W : World => zqp1 salt secret W hk hs;generalize macF salt secret = M at *;have hG := Grew.refl w;have fr : True := trivial
 go_enter Tryz.func123, Tryz.ntmps123
 go_wp2_with fail;generalize hW : w.alloc (.cells (ints .u8 32 (zqg)) 23) = w1;replace fr : zqd w1 (w.heap.size) = some (.cells (ints .u8 32 (zqg)) 23) := zqk hW;replace hG : Below w.heap.size w w1 := zq2 hW;clear hW;have lfr := zqa fr;go_wp2_with fail
 (refine (h _).mono ?_; rintro e w2 ⟨rfl, hb⟩; replace fr := zqb hb fr; have lfr := zqa fr; replace hG : Below w.heap.size w w2 := Grew.trans (by exact zqf) hb; clear hb)
 go_wp2;refine zqaf rfl _ 23 _ (0, 0) _ rfl (zqs _ fr) Tryz.underlying23 rfl (by rw [zqh]; kernel_rfl) rfl ⟨rfl, by exact zqf⟩
theorem zris (k : Nat -> Int) (info : ByteArray) (w : World) :
  Calls Tryz.prog 145 #[.agg (ints .u8 32 k), .string info, .int .i64 0] w (Rt w (.string ByteArray.empty)) := by
 have hG := Grew.refl w;have fk : True := trivial
 go_enter Tryz.func145, Tryz.ntmps145
 go_wp2_with fail;generalize hW : w.alloc (.cells (ints .u8 32 (k)) 23) = w1;replace fk : zqd w1 (w.heap.size) = some (.cells (ints .u8 32 (k)) 23) := zqk hW;replace hG : Below w.heap.size w w1 := zq2 hW;clear hW;have lfk := zqa fk;go_wp2;go_ret;exact ⟨rfl, by exact zqf⟩
theorem zrkh (k : Nat -> Int) (info : ByteArray) (w : World) (hi : info.size <= 100000) :
  Calls Tryz.prog 145 #[.agg (ints .u8 32 k), .string info, .int .i64 1] w (Rt w (.string (tB (strOf 32 k) info 1))) := by
 have c1 := fun W : World => zqki k W;have c2 := fun W : World => zris k info W;have f1 : zqjb ByteArray.empty info := by show 0 + _ <= _; omega
 have e1 : ByteArray.empty ++ info = info := ByteArray.empty_append;have f2 : zqjb info (zqj7 1) := by show _ + _ <= _; rw [zqk8]; omega
 have c3 := fun W : World => zqp1 (strOf 32 k) (info ++ zqj7 1) W (by rw [zqal]; omega) (by rw [ByteArray.size_append, zqk8]; omega);have c4 := fun W : World => zqki (oneF (strOf 32 k) info) W;rw [<- zq19] at c4;have e2 : macF (strOf 32 k) (info ++ zqj7 1) = oneF (strOf 32 k) info := rfl;rw [e2] at c3;clear e2;generalize oneF (strOf 32 k) info = M at *;generalize tB (strOf 32 k) info 1 = R at *;generalize strOf 32 k = K at *;clear hi;have hG := Grew.refl w;have fk : True := trivial
 go_enter Tryz.func145, Tryz.ntmps145
 go_wp2_with fail;generalize hW : w.alloc (.cells (ints .u8 32 (k)) 23) = w1;replace fk : zqd w1 (w.heap.size) = some (.cells (ints .u8 32 (k)) 23) := zqk hW;replace hG : Below w.heap.size w w1 := zq2 hW;clear hW;have lfk := zqa fk;go_wp2_with fail
 (refine zqeh zqc zqc ?_; (repeat (first | refine zq0 rfl ?_ | (refine zqr rfl ?_; apply Exists.intro))); refine zqbl ?_; intro γ hinj hbase; (repeat (first | (refine zqab rfl ?_; ((first | go_big_quiet_skip | (go_big_quiet_want; go_big_quiet_op; go_big_quiet_on)); refine wpQuiet_nil ?_)) | ((first | refine zqq rfl (fun _ => rfl) ?_ | ((try simp only [Nat.zero_add, Nat.reduceAdd]); apply zqce zqo; (focus rfl); (focus (first | exact zqy _ | exact zq3 _ _ | exact zqv _ | rfl)); (focus (exact zqu))) | ((try simp only [Nat.zero_add, Nat.reduceAdd]); apply zqav _ _ zqo; (focus rfl); (focus (intro W; (first | exact zqa8 _ | exact zqas _ | exact zqa6 _ | exact zqaw _ | exact zqah _ | exact zqag _))); (focus (first | exact zqai _ _ _ | exact zqaq _ _ | rfl)); (focus (exact zqu))) | ((try simp only [Nat.zero_add, Nat.reduceAdd]); apply zqbc zqo; (focus rfl); (focus (intro W; simp only [List.map_toArray, List.map_cons, List.map_nil]; first | (with_reducible exact zqob _ W) | exact zqob _ W)); (focus (exact zqu))) | (apply zqaz; (focus rfl); (focus rfl); (focus rfl); (focus (intro W hC hF; (try (have hcv := fun m => zq2w (i := 1) (known hF (List.mem_cons_self ..) (by decide +kernel)) (by decide) m)); go_big_quiet_want; go_big_quiet_op; (first | go_big_quiet_on | (apply Exists.intro; refine ⟨fun _ => ?_, ?_⟩; (focus (first | (with_reducible exact Calls.of_more (c1 _)) | (with_reducible exact Calls.of_more (c2 _)) | (with_reducible exact Calls.of_more (c3 _)) | (with_reducible exact Calls.of_more (c4 _)))); go_big_quiet_on)); exact wpQuiet_nil rfl)); (focus (first | exact fun _ => ⟨rfl, rfl⟩ | exact fun h => absurd h (by decide))))); ((first | go_big_quiet_skip | (go_big_quiet_want; go_big_quiet_op; go_big_quiet_on)); refine wpQuiet_nil ?_)) | refine zqp rfl (fun _ => rfl) ?_ | ((try simp only [Nat.zero_add, Nat.reduceAdd]); apply zqar (zqaj (hbase _)); (focus rfl); (focus rfl); (focus rfl); (focus (first | exact zqy _ | exact zq3 _ _ | exact zqv _ | rfl)); rotate_left 3; (focus (exact zqcq)); rotate_right 3; (focus kernel_rfl); (focus (first | exact zqh _ _ _ | rfl)); (focus (first | exact zqan _ _ _ | exact zqa3 _ _ _ _ | kernel_rfl)); (focus (decide +kernel)); (focus (exact zqu))))))
 (refine zqbz ?_; rintro _ ⟨mq, rfl⟩ hF; simp only [List.forall_mem_cons] at hF; obtain - := hF)
 go_wp2;go_ret;exact ⟨rfl, by exact zqf⟩
theorem zq5x (k : Nat -> Int) (info : ByteArray) (w : World) (hi : info.size <= 100000) :
  Calls Tryz.prog 122 #[.agg (ints .u8 32 k), .string info] w (Rt w (.agg (ints .u8 32 (oneF (strOf 32 k) info)))) := by
 have c1 := fun W : World => zrkh k info W hi;have hb := zqm2 (strOf 32 k) info;have hx : Hid (∀ j, j < 32 -> byteAt (tB (strOf 32 k) info 1) j = oneF (strOf 32 k) info j) := fun j hj => by rw [zq19]; exact zqdt _ _ _ hj (hb j hj)
 have hz : (tB (strOf 32 k) info 1).size = 32 := zqlg _ _ _;generalize oneF (strOf 32 k) info = F at *;generalize tB (strOf 32 k) info 1 = T1 at *;clear hi;have hG := Grew.refl w;have fk : True := trivial;have fr : True := trivial
 go_enter Tryz.func122, Tryz.ntmps122
 go_wp2_with fail;generalize hW : (w.alloc (.cells (ints .u8 32 (k)) 23)).alloc (.cells (ints .u8 32 (zqg)) 23) = w1;replace fk : zqd w1 (w.heap.size) = some (.cells (ints .u8 32 (k)) 23) := zqk hW;replace fr : zqd w1 (w.heap.size + 1) = some (.cells (ints .u8 32 (zqg)) 23) := zqk hW;replace hG : Below w.heap.size w w1 := zq2 hW;clear hW;have lfk := zqa fk;have lfr := zqa fr;go_wp2_with fail
 (refine (c1 _).mono ?_; rintro e w2 ⟨rfl, hb⟩; replace fk : zqd w2 (w.heap.size) = some (.cells (ints .u8 32 (k)) 23) := zqb hb (by exact zqe); have lfk := zqa fk; replace fr : zqd w2 (w.heap.size + 1) = some (.cells (ints .u8 32 (zqg)) 23) := zqb hb (by exact zqe); have lfr := zqa fr; replace hG : Below w.heap.size w w2 := Grew.trans (by exact zqf) hb; clear hb)
 have nkk : ¬ (w2.heap.size = w.heap.size) := by omega
 have nkr : ¬ (w2.heap.size = w.heap.size + 1) := by omega
 have lw : w.heap.size <= w2.heap.size := hG.size;go_wp2_with fail;have fo : zqd (w2.alloc (.cells (ints .u8 32 (zqg)) 23)) w2.heap.size = some (.cells (ints .u8 32 (zqg)) 23) := zqj _ _ _ rfl;replace fk : zqd (w2.alloc (.cells (ints .u8 32 (zqg)) 23)) (w.heap.size) = some (.cells (ints .u8 32 (k)) 23) := zqm _ fk;replace fr : zqd (w2.alloc (.cells (ints .u8 32 (zqg)) 23)) (w.heap.size + 1) = some (.cells (ints .u8 32 (zqg)) 23) := zqm _ fr;replace hG : Below w.heap.size w (w2.alloc (.cells (ints .u8 32 (zqg)) 23)) := Grew.alloc hG _;clear lfk lfr;generalize w2.alloc (.cells (ints .u8 32 (zqg)) 23) = w3 at *;generalize w2.heap.size = go at *;have lfk := zqa fk;have lfr := zqa fr;have lfo := zqa fo;go_wp2_with fail
 go_loopw [7] (fun i wr => ∃ j : Nat, j <= 32 /\ i = .int .i64 j /\ Below w.heap.size w wr /\ zqd wr (w.heap.size) = some (.cells (ints .u8 32 (k)) 23) /\ zqd wr (w.heap.size + 1) = some (.cells (ints .u8 32 (zqg)) 23) /\ zqd wr (go) = some (.cells (ints .u8 32 (zqcj F j)) 23)) (fun i _ => 32 - (intOf i).toNat)
 case atStart => exact ⟨0, by omega, rfl, hG, fk, fr, by rw [zqc9]; exact fo⟩
 case round =>
  clear fk lfk fr lfr fo lfo hG;obtain ⟨j, hj, rfl, hG, fk, fr, fo⟩ := hrel;have lfk := zqa fk;have lfr := zqa fr;have lfo := zqa fo
  by_cases hlt : j < 32
  ·have hix := fun w => zqo5 T1 j w (by omega)
   have e := hx.out j hlt;rw [e] at hix;have SS : Hid (upd (zqcj F j) j (F j) = zqcj F (j + 1)) := zqcl F j;generalize F j = V at *;go_wp2;rw [SS.out]
   go_roundw
   case rel => exact ⟨j + 1, by omega, by go_num, by exact zqf, by exact zqe, by exact zqe, by exact zqe⟩
   case measure => simp [intOf]; omega
  ·obtain rfl : j = 32 := by omega
   clear hlt;rw [zqdi] at fo;go_wp2;refine zqaf rfl _ 23 _ (0, 0) _ rfl (zqs _ fr) Tryz.underlying23 rfl (by rw [zqh]; kernel_rfl) rfl ⟨rfl, by exact zqf⟩
end Go.Proofs.YtconieddcjpbjaaGreatDoor
namespace Go.Proofs.YtconieddcjpbjaaGreatDoor
open Go.RowKit
attribute [local irreducible] strOf shaF zqay padB zqb8 zqcf
attribute [local irreducible] macF
def zqrd : Prop := ∀ (k : Nat -> Int) (info : ByteArray) (n : Int) (W : World), Bytes 32 k -> info.size <= 100000 -> Tabs W -> Calls Tryz.prog 139 #[.agg (ints .u8 32 k), .string info, .int .i64 n] W (Rt W (.tuple #[.string (if 0 <= n /\ n <= 8160 then strOf n.toNat (zqf9 (strOf 32 k) info) else ByteArray.empty), .bool (decide (0 <= n /\ n <= 8160))]))
theorem zqoe (hE : zqrd) (k : Nat -> Int) (info : ByteArray) (N : Nat) (W : World) (hk : Bytes 32 k) (hi : info.size <= 100000) (hN : N <= 8160) (hT : Tabs W) : Calls Tryz.prog 139 #[.agg (ints .u8 32 k), .string info, .int .i64 (N : Int)] W (Rt W (.tuple #[.string (strOf N (zqf9 (strOf 32 k) info)), .bool true])) := by
 have h := hE k info N W hk hi hT;have h0 : 0 <= (N : Int) /\ (N : Int) <= 8160 := ⟨by omega, by omega⟩
 rw [if_pos h0, decide_eq_true h0, show ((N : Int)).toNat = N by omega] at h;exact h
theorem zqz3 (w : World) (hT : Tabs w) :
  Calls Tryz.prog 180 #[] w (Rt w (.bool true)) := by
 have hG := Grew.refl w
 go_enter Tryz.func180, Tryz.ntmps180
 go_wp2_with fail
 (refine (zqzm _ hT).mono ?_; rintro e w1 ⟨rfl, hb⟩; replace hG : Below w.heap.size w w1 := Grew.trans (by exact zqf) hb; clear hb)
 go_wp2;go_ret;exact ⟨rfl, by exact zqf⟩
theorem zqy3 (hE : zqrd) (w : World) (hT : Tabs w) :
  Calls Tryz.prog 173 #[] w (Rt w (.bool true)) := by
 have hTT : Hid (Tabs w) := hT;clear hT;have c0 : ∀ W : World, Below w.heap.size w W -> Calls Tryz.prog 139 #[.agg (ints .u8 32 zqg), .string ByteArray.empty, .int .i64 0] W (Rt W (.tuple #[.string ByteArray.empty, .bool true])) := fun W hW => by
  have := zqoe hE zqg ByteArray.empty 0 W (fun _ _ => ⟨Int.le_refl 0, by show (0 : Int) <= 255; decide⟩) (by decide) (by decide) (hTT.out.later hW);rw [zqk6] at this;exact this
 have c1 : ∀ W : World, Below w.heap.size w W -> Calls Tryz.prog 139 #[.agg (ints .u8 32 zqg), .string ByteArray.empty, .int .i64 1] W (Rt W (.tuple #[.string (strOf 1 (zqf9 (strOf 32 zqg) ByteArray.empty)), .bool true])) := fun W hW => zqoe hE zqg ByteArray.empty 1 W (fun _ _ => ⟨Int.le_refl 0, by show (0 : Int) <= 255; decide⟩) (by decide) (by decide) (hTT.out.later hW);have hz : (strOf 1 (zqf9 (strOf 32 zqg) ByteArray.empty)).size = 1 := zqal _ _;generalize strOf 1 (zqf9 (strOf 32 zqg) ByteArray.empty) = S1 at *;clear hE;have hG := Grew.refl w
 go_enter Tryz.func173, Tryz.ntmps173
 go_wp2_with fail
 (refine (c0 _ hG).mono ?_; rintro e w1 ⟨rfl, hb⟩; replace hG : Below w.heap.size w w1 := Grew.trans (by exact zqf) hb; clear hb)
 go_wp2_with fail
 (refine (c1 _ hG).mono ?_; rintro e w2 ⟨rfl, hb⟩; replace hG : Below w.heap.size w w2 := Grew.trans (by exact zqf) hb; clear hb)
 go_wp2_with fail
 (refine (zqz3 _ (hTT.out.later hG)).mono ?_; rintro e w3 ⟨rfl, hb⟩; replace hG : Below w.heap.size w w3 := Grew.trans (by exact zqf) hb; clear hb)
 go_wp2;go_ret;exact ⟨rfl, by exact zqf⟩
theorem zqy4 (hE : zqrd) (w : World) (hT : Tabs w) :
  Calls Tryz.prog 159 #[] w (Rt w (.bool true)) := by
 have hG := Grew.refl w
 go_enter Tryz.func159, Tryz.ntmps159
 go_wp2_with fail
 (refine (zqy3 hE _ hT).mono ?_; rintro e w1 ⟨rfl, hb⟩; replace hG : Below w.heap.size w w1 := Grew.trans (by exact zqf) hb; clear hb)
 go_wp2;go_ret;exact ⟨rfl, by exact zqf⟩
end Go.Proofs.YtconieddcjpbjaaGreatDoor
namespace Go.Proofs.YtconieddcjpbjaaGreatDoor
open Go.RowKit
attribute [local irreducible] strOf shaF zqay padB zqb8 zqcf
attribute [local irreducible] macF
end Go.Proofs.YtconieddcjpbjaaGreatDoor
