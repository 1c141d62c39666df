/- Trk -/
import Derived.Test.YtfglcifnjaknnaaGreatDoorNds
import Derived.Test.YtfglcifnjaknnaaGreatDoorL12
import Derived.Test.YtfglcifnjaknnaaGreatDoorQ11
import Derived.Test.YtfglcifnjaknnaaGreatDoorL11
import Derived.Test.YtfglcifnjaknnaaGreatDoorRel
import Derived.Test.YtfglcifnjaknnaaGreatDoorMem
import Derived.RangeFuncNested
import Derived.RangeFuncLeaves
import Derived.Test.YtfglcifnjaknnaaGreatDoorR11
import Derived.TacticsInMore
import Derived.LoopIn
import Derived.OwnWalkIn
import Derived.WalkKit
import Derived.Test.YtfglcifnjaknnaaGreatDoorR12
import Derived.Test.YtfglcifnjaknnaaGreatDoorQ12
set_option linter.unusedVariables false
set_option linter.unusedSimpArgs false
set_option maxRecDepth 100000
set_option maxHeartbeats 4000000
namespace Go.Proofs.YtfglcifnjaknnaaGreatDoor
theorem zqnu (f s : Nat) : ∀ i v, (zqae f s)[i]? = some v -> 2 <= v.s -> (zqae f s)[i + 1]? = some ⟨v.f, zqw v.s⟩ /\ (zqae f s)[i + 2 * zqw v.s]? = some ⟨v.f + zqw v.s, v.s - zqw v.s⟩ := by
 have head : ∀ f s : Nat, (zqae f s)[0]? = some ⟨f, s⟩ := fun f s => by
  by_cases h : s < 2
  ·rw [zqbl h]; rfl
  ·rw [zqa9 (by omega)]; rfl
 refine zqdt (P := fun f s => ∀ i v, (zqae f s)[i]? = some v -> 2 <= v.s -> (zqae f s)[i + 1]? = some ⟨v.f, zqw v.s⟩ /\ (zqae f s)[i + 2 * zqw v.s]? = some ⟨v.f + zqw v.s, v.s - zqw v.s⟩) (fun f s h i v hv h2 => ?_) (fun f s h i1 i2 i v hv h2 => ?_) f s
 ·rw [zqbl h] at hv
  cases i with
  | zero => simp at hv; subst hv; simp at h2; omega
  | succ i => simp at hv
 ·have hb := zqb8 h
  have l1 := zqcb f (zqw s) (by omega);have l2 := zqcb (f + zqw s) (s - zqw s) (by omega);rw [zqa9 h] at hv ⊢
  cases i with
  | zero =>
   simp at hv
   subst hv;refine ⟨?_, ?_⟩
   ·rw [List.getElem?_cons_succ, List.getElem?_append_left (by omega)]; exact head _ _
   ·simp only
    rw [show 0 + 2 * zqw s = (2 * zqw s - 1) + 1 by omega, List.getElem?_cons_succ, List.getElem?_append_right (by omega), l1, Nat.sub_self]; exact head _ _
  | succ i =>
   rw [List.getElem?_cons_succ] at hv;rw [List.getElem?_cons_succ, show i + 1 + 2 * zqw v.s = (i + 2 * zqw v.s) + 1 by omega, List.getElem?_cons_succ]
   by_cases hi : i < (zqae f (zqw s)).length
   ·rw [List.getElem?_append_left hi] at hv
    obtain ⟨a, b⟩ := i1 i v hv h2;have ha := (List.getElem?_eq_some_iff.1 a).1;have hb' := (List.getElem?_eq_some_iff.1 b).1;exact ⟨by rw [List.getElem?_append_left ha]; exact a, by rw [List.getElem?_append_left hb']; exact b⟩
   ·rw [List.getElem?_append_right (by omega)] at hv
    obtain ⟨a, b⟩ := i2 _ v hv h2;refine ⟨?_, ?_⟩
    ·rw [List.getElem?_append_right (by omega), <- a]; congr 1; omega
    ·rw [List.getElem?_append_right (by omega), <- b]; congr 1; omega
def ndAt (l : List Nd) (i : Nat) : Nd := l[i]?.getD ⟨0, 1⟩
theorem zqgr {l : List Nd} {i : Nat} {v : Nd} (h : l[i]? = some v) : ndAt l i = v := by unfold ndAt; rw [h]; rfl
theorem zqvl (n j : Nat) (h0 : 1 <= n) (h : j < n) (v : Nd) : v ∈ zqdy n j ↔ v ∈ zqae 0 n /\ v.has j := by
 rw [<- zqhp n j h0 h, List.mem_filter, List.mem_reverse, decide_eq_true_eq]
theorem zq0n (j f s : Nat) : ∀ v ∈ zqbu f s j, v ∈ zqae f s := by
 refine zqdt (P := fun f s => ∀ v ∈ zqbu f s j, v ∈ zqae f s) (fun f s h v hv => ?_) (fun f s h i1 i2 v hv => ?_) f s
 ·rw [zqdd h] at hv; cases hv
 ·have head : ∀ f s : Nat, ⟨f, s⟩ ∈ zqae f s := fun f s => by
   by_cases h : s < 2
   ·rw [zqbl h]; exact List.mem_cons_self ..
   ·rw [zqa9 (by omega)]; exact List.mem_cons_self ..
  rw [zqa9 h]
  by_cases hj : j < f + zqw s
  ·rw [zqdn h hj] at hv
   rcases List.mem_cons.1 hv with rfl | hv
   ·exact List.mem_cons_of_mem _ (List.mem_append_right _ (head _ _))
   ·exact List.mem_cons_of_mem _ (List.mem_append_left _ (i1 v hv))
  ·rw [zqc1 h hj] at hv
   rcases List.mem_cons.1 hv with rfl | hv
   ·exact List.mem_cons_of_mem _ (List.mem_append_left _ (head _ _))
   ·exact List.mem_cons_of_mem _ (List.mem_append_right _ (i2 v hv))
theorem zqji (n j : Nat) (v : Nd) (h : v ∈ zqac n j) : v ∈ zqae 0 n := by
 unfold zqac at h;exact zq0n j 0 n v (List.mem_reverse.1 h)
theorem zqrr (n j k : Nat) (h0 : 1 <= n) (h : j < n) (hk : k < n) (hne : k ≠ j) : ∃ (i : Nat) (v : Nd), (zqac n j)[i]? = some v /\ v.has k /\ ∀ (i' : Nat) (v' : Nd), (zqac n j)[i']? = some v' -> v'.has k -> i' = i := by
 have hc := zqq1 n j k h0 h hk;rw [if_neg hne] at hc;unfold zqmm at hc;have hl : ((zqac n j).filter fun v => decide (v.has k)).length = 1 := by omega
 generalize zqac n j = C at hl;clear hc
 induction C with
 | nil => simp at hl
 | cons u C ih =>
  by_cases hu : u.has k
  ·rw [List.filter_cons_of_pos (by simpa using hu), List.length_cons] at hl
   have hn : (C.filter fun v => decide (v.has k)) = [] := List.length_eq_zero_iff.1 (by omega);rw [List.filter_eq_nil_iff] at hn;refine ⟨0, u, rfl, hu, fun i' v' hv' hk' => ?_⟩
   cases i' with
   | zero => rfl
   | succ i' =>
    rw [List.getElem?_cons_succ] at hv';exact absurd (by simpa using hk') (hn v' (List.mem_of_getElem? hv'))
  ·rw [List.filter_cons_of_neg (by simpa using hu)] at hl
   obtain ⟨i, v, e1, e2, e3⟩ := ih hl;refine ⟨i + 1, v, by rw [List.getElem?_cons_succ]; exact e1, e2, fun i' v' hv' hk' => ?_⟩
   cases i' with
   | zero => simp at hv'; subst hv'; exact absurd hk' hu
   | succ i' => rw [List.getElem?_cons_succ] at hv'; rw [e3 i' v' hv' hk']
section
variable {K : Type} (up : K -> K -> K) (pub : K -> K)
variable (good : K -> Prop)
end
end Go.Proofs.YtfglcifnjaknnaaGreatDoor
namespace Go.Proofs.YtfglcifnjaknnaaGreatDoor
def pubF (k : Nat -> Int) : Nat -> Int := keyV (pubV k)
theorem zqek (k : Nat -> Int) : Bytes 32 (pubF k) := zqc4 _
theorem zqqx {a b : Nat -> Int} : ∀ n, (∀ i, i < n -> a i = b i) -> knum a n = knum b n
 | 0, _ => rfl
 | n + 1, h => by rw [knum, knum, zqqx n fun i hi => h i (by omega), h n (by omega)]
theorem zqyt {a b : Nat -> Int} (h : ∀ i, i < 32 -> a i = b i) (q : Nat -> Int) : upF a q = upF b q := by
 have e : shV a q = shV b q := by
  unfold shV;rw [zqqx 32 fun i hi => show zqcu a i = zqcu b i by
   unfold zqcu;rw [h 0 (by decide), h 31 (by decide), h i hi]]
 unfold upF;rw [e]
def secK (L : Nat -> Nat -> Int) (f s : Nat) : Nat -> Int := secN upF pubF L f s
def secV (L : Nat -> Nat -> Int) (v : Nd) : Nat -> Int := secK L v.f v.s
theorem zraw (a b : Nat -> Int) (ha : Bytes 32 a) (hb : Bytes 32 b) : upOK a (pubF b) = true := (zreg a b ha hb).1
theorem zqog (L : Nat -> Nat -> Int) (j : Nat) : secV L ⟨j, 1⟩ = L j := zrbu _ _ (Nat.lt_succ_self 1)
def copF (L : Nat -> Nat -> Int) (n j : Nat) : Nat -> Nat -> Int := fun i => pubF (secV L (ndAt (zqac n j) i))
theorem zqhx {k : Nat -> Int} {P Q : Nat -> Nat -> Int} : ∀ n, (∀ i, i < n -> P i = Q i) -> zqb2 k P n = zqb2 k Q n /\ zqbi k P n = zqbi k Q n
 | 0, _ => ⟨rfl, rfl⟩
 | n + 1, h => by
  obtain ⟨a, b⟩ := zqhx n fun i hi => h i (by omega);have e := h n (by omega);refine ⟨?_, ?_⟩
  ·show upF (zqb2 k P n) (P n) = upF (zqb2 k Q n) (Q n)
   rw [a, e]
  ·show (zqbi k P n && upOK (zqb2 k P n) (P n)) = (zqbi k Q n && upOK (zqb2 k Q n) (Q n))
   rw [a, b, e]
def zqd7 (L : Nat -> Nat -> Int) (n : Nat) : Nat -> Nat -> Int := fun i => secV L (ndAt (zqae 0 n) i)
theorem zqiu {L : Nat -> Nat -> Int} {n i : Nat} {v : Nd} (h : (zqae 0 n)[i]? = some v) : zqd7 L n i = secV L v := by unfold zqd7; rw [zqgr h]
theorem zqts (L : Nat -> Nat -> Int) {n i : Nat} {v : Nd} (h : (zqae 0 n)[i]? = some v) (h2 : 2 <= v.s) : zqd7 L n i = upF (zqd7 L n (i + 1)) (pubF (zqd7 L n (i + 2 * zqw v.s))) := by
 obtain ⟨a, b⟩ := zqnu 0 n i v h h2;rw [zqiu h, zqiu a, zqiu b];exact zq53 _ _ h2
theorem zqju (L : Nat -> Nat -> Int) {n i f : Nat} (h : (zqae 0 n)[i]? = some ⟨f, 1⟩) : zqd7 L n i = L f := by rw [zqiu h, zqog]
def prF (L : Nat -> Nat -> Int) (n : Nat) : Nat -> Nat -> Int := fun i => zqa6 (zqd7 L n i) (pubF (zqd7 L n i))
def updR (F : Nat -> Nat -> Int) (j : Nat) (f : Nat -> Int) : Nat -> Nat -> Int := fun i => if i = j then f else F i
theorem zqj7 (n j : Nat) (h0 : 1 <= n) {v : Nd} (h : v ∈ zqac n j) : ∃ i, i < 2 * n - 1 /\ (zqae 0 n)[i]? = some v := by
 obtain ⟨i, hi, e⟩ := List.mem_iff_getElem.1 (zqji n j v h);rw [zqcb 0 n h0] at hi;exact ⟨i, hi, List.getElem?_eq_some_iff.2 ⟨by rw [zqcb 0 n h0]; exact hi, e⟩⟩
theorem zq05 {v : Nd} {L : List Nd} (h : ¬ v ∈ L) : idxN v.f v.s L 0 = -1 := by
 rw [<- zqoa];exact zqo5 L 0 fun u hu e => h (by
  have e1 : u.f = v.f := by omega
  have e2 : u.s = v.s := by omega
  cases u; cases v; simp only at e1 e2; subst e1; subst e2; exact hu)
def zqpr (C P : Nat -> Nat -> Int) (n j m : Nat) : Nat -> Nat -> Int := fun i => let k := idxN (ndAt (zqac n j) i).f (ndAt (zqac n j) i).s (zqdy n m) 0; if 0 <= k then P k.toNat else C i
theorem zqou (n j m : Nat) (h0 : 1 <= n) (hj : j < n) (hm : m < n) (hne : m ≠ j) : ∃ (i k : Nat) (v : Nd), (zqac n j)[i]? = some v /\ (zqdy n m)[k]? = some v /\ k < (zqac n m).length /\ v.has m /\ (∀ (i' : Nat) (v' : Nd), (zqac n j)[i']? = some v' -> v'.has m -> i' = i) /\ idxN v.f v.s (zqdy n m) 0 = (k : Int) /\
  ∀ (C P : Nat -> Nat -> Int) (i' : Nat), i' < (zqac n j).length -> zqpr C P n j m i' = updR C i (P k) i' := by
 obtain ⟨i, v, e1, e2, e3⟩ := zqrr n j m h0 hj hm hne;obtain ⟨k, hk, ek⟩ := List.mem_iff_getElem.1 ((zqvl n m h0 hm v).2 ⟨zqji n j v (List.mem_of_getElem? e1), e2⟩);have ek' : (zqdy n m)[k]? = some v := List.getElem?_eq_some_iff.2 ⟨hk, ek⟩
 have hidx : idxN v.f v.s (zqdy n m) 0 = (k : Int) := by rw [zqzs v _ 0 k (zqxj n m h0 hm) ek', Nat.zero_add]
 have hl := zqdm n m;refine ⟨i, k, v, e1, ek', ?_, e2, e3, hidx, fun C P i' hi' => ?_⟩
 ·rcases Nat.lt_or_ge k (zqac n m).length with h | h
  ·exact h
  ·have e : k = (zqac n m).length := by omega
   subst e;rw [zqp2 n m] at ek'
   cases ek'
   obtain ⟨_, _, v', _, _, f3, _, _, _, f7, _⟩ := zq0w n j h0 hj i (List.getElem?_eq_some_iff.1 e1).1;rw [e1] at f3
   cases f3
   exact absurd (show (⟨0, n⟩ : Nd).has j from ⟨Nat.zero_le _, by simp only; omega⟩) f7
 ·obtain ⟨v', hv'⟩ : ∃ v', (zqac n j)[i']? = some v' := ⟨_, List.getElem?_eq_getElem hi'⟩
  unfold zqpr updR;rw [zqgr hv']
  by_cases e : i' = i
  ·subst e
   rw [e1] at hv'
   cases hv'
   simp only [hidx]
   rw [if_pos (by omega), if_pos trivial, show ((k : Int)).toNat = k by omega]
  ·simp only
   rw [zq05 fun hm' => e (e3 i' v' hv' ((zqvl n m h0 hm v').1 hm').2), if_neg (by decide), if_neg e]
end Go.Proofs.YtfglcifnjaknnaaGreatDoor
namespace Go.Proofs.YtfglcifnjaknnaaGreatDoor
open Go.RowKit
section
variable {P : Program} {ops : Array Oper} {Q : Exit -> Act -> World -> Prop} {l n : Nat}
theorem zqpe {n : Nat} {row : String} {args : Array Value} {w : World} {R : Value -> World -> Prop} (h : Rows P row args w R) : RowsIn (Fence.wide.inRound l) n P row args w R :=
 fun c cs _ => let ⟨v, w', r, s⟩ := h c cs; ⟨v, w', r, stepsIn_wide.2 s⟩
theorem zqga (hd : ∀ (i : Nat) (o : Oper), ops[i]? = some o -> ∀ c : Call, o.op ≠ .defer c) (hQ : ¬ LetsOut Q) : ∀ (lst : List Nat) (a : Act) (w : World), wpOps P ops Q lst a w -> wpOpsIn (Fence.wide.inRound l) n P ops Q lst a w
 | [], _, _, h => h
 | i :: rest, a, w, h => by
  have ih := zqga hd hQ rest;unfold wpOps at h;unfold wpOpsIn
  cases ho : ops[i]? with
  | none => rw [ho] at h; exact ih a w h
  | some o =>
   rw [ho] at h
   simp only at h ⊢
   by_cases hw : Region.wanted o (yielded ops a.tmps) = true
   ·rw [if_pos hw] at h ⊢
    rcases h with h | h
    ·refine ⟨fun _ _ => trivial, ?_⟩
     rw [Oper.semAt_eq _ _ _ (hd i o ho)];unfold Oper.wp at h;generalize (execOp a.eval o).run P w = r at h ⊢
     cases r with
     | ok x w' =>
      cases x with
      | value v => exact ih _ _ h
      | skip => exact ih _ _ h
      | defer d => exact ih _ _ h
      | enter f args =>
       refine ⟨fun hh => (by cases hh), callsIn_wide.2 (Calls.mono h ?_)⟩;rintro e w'' he
       cases e with
       | returned v => exact ih _ _ he
       | panicked c => exact he
       | outgrown => exact he
      | row row args => exact ⟨fun hh => (by cases hh), zqpe (Rows.mono h fun v w'' hv => ih _ _ hv)⟩
      | _ => exact h.elim
     | halt x w' => cases x <;> first | exact h | exact h.elim
    ·exact (hQ h.2).elim
   ·rw [if_neg hw] at h ⊢
    exact ⟨fun _ _ => trivial, ih _ _ h⟩
theorem zqmy {id : Nat} {a : Act} {w : World} (hm : P.follows .mixedOrders = true) (hd : ∀ (i : Nat) (o : Oper), ops[i]? = some o -> ∀ c : Call, o.op ≠ .defer c) (hQ : ¬ LetsOut Q)
  (h : wpAny P .any ops Q ops.size (Array.replicate ops.size false) a { w with drawn := w.drawn + 1 }) : (Code.region id ops true).wpIn (Fence.wide.inRound l) n P Q a w :=
 wpIn_region_draw fun t => by
  simp only [Region.schedule, hm, Bool.true_or, if_true]
  exact zqga hd hQ _ _ _ (wpAny_sound ops.size t _ a _ h)
def zqmg : List Oper -> Bool
 | [] => true
 | o :: r => (match o.op with | .defer _ => false | _ => true) && zqmg r
theorem zqnd : ∀ (L : List Oper) (i : Nat) (o : Oper), zqmg L = true -> L[i]? = some o -> ∀ c, o.op ≠ .defer c
 | [], i, o, _, h => by simp at h
 | x :: r, 0, o, hb, h => by
  simp at h; subst h
  intro c e;unfold zqmg at hb;rw [e] at hb
  simp at hb
 | x :: r, i + 1, o, hb, h => by
  unfold zqmg at hb;rw [Bool.and_eq_true] at hb;exact zqnd r i o hb.2 (by simpa using h)
theorem zqgq {id : Nat} {L : List Oper} {a : Act} {w : World} (n0 : Nat) (hm : P.follows .mixedOrders = true) (hd : zqmg L = true) (hQ : ¬ LetsOut Q) (hs : Region.noSelect L.toArray = true) (hn : (decide (n0 <= L.length)) = true)
  (hB : headB .any L.toArray n0 0 (Array.replicate L.length false) = true) (hT : zq11 .any L.toArray n0 = true)
  (h : wpQuiet P L.toArray (fun w' => ∃ m, w' = more w m) (fun a' => ∀ w', (∃ m, w' = more w m) -> wpAny P .any L.toArray Q (L.length - n0) (marks n0 0 (Array.replicate L.length false)) a' w') (L.take n0) a) : (Code.region id L.toArray true).wpIn (Fence.wide.inRound l) n P Q a w := by
 have hn' : n0 <= L.length := of_decide_eq_true hn;have hlen : (L.take n0).length = n0 := by simp [hn']
 have hC : (fun w' => ∃ m, w' = more w m) { w with drawn := w.drawn + 1 } := ⟨⟨w.drawn + 1, #[]⟩, by simp [more]⟩
 refine zqmy hm (fun i o ho c => zqnd L i o hd (by simpa using ho) c) hQ ?_
 have := zqjw (n := n0) _ _ _ _ hC (zqjf (md := .any) (Q := Q) hs hT ⟨_, hC⟩ (L.length - n0) (L.take n0) 0 (Array.replicate L.length false) a (Closed.none _) (by simp [hn']) (fun j hj => by
  rw [hlen] at hj
  simp [List.getElem?_take, hj]) (by rw [hlen]; exact hB) (by rw [hlen]; exact h))
 rw [hlen, show n0 + (L.length - n0) = L.length by omega] at this
 simpa using this
end
end Go.Proofs.YtfglcifnjaknnaaGreatDoor
namespace Go.Proofs.YtfglcifnjaknnaaGreatDoor
open Go.RowKit
attribute [local go_sem] Oper.semAt_some
def KpB (n₀ B : Nat) (W W' : World) : Prop := Below n₀ W W' /\ ∀ cs t fr, zqe W B = some (.cells cs t fr) -> zqe W' B = some (.cells cs t fr)
theorem KpB.refl (n₀ B : Nat) (W : World) : KpB n₀ B W W := ⟨Below.refl _ _, fun _ _ _ h => h⟩
theorem KpB.trans {n₀ B : Nat} {X Y Z : World} (h : KpB n₀ B X Y) (k : KpB n₀ B Y Z) : KpB n₀ B X Z := ⟨h.1.trans k.1, fun cs t fr e => k.2 _ _ _ (h.2 _ _ _ e)⟩
theorem zrdi {n₀ B : Nat} {X Y Z : World} (h : KpB n₀ B X Y) (k : KpB n₀ B Y Z) : KpB n₀ B X Z := h.trans k
theorem zrd6 {n₀ B : Nat} {w : World} (hn : n₀ <= w.heap.size) (W : World) (l : Nat) (o o' : Obj) (hl : w.heap.size <= l) (h : W.heap[l]? = some o) (hc : o.isCells = false) (hw : o.isWalk = false) : KpB n₀ B W (W.putObj l o') :=
 ⟨belowK_b hn W l o o' hl h hc hw, fun cs t fr e => by
  have hne : B ≠ l := fun e' => by
   subst e';unfold zqe at e;rw [h] at e
   cases e
   cases hc
  exact (World.putObj_heap_other hne).trans e⟩
abbrev BkT (N : Nat) := { i : Nat // i < N }
def itA (N : Nat) : Nat -> List (BkT N)
 | 0 => []
 | k + 1 => itA N k ++ (if h : N - 1 - k < N then [⟨N - 1 - k, h⟩] else [])
theorem zqi3 {N k : Nat} (h : k < N) : itA N (k + 1) = itA N k ++ [⟨N - 1 - k, by omega⟩] := by rw [itA, dif_pos (by omega)]
theorem zqlv {N : Nat} : ∀ k, k <= N -> (itA N k).length = k
 | 0, _ => rfl
 | k + 1, h => by rw [zqi3 (by omega), List.length_append, zqlv k (by omega)]; rfl
theorem zq4q {N : Nat} {pre : List (BkT N)} {x : BkT N} (hl : pre.length < N) (h : pre ++ [x] = itA N (pre ++ [x]).length) : pre = itA N pre.length /\ x.1 = N - 1 - pre.length := by
 rw [List.length_append, show pre.length + [x].length = pre.length + 1 from rfl, zqi3 hl] at h;obtain ⟨a, b⟩ := List.append_inj' h rfl;exact ⟨a, by rw [List.cons.injEq] at b; rw [b.1]⟩
theorem NdsAt.kept {W W' : World} {n₀ B g o : Nat} {L : List Nd} (h : NdsAt W (some ⟨g, o, none⟩) L) (hg : g < n₀) (hk : KpB n₀ B W W') : NdsAt W' (some ⟨g, o, none⟩) L := by
 rcases h with h | ⟨g', o', e, hg', hl⟩
 ·exact .inl h
 ·cases e
  have e : zqe W' g = zqe W g := hk.1.block g hg;exact .inr ⟨g, o, rfl, Nat.lt_of_lt_of_le hg' hk.1.size, fun i v hv => by rw [e]; exact hl i v hv⟩
theorem zq4i (l Bs n₀ g o c : Nat) (L : List Nd) (n : Nat) (hn : 1 <= n) (hL : L.length <= 100000) (hg : g < n₀) (J Jx : List (BkT L.length) -> World -> Prop)
  (hY : ∀ (pre : List (BkT L.length)) (x : BkT L.length) (W : World), J pre W -> pre.length < L.length -> YieldAt Fence.wide (n - 1) Tryz.prog l #[.int .i64 (x.1 : Int), .agg #[.int .i64 ((ndAt L x.1).f : Int), .int .i64 ((ndAt L x.1).s : Int)]] W fun e W' =>
   (e = .returned (.bool true) /\ J (pre ++ [x]) W' /\ KpB n₀ Bs W W') \/ (e = .returned (.bool false) /\ Jx (pre ++ [x]) W'))
  (W : World) (hBs : zqe W Bs = some (.cells #[.slice (some ⟨g, o, none⟩) L.length c] 298 (0, 0))) (hN : NdsAt W (some ⟨g, o, none⟩) L) (h0 : J [] W) :
  CallsIn Fence.wide n Tryz.prog 228 #[.func (.yield l) #[] #[], .pointer (some ⟨Bs, 0, none⟩)] W fun e W' => (∃ v, e = .returned v) /\
   ((∃ ys, ys = itA L.length L.length /\ J ys W') \/ (∃ pre, True /\ Jx pre W')) := by
 have HN : Hid (NdsAt W (some ⟨g, o, none⟩) L) := hN;clear hN;refine callsIn_of_wp Tryz.func228 rfl trivial ?_
 simp only [Tryz.ntmps228, List.size_toArray, List.length_cons, List.length_nil, Nat.reduceAdd, Nat.reduceSub, Array.replicate_succ, Array.replicate_zero, List.push_toArray, List.append_toArray, List.nil_append, List.cons_append]
 have lBs := zqa hBs
 gi_wp2
 gi_loopw [3] (fun i wr => ∃ k : Nat, k <= L.length /\ i = .int .i64 ((L.length : Int) - (k : Int) - 1) /\ J (itA L.length k) wr /\ Hid (KpB n₀ Bs W wr)) (fun i _ => (intOf i + 1).toNat)
 case atStart => exact ⟨0, Nat.zero_le _, by go_num, h0, KpB.refl _ _ _⟩
 case round =>
  obtain ⟨k, hk, rfl, hJs, hkp⟩ := hrel
  by_cases hlt : k < L.length
  ·obtain ⟨v, hv⟩ : ∃ v, L[L.length - 1 - k]? = some v := ⟨_, List.getElem?_eq_getElem (by omega)⟩
   obtain ⟨fn, tmps, assign, body, hy, hR⟩ := hY _ ⟨L.length - 1 - k, by omega⟩ wr hJs (by rw [zqlv k hk]; exact hlt)
   dsimp only at hy
   rw [zqgr hv] at hy;have hB := hkp.out.2 _ _ _ hBs;have lB := zqa hB
   rcases HN.out.kept hg hkp.out with h0' | ⟨g', o', e, hg', hl⟩
   ·subst h0'; simp at hlt
   cases e
   obtain ⟨l1, l2⟩ := hl _ v hv;have ej : ((L.length - 1 - k : Nat) : Int) = (L.length : Int) - (k : Int) - 1 := by omega
   have en : ((L.length : Int) - (k : Int) - 1).toNat = L.length - 1 - k := by omega
   have l1' : cellOf (zqe wr g) (o + (L.length - 1 - k) * 2) = some (.int .i64 v.f) := by rw [Nat.mul_comm]; exact l1
   have l2' : cellOf (zqe wr g) (o + (L.length - 1 - k) * 2 + 1) = some (.int .i64 v.s) := by rw [Nat.mul_comm]; exact l2
   rw [ej] at hy;have hi0 : (0 : Int) <= (L.length : Int) - (k : Int) - 1 := by omega
   have hi1 : (L.length : Int) - (k : Int) - 1 < (L.length : Int) := by omega
   have hnx := zqi3 hlt;clear hl l1 l2 hY
   gi_wp2
   refine hR.mono ?_
   rintro e W3 (⟨rfl, hJ3, hk3⟩ | ⟨rfl, hJx3⟩)
   ·have hkp3 : Hid (KpB n₀ Bs W W3) := hkp.out.trans hk3
    clear hy hk3 hB lB l1' l2' hR
    gi_wp2
    go_roundw
    case rel => exact ⟨k + 1, by omega, by go_num, by rw [hnx]; exact hJ3, hkp3⟩
    case measure => (simp [intOf] <;> omega)
   ·gi_wp2
    refine bodyPost_ret (results_none rfl _ _ _) rfl ?_
    exact ⟨⟨_, rfl⟩, .inr ⟨_, trivial, hJx3⟩⟩
  ·obtain rfl : k = L.length := by omega
   gi_wp2
   go_end0
   exact ⟨⟨_, rfl⟩, .inl ⟨_, rfl, hJs⟩⟩
theorem zqq7 (oa : Option Addr) (n c : Nat) (w : World) : Calls Tryz.prog 210 #[.slice oa n c] w fun e w' => e = .returned (.func (.func 228) #[] #[.pointer (some ⟨w.heap.size, 0, none⟩)]) /\ w' = w.alloc (.cells #[.slice oa n c] 298) := by
 have hmf : ∀ (fn : Fn) (first cap : Array Value) (w : World), (Instr.makeFunc fn first cap).run Tryz.prog w = .ok (.func fn first cap) w := fun _ _ _ _ => rfl
 go_enter Tryz.func210, Tryz.ntmps210
 go_wp2;go_ret;exact ⟨rfl, rfl⟩
theorem zqv1 (l0 : Unit) (Bs n₀ g o c : Nat) (L : List Nd) (n : Nat) (hn : 1 <= n) (hL : L.length <= 100000) (hg : g < n₀) (w : World) (hn₀ : n₀ <= w.heap.size)
  (hBs : zqe w Bs = some (.cells #[.slice (some ⟨g, o, none⟩) L.length c] 298 (0, 0))) (hN : NdsAt w (some ⟨g, o, none⟩) L) :
  SeqStopsK Fence.wide n Tryz.prog 228 #[.pointer (some ⟨Bs, 0, none⟩)] (fun x : BkT L.length => #[Value.int .i64 (x.1 : Int), .agg #[.int .i64 ((ndAt L x.1).f : Int), .int .i64 ((ndAt L x.1).s : Int)]]) (KpB n₀ Bs) (fun ys => ys = itA L.length L.length) (fun _ => True) L.length w :=
 fun l J Jx W hW _ _ hY h0 => zq4i l Bs n₀ g o c L n hn hL hg J Jx hY W (zqc hW hBs) (hN.later hW) h0
end Go.Proofs.YtfglcifnjaknnaaGreatDoor
namespace Go.Proofs.YtfglcifnjaknnaaGreatDoor
open Go.RowKit
section
variable {P : Program} {md : Region.Mode} {ops : Array Oper} {C : World -> Prop} {V : Vals} {γ : Nat -> Nat} {Q : Exit -> Act -> World -> Prop}
theorem zqot (ρ : Operand -> Value) (d : Option Tmp) (t : TypeId) (pos : String) (af : Array Edge) (g : Option (Nat × Bool)) (f : Nat) (args : Array Operand) (ats : Array TypeId) (W : World)
  (hr : ρ (.func f) = .func (.func f) #[] #[]) (h : ∀ args w, (callFunc f args).run P w = .ok (.enter f args) w) : (execOp ρ ⟨d, .call { callee := .value (.func f), args := args, argTypes := ats }, t, pos, af, g⟩).run P W = .ok (.enter f (args.map ρ)) W := by
 simp [execOp, go_sem, h, hr]
theorem zqao {k : Nat} {d : Tmp} {f : Nat} {args : Array Operand} {ats : Array TypeId} {t : TypeId} {pos : String} {af : Array Edge} {g : Option (Nat × Bool)} {rest : List Oper} {F : List Known} {a : Act} {u0 : Value} {Φ : Value -> World -> Prop} {Sh : Value -> Prop} (vals : Array Value)
  (hent : ∀ args w, (callFunc f args).run P w = .ok (.enter f args) w) (hv : V.vary k = true) (hu : V k = u0) (hΦ : V.fact k = Φ) (hsh : V.sh k = Sh) (hw : Region.wanted ⟨some d, .call { callee := .value (.func f), args := args, argTypes := ats }, t, pos, af, g⟩ (yielded ops a.tmps) = true) (hd : decide (d < a.tmps.size) = true)
  (hf : Fits (some ⟨k, Φ u0, none⟩) F) (ha : args.map a.eval = vals)
  (h1 : ∀ W, C W -> (∀ x ∈ F, zqc8 md ops 3 k x.i = true -> x.fact W) -> Calls P f vals W (fun e w'' => ∃ u, e = .returned u /\ Sh u /\ Φ u w'' /\ Below W.heap.size W w''))
  (next : wpQuiet P ops (fun _ => True) (fun a' => zqbx P md ops C V γ Q (k + 1) rest (⟨k, Φ u0, none⟩ :: F) a') [⟨some d, .move (.const u0), 0, "", #[], none⟩] a) : zqbx P md ops C V γ Q k (⟨some d, .call { callee := .value (.func f), args := args, argTypes := ats }, t, pos, af, g⟩ :: rest) F a :=
 zq6y rfl hv hu hΦ hsh hw hd hf (fun W hC hF => ⟨f, args.map a.eval, zqot a.eval (some d) t pos af g f args ats W rfl hent, by rw [ha]; exact h1 W hC hF⟩) next
end
def KSl (n : Nat) (u : Value) : Prop := ∃ oa c, u = .slice oa n c
def KAt (n : Nat) (F : Nat -> Nat -> Int) (u : Value) (w : World) : Prop := ∀ oa c, u = .slice oa n c -> K32At w oa n F
theorem zqc6 (n : Nat) (F : Nat -> Nat -> Int) (u : Value) : Stab (KAt n F u) none := fun w w' h e oa c hu => (h oa c hu).later e
theorem zqh4 {y x : Known} (h1 : Stab y.fact none) (h2 : Stab x.fact none) (e : y.eff = none) (e' : x.eff = none) {F : List Known} (hF : Fits (some y) F) : Fits (some y) (x :: F) := zqgt ⟨by rw [e]; exact h2, by rw [e']; exact h1⟩ hF
end Go.Proofs.YtfglcifnjaknnaaGreatDoor
namespace Go.Proofs.YtfglcifnjaknnaaGreatDoor
open Go.RowKit
section
variable {P : Program} {Q : Exit -> Act -> World -> Prop}
theorem zqkt {id : Nat} {a : Act} {w : World} {l : List Oper} (vary : Nat -> Bool) (sh : Nat -> Value -> Prop) (fact : Nat -> Value -> World -> Prop) (v0 : Nat -> Value) (hsh : ∀ i, vary i = true -> sh i (v0 i)) (n : Nat) (hm : P.follows .mixedOrders = true) (hs : Region.noSelect l.toArray = true) (hn : decide (n < l.length) = true)
  (hB : headB .any l.toArray n 0 (Array.replicate l.length false) = true) (hT : zrbo .any l.toArray n = true)
  (h : exV (l.take n) fun r => ∀ (γ : Nat -> Nat) (g : Nat -> Value), (∀ i, vary i = true -> sh i (g i)) -> (∀ i j, i ≠ j -> γ i ≠ γ j) -> (∀ i, w.heap.size <= γ i) ->
   zqbx P .any l.toArray (fun w' => ∃ m, w' = more w m) ⟨fun k => bif vary k then g k else r.getD k undef, vary, sh, fact⟩ γ (fun _ a' w' => wpAny P .any l.toArray Q (l.length - n) (marks n 0 (Array.replicate l.length false)) a' w') 0 (l.take n) [] a) :
  (Code.region id l.toArray true).wp P Q a w := by
 obtain ⟨r, hr⟩ := zqgy h;have hn' : n < l.length := of_decide_eq_true hn;have hlen : (l.take n).length = n := by simp; omega
 refine wp_region_any hm ?_
 refine zqky (C := fun w' => ∃ m, w' = more w m) (base := w.heap.size) (n := n) (fun W W' ⟨m, hm⟩ hb => by subst hm; exact zqj4 hb) (fun W ⟨m, hm⟩ => by subst hm; exact zqck w m) _ _ _ _ (fun _ => false) (fun j => j) (fun _ => false) ⟨fun k => bif vary k then v0 k else r.getD k undef, vary, sh, fact⟩ ⟨⟨w.drawn + 1, #[]⟩, by simp [more]⟩ (fun i hi => by simp only at hi ⊢; rw [hi]; exact hsh i hi) (fun i hi => by cases hi)
  (fun i hi => by cases hi) (fun i j hi => by cases hi) (fun i hi => by cases hi) fun γ V hγ hV => ?_
 obtain ⟨v, va, s, b⟩ := V;obtain ⟨e1, e2, e4, e5, e3⟩ := hV
 simp only at e1 e2 e4 e5 e3
 subst e1 e2 e4;have e : v = fun k => bif va k then v k else r.getD k undef := funext fun i => by
  cases hv : va i with
  | true => simp [hv]
  | false =>
   have := e3 i (.inl hv);rw [hv] at this
   simpa [hv] using this
 have h9 := hr γ v e5 hγ.1 hγ.2.1;rw [<- e] at h9;refine ⟨[], (fun x hx => by cases hx), ?_, fun x hx => by cases hx⟩;have := zqhw (C := fun w' => ∃ m, w' = more w m) (V := ⟨v, va, s, b⟩) (γ := γ) (Q := Q) (md := .any) (n := n) hs (fun j hj hjs i hi => zqm1 hT j hj hjs i hi) (l.length - n) (by omega) (l.take n) 0 (Array.replicate l.length false) [] a (Closed.none _) (fun x hx => by cases hx) (by rw [hlen]; omega)
  (fun j hj => by rw [hlen] at hj; simp [List.getElem?_take, hj]) (by rw [hlen]; exact hB) (by rw [hlen]; exact h9)
 rw [hlen, show n + (l.length - n) = l.length by omega] at this
 simpa using this
end
end Go.Proofs.YtfglcifnjaknnaaGreatDoor
namespace Go.Proofs.YtfglcifnjaknnaaGreatDoor
open Go.RowKit
@[go_sem] theorem zrc9 (w : World) : (zqbm 306).run Tryz.prog w = .ok (.value (.agg (ints .u8 64 (zqa6 zqd zqd)))) w := by kernel_rfl
@[go_sem] theorem zrem (w : World) : (zqbm 289).run Tryz.prog w = .ok (.value (.agg #[.slice none 0 0])) w := by kernel_rfl
theorem hid1 {p : Prop} (h : p) : Hid p := h
def Row64 (w : World) (g m : Nat) (F : Nat -> Nat -> Int) : Prop :=
 ∃ cur, zqe w g = some (.cells cur 306 (0, 0)) /\ m * 64 <= cur.size /\ ∀ j, j < m -> ∀ i, i < 64 -> cur[j * 64 + i]? = some (.int .u8 (F j i))
theorem Row64.lt {w : World} {g m : Nat} {F : Nat -> Nat -> Int} (h : Row64 w g m F) : g < w.heap.size := by
 obtain ⟨cur, h, _⟩ := h;exact zqa h
theorem Row64.later {w w' : World} {g m : Nat} {F : Nat -> Nat -> Int} (h : Row64 w g m F) (hb : Below w.heap.size w w') : Row64 w' g m F := by
 obtain ⟨cur, h, r⟩ := h;exact ⟨cur, zqc hb h, r⟩
theorem Row64.by {w w' : World} {g m : Nat} {F : Nat -> Nat -> Int} (h : Row64 w g m F) (hb : zqe w' g = zqe w g) : Row64 w' g m F := by
 obtain ⟨cur, h, r⟩ := h;exact ⟨cur, hb.trans h, r⟩
theorem Row64.congr {w : World} {g m : Nat} {F G : Nat -> Nat -> Int} (h : Row64 w g m F) (e : ∀ j, j < m -> F j = G j) : Row64 w g m G := by
 obtain ⟨cur, h, hs, hc⟩ := h;exact ⟨cur, h, hs, fun j hj i hi => by rw [<- e j hj]; exact hc j hj i hi⟩
theorem Row64.cell {w : World} {g m : Nat} {F : Nat -> Nat -> Int} (h : Row64 w g m F) {j i : Nat} (hj : j < m) (hi : i < 64) : w.cell? ⟨g, j * 64 + i, none⟩ = some (.int .u8 (F j i)) := by
 obtain ⟨cur, h, hs, hc⟩ := h;unfold zqe at h;rw [cell_of_row w g _ _ _ _ h, hc j hj i hi]
theorem zqix (g o j : Nat) : (⟨g, o, none⟩ : Addr).add j = ⟨g, o + j, none⟩ := by unfold Addr.add; split <;> simp_all
theorem Row64.load {w : World} {g m : Nat} {F : Nat -> Nat -> Int} (h : Row64 w g m F) {j : Nat} (hj : j < m) : (zqah 306 (.pointer (some ⟨g, j * 64, none⟩))).run Tryz.prog w = .ok (.value (.agg (ints .u8 64 (F j)))) w :=
 zqcm Tryz.underlying306 rfl zqb w _ (ints .u8 64 (F j)) (zqi _ _ _) fun i hi => by
  rw [zqix, h.cell hj hi, zqal _ _ _ _ hi]
theorem Row64.load0 {w : World} {g m : Nat} {F : Nat -> Nat -> Int} (h : Row64 w g m F) {j : Nat} (hj : j < m) : (zqah 29 (.pointer (some ⟨g, j * 64, none⟩))).run Tryz.prog w = .ok (.value (.agg (ints .u8 32 (F j)))) w :=
 zqcm Tryz.underlying29 rfl zqb w _ (ints .u8 32 (F j)) (zqi _ _ _) fun i hi => by
  rw [zqix, h.cell hj (by omega), zqal _ _ _ _ hi]
theorem Row64.load1 {w : World} {g m : Nat} {S P : Nat -> Nat -> Int} (h : Row64 w g m (fun j => zqa6 (S j) (P j))) {j : Nat} (hj : j < m) : (zqah 29 (.pointer (some ⟨g, j * 64 + 32, none⟩))).run Tryz.prog w = .ok (.value (.agg (ints .u8 32 (P j)))) w :=
 zqcm Tryz.underlying29 rfl zqb w _ (ints .u8 32 (P j)) (zqi _ _ _) fun i hi => by
  rw [zqix, Nat.add_assoc, h.cell hj (by omega), zqal _ _ _ _ hi];unfold zqa6;rw [if_neg (by omega), show 32 + i - 32 = i by omega]
theorem zq02 {g : Nat} {w : World} {v : Value} (h : (zqah 306 (.pointer (some ⟨g, 0, none⟩))).run Tryz.prog w = .ok (.value v) w) : zqcw Tryz.prog 306 g 64 w (zqe w g) = .ok v w := by
 rw [zqob] at h
 cases hr : zqcw Tryz.prog 306 g 64 w (zqe w g) with
 | ok u w' => rw [hr] at h; simp only [Result.andThen_ok, Result.ok.injEq, Next.value.injEq] at h; rw [h.1, h.2]
 | halt x w' => rw [hr] at h; cases h
theorem Row64.store {w : World} {g m : Nat} {F : Nat -> Nat -> Int} (h : Row64 w g m F) {j : Nat} (hj : j < m) (f : Nat -> Int) :
  ∃ cs, (zqb7 306 (.pointer (some ⟨g, j * 64, none⟩)) (.agg (ints .u8 64 f))).run Tryz.prog w = .ok .skip (w.setRow g cs) /\ Row64 (w.setRow g cs) g m (updR F j f) := by
 obtain ⟨cur, h, hs, hc⟩ := h;have hl : (ints .u8 64 f).toList.length = 64 := by rw [Array.length_toList, zqi]
 refine ⟨zqbs cur (j * 64) (ints .u8 64 f).toList, ?_, zqbs cur (j * 64) (ints .u8 64 f).toList, zqau _ h, by rw [zqfq]; exact hs, fun i hi k hk => ?_⟩
 ·rw [zq6, zqdk (n := 64) zqb g _ _ w, h]
  unfold zqbo
  simp only
  rw [if_pos ⟨by omega, zqi _ _ _, zqc7 _ _ _⟩]
  rfl
 ·rw [zqg7 _ _ _ _ (by rw [hl]; omega), hl]
  unfold updR
  by_cases e : i = j
  ·subst e
   rw [if_pos (by omega), if_pos rfl, Array.getElem?_toList, show i * 64 + k - i * 64 = k by omega, zqal _ _ _ _ hk]
  ·rw [if_neg (by omega), if_neg e]
   exact hc i hi k hk
theorem zq0j (N : Nat) : madeCells (ints .u8 64 zqd) N = ints .u8 N zqd := by
 unfold madeCells
 apply Array.ext_getElem?
 intro i
 by_cases h : i < N
 ·rw [zqal _ _ _ _ h, Array.getElem?_map, Array.getElem?_range, if_pos h]
  have h2 : i % (ints .u8 64 zqd).size < 64 := by rw [zqi]; omega
  have h3 := zqal .u8 64 zqd (i % (ints .u8 64 zqd).size) h2
  simp only [Option.map_some, Option.some.injEq]
  rw [getElem!_def, h3]
  rfl
 ·rw [Array.getElem?_eq_none (by rw [Array.size_map, Array.size_range]; omega), Array.getElem?_eq_none (by rw [zqi]; omega)]
theorem zqyo {w : World} {g m : Nat} (h : zqe w g = some (.cells (ints .u8 (m * 64) zqd) 306 (0, 0))) : Row64 w g m (fun _ => zqd) :=
 ⟨_, h, by rw [zqi]; exact Nat.le_refl _, fun j hj i hi => by rw [zqal _ _ _ _ (by omega)]; rfl⟩
theorem zqv0 (w : World) (m : Nat) (hm : m <= 1048576) : ∃ w', (Instr.makeSlice 287 (.int .i64 (m : Int)) (.int .i64 (m : Int))).run Tryz.prog w = .ok (.slice (some ⟨w.heap.size, 0, none⟩) m m) w' /\ Row64 w' w.heap.size m (fun _ => zqd) /\ w' = w.alloc (.cells (ints .u8 (m * 64) zqd) 306) := by
 obtain ⟨i, hi, hz, hs, hb⟩ : ∃ i, Tryz.prog.info? 306 = some i /\ i.zero = some (.agg (ints .u8 64 zqd)) /\ i.size = 64 /\ i.bytes = 64 := ⟨(Tryz.prog.info? 306).get zqb, by kernel_rfl, by kernel_rfl, by kernel_rfl, by kernel_rfl⟩
 have h := run_make (P := Tryz.prog) w 287 306 i _ Tryz.underlying287 hi hz .i64 .i64 m m (by omega) (by omega) (by rw [hb]; omega) (by omega);have e : ((m : Int)).toNat = m := by omega
 rw [hs, e, show (Value.agg (ints .u8 64 zqd)).cells = ints .u8 64 zqd from rfl, zq0j] at h;exact ⟨_, h, zqyo (zqg _ _ _ rfl), rfl⟩
def Row32 (T : TypeId) (w : World) (g m : Nat) (F : Nat -> Nat -> Int) : Prop :=
 ∃ cur, zqe w g = some (.cells cur T (0, 0)) /\ m * 32 <= cur.size /\ ∀ j, j < m -> ∀ i, i < 32 -> cur[j * 32 + i]? = some (.int .u8 (F j i))
theorem Row32.lt {T : TypeId} {w : World} {g m : Nat} {F : Nat -> Nat -> Int} (h : Row32 T w g m F) : g < w.heap.size := by
 obtain ⟨cur, h, _⟩ := h;exact zqa h
theorem Row32.later {T : TypeId} {w w' : World} {g m : Nat} {F : Nat -> Nat -> Int} (h : Row32 T w g m F) (hb : Below w.heap.size w w') : Row32 T w' g m F := by
 obtain ⟨cur, h, r⟩ := h;exact ⟨cur, zqc hb h, r⟩
theorem Row32.k32 {T : TypeId} {w : World} {g m : Nat} {F : Nat -> Nat -> Int} (h : Row32 T w g m F) : K32At w (some ⟨g, 0, none⟩) m F := by
 obtain ⟨cur, h, hs, hc⟩ := h;refine .inr ⟨_, rfl, fun w' hb j hj i hi => ?_⟩;have h' := zqc hb h;unfold zqe at h';rw [zqix, Nat.zero_add, cell_of_row w' g _ _ _ _ h', hc j hj i hi]
theorem Row32.store {T : TypeId} {w : World} {g m : Nat} {F : Nat -> Nat -> Int} (hT : (Tryz.prog.info? T).map (·.size) = some 32) (h : Row32 T w g m F) {j : Nat} (hj : j < m) (f : Nat -> Int) :
  ∃ cs, (zqb7 T (.pointer (some ⟨g, j * 32, none⟩)) (.agg (ints .u8 32 f))).run Tryz.prog w = .ok .skip (w.setRow g cs) /\ Row32 T (w.setRow g cs) g m (updR F j f) := by
 obtain ⟨cur, h, hs, hc⟩ := h;have hl : (ints .u8 32 f).toList.length = 32 := by rw [Array.length_toList, zqi]
 refine ⟨zqbs cur (j * 32) (ints .u8 32 f).toList, ?_, zqbs cur (j * 32) (ints .u8 32 f).toList, zqau _ h, by rw [zqfq]; exact hs, fun i hi k hk => ?_⟩
 ·rw [zq6, zqdk (n := 32) hT g _ _ w, h]
  unfold zqbo
  simp only
  rw [if_pos ⟨by omega, zqi _ _ _, zqc7 _ _ _⟩]
  rfl
 ·rw [zqg7 _ _ _ _ (by rw [hl]; omega), hl]
  unfold updR
  by_cases e : i = j
  ·subst e
   rw [if_pos (by omega), if_pos rfl, Array.getElem?_toList, show i * 32 + k - i * 32 = k by omega, zqal _ _ _ _ hk]
  ·rw [if_neg (by omega), if_neg e]
   exact hc i hi k hk
theorem zqkc {T : TypeId} {w : World} {base m : Nat} {v : Value} {F : Nat -> Nat -> Int} (hm : 0 < m) (h : w.ownsRow base T 32 v m (k32L F m)) : ∃ g c, v = .slice (some ⟨g, 0, none⟩) m c /\ m <= c /\ base <= g /\ Row32 T w g m F := by
 have hh := h
 rcases h.2 with ⟨rfl, h0⟩ | ⟨g, cap, cur, rfl, hb, hg, hnc, hcm, hcs, htake⟩
 ·omega
 ·refine ⟨g, cap, rfl, hnc, hb, cur, hg, by rw [hcs]; exact Nat.mul_le_mul_right _ hnc, fun j hj i hi => ?_⟩
  have h1 := zqkr F j i hi m hj;rw [<- htake, List.getElem?_take, if_pos (by omega), Array.getElem?_toList] at h1;exact h1
theorem zqmx {k : IntKind} {n : Nat} {l : List Nat} {F : Nat -> Nat -> Int} : ∀ u ∈ l.flatMap (fun j => (ints k n (F j)).toList), u.oneCell' = true := fun u hu => by
 obtain ⟨j, _, hj⟩ := List.mem_flatMap.1 hu;have h1 := zqa1 k n (F j);rw [Array.all_eq_true'] at h1;exact h1 u (by simpa using hj)
theorem zraf {n sz : Nat} (hsz : 0 < sz) {l : List Value} (hl : l.length = n * sz) {x : Nat} {u : Value} (h : l[x]? = some u) : ∃ j i, x = j * sz + i /\ j < n /\ i < sz := by
 have hx := (List.getElem?_eq_some_iff.1 h).1;rw [hl] at hx;refine ⟨x / sz, x % sz, (by rw [Nat.mul_comm]; exact (Nat.div_add_mod x sz).symm), (Nat.div_lt_iff_lt_mul hsz).2 hx, Nat.mod_lt _ hsz⟩
@[go_sem ↓ high] theorem zq77 (ty : TypeId) (cs : Array Bool) (args : Array Value) : builtin .append #[287, 287] ty cs args = zqr #[287, 287] ty args := by unfold zqr; rfl
theorem zq27 (w W : World) (v : Value) (own : W.ownsRow w.heap.size 29 32 v 0 []) (ad : Addr) (m c : Nat) (F : Nat -> Nat -> Int) (hm : 0 < m) (hm2 : m <= 1048576) (h : K32At W (some ad) m F) (hG : Below w.heap.size w W) :
  ∃ g cap w', (zqr #[44, 44] 44 #[v, .slice (some ad) m c]).run Tryz.prog W = .ok (.value (.slice (some ⟨g, 0, none⟩) m cap)) w' /\ m <= cap /\ w.heap.size <= g /\ Row32 29 w' g m F /\ Below w.heap.size w w' := by
 obtain ⟨g, cap, w', hr, ho, hb, _, hg⟩ := zqf8 (i := (Tryz.prog.info? 29).get zqb) (z := ((Tryz.prog.info? 29).get zqb).zero.get zqb) 32 32 Tryz.underlying44 zqb zqb zqb zqb zqb (by decide) (by decide) 44 w W w.heap.size v 0 [] ad m c (k32L F m) own (by omega) hm (zqhh F m)
  (fun x u hu => by
   obtain ⟨j, i, rfl, hj, hi⟩ := zraf (by decide) (zqhh F m) hu;rw [zqkr F j i hi m hj] at hu
   cases hu
   rcases h with h | ⟨ad', e, hl⟩
   ·omega
   ·cases e
    exact hl W (Below.refl _ _) j hj i hi) zqmx hG (Nat.le_refl _) hG.size
 rw [Nat.zero_add, List.nil_append] at ho;rw [Nat.zero_add] at hr;obtain ⟨g', c', e, h1, h2, h3⟩ := zqkc hm ho
 cases e
 exact ⟨g, cap, w', hr, h1, h2, h3, hb⟩
theorem zqje (ad : Addr) (m c : Nat) (F : Nat -> Nat -> Int) (w : World) (hm : 0 < m) (hm2 : m <= 1048576) (h : K32At w (some ad) m F) :
  Calls Tryz.prog 216 #[.slice (some ad) m c] w fun e w' => ∃ g cap, e = .returned (.slice (some ⟨g, 0, none⟩) m cap) /\ m <= cap /\ w.heap.size <= g /\ Row32 29 w' g m F /\ Below w.heap.size w w' := by
 have HK : Hid (K32At w (some ad) m F) := h;clear h;have q := fun (w : World) (a : Option Addr) (n c n' c' : Nat) => Lib.run_eql_slice_nil (P := Tryz.prog) w _ _ a n c n' c' Tryz.underlying44;obtain ⟨g3, c3, w3, hr3, hc3, hg3, hR3, hb3⟩ := zq27 w (w.alloc (.cells #[] 29)) (.slice (some ⟨w.heap.size, 0, none⟩) 0 0) (World.ownsRow_made w #[] 0 (Nat.le_refl _) (Nat.zero_le _) (by simp)) ad m c F hm hm2 (HK.out.later (Grew.alloc (Grew.refl w) _)) (Grew.alloc (Grew.refl w) _);have HR3 : Hid (m <= c3 /\ w.heap.size <= g3 /\ Row32 29 w3 g3 m F) := ⟨hc3, hg3, hR3⟩
 clear hc3 hg3 hR3
 go_enter Tryz.func216, Tryz.ntmps216
 go_wp2;go_ret;exact ⟨g3, c3, rfl, HR3.out.1, HR3.out.2.1, HR3.out.2.2, hb3⟩
end Go.Proofs.YtfglcifnjaknnaaGreatDoor
