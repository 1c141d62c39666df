/- Sh -/
import Derived.Test.YtdoolhbmekahdaaGreatDoorSt
import Derived.Test.YtdoolhbmekahdaaGreatDoorSm
set_option maxRecDepth 100000
set_option maxHeartbeats 4000000
namespace Go.Proofs.YtdoolhbmekahdaaGreatDoor
open Go.RowKit
set_option linter.unusedVariables false
set_option linter.unusedSimpArgs false
def AA (T : Nat → Int) : Nat → Nat → Int
 | 0 => nought
 | j + 1 => thr (AA T j) (fun i => T (64 * j + i))
def tailF (T : Nat → Int) (n : Nat) : Nat → Int := fun i => if i < n % 64 then T (64 * (n / 64) + i) else 0
def hashT (T : Nat → Int) (n : Nat) : Array Value := hashC (AA T (n / 64)) (tailF T n) n
@[go_sem] theorem hashT_size (T : Nat → Int) (n : Nat) : (hashT T n).size = 73 := hashC_size _ _ _
@[go_sem] theorem hashT_one (T : Nat → Int) (n : Nat) : oneCells (hashT T n) = true := hashC_one _ _ _
theorem wd_congr {B B' : Nat → Int} (h : ∀ i, i < 64 → B i = B' i) (t : Nat) (ht : t < 16) : wd B t = wd B' t := by
 unfold wd
 rw [h _ (by omega), h _ (by omega), h _ (by omega), h _ (by omega)]
theorem sch_congr {B B' : Nat → Int} (h : ∀ i, i < 64 → B i = B' i) : ∀ t, sch B t = sch B' t
 | 0 => rfl
 | t + 1 => by
  have e : nextW B (sch B' t) t = nextW B' (sch B' t) t := by
   unfold nextW
   split
   ·rename_i ht; exact wd_congr h t ht
   ·rfl
  show upd (sch B t) t (nextW B (sch B t) t) = upd (sch B' t) t (nextW B' (sch B' t) t)
  rw [sch_congr h t, e]
theorem thr_congr (A : Nat → Int) {B B' : Nat → Int} (h : ∀ i, i < 64 → B i = B' i) : thr A B = thr A B' := by
 unfold thr
 rw [sch_congr h]
theorem AA_words (T : Nat → Int) : ∀ j i, W32 (AA T j i)
 | 0, i => ⟨by simp [AA, nought], by simp [AA, nought]⟩
 | j + 1, i => w32_mod _
theorem AA_congr {T T' : Nat → Int} : ∀ j, (∀ i, i < 64 * j → T i = T' i) → AA T j = AA T' j
 | 0, _ => rfl
 | j + 1, h => by
  show thr (AA T j) _ = thr (AA T' j) _
  rw [AA_congr j fun i hi => h i (by omega)]
  exact thr_congr _ fun i hi => h _ (by omega)
theorem hashT_congr {T T' : Nat → Int} (n : Nat) (h : ∀ i, i < n → T i = T' i) : hashT T n = hashT T' n := by
 unfold hashT
 rw [AA_congr (n / 64) fun i hi => h i (by omega)]
 exact hashC_congr (fun _ _ => rfl) fun i hi => by
  unfold tailF
  split
  ·exact h _ (by omega)
  ·rfl
theorem hashT_some {T : Nat → Int} {m r c : Nat} {q : ByteArray} (hr : m % 64 = r) (hc : r + c < 64) (hq : ∀ i, i < c → byteAt q i = T (m + i)) : hashC (AA T (m / 64)) (putT (tailF T m) r c q) ((m + c : Nat) : Int) = hashT T (m + c) := by
 have e : (m + c) / 64 = m / 64 := by omega
 unfold hashT
 rw [e]
 refine hashC_congr (fun _ _ => rfl) fun i hi => ?_
 unfold putT tailF
 rw [e, show (m + c) % 64 = r + c by omega, hr]
 by_cases h1 : r ≤ i ∧ i < r + c
 ·rw [if_pos h1, if_pos h1.2, hq _ (by omega)]
  congr 1; omega
 ·rw [if_neg h1]
  by_cases h2 : i < r
  ·rw [if_pos h2, if_pos (by omega)]
  ·rw [if_neg h2, if_neg (by omega)]
theorem hashT_full {T : Nat → Int} {m r c : Nat} {q : ByteArray} (hr : m % 64 = r) (hc : r + c = 64) (hq : ∀ i, i < c → byteAt q i = T (m + i)) : hashC (thr (AA T (m / 64)) (putT (tailF T m) r c q)) nought ((m + c : Nat) : Int) = hashT T (m + c) := by
 have e : (m + c) / 64 = m / 64 + 1 := by omega
 unfold hashT
 rw [e]
 have ht : thr (AA T (m / 64)) (putT (tailF T m) r c q) = AA T (m / 64 + 1) := by
  refine thr_congr _ fun i hi => ?_
  unfold putT tailF
  by_cases h1 : r ≤ i ∧ i < r + c
  ·rw [if_pos h1, hq _ (by omega)]; congr 1; omega
  ·rw [if_neg h1, if_pos (by omega)]
 rw [ht]
 refine hashC_congr (fun _ _ => rfl) fun i hi => ?_
 unfold tailF
 rw [show (m + c) % 64 = 0 by omega, if_neg (by omega)]; rfl
theorem put_bytes {T : Nat → Int} {m r c : Nat} {q : ByteArray} (hb : ∀ i, i < m → 0 ≤ T i ∧ T i ≤ 255) (hr : m % 64 = r) (hq : c ≤ q.size) : Bytes 64 (putT (tailF T m) r c q) := fun i hi => by
 unfold putT tailF
 split
 ·exact byteAt_bytes q _ (by omega)
 ·split
  ·exact hb _ (by omega)
  ·exact ⟨by decide, by decide⟩
theorem byteAt_extract (q : ByteArray) (c i : Nat) (h : c + i < q.size) : byteAt (q.extract c q.size) i = byteAt q (c + i) := by
 have h2 : i < (q.extract c q.size).size := by rw [ByteArray.size_extract]; omega
 unfold byteAt
 rw [dif_pos h, dif_pos h2]
 congr 2
 exact ByteArray.getElem_extract h2
theorem with_any (T : Nat → Int) (n : Nat) (p : ByteArray) (w : World) (hn : n + p.size < 4611686018427387904) (hb : ∀ i, i < n + p.size → 0 ≤ T i ∧ T i ≤ 255) (hp : ∀ i, i < p.size → byteAt p i = T (n + i)) (hT : Tabs w) :
  Calls Tryz.prog 116 #[.agg (hashT T n), .string p] w fun e w' => e = .returned (.agg (hashT T (n + p.size))) ∧ Below w.heap.size w w' := by
 obtain ⟨⟨ts, fS⟩, tc, fC⟩ := hT
 have l0S := lt_of_objAt fS
 have l0C := lt_of_objAt fC
 have hG := Grew.refl w
 have fa : True := trivial
 have fr : True := trivial
 go_enter Tryz.func116, Tryz.ntmps116
 have HP : Hid (∀ i, i < p.size → byteAt p i = T (n + i)) := hp
 have HB : Hid (∀ i, i < n + p.size → 0 ≤ T i ∧ T i ≤ 255) := hb
 clear hp hb
 go_wp2_with fail
 replace fa : objAt ((w.alloc (.cells (hashT T n) 129)).alloc (.cells (hashC (nought) (nought) (0)) 129)) (w.heap.size) = some (.cells (hashT T n) 129) := by exact keep_auto
 replace fr : objAt ((w.alloc (.cells (hashT T n) 129)).alloc (.cells (hashC (nought) (nought) (0)) 129)) (w.heap.size + 1) = some (.cells (hashC (nought) (nought) (0)) 129) := by exact keep_auto
 replace fS : objAt ((w.alloc (.cells (hashT T n) 129)).alloc (.cells (hashC (nought) (nought) (0)) 129)) (1) = some (.cells (ints .u32 8 sqF) ts) := by exact keep_auto
 replace fC : objAt ((w.alloc (.cells (hashT T n) 129)).alloc (.cells (hashC (nought) (nought) (0)) 129)) (4) = some (.cells (ints .u32 64 cubeF) tc) := by exact keep_auto
 replace hG : Below w.heap.size w ((w.alloc (.cells (hashT T n) 129)).alloc (.cells (hashC (nought) (nought) (0)) 129)) := by exact grew_auto
 generalize (w.alloc (.cells (hashT T n) 129)).alloc (.cells (hashC (nought) (nought) (0)) 129) = w1 at *
 have lfa := lt_of_objAt fa
 have lfr := lt_of_objAt fr
 have lfS := lt_of_objAt fS
 have lfC := lt_of_objAt fC
 go_wp2_with fail
 go_loopw [1] (fun v wr => ∃ (k : Nat) (q : ByteArray), k + q.size = p.size ∧ v = .string q ∧ Hid (∀ i, i < q.size → byteAt q i = T (n + k + i)) ∧ Below w.heap.size w wr ∧ objAt wr (w.heap.size) = some (.cells (hashT T (n + k)) 129) ∧ objAt wr (w.heap.size + 1) = some (.cells (hashC (nought) (nought) (0)) 129) ∧ objAt wr (1) = some (.cells (ints .u32 8 sqF) ts) ∧ objAt wr (4) = some (.cells (ints .u32 64 cubeF) tc)) (fun v _ => match v with | .string q => q.size | _ => 0)
 case atStart => exact ⟨0, p, by omega, rfl, HP, hG, fa, fr, fS, fC⟩
 case round =>
  clear fa lfa fr lfr fS lfS fC lfC hG HP
  obtain ⟨k, q, hk, rfl, HQ, hG, fa, fr, fS, fC⟩ := hrel
  have lfa := lt_of_objAt fa
  have lfr := lt_of_objAt fr
  have lfS := lt_of_objAt fS
  have lfC := lt_of_objAt fC
  by_cases hlt : 0 < q.size
  ·have hmm : n + k + q.size = n + p.size := by omega
   have HB' : Hid (∀ i, i < n + k + q.size → 0 ≤ T i ∧ T i ≤ 255) := by rw [hmm]; exact HB
   clear HB
   unfold hashT at fa
   generalize hm : n + k = m at *
   obtain ⟨r, hr⟩ : ∃ r, m % 64 = r := ⟨_, rfl⟩
   have hr64 : r < 64 := by omega
   have hri : (m : Int) % 64 = (r : Int) := by omega
   obtain ⟨c, hc⟩ : ∃ c, min q.size (64 - r) = c := ⟨_, rfl⟩
   have hcq : c ≤ q.size := by omega
   have hrc : r + c ≤ 64 := by omega
   have HR : Hid (m % 64 = r) := hr
   clear hr
   have hq2 : (q.extract c q.size).size = q.size - c := by rw [ByteArray.size_extract, Nat.min_self]
   have HQ2 : Hid (∀ i, i < (q.extract c q.size).size → byteAt (q.extract c q.size) i = T (n + (k + c) + i)) := fun i hi => by
    rw [byteAt_extract q c i (by omega), HQ.out _ (by omega)]; congr 1; omega
   have hcast : ((m + c : Nat) : Int) = (m : Int) + (c : Int) := by omega
   by_cases hfull : r + c = 64
   ·have hbo : ((r : Int) + (c : Int) == 64) = true := by simp; omega
    have S : Hid (hashC (thr (AA T (m / 64)) (putT (tailF T m) r c q)) nought ((m : Int) + (c : Int)) = hashT T (n + (k + c))) := by
     have := hashT_full (T := T) (q := q) (c := c) HR.out hfull fun i hi => HQ.out i (by omega)
     rw [hcast, ← hm, Nat.add_assoc] at this
     rw [← hm]; exact this
    have A1 : Hid (Words 8 (AA T (m / 64))) := fun i _ => AA_words T _ i
    have A2 : Hid (Bytes 64 (putT (tailF T m) r c q)) := put_bytes (fun i hi => HB'.out i (by omega)) HR.out hcq
    clear hcast
    go_wp2_with fail
    have ea : objAt (wr.setRow (w.heap.size) ((hashC (AA T (m / 64)) (putT (tailF T m) r c q) ((m : Int) + (c : Int))))) (w.heap.size) = some (.cells (hashC (AA T (m / 64)) (putT (tailF T m) r c q) ((m : Int) + (c : Int))) 129) := keep_row _ (fa)
    have er : objAt (wr.setRow (w.heap.size) ((hashC (AA T (m / 64)) (putT (tailF T m) r c q) ((m : Int) + (c : Int))))) (w.heap.size + 1) = some (.cells (hashC (nought) (nought) (0)) 129) := keep_setRow _ _ (fr) (by first | assumption | omega | simp)
    have eS : objAt (wr.setRow (w.heap.size) ((hashC (AA T (m / 64)) (putT (tailF T m) r c q) ((m : Int) + (c : Int))))) (1) = some (.cells (ints .u32 8 sqF) ts) := keep_setRow _ _ (fS) (by first | assumption | omega | simp)
    have eC : objAt (wr.setRow (w.heap.size) ((hashC (AA T (m / 64)) (putT (tailF T m) r c q) ((m : Int) + (c : Int))))) (4) = some (.cells (ints .u32 64 cubeF) tc) := keep_setRow _ _ (fC) (by first | assumption | omega | simp)
    clear fa lfa fr lfr fS lfS fC lfC
    replace hG : Below w.heap.size w (wr.setRow (w.heap.size) ((hashC (AA T (m / 64)) (putT (tailF T m) r c q) ((m : Int) + (c : Int))))) := by exact grew_auto
    generalize wr.setRow (w.heap.size) ((hashC (AA T (m / 64)) (putT (tailF T m) r c q) ((m : Int) + (c : Int)))) = w2 at *
    have fa := ea
    have fr := er
    have fS := eS
    have fC := eC
    clear ea er eS eC
    have lfa := lt_of_objAt fa
    have lfr := lt_of_objAt fr
    have lfS := lt_of_objAt fS
    have lfC := lt_of_objAt fC
    go_wp2_with fail
    (refine (through_any _ _ _ A1.out A2.out ⟨⟨ts, fS⟩, tc, fC⟩).mono ?_; rintro e w3 ⟨rfl, hb⟩; replace fa : objAt w3 (w.heap.size) = some (.cells (hashC (AA T (m / 64)) (putT (tailF T m) r c q) ((m : Int) + (c : Int))) 129) := keep_below hb (by exact keep_auto); have lfa := lt_of_objAt fa; replace fr : objAt w3 (w.heap.size + 1) = some (.cells (hashC (nought) (nought) (0)) 129) := keep_below hb (by exact keep_auto); have lfr := lt_of_objAt fr; replace fS : objAt w3 (1) = some (.cells (ints .u32 8 sqF) ts) := keep_below hb (by exact keep_auto); have lfS := lt_of_objAt fS; replace fC : objAt w3 (4) = some (.cells (ints .u32 64 cubeF) tc) := keep_below hb (by exact keep_auto); have lfC := lt_of_objAt fC; replace hG : Below w.heap.size w w3 := Grew.trans (by exact grew_auto) hb; clear hb)
    go_wp2
    go_roundw
    case rel => exact ⟨k + c, q.extract c q.size, by omega, rfl, HQ2, by exact grew_auto, by rw [← S.out]; exact keep_auto, by exact keep_auto, by exact keep_auto, by exact keep_auto⟩
    case measure => show (q.extract c q.size).size < q.size; omega
   ·have hbo : ((r : Int) + (c : Int) == 64) = false := by simp; omega
    have S : Hid (hashC (AA T (m / 64)) (putT (tailF T m) r c q) ((m : Int) + (c : Int)) = hashT T (n + (k + c))) := by
     have := hashT_some (T := T) (q := q) (c := c) HR.out (by omega) fun i hi => HQ.out i (by omega)
     rw [hcast, ← hm, Nat.add_assoc] at this
     rw [← hm]; exact this
    clear hcast
    go_wp2
    go_roundw
    case rel => exact ⟨k + c, q.extract c q.size, by omega, rfl, HQ2, by exact grew_auto, by rw [← S.out]; exact keep_auto, by exact keep_auto, by exact keep_auto, by exact keep_auto⟩
    case measure => show (q.extract c q.size).size < q.size; omega
  ·have hq0 : q.size = 0 := by omega
   obtain rfl : k = p.size := by omega
   clear hlt HQ HB
   go_wp2
   refine ret_row rfl _ 129 _ (0, 0) _ rfl (keep_row _ fr) Tryz.underlying129 rfl (by rw [hashT_size]; kernel_rfl) rfl ⟨rfl, by exact grew_auto⟩
end Go.Proofs.YtdoolhbmekahdaaGreatDoor
