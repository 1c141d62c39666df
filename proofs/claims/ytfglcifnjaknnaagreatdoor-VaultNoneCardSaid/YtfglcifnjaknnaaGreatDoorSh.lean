/- Sh -/
import Derived.Test.YtfglcifnjaknnaaGreatDoorSt
import Derived.Test.YtfglcifnjaknnaaGreatDoorSm
set_option linter.unusedVariables false
set_option linter.unusedSimpArgs false
set_option maxRecDepth 100000
set_option maxHeartbeats 4000000
namespace Go.Proofs.YtfglcifnjaknnaaGreatDoor
open Go.RowKit
def AA (T : Nat -> Int) : Nat -> Nat -> Int
 | 0 => zqd
 | j + 1 => thr (AA T j) (fun i => T (64 * j + i))
def zqep (T : Nat -> Int) (n : Nat) : Nat -> Int := fun i => if i < n % 64 then T (64 * (n / 64) + i) else 0
def zqbv (T : Nat -> Int) (n : Nat) : Array Value := zqap (AA T (n / 64)) (zqep T n) n
@[go_sem] theorem zqjv (T : Nat -> Int) (n : Nat) : (zqbv T n).size = 73 := zqaz _ _ _
@[go_sem] theorem zq2m (T : Nat -> Int) (n : Nat) : zqa0 (zqbv T n) = true := zqzx _ _ _
theorem zq50 {B B' : Nat -> Int} (h : ∀ i, i < 64 -> B i = B' i) (t : Nat) (ht : t < 16) : wd B t = wd B' t := by
 unfold wd;rw [h _ (by omega), h _ (by omega), h _ (by omega), h _ (by omega)]
theorem zqpm {B B' : Nat -> Int} (h : ∀ i, i < 64 -> B i = B' i) : ∀ t, sch B t = sch B' t
 | 0 => rfl
 | t + 1 => by
  have e : zqgd B (sch B' t) t = zqgd B' (sch B' t) t := by
   unfold zqgd
   split
   ·rename_i ht; exact zq50 h t ht
   ·rfl
  show upd (sch B t) t (zqgd B (sch B t) t) = upd (sch B' t) t (zqgd B' (sch B' t) t)
  rw [zqpm h t, e]
theorem zqqj (A : Nat -> Int) {B B' : Nat -> Int} (h : ∀ i, i < 64 -> B i = B' i) : thr A B = thr A B' := by
 unfold thr;rw [zqpm h]
theorem zqut (T : Nat -> Int) : ∀ j i, W32 (AA T j i)
 | 0, i => ⟨by simp [AA, zqd], by simp [AA, zqd]⟩
 | j + 1, i => zqhs _
theorem zqt5 {T T' : Nat -> Int} : ∀ j, (∀ i, i < 64 * j -> T i = T' i) -> AA T j = AA T' j
 | 0, _ => rfl
 | j + 1, h => by
  show thr (AA T j) _ = thr (AA T' j) _
  rw [zqt5 j fun i hi => h i (by omega)];exact zqqj _ fun i hi => h _ (by omega)
theorem zqk0 {T T' : Nat -> Int} (n : Nat) (h : ∀ i, i < n -> T i = T' i) : zqbv T n = zqbv T' n := by
 unfold zqbv;rw [zqt5 (n / 64) fun i hi => h i (by omega)];exact zqhq (fun _ _ => rfl) fun i hi => by
  unfold zqep
  split
  ·exact h _ (by omega)
  ·rfl
theorem zqw7 {T : Nat -> Int} {m r c : Nat} {q : ByteArray} (hr : m % 64 = r) (hc : r + c < 64) (hq : ∀ i, i < c -> byteAt q i = T (m + i)) : zqap (AA T (m / 64)) (putT (zqep T m) r c q) ((m + c : Nat) : Int) = zqbv T (m + c) := by
 have e : (m + c) / 64 = m / 64 := by omega
 unfold zqbv;rw [e];refine zqhq (fun _ _ => rfl) fun i hi => ?_
 unfold putT zqep;rw [e, show (m + c) % 64 = r + c by omega, hr]
 by_cases h1 : r <= i /\ i < r + c
 ·rw [if_pos h1, if_pos h1.2, hq _ (by omega)]
  congr 1; omega
 ·rw [if_neg h1]
  by_cases h2 : i < r
  ·rw [if_pos h2, if_pos (by omega)]
  ·rw [if_neg h2, if_neg (by omega)]
theorem zqxi {T : Nat -> Int} {m r c : Nat} {q : ByteArray} (hr : m % 64 = r) (hc : r + c = 64) (hq : ∀ i, i < c -> byteAt q i = T (m + i)) : zqap (thr (AA T (m / 64)) (putT (zqep T m) r c q)) zqd ((m + c : Nat) : Int) = zqbv T (m + c) := by
 have e : (m + c) / 64 = m / 64 + 1 := by omega
 unfold zqbv;rw [e];have ht : thr (AA T (m / 64)) (putT (zqep T m) r c q) = AA T (m / 64 + 1) := by
  refine zqqj _ fun i hi => ?_
  unfold putT zqep
  by_cases h1 : r <= i /\ i < r + c
  ·rw [if_pos h1, hq _ (by omega)]; congr 1; omega
  ·rw [if_neg h1, if_pos (by omega)]
 rw [ht];refine zqhq (fun _ _ => rfl) fun i hi => ?_
 unfold zqep;rw [show (m + c) % 64 = 0 by omega, if_neg (by omega)]; rfl
theorem zq1f {T : Nat -> Int} {m r c : Nat} {q : ByteArray} (hb : ∀ i, i < m -> 0 <= T i /\ T i <= 255) (hr : m % 64 = r) (hq : c <= q.size) : Bytes 64 (putT (zqep T m) r c q) := fun i hi => by
 unfold putT zqep
 split
 ·exact zqka q _ (by omega)
 ·split
  ·exact hb _ (by omega)
  ·exact ⟨by decide, by decide⟩
theorem zqmz (q : ByteArray) (c i : Nat) (h : c + i < q.size) : byteAt (q.extract c q.size) i = byteAt q (c + i) := by
 have h2 : i < (q.extract c q.size).size := by rw [ByteArray.size_extract]; omega
 unfold byteAt;rw [dif_pos h, dif_pos h2]
 congr 2
 exact ByteArray.getElem_extract h2
theorem zquu (T : Nat -> Int) (n : Nat) (p : ByteArray) (w : World) (hn : n + p.size < 4611686018427387904) (hb : ∀ i, i < n + p.size -> 0 <= T i /\ T i <= 255) (hp : ∀ i, i < p.size -> byteAt p i = T (n + i)) (hT : Tabs w) :
  Calls Tryz.prog 142 #[.agg (zqbv T n), .string p] w (Rt w (.agg (zqbv T (n + p.size)))) := by
 obtain ⟨⟨ts, fS⟩, tc, fC⟩ := hT;have l0S := zqa fS;have l0C := zqa fC;have hG := Grew.refl w;have fa : True := trivial;have fr : True := trivial
 go_enter Tryz.func142, Tryz.ntmps142
 have HP : Hid (∀ i, i < p.size -> byteAt p i = T (n + i)) := hp;have HB : Hid (∀ i, i < n + p.size -> 0 <= T i /\ T i <= 255) := hb;clear hp hb;go_wp2_with fail;generalize hW : (w.alloc (.cells (zqbv T n) 201)).alloc (.cells (zqap (zqd) (zqd) (0)) 201) = w1;replace fa : zqe w1 (w.heap.size) = some (.cells (zqbv T n) 201) := zqs hW;replace fr : zqe w1 (w.heap.size + 1) = some (.cells (zqap (zqd) (zqd) (0)) 201) := zqs hW;replace fS : zqe w1 (1) = some (.cells (ints .u32 8 sqF) ts) := zqs hW;replace fC : zqe w1 (2) = some (.cells (ints .u32 64 zqfa) tc) := zqs hW;replace hG : Below w.heap.size w w1 := zqam hW;clear hW;have lfa := zqa fa;have lfr := zqa fr;have lfS := zqa fS;have lfC := zqa fC;go_wp2_with fail
 go_loopw [1] (fun v wr => ∃ (k : Nat) (q : ByteArray), k + q.size = p.size /\ v = .string q /\ Hid (∀ i, i < q.size -> byteAt q i = T (n + k + i)) /\ Below w.heap.size w wr /\ zqe wr (w.heap.size) = some (.cells (zqbv T (n + k)) 201) /\ zqe wr (w.heap.size + 1) = some (.cells (zqap (zqd) (zqd) (0)) 201) /\ zqe wr (1) = some (.cells (ints .u32 8 sqF) ts) /\ zqe wr (2) = some (.cells (ints .u32 64 zqfa) tc)) (fun v _ => match v with | .string q => q.size | _ => 0)
 case atStart => exact ⟨0, p, by omega, rfl, HP, hG, fa, fr, fS, fC⟩
 case round =>
  clear fa lfa fr lfr fS lfS fC lfC hG HP;obtain ⟨k, q, hk, rfl, HQ, hG, fa, fr, fS, fC⟩ := hrel;have lfa := zqa fa;have lfr := zqa fr;have lfS := zqa fS;have lfC := zqa fC
  by_cases hlt : 0 < q.size
  ·have hmm : n + k + q.size = n + p.size := by omega
   have HB' : Hid (∀ i, i < n + k + q.size -> 0 <= T i /\ T i <= 255) := by rw [hmm]; exact HB
   clear HB;unfold zqbv at fa;generalize hm : n + k = m at *;obtain ⟨r, hr⟩ : ∃ r, m % 64 = r := ⟨_, rfl⟩
   have hr64 : r < 64 := by omega
   have hri : (m : Int) % 64 = (r : Int) := by omega
   obtain ⟨c, hc⟩ : ∃ c, min q.size (64 - r) = c := ⟨_, rfl⟩
   have hcq : c <= q.size := by omega
   have hrc : r + c <= 64 := by omega
   have HR : Hid (m % 64 = r) := hr;clear hr;have hq2 : (q.extract c q.size).size = q.size - c := by rw [ByteArray.size_extract, Nat.min_self]
   have HQ2 : Hid (∀ i, i < (q.extract c q.size).size -> byteAt (q.extract c q.size) i = T (n + (k + c) + i)) := fun i hi => by
    rw [zqmz q c i (by omega), HQ.out _ (by omega)]; congr 1; omega
   have hcast : ((m + c : Nat) : Int) = (m : Int) + (c : Int) := by omega
   by_cases hfull : r + c = 64
   ·have hbo : ((r : Int) + (c : Int) == 64) = true := by simp; omega
    have S : Hid (zqap (thr (AA T (m / 64)) (putT (zqep T m) r c q)) zqd ((m : Int) + (c : Int)) = zqbv T (n + (k + c))) := by
     have := zqxi (T := T) (q := q) (c := c) HR.out hfull fun i hi => HQ.out i (by omega);rw [hcast, <- hm, Nat.add_assoc] at this;rw [<- hm]; exact this
    have A1 : Hid (Words 8 (AA T (m / 64))) := fun i _ => zqut T _ i;have A2 : Hid (Bytes 64 (putT (zqep T m) r c q)) := zq1f (fun i hi => HB'.out i (by omega)) HR.out hcq;clear hcast;go_wp2_with fail;have ea : zqe (wr.setRow (w.heap.size) ((zqap (AA T (m / 64)) (putT (zqep T m) r c q) ((m : Int) + (c : Int))))) (w.heap.size) = some (.cells (zqap (AA T (m / 64)) (putT (zqep T m) r c q) ((m : Int) + (c : Int))) 201) := zqq _ (fa);have er : zqe (wr.setRow (w.heap.size) ((zqap (AA T (m / 64)) (putT (zqep T m) r c q) ((m : Int) + (c : Int))))) (w.heap.size + 1) = some (.cells (zqap (zqd) (zqd) (0)) 201) := zqk _ _ (fr) (by first | assumption | omega | simp)
    have eS : zqe (wr.setRow (w.heap.size) ((zqap (AA T (m / 64)) (putT (zqep T m) r c q) ((m : Int) + (c : Int))))) (1) = some (.cells (ints .u32 8 sqF) ts) := zqk _ _ (fS) (by first | assumption | omega | simp);have eC : zqe (wr.setRow (w.heap.size) ((zqap (AA T (m / 64)) (putT (zqep T m) r c q) ((m : Int) + (c : Int))))) (2) = some (.cells (ints .u32 64 zqfa) tc) := zqk _ _ (fC) (by first | assumption | omega | simp);clear fa lfa fr lfr fS lfS fC lfC;replace hG : Below w.heap.size w (wr.setRow (w.heap.size) ((zqap (AA T (m / 64)) (putT (zqep T m) r c q) ((m : Int) + (c : Int))))) := by exact zqf
    generalize wr.setRow (w.heap.size) ((zqap (AA T (m / 64)) (putT (zqep T m) r c q) ((m : Int) + (c : Int)))) = w2 at *;have fa := ea;have fr := er;have fS := eS;have fC := eC;clear ea er eS eC;have lfa := zqa fa;have lfr := zqa fr;have lfS := zqa fS;have lfC := zqa fC;go_wp2_with fail
    (refine (zqrk _ _ _ A1.out A2.out ⟨⟨ts, fS⟩, tc, fC⟩).mono ?_; rintro e w3 ⟨rfl, hb⟩; replace fa : zqe w3 (w.heap.size) = some (.cells (zqap (AA T (m / 64)) (putT (zqep T m) r c q) ((m : Int) + (c : Int))) 201) := zqc hb (by exact zqh); have lfa := zqa fa; replace fr : zqe w3 (w.heap.size + 1) = some (.cells (zqap (zqd) (zqd) (0)) 201) := zqc hb (by exact zqh); have lfr := zqa fr; replace fS : zqe w3 (1) = some (.cells (ints .u32 8 sqF) ts) := zqc hb (by exact zqh); have lfS := zqa fS; replace fC : zqe w3 (2) = some (.cells (ints .u32 64 zqfa) tc) := zqc hb (by exact zqh); have lfC := zqa fC; replace hG : Below w.heap.size w w3 := Grew.trans (by exact zqf) hb; clear hb)
    go_wp2
    go_roundw
    case rel => exact ⟨k + c, q.extract c q.size, by omega, rfl, HQ2, by exact zqf, by rw [<- S.out]; exact zqh, by exact zqh, by exact zqh, by exact zqh⟩
    case measure => show (q.extract c q.size).size < q.size; omega
   ·have hbo : ((r : Int) + (c : Int) == 64) = false := by simp; omega
    have S : Hid (zqap (AA T (m / 64)) (putT (zqep T m) r c q) ((m : Int) + (c : Int)) = zqbv T (n + (k + c))) := by
     have := zqw7 (T := T) (q := q) (c := c) HR.out (by omega) fun i hi => HQ.out i (by omega);rw [hcast, <- hm, Nat.add_assoc] at this;rw [<- hm]; exact this
    clear hcast;go_wp2
    go_roundw
    case rel => exact ⟨k + c, q.extract c q.size, by omega, rfl, HQ2, by exact zqf, by rw [<- S.out]; exact zqh, by exact zqh, by exact zqh, by exact zqh⟩
    case measure => show (q.extract c q.size).size < q.size; omega
  ·have hq0 : q.size = 0 := by omega
   obtain rfl : k = p.size := by omega
   clear hlt HQ HB;go_wp2;refine zqag rfl _ 201 _ (0, 0) _ rfl (zqq _ fr) Tryz.underlying201 rfl (by rw [zqjv]; kernel_rfl) rfl ⟨rfl, by exact zqf⟩
end Go.Proofs.YtfglcifnjaknnaaGreatDoor
