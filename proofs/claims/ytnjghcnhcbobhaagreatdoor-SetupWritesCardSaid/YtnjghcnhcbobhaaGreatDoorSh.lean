/- Sh -/
import Derived.Test.YtnjghcnhcbobhaaGreatDoorSt
import Derived.Test.YtnjghcnhcbobhaaGreatDoorSm
set_option linter.unusedVariables false
set_option linter.unusedSimpArgs false
set_option maxRecDepth 100000
set_option maxHeartbeats 4000000
namespace Go.Proofs.YtnjghcnhcbobhaaGreatDoor
open Go.RowKit
def AA (T : Nat -> Int) : Nat -> Nat -> Int
 | 0 => zqg
 | j + 1 => thr (AA T j) (fun i => T (64 * j + i))
def zqfd (T : Nat -> Int) (n : Nat) : Nat -> Int := fun i => if i < n % 64 then T (64 * (n / 64) + i) else 0
def zqb3 (T : Nat -> Int) (n : Nat) : Array Value := zqav (AA T (n / 64)) (zqfd T n) n
@[go_sem] theorem zqi7 (T : Nat -> Int) (n : Nat) : (zqb3 T n).size = 73 := zqba _ _ _
@[go_sem] theorem zq01 (T : Nat -> Int) (n : Nat) : zqak (zqb3 T n) = true := zqz3 _ _ _
theorem zq37 {B B' : Nat -> Int} (h : ∀ i, i < 64 -> B i = B' i) (t : Nat) (ht : t < 16) : wd B t = wd B' t := by
 unfold wd;rw [h _ (by omega), h _ (by omega), h _ (by omega), h _ (by omega)]
theorem zqrb {B B' : Nat -> Int} (h : ∀ i, i < 64 -> B i = B' i) : ∀ t, sch B t = sch B' t
 | 0 => rfl
 | t + 1 => by
  have e : zqgr B (sch B' t) t = zqgr B' (sch B' t) t := by
   unfold zqgr
   split
   ·rename_i ht; exact zq37 h t ht
   ·rfl
  show upd (sch B t) t (zqgr B (sch B t) t) = upd (sch B' t) t (zqgr B' (sch B' t) t)
  rw [zqrb h t, e]
theorem zqp3 (A : Nat -> Int) {B B' : Nat -> Int} (h : ∀ i, i < 64 -> B i = B' i) : thr A B = thr A B' := by
 unfold thr;rw [zqrb h]
theorem zqvr (T : Nat -> Int) : ∀ j i, W32 (AA T j i)
 | 0, i => ⟨by simp [AA, zqg], by simp [AA, zqg]⟩
 | j + 1, i => zqh2 _
theorem zquv {T T' : Nat -> Int} : ∀ j, (∀ i, i < 64 * j -> T i = T' i) -> AA T j = AA T' j
 | 0, _ => rfl
 | j + 1, h => by
  show thr (AA T j) _ = thr (AA T' j) _
  rw [zquv j fun i hi => h i (by omega)];exact zqp3 _ fun i hi => h _ (by omega)
theorem zqlx {T T' : Nat -> Int} (n : Nat) (h : ∀ i, i < n -> T i = T' i) : zqb3 T n = zqb3 T' n := by
 unfold zqb3;rw [zquv (n / 64) fun i hi => h i (by omega)];exact zqhy (fun _ _ => rfl) fun i hi => by
  unfold zqfd
  split
  ·exact h _ (by omega)
  ·rfl
theorem zqwk {T : Nat -> Int} {m r c : Nat} {q : ByteArray} (hr : m % 64 = r) (hc : r + c < 64) (hq : ∀ i, i < c -> byteAt q i = T (m + i)) : zqav (AA T (m / 64)) (putT (zqfd T m) r c q) ((m + c : Nat) : Int) = zqb3 T (m + c) := by
 have e : (m + c) / 64 = m / 64 := by omega
 unfold zqb3;rw [e];refine zqhy (fun _ _ => rfl) fun i hi => ?_
 unfold putT zqfd;rw [e, show (m + c) % 64 = r + c by omega, hr]
 by_cases h1 : r <= i /\ i < r + c
 ·rw [if_pos h1, if_pos h1.2, hq _ (by omega)]
  congr 1; omega
 ·rw [if_neg h1]
  by_cases h2 : i < r
  ·rw [if_pos h2, if_pos (by omega)]
  ·rw [if_neg h2, if_neg (by omega)]
theorem zqx8 {T : Nat -> Int} {m r c : Nat} {q : ByteArray} (hr : m % 64 = r) (hc : r + c = 64) (hq : ∀ i, i < c -> byteAt q i = T (m + i)) : zqav (thr (AA T (m / 64)) (putT (zqfd T m) r c q)) zqg ((m + c : Nat) : Int) = zqb3 T (m + c) := by
 have e : (m + c) / 64 = m / 64 + 1 := by omega
 unfold zqb3;rw [e];have ht : thr (AA T (m / 64)) (putT (zqfd T m) r c q) = AA T (m / 64 + 1) := by
  refine zqp3 _ fun i hi => ?_
  unfold putT zqfd
  by_cases h1 : r <= i /\ i < r + c
  ·rw [if_pos h1, hq _ (by omega)]; congr 1; omega
  ·rw [if_neg h1, if_pos (by omega)]
 rw [ht];refine zqhy (fun _ _ => rfl) fun i hi => ?_
 unfold zqfd;rw [show (m + c) % 64 = 0 by omega, if_neg (by omega)]; rfl
theorem zqzf {T : Nat -> Int} {m r c : Nat} {q : ByteArray} (hb : ∀ i, i < m -> 0 <= T i /\ T i <= 255) (hr : m % 64 = r) (hq : c <= q.size) : Bytes 64 (putT (zqfd T m) r c q) := fun i hi => by
 unfold putT zqfd
 split
 ·exact zqkc q _ (by omega)
 ·split
  ·exact hb _ (by omega)
  ·exact ⟨by decide, by decide⟩
theorem zqnb (q : ByteArray) (c i : Nat) (h : c + i < q.size) : byteAt (q.extract c q.size) i = byteAt q (c + i) := by
 have h2 : i < (q.extract c q.size).size := by rw [ByteArray.size_extract]; omega
 unfold byteAt;rw [dif_pos h, dif_pos h2]
 congr 2
 exact ByteArray.getElem_extract h2
theorem zqu6 (T : Nat -> Int) (n : Nat) (p : ByteArray) (w : World) (hn : n + p.size < 4611686018427387904) (hb : ∀ i, i < n + p.size -> 0 <= T i /\ T i <= 255) (hp : ∀ i, i < p.size -> byteAt p i = T (n + i)) (hT : Tabs w) :
  Calls Tryz.prog 140 #[.agg (zqb3 T n), .string p] w (Rt w (.agg (zqb3 T (n + p.size)))) := by
 obtain ⟨⟨ts, fS⟩, tc, fC⟩ := hT;have l0S := zqa fS;have l0C := zqa fC;have hG := Grew.refl w;have fa : True := trivial;have fr : True := trivial
 go_enter Tryz.func140, Tryz.ntmps140
 have HP : Hid (∀ i, i < p.size -> byteAt p i = T (n + i)) := hp;have HB : Hid (∀ i, i < n + p.size -> 0 <= T i /\ T i <= 255) := hb;clear hp hb;go_wp2_with fail;generalize hW : (w.alloc (.cells (zqb3 T n) 195)).alloc (.cells (zqav (zqg) (zqg) (0)) 195) = w1;replace fa : zqd w1 (w.heap.size) = some (.cells (zqb3 T n) 195) := zq0 hW;replace fr : zqd w1 (w.heap.size + 1) = some (.cells (zqav (zqg) (zqg) (0)) 195) := zq0 hW;replace fS : zqd w1 (1) = some (.cells (ints .u32 8 sqF) ts) := zq0 hW;replace fC : zqd w1 (2) = some (.cells (ints .u32 64 zqfo) tc) := zq0 hW;replace hG : Below w.heap.size w w1 := zqay hW;clear hW;have lfa := zqa fa;have lfr := zqa fr;have lfS := zqa fS;have lfC := zqa fC;go_wp2_with fail
 go_loopw [1] (fun v wr => ∃ (k : Nat) (q : ByteArray), k + q.size = p.size /\ v = .string q /\ Hid (∀ i, i < q.size -> byteAt q i = T (n + k + i)) /\ Below w.heap.size w wr /\ zqd wr (w.heap.size) = some (.cells (zqb3 T (n + k)) 195) /\ zqd wr (w.heap.size + 1) = some (.cells (zqav (zqg) (zqg) (0)) 195) /\ zqd wr (1) = some (.cells (ints .u32 8 sqF) ts) /\ zqd wr (2) = some (.cells (ints .u32 64 zqfo) tc)) (fun v _ => match v with | .string q => q.size | _ => 0)
 case atStart => exact ⟨0, p, by omega, rfl, HP, hG, fa, fr, fS, fC⟩
 case round =>
  clear fa lfa fr lfr fS lfS fC lfC hG HP;obtain ⟨k, q, hk, rfl, HQ, hG, fa, fr, fS, fC⟩ := hrel;have lfa := zqa fa;have lfr := zqa fr;have lfS := zqa fS;have lfC := zqa fC
  by_cases hlt : 0 < q.size
  ·have hmm : n + k + q.size = n + p.size := by omega
   have HB' : Hid (∀ i, i < n + k + q.size -> 0 <= T i /\ T i <= 255) := by rw [hmm]; exact HB
   clear HB;unfold zqb3 at fa;generalize hm : n + k = m at *;obtain ⟨r, hr⟩ : ∃ r, m % 64 = r := ⟨_, rfl⟩
   have hr64 : r < 64 := by omega
   have hri : (m : Int) % 64 = (r : Int) := by omega
   obtain ⟨c, hc⟩ : ∃ c, min q.size (64 - r) = c := ⟨_, rfl⟩
   have hcq : c <= q.size := by omega
   have hrc : r + c <= 64 := by omega
   have HR : Hid (m % 64 = r) := hr;clear hr;have hq2 : (q.extract c q.size).size = q.size - c := by rw [ByteArray.size_extract, Nat.min_self]
   have HQ2 : Hid (∀ i, i < (q.extract c q.size).size -> byteAt (q.extract c q.size) i = T (n + (k + c) + i)) := fun i hi => by
    rw [zqnb q c i (by omega), HQ.out _ (by omega)]; congr 1; omega
   have hcast : ((m + c : Nat) : Int) = (m : Int) + (c : Int) := by omega
   by_cases hfull : r + c = 64
   ·have hbo : ((r : Int) + (c : Int) == 64) = true := by simp; omega
    have S : Hid (zqav (thr (AA T (m / 64)) (putT (zqfd T m) r c q)) zqg ((m : Int) + (c : Int)) = zqb3 T (n + (k + c))) := by
     have := zqx8 (T := T) (q := q) (c := c) HR.out hfull fun i hi => HQ.out i (by omega);rw [hcast, <- hm, Nat.add_assoc] at this;rw [<- hm]; exact this
    have A1 : Hid (Words 8 (AA T (m / 64))) := fun i _ => zqvr T _ i;have A2 : Hid (Bytes 64 (putT (zqfd T m) r c q)) := zqzf (fun i hi => HB'.out i (by omega)) HR.out hcq;clear hcast;go_wp2_with fail;have ea : zqd (wr.setRow (w.heap.size) ((zqav (AA T (m / 64)) (putT (zqfd T m) r c q) ((m : Int) + (c : Int))))) (w.heap.size) = some (.cells (zqav (AA T (m / 64)) (putT (zqfd T m) r c q) ((m : Int) + (c : Int))) 195) := zqs _ (fa);have er : zqd (wr.setRow (w.heap.size) ((zqav (AA T (m / 64)) (putT (zqfd T m) r c q) ((m : Int) + (c : Int))))) (w.heap.size + 1) = some (.cells (zqav (zqg) (zqg) (0)) 195) := zqn _ _ (fr) (by first | assumption | omega | simp)
    have eS : zqd (wr.setRow (w.heap.size) ((zqav (AA T (m / 64)) (putT (zqfd T m) r c q) ((m : Int) + (c : Int))))) (1) = some (.cells (ints .u32 8 sqF) ts) := zqn _ _ (fS) (by first | assumption | omega | simp);have eC : zqd (wr.setRow (w.heap.size) ((zqav (AA T (m / 64)) (putT (zqfd T m) r c q) ((m : Int) + (c : Int))))) (2) = some (.cells (ints .u32 64 zqfo) tc) := zqn _ _ (fC) (by first | assumption | omega | simp);clear fa lfa fr lfr fS lfS fC lfC;replace hG : Below w.heap.size w (wr.setRow (w.heap.size) ((zqav (AA T (m / 64)) (putT (zqfd T m) r c q) ((m : Int) + (c : Int))))) := by exact zqe
    generalize wr.setRow (w.heap.size) ((zqav (AA T (m / 64)) (putT (zqfd T m) r c q) ((m : Int) + (c : Int)))) = w2 at *;have fa := ea;have fr := er;have fS := eS;have fC := eC;clear ea er eS eC;have lfa := zqa fa;have lfr := zqa fr;have lfS := zqa fS;have lfC := zqa fC;go_wp2_with fail
    (refine (zquh _ _ _ A1.out A2.out ⟨⟨ts, fS⟩, tc, fC⟩).mono ?_; rintro e w3 ⟨rfl, hb⟩; replace fa : zqd w3 (w.heap.size) = some (.cells (zqav (AA T (m / 64)) (putT (zqfd T m) r c q) ((m : Int) + (c : Int))) 195) := zqb hb (by exact zqh); have lfa := zqa fa; replace fr : zqd w3 (w.heap.size + 1) = some (.cells (zqav (zqg) (zqg) (0)) 195) := zqb hb (by exact zqh); have lfr := zqa fr; replace fS : zqd w3 (1) = some (.cells (ints .u32 8 sqF) ts) := zqb hb (by exact zqh); have lfS := zqa fS; replace fC : zqd w3 (2) = some (.cells (ints .u32 64 zqfo) tc) := zqb hb (by exact zqh); have lfC := zqa fC; replace hG : Below w.heap.size w w3 := Grew.trans (by exact zqe) hb; clear hb)
    go_wp2
    go_roundw
    case rel => exact ⟨k + c, q.extract c q.size, by omega, rfl, HQ2, by exact zqe, by rw [<- S.out]; exact zqh, by exact zqh, by exact zqh, by exact zqh⟩
    case measure => show (q.extract c q.size).size < q.size; omega
   ·have hbo : ((r : Int) + (c : Int) == 64) = false := by simp; omega
    have S : Hid (zqav (AA T (m / 64)) (putT (zqfd T m) r c q) ((m : Int) + (c : Int)) = zqb3 T (n + (k + c))) := by
     have := zqwk (T := T) (q := q) (c := c) HR.out (by omega) fun i hi => HQ.out i (by omega);rw [hcast, <- hm, Nat.add_assoc] at this;rw [<- hm]; exact this
    clear hcast;go_wp2
    go_roundw
    case rel => exact ⟨k + c, q.extract c q.size, by omega, rfl, HQ2, by exact zqe, by rw [<- S.out]; exact zqh, by exact zqh, by exact zqh, by exact zqh⟩
    case measure => show (q.extract c q.size).size < q.size; omega
  ·have hq0 : q.size = 0 := by omega
   obtain rfl : k = p.size := by omega
   clear hlt HQ HB;go_wp2;refine zqap rfl _ 195 _ (0, 0) _ rfl (zqs _ fr) Tryz.underlying195 rfl (by rw [zqi7]; kernel_rfl) rfl ⟨rfl, by exact zqe⟩
end Go.Proofs.YtnjghcnhcbobhaaGreatDoor
