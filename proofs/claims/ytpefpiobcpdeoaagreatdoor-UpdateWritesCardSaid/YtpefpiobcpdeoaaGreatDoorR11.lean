/- R11 -/
import Derived.Test.YtpefpiobcpdeoaaGreatDoorNds
import Derived.Test.YtpefpiobcpdeoaaGreatDoorFrame
set_option linter.unusedVariables false
set_option linter.unusedSimpArgs false
set_option maxRecDepth 100000
set_option maxHeartbeats 4000000
namespace Go.Proofs.YtpefpiobcpdeoaaGreatDoor
open Go.RowKit
theorem zqdl (g j : Nat) : (⟨g, j, none⟩ : Addr) = (⟨g, 0, none⟩ : Addr).add j := by unfold Addr.add; split <;> simp_all
theorem zqf7 {t e : TypeId} {i : TypeInfo} {z : Value} (size bytes : Nat) (ht : Tryz.prog.underlying t = some (.slice e)) (hi : Tryz.prog.info? e = some i) (hz : i.zero = some z) (hsize : i.size = size) (hby : i.bytes = bytes) (hzs : z.cells.size = size) (hsz : 0 < size) (hb8 : bytes <= 4096)
  (ty : TypeId) (w W : World) (base : Nat) (v : Value) (n : Nat) (xs : List Value) (ad : Addr) (m c : Nat) (news : List Value) (own : W.ownsRow base e size v n xs) (hn : n + m <= 1073741824) (hm : 0 < m)
  (hl : news.length = m * size) (hnews : ∀ j u, news[j]? = some u -> W.cell? (ad.add j) = some u) (h1 : ∀ u ∈ news, u.oneCell' = true) (hG : Below w.heap.size w W) (hwb : w.heap.size <= base) (hbW : base <= W.heap.size) :
  ∃ g cap w', (zqy #[t, t] ty #[v, .slice (some ad) m c]).run Tryz.prog W = .ok (.value (.slice (some ⟨g, 0, none⟩) (n + m) cap)) w' /\ w'.ownsRow base e size (.slice (some ⟨g, 0, none⟩) (n + m) cap) (n + m) (xs ++ news) /\
   Below w.heap.size w w' /\ (∀ m o, m < base -> zqd W m = some o -> zqd w' m = some o) /\ base <= g := by
 have hbn : (n + m) * bytes <= 140737488355328 := Nat.le_trans (Nat.mul_le_mul hn hb8) (by decide);obtain ⟨g, cap, w', hr, ho, hg, _, _⟩ := run_append_lies (P := Tryz.prog) W t ty base e i z size bytes ht hi hz hsize hby hzs hsz v n xs own ad m c news hl hnews h1 hm (by unfold maxLen; omega) hbn hbW W.heap.size rfl;obtain ⟨h2, h3⟩ := zqmo own hg hG hwb;exact ⟨g, cap, w', by unfold zqy; simp only [Sem.run_bind, hr, Result.andThen_ok, Sem.run_pure], ho, h2, h3, (ho.lt g rfl).1⟩
theorem zqy4 {w : World} {base g n size : Nat} {e : TypeId} {cs : Array Value} (h : zqd w g = some (.cells cs e)) (hb : base <= g) (hs : cs.size = n * size) (hn : n <= maxLen) : w.ownsRow base e size (.slice (some ⟨g, 0, none⟩) n n) n cs.toList :=
 ⟨by rw [Array.length_toList, hs], .inr ⟨g, n, cs, rfl, hb, h, Nat.le_refl _, hn, hs, by rw [List.take_of_length_le]; rw [Array.length_toList, hs]; exact Nat.le_refl _⟩⟩
theorem zquv {w : World} {base base' n size : Nat} {e : TypeId} {v : Value} {xs : List Value} (h : w.ownsRow base e size v n xs) (hb : base' <= base) : w.ownsRow base' e size v n xs := by
 rcases h with ⟨h1, h2 | ⟨g, cap, cur, hv, hg, rest⟩⟩
 ·exact ⟨h1, .inl h2⟩
 ·exact ⟨h1, .inr ⟨g, cap, cur, hv, Nat.le_trans hb hg, rest⟩⟩
@[go_sem ↓ high] theorem zq34 (ty : TypeId) (cs : Array Bool) (args : Array Value) : builtin .append #[153, 153] ty cs args = zqy #[153, 153] ty args := by unfold zqy; rfl
theorem zqg6 (w W : World) (ty : TypeId) (base : Nat) (v : Value) (n : Nat) (xs : List Value) (ad : Addr) (m c : Nat) (news : List Value) (own : W.ownsRow base 68 2 v n xs) (hn : n + m <= 1073741824) (hm : 0 < m)
  (hl : news.length = m * 2) (hnews : ∀ j u, news[j]? = some u -> W.cell? (ad.add j) = some u) (h1 : ∀ u ∈ news, u.oneCell' = true) (hG : Below w.heap.size w W) (hwb : w.heap.size <= base) (hbW : base <= W.heap.size) :
  ∃ g cap w', (zqy #[153, 153] ty #[v, .slice (some ad) m c]).run Tryz.prog W = .ok (.value (.slice (some ⟨g, 0, none⟩) (n + m) cap)) w' /\ w'.ownsRow base 68 2 (.slice (some ⟨g, 0, none⟩) (n + m) cap) (n + m) (xs ++ news) /\
   Below w.heap.size w w' /\ (∀ m o, m < base -> zqd W m = some o -> zqd w' m = some o) /\ base <= g :=
 zqf7 (i := (Tryz.prog.info? 68).get zqb) (z := ((Tryz.prog.info? 68).get zqb).zero.get zqb) 2 16 Tryz.underlying153 zqb zqb zqb zqb zqb (by decide) (by decide) ty w W base v n xs ad m c news own hn hm hl hnews h1 hG hwb hbW
theorem zqyv (n : Int) (w : World) (hn : n <= 1099511627776) :
  Calls Tryz.prog 132 #[.int .i64 n] w (Rt w (.int .i64 (zqv n.toNat : Nat))) := by
 by_cases h2 : n < 2
 case pos =>
  rw [zqrt (by omega : n.toNat < 2)];have hG := Grew.refl w
  go_enter Tryz.func132, Tryz.ntmps132
  go_wp2;go_ret;exact ⟨rfl, by exact zqf⟩
 obtain ⟨N, rfl⟩ := Int.eq_ofNat_of_zero_le (show 0 <= n by omega);rw [show ((N : Int)).toNat = N by omega];have hL : Hid (∀ j, 2 ^ j < N -> N <= 2 * 2 ^ j -> zqv N = 2 ^ j) := fun j a b => zql3 a b;generalize zqv N = L at *
 go_enter Tryz.func132, Tryz.ntmps132
 go_wp2_with fail
 go_loopw [3] (fun v wr => ∃ j k : Nat, k = 2 ^ j /\ k < N /\ v = .int .i64 k /\ wr = w) (fun v _ => N - (intOf v).toNat)
 case atStart => exact ⟨0, 1, rfl, by omega, rfl, rfl⟩
 case round =>
  obtain ⟨j, k, hj, hk, rfl, rfl⟩ := hrel;have hk0 : 0 < k := by rw [hj]; exact Nat.two_pow_pos j
  have hj2 : Hid (2 * k = 2 ^ (j + 1)) := by show _ = _; rw [hj, Nat.pow_succ]; omega
  by_cases hlt : 2 * k < N
  ·have hi : 2 * (k : Int) < (N : Int) := by omega
   clear hj;go_wp2
   go_roundw
   case rel => exact ⟨j + 1, 2 * k, hj2.out, hlt, by go_num, trivial⟩
   case measure => simp [intOf]; omega
  ·have hi : ¬ (2 * (k : Int) < (N : Int)) := by omega
   have e := hL.out j (by omega) (by omega);rw [<- hj] at e;subst e;clear hj hj2;go_wp2;go_ret;exact ⟨rfl, Grew.refl _⟩
theorem zq5t (f s : Nat) (j : Int) (w : World) (hf : f <= 2199023255552) (hs : s <= 2199023255552) :
  Calls Tryz.prog 158 #[.agg #[.int .i64 (f : Int), .int .i64 (s : Int)], .int .i64 j] w (Rt w (.bool (decide ((f : Int) <= j /\ j < (f : Int) + (s : Int))))) := by
 have hG := Grew.refl w
 by_cases h1 : (f : Int) <= j
 ·by_cases h2 : j < (f : Int) + (s : Int)
  ·rw [decide_eq_true ⟨h1, h2⟩]
   go_enter Tryz.func158, Tryz.ntmps158
   go_wp2;go_ret;exact ⟨rfl, by exact zqf⟩
  ·rw [decide_eq_false (fun h => h2 h.2)]
   go_enter Tryz.func158, Tryz.ntmps158
   go_wp2;go_ret;exact ⟨rfl, by exact zqf⟩
 ·rw [decide_eq_false (fun h => h1 h.1)]
  go_enter Tryz.func158, Tryz.ntmps158
  go_wp2;go_ret;exact ⟨rfl, by exact zqf⟩
theorem zqwx (s : Nat) : ∀ (f : Nat) (w : World), 1 <= s -> f + s <= 1024 ->
  Calls Tryz.prog 156 #[.agg #[.int .i64 ((f : Nat) : Int), .int .i64 ((s : Nat) : Int)]] w fun e w' => ∃ g c, e = .returned (.slice (some ⟨g, 0, none⟩) (2 * s - 1) c) /\ w'.ownsRow w.heap.size 68 2 (.slice (some ⟨g, 0, none⟩) (2 * s - 1) c) (2 * s - 1) (ndsL (zqab f s)) /\ Below w.heap.size w w' := by
 induction s using Nat.strongRecOn with
 | _ s ih =>
  intro f w h1 h2;have hG := Grew.refl w
  by_cases hs : s < 2
  ·obtain rfl : s = 1 := by omega
   rw [zqby (by decide)]
   go_enter Tryz.func156, Tryz.ntmps156
   go_wp2;go_ret;exact ⟨_, _, rfl, zqy4 (cs := #[.int .i64 f, .int .i64 (1 : Nat)]) (zqg _ _ _ (by simp)) (by simp) rfl (by unfold maxLen; omega), by exact zqf⟩
  ·have hb := zqcg (n := s) (by omega)
   have cl := fun W : World => zqyv (s : Int) W (by omega);rw [show ((s : Int)).toNat = s by omega] at cl;have iL := fun W : World => ih (zqv s) (by omega) f W (by omega) (by omega);have iR := fun W : World => ih (s - zqv s) (by omega) (f + zqv s) W (by omega) (by omega);have hL : Hid (ndsL (zqab f s) = ndsL [⟨f, s⟩] ++ ndsL (zqab f (zqv s)) ++ ndsL (zqab (f + zqv s) (s - zqv s))) := by
    show _ = _
    rw [zqbg (by omega), <- zqea, <- zqea]; rfl
   have n1 : (ndsL (zqab f (zqv s))).length = (2 * zqv s - 1) * 2 := by rw [zqlg, zqbz _ _ (by omega)]
   have n2 : (ndsL (zqab (f + zqv s) (s - zqv s))).length = (2 * (s - zqv s) - 1) * 2 := by rw [zqlg, zqbz _ _ (by omega)]
   have o1 := zqrq (zqab f (zqv s));have o2 := zqrq (zqab (f + zqv s) (s - zqv s));have hsz : 1 + (2 * zqv s - 1) + (2 * (s - zqv s) - 1) = 2 * s - 1 := by omega
   have hsi : ((s - zqv s : Nat) : Int) = (s : Int) - (zqv s : Int) := by omega
   have hfi : ((f + zqv s : Nat) : Int) = (f : Int) + (zqv s : Int) := by omega
   rw [hsi, hfi] at iR;generalize ndsL (zqab f s) = A0 at *;generalize ndsL (zqab f (zqv s)) = A1 at *;generalize ndsL (zqab (f + zqv s) (s - zqv s)) = A2 at *;generalize zqv s = L at *;clear ih hsi hfi;have hgt : (1 : Int) < (s : Int) := by omega
   go_enter Tryz.func156, Tryz.ntmps156
   go_wp2_with fail;refine (cl _).mono ?_
   rintro e w1 ⟨rfl, hb1⟩;have hgg := Grew.trans (by exact zqf) hb1;have fbx : zqd w1 w.heap.size = some (.cells #[.int .i64 f, .int .i64 s] 68) := zqc hb1 (by exact zqh);have fou : zqd w1 (w.heap.size + 1) = some (.cells #[.int .i64 f, .int .i64 s] 68) := zqc hb1 (by exact zqh);have OUT : Hid (w1.ownsRow (w.heap.size + 1) 68 2 (.slice (some ⟨w.heap.size + 1, 0, none⟩) 1 1) 1 (ndsL [⟨f, s⟩])) := zqy4 (cs := #[.int .i64 f, .int .i64 s]) fou (Nat.le_refl _) rfl (by unfold maxLen; omega);have hG1 : Below w.heap.size w w1 := Grew.trans (by exact zqf) hb1;clear hb1 fou hgg cl;generalize ndsL [⟨f, s⟩] = A3 at *;have lbx := zqa fbx;go_wp2_with fail;refine (iL _).mono ?_
   rintro e w2 ⟨g2, c2, rfl, own2, hb2⟩;obtain ⟨g3, c3, w3, hr3, own3, hb3, kp3, _⟩ := zqg6 w w2 153 (w.heap.size + 1) _ 1 A3 ⟨g2, 0, none⟩ (2 * L - 1) c2 A1 (zqc2 OUT.out hb2) (by omega) (by omega) n1 (fun j u hu => (zqdl g2 j ▸ (zqow own2 j u hu).2 _ (Below.refl _ _))) o1 (Grew.trans hG1 hb2) (by omega) (by have := hb2.size; omega);have fbx3 := kp3 _ _ (Nat.lt_succ_self _) (zqc hb2 fbx);have OUT3 : Hid (w3.ownsRow (w.heap.size + 1) 68 2 (.slice (some ⟨g3, 0, none⟩) (1 + (2 * L - 1)) c3) (1 + (2 * L - 1)) (A3 ++ A1)) := own3;clear own3 own2 hb2 OUT fbx lbx kp3 hG1 o1 n1 iL;have lbx := zqa fbx3;go_wp2_with fail;refine (iR _).mono ?_
   rintro e w4 ⟨g4, c4, rfl, own4, hb4⟩;obtain ⟨g5, c5, w5, hr5, own5, hb5, kp5, hg5⟩ := zqg6 w w4 153 (w.heap.size + 1) _ _ (A3 ++ A1) ⟨g4, 0, none⟩ (2 * (s - L) - 1) c4 A2 (zqc2 OUT3.out hb4) (by omega) (by omega) n2 (fun j u hu => (zqdl g4 j ▸ (zqow own4 j u hu).2 _ (Below.refl _ _))) o2 (Grew.trans hb3 hb4) (by omega) (by have := hb4.size; omega);have OUT5 := zquv own5 (Nat.le_succ w.heap.size);rw [hsz, <- hL.out] at OUT5;clear own5 own4 kp5 hr3;go_wp2;go_ret;exact ⟨g5, c5, rfl, OUT5, hb5⟩
def zqm7 (w : World) (L : List Nd) (e : Ending) (w' : World) : Prop := ∃ oa c, e = .returned (.slice oa L.length c) /\ NdsAt w' oa L /\ Below w.heap.size w w'
def allN (n : Int) : List Nd := if 1 <= n /\ n <= 1024 then zqab 0 n.toNat else []
theorem zqgo {n : Nat} (h1 : 1 <= n) (h2 : n <= 1024) : allN n = zqab 0 n := by unfold allN; rw [if_pos (by omega)]; rfl
theorem zqk9 {n : Int} (h : ¬ (1 <= n /\ n <= 1024)) : allN n = [] := by unfold allN; rw [if_neg h]
theorem all_in (n : Int) (v : Nd) (h : v ∈ allN n) : v.f <= 1024 /\ v.s <= 1024 := by
 unfold allN at h
 split at h
 ·have := zqdw _ _ v h
  omega
 ·cases h
theorem zqz0 (n : Int) : (allN n).length <= 2047 := by
 unfold allN
 split
 ·rw [zqbz _ _ (by omega)]; omega
 ·simp
theorem zq4x (n : Int) (w : World) :
  Calls Tryz.prog 129 #[.int .i64 n] w (zqm7 w (allN n)) := by
 have hG := Grew.refl w
 by_cases h : 1 <= n /\ n <= 1024
 case neg =>
  rw [zqk9 h]
  by_cases h1 : n < 1
  ·go_enter Tryz.func129, Tryz.ntmps129
   go_wp2;go_ret;exact ⟨none, 0, rfl, .inl rfl, by exact zqf⟩
  ·have h2 : 1024 < n := by omega
   go_enter Tryz.func129, Tryz.ntmps129
   go_wp2;go_ret;exact ⟨none, 0, rfl, .inl rfl, by exact zqf⟩
 obtain ⟨N, rfl⟩ := Int.eq_ofNat_of_zero_le (show 0 <= n by omega);obtain ⟨h1, h2⟩ := h;rw [zqgo (by omega) (by omega)];have hl := zqbz 0 N (by omega);have c1 := fun W : World => zqwx N 0 W (by omega) (by omega);rw [<- hl] at c1;generalize zqab 0 N = L at *;clear hl
 go_enter Tryz.func129, Tryz.ntmps129
 go_wp2_with fail;refine (c1 _).mono ?_
 rintro e w1 ⟨g, c, rfl, own, hb⟩;obtain ⟨oa, c', e1, hN, _⟩ := zqoe own;have hG1 : Below w.heap.size w w1 := Grew.trans (by exact zqf) hb;clear own hb
 cases e1
 go_wp2;go_ret;exact ⟨_, _, rfl, hN, hG1⟩
def idxN (f s : Nat) : List Nd -> Nat -> Int
 | [], _ => -1
 | u :: l, k => if u.f = f /\ u.s = s then (k : Int) else idxN f s l (k + 1)
theorem drop_at {L : List Nd} {k : Nat} {u : Nd} (h : L[k]? = some u) : L.drop k = u :: L.drop (k + 1) := by
 obtain ⟨hk, e⟩ := List.getElem?_eq_some_iff.1 h
 rw [<- e];exact List.drop_eq_getElem_cons hk
theorem zq8e {f s k : Nat} {u : Nd} {L : List Nd} (h : L[k]? = some u) (he : u.f = f /\ u.s = s) : idxN f s (L.drop k) k = k := by rw [drop_at h, idxN, if_pos he]
theorem zq4v {f s k : Nat} {u : Nd} {L : List Nd} (h : L[k]? = some u) (he : ¬ (u.f = f /\ u.s = s)) : idxN f s (L.drop k) k = idxN f s (L.drop (k + 1)) (k + 1) := by rw [drop_at h, idxN, if_neg he]
theorem zq7y {f s k : Nat} {L : List Nd} (h : L.length <= k) : idxN f s (L.drop k) k = -1 := by rw [List.drop_of_length_le h]; rfl
def idxI (f s : Int) : List Nd -> Nat -> Int
 | [], _ => -1
 | u :: l, k => if (u.f : Int) = f /\ (u.s : Int) = s then (k : Int) else idxI f s l (k + 1)
theorem zqo4 (f s : Nat) : ∀ (L : List Nd) (k : Nat), idxI f s L k = idxN f s L k
 | [], k => rfl
 | u :: L, k => by
  rw [idxI, idxN, zqo4 f s L (k + 1)]
  by_cases h : u.f = f /\ u.s = s
  ·rw [if_pos h, if_pos (by omega)]
  ·rw [if_neg h, if_neg (by omega)]
end Go.Proofs.YtpefpiobcpdeoaaGreatDoor
namespace Go.Proofs.YtpefpiobcpdeoaaGreatDoor
open Go.RowKit
theorem cell_kept {w w' : World} {g i : Nat} {v : Value} (hb : Below w.heap.size w w') (hg : g < w.heap.size) (h : cellOf (zqd w g) i = some v) : cellOf (zqd w' g) i = some v := by
 rw [show zqd w' g = zqd w g from hb.block g hg]; exact h
def hasI (n j : Int) (v : Nd) : Bool := decide (0 <= j) && decide (j < n) && decide ((v.f : Int) <= j) && decide (j < (v.f : Int) + (v.s : Int))
def zqga (n j : Int) : List Nd := (allN n).reverse.filter (hasI n j)
theorem zqzq {n j : Int} (h : ¬ (1 <= n /\ n <= 1024 /\ 0 <= j /\ j < n)) : zqga n j = [] := by
 unfold zqga
 by_cases h1 : 1 <= n /\ n <= 1024
 ·rw [List.filter_eq_nil_iff]
  intro v _ hv;unfold hasI at hv
  simp only [Bool.and_eq_true, decide_eq_true_eq] at hv
  omega
 ·rw [zqk9 h1]; rfl
theorem zqjg {n j : Nat} (h1 : 1 <= n) (h2 : n <= 1024) (hj : j < n) : zqga n j = zqee n j := by
 unfold zqga;rw [zqgo h1 h2, <- zqil n j h1 hj];refine List.filter_congr fun v _ => ?_
 rw [Bool.eq_iff_iff, zqph];unfold hasI
 simp only [Bool.and_eq_true, decide_eq_true_eq]
 omega
theorem zq1g (n j : Int) : (zqga n j).length <= 2047 := by
 unfold zqga;have h1 := List.length_filter_le (hasI n j) (allN n).reverse;rw [List.length_reverse] at h1;have h2 := zqz0 n;exact Nat.le_trans h1 h2
def doneN (p : Nd -> Bool) (L : List Nd) (k : Nat) : List Nd := (L.drop k).reverse.filter p
theorem zq30 (p : Nd -> Bool) (L : List Nd) : doneN p L L.length = [] := by unfold doneN; rw [List.drop_length]; rfl
theorem zq3i (p : Nd -> Bool) (L : List Nd) : doneN p L 0 = L.reverse.filter p := by unfold doneN; rw [List.drop_zero]
theorem zq2k {p : Nd -> Bool} {L : List Nd} {k : Nat} {u : Nd} (h : L[k]? = some u) (hp : p u = true) : doneN p L k = doneN p L (k + 1) ++ [u] := by
 unfold doneN;rw [drop_at h, List.reverse_cons, List.filter_append, List.filter_cons_of_pos hp, List.filter_nil]
theorem zqm3 {p : Nd -> Bool} {L : List Nd} {k : Nat} {u : Nd} (h : L[k]? = some u) (hp : p u = false) : doneN p L k = doneN p L (k + 1) := by
 unfold doneN;rw [drop_at h, List.reverse_cons, List.filter_append, List.filter_cons_of_neg (by rw [hp]; decide), List.filter_nil, List.append_nil]
theorem zq91 (p : Nd -> Bool) (L : List Nd) (k : Nat) : (doneN p L k).length <= L.length := by
 unfold doneN;have := List.length_filter_le p (L.drop k).reverse;rw [List.length_reverse, List.length_drop] at this
 omega
theorem zqwi (w W : World) (base : Nat) (v : Value) (l : List Nd) (u : Nd) (g2 : Nat) (own : W.ownsRow base 68 2 v l.length (ndsL l)) (hn : l.length <= 1048576)
  (hg2 : zqd W g2 = some (.cells #[.int .i64 u.f, .int .i64 u.s] 68)) (hG : Below w.heap.size w W) (hwb : w.heap.size <= base) (hbW : base <= W.heap.size) :
  ∃ g cap w', (zqy #[153, 153] 153 #[v, .slice (some ⟨g2, 0, none⟩) 1 1]).run Tryz.prog W = .ok (.value (.slice (some ⟨g, 0, none⟩) (l.length + 1) cap)) w' /\ w'.ownsRow base 68 2 (.slice (some ⟨g, 0, none⟩) (l.length + 1) cap) (l ++ [u]).length (ndsL (l ++ [u])) /\
   Below w.heap.size w w' /\ (∀ m o, m < base -> zqd W m = some o -> zqd w' m = some o) := by
 obtain ⟨g, cap, w', hr, ho, hb, hk, _⟩ := zqg6 w W 153 base v l.length (ndsL l) ⟨g2, 0, none⟩ 1 1 [.int .i64 u.f, .int .i64 u.s] own (by omega) (by decide) rfl
  (fun j x hx => by
   have ha := zqdl g2 j;rw [<- ha];unfold zqd at hg2;rw [cell_of_row W g2 j _ _ _ hg2]
   simpa using hx) (fun x hx => by simp at hx; rcases hx with rfl | rfl <;> rfl) hG hwb hbW
 refine ⟨g, cap, w', hr, ?_, hb, hk⟩;rw [<- zqlc, <- zqea] at ho;rw [List.length_append];exact ho
theorem zqy2 (n j : Int) (w : World) :
  Calls Tryz.prog 131 #[.int .i64 n, .int .i64 j] w (zqm7 w (zqga n j)) := by
 have c1 := fun W : World => zq4x n W;have hlen := zqz0 n;have hin := all_in n;have hD : Hid (doneN (hasI n j) (allN n) 0 = zqga n j) := zq3i _ _;have hE : Hid (doneN (hasI n j) (allN n) (allN n).length = []) := zq30 _ _;generalize zqga n j = R at *;generalize allN n = L at *
 go_enter Tryz.func131, Tryz.ntmps131
 go_wp2_with fail;refine (c1 _).mono ?_
 rintro e w1 ⟨oa, c, rfl, hN, hb⟩;have hG : Below w.heap.size w w1 := hb;have HN : Hid (NdsAt w1 oa L) := hN;clear hN hb c1;go_wp2_with fail
 go_loopw [5, 7] (fun v i wr => ∃ (k : Nat) (v0 : Value), v0 = v /\ k <= L.length /\ i = .int .i64 ((k : Int) - 1) /\ Below w1.heap.size w1 wr /\ Hid (wr.ownsRow w1.heap.size 68 2 v0 (doneN (hasI n j) L k).length (ndsL (doneN (hasI n j) L k)))) (fun _ i _ => (intOf i + 1).toNat)
 case atStart => exact ⟨L.length, _, rfl, by omega, by go_num, Grew.refl _, by rw [hE.out]; exact World.ownsRow_nil _ _ _ _⟩
 case round =>
  clear hE;obtain ⟨k, v0, rfl, hk, rfl, hM, OWN⟩ := hrel
  by_cases hk0 : 0 < k
  ·obtain ⟨k, rfl⟩ : ∃ m, k = m + 1 := ⟨k - 1, by omega⟩
   obtain ⟨u, hu⟩ : ∃ u, L[k]? = some u := ⟨_, List.getElem?_eq_getElem (by omega)⟩
   have hub := hin u (List.mem_of_getElem? hu)
   rcases HN.out.later hM with h0 | ⟨g, o, rfl, hg, hl⟩
   ·subst h0; simp at hk
   obtain ⟨l1, l2⟩ := hl k u hu;have l1' : cellOf (zqd wr g) (o + k * 2) = some (.int .i64 u.f) := by rw [Nat.mul_comm]; exact l1
   have l2' : cellOf (zqd wr g) (o + k * 2 + 1) = some (.int .i64 u.s) := by rw [Nat.mul_comm]; exact l2
   have ki : ((k + 1 : Nat) : Int) - 1 = (k : Int) := by omega
   have hi1 : (k : Int) < (L.length : Int) := by omega
   have hi0 : (0 : Int) <= (k : Int) := by omega
   have hit : ((k : Int)).toNat = k := by omega
   have ch := fun W : World => zq5t u.f u.s j W (by omega) (by omega);have hle := zq91 (hasI n j) L (k + 1);rw [ki];clear hl l1 l2
   by_cases a1 : 0 <= j
   ·by_cases a2 : j < n
    ·by_cases a3 : (u.f : Int) <= j /\ j < (u.f : Int) + (u.s : Int)
     ·rw [decide_eq_true a3] at ch
      have hp : hasI n j u = true := by unfold hasI; simp [a1, a2, a3.1, a3.2]
      have hnx := zq2k hu hp;generalize doneN (hasI n j) L (k + 1) = D at *;go_wp2_with fail;refine (ch _).mono ?_
      rintro e w2 ⟨rfl, hb2⟩;have hg2 := hb2.size;have l1'' := cell_kept hb2 hg l1';have l2'' := cell_kept hb2 hg l2';obtain ⟨g3, c3, w3, hr3, own3, hb3, _⟩ := zqwi w1 (w2.alloc (.cells #[.int .i64 u.f, .int .i64 u.s] 68)) w1.heap.size _ D u w2.heap.size ((zqc2 OWN.out hb2).alloc _) (by omega) (zqg _ _ _ rfl) (Grew.alloc (Grew.trans hM hb2) _) (Nat.le_refl _) (by have := (Grew.alloc (Grew.trans hM hb2) (.cells #[.int .i64 u.f, .int .i64 u.s] 68)).size; omega);have OWN3 : Hid (w3.ownsRow w1.heap.size 68 2 (.slice (some ⟨g3, 0, none⟩) (D.length + 1) c3) (doneN (hasI n j) L k).length (ndsL (doneN (hasI n j) L k))) := by rw [hnx]; exact own3
      clear own3 hnx OWN hb2 l1' l2' ch;have lg2 : g < w2.heap.size := by omega
      go_wp2
      go_roundw
      case rel => exact ⟨k, _, rfl, by omega, by go_num, hb3, OWN3⟩
      case measure => (simp [intOf] <;> omega)
     ·rw [decide_eq_false a3] at ch
      have hp : hasI n j u = false := by
       unfold hasI;rw [Bool.eq_false_iff];intro h
       simp only [Bool.and_eq_true, decide_eq_true_eq] at h
       exact a3 ⟨h.1.2, h.2⟩
      have hnx := zqm3 hu hp;rw [<- hnx] at OWN;go_wp2_with fail;refine (ch _).mono ?_
      rintro e w2 ⟨rfl, hb2⟩;have OWN2 : Hid (w2.ownsRow w1.heap.size 68 2 v0 (doneN (hasI n j) L k).length (ndsL (doneN (hasI n j) L k))) := zqc2 OWN.out hb2;clear OWN hnx ch;go_wp2
      go_roundw
      case rel => exact ⟨k, _, rfl, by omega, by go_num, Grew.trans hM hb2, OWN2⟩
      case measure => (simp [intOf] <;> omega)
    ·have hp : hasI n j u = false := by unfold hasI; simp [a2]
     have hnx := zqm3 hu hp;rw [<- hnx] at OWN;clear ch hnx;go_wp2
     go_roundw
     case rel => exact ⟨k, _, rfl, by omega, by go_num, hM, OWN⟩
     case measure => (simp [intOf] <;> omega)
   ·have hp : hasI n j u = false := by unfold hasI; simp [a1]
    have hnx := zqm3 hu hp;rw [<- hnx] at OWN;clear ch hnx;go_wp2
    go_roundw
    case rel => exact ⟨k, _, rfl, by omega, by go_num, hM, OWN⟩
    case measure => (simp [intOf] <;> omega)
  ·obtain rfl : k = 0 := by omega
   rw [hD.out] at OWN;obtain ⟨oa2, c2, rfl, hN2, hl2⟩ := zqoe OWN.out;have hz : ((0 : Nat) : Int) - 1 = -1 := by decide
   have HN2 : Hid (NdsAt wr oa2 R) := hN2;clear OWN hN2;rw [hz];go_wp2;go_ret;exact ⟨oa2, c2, rfl, HN2, Grew.trans hG hM⟩
theorem zqw6 (n j : Int) (w : World) :
  Calls Tryz.prog 98 #[.int .i64 n, .int .i64 j] w (Rt w (.int .i64 (if 1 <= n /\ n <= 1024 then ((zqga n j).length : Int) - 1 else 0))) := by
 have c1 := fun W : World => zqy2 n j W;have hle := zq1g n j;generalize zqga n j = L at *
 by_cases h : 1 <= n /\ n <= 1024
 case neg =>
  rw [if_neg h];have hG := Grew.refl w
  by_cases h1 : n < 1
  ·go_enter Tryz.func98, Tryz.ntmps98
   go_wp2;go_ret;exact ⟨rfl, hG⟩
  ·have h2 : 1024 < n := by omega
   clear h
   go_enter Tryz.func98, Tryz.ntmps98
   go_wp2;go_ret;exact ⟨rfl, hG⟩
 rw [if_pos h];obtain ⟨h1, h2⟩ := h
 go_enter Tryz.func98, Tryz.ntmps98
 go_wp2_with fail;refine (c1 _).mono ?_
 rintro e w1 ⟨oa, c, rfl, hN, hb⟩;clear hN;go_wp2;go_ret;exact ⟨rfl, hb⟩
end Go.Proofs.YtpefpiobcpdeoaaGreatDoor
namespace Go.Proofs.YtpefpiobcpdeoaaGreatDoor
open Go.RowKit
theorem zqbw (a b : Value) : (Value.agg #[a, b]).cells.size = 2 := rfl
theorem zqb0 (k k' : IntKind) (a b : Int) : (#[Value.int k a, Value.int k' b] : Array Value).all (·.oneCell') = true := by simp [Value.oneCell']
theorem zqbd (w : World) : (zeroValue 68).run Tryz.prog w = .ok (.agg #[.int .i64 0, .int .i64 0]) w := by kernel_rfl
def zqci (n j : Int) : List Nd := if 1 <= n /\ n <= 1024 /\ 0 <= j /\ j < n then zqaf n.toNat j.toNat else []
end Go.Proofs.YtpefpiobcpdeoaaGreatDoor
