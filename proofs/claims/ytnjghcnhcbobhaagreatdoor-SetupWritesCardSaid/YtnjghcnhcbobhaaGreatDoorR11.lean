/- R11 -/
import Derived.Test.YtnjghcnhcbobhaaGreatDoorNds
import Derived.Test.YtnjghcnhcbobhaaGreatDoorFrame
set_option linter.unusedVariables false
set_option linter.unusedSimpArgs false
set_option maxRecDepth 100000
set_option maxHeartbeats 4000000
namespace Go.Proofs.YtnjghcnhcbobhaaGreatDoor
open Go.RowKit
theorem zqdb (g j : Nat) : (⟨g, j, none⟩ : Addr) = (⟨g, 0, none⟩ : Addr).add j := by unfold Addr.add; split <;> simp_all
theorem zqf9 {t e : TypeId} {i : TypeInfo} {z : Value} (size bytes : Nat) (ht : Tryz.prog.underlying t = some (.slice e)) (hi : Tryz.prog.info? e = some i) (hz : i.zero = some z) (hsize : i.size = size) (hby : i.bytes = bytes) (hzs : z.cells.size = size) (hsz : 0 < size) (hb8 : bytes <= 4096)
  (ty : TypeId) (w W : World) (base : Nat) (v : Value) (n : Nat) (xs : List Value) (ad : Addr) (m c : Nat) (news : List Value) (own : W.ownsRow base e size v n xs) (hn : n + m <= 1073741824) (hm : 0 < m)
  (hl : news.length = m * size) (hnews : ∀ j u, news[j]? = some u -> W.cell? (ad.add j) = some u) (h1 : ∀ u ∈ news, u.oneCell' = true) (hG : Below w.heap.size w W) (hwb : w.heap.size <= base) (hbW : base <= W.heap.size) :
  ∃ g cap w', (zqt #[t, t] ty #[v, .slice (some ad) m c]).run Tryz.prog W = .ok (.value (.slice (some ⟨g, 0, none⟩) (n + m) cap)) w' /\ w'.ownsRow base e size (.slice (some ⟨g, 0, none⟩) (n + m) cap) (n + m) (xs ++ news) /\
   Below w.heap.size w w' /\ (∀ m o, m < base -> zqd W m = some o -> zqd w' m = some o) /\ base <= g := by
 have hbn : (n + m) * bytes <= 140737488355328 := Nat.le_trans (Nat.mul_le_mul hn hb8) (by decide);obtain ⟨g, cap, w', hr, ho, hg, _, _⟩ := run_append_lies (P := Tryz.prog) W t ty base e i z size bytes ht hi hz hsize hby hzs hsz v n xs own ad m c news hl hnews h1 hm (by unfold maxLen; omega) hbn hbW W.heap.size rfl;obtain ⟨h2, h3⟩ := zqqw own hg hG hwb;exact ⟨g, cap, w', by unfold zqt; simp only [Sem.run_bind, hr, Result.andThen_ok, Sem.run_pure], ho, h2, h3, (ho.lt g rfl).1⟩
theorem zqz9 {w : World} {base g n size : Nat} {e : TypeId} {cs : Array Value} (h : zqd w g = some (.cells cs e)) (hb : base <= g) (hs : cs.size = n * size) (hn : n <= maxLen) : w.ownsRow base e size (.slice (some ⟨g, 0, none⟩) n n) n cs.toList :=
 ⟨by rw [Array.length_toList, hs], .inr ⟨g, n, cs, rfl, hb, h, Nat.le_refl _, hn, hs, by rw [List.take_of_length_le]; rw [Array.length_toList, hs]; exact Nat.le_refl _⟩⟩
theorem zqv5 {w : World} {base base' n size : Nat} {e : TypeId} {v : Value} {xs : List Value} (h : w.ownsRow base e size v n xs) (hb : base' <= base) : w.ownsRow base' e size v n xs := by
 rcases h with ⟨h1, h2 | ⟨g, cap, cur, hv, hg, rest⟩⟩
 ·exact ⟨h1, .inl h2⟩
 ·exact ⟨h1, .inr ⟨g, cap, cur, hv, Nat.le_trans hb hg, rest⟩⟩
@[go_sem ↓ high] theorem zq6u (ty : TypeId) (cs : Array Bool) (args : Array Value) : builtin .append #[134, 134] ty cs args = zqt #[134, 134] ty args := by unfold zqt; rfl
theorem zqg0 (w W : World) (ty : TypeId) (base : Nat) (v : Value) (n : Nat) (xs : List Value) (ad : Addr) (m c : Nat) (news : List Value) (own : W.ownsRow base 68 2 v n xs) (hn : n + m <= 1073741824) (hm : 0 < m)
  (hl : news.length = m * 2) (hnews : ∀ j u, news[j]? = some u -> W.cell? (ad.add j) = some u) (h1 : ∀ u ∈ news, u.oneCell' = true) (hG : Below w.heap.size w W) (hwb : w.heap.size <= base) (hbW : base <= W.heap.size) :
  ∃ g cap w', (zqt #[134, 134] ty #[v, .slice (some ad) m c]).run Tryz.prog W = .ok (.value (.slice (some ⟨g, 0, none⟩) (n + m) cap)) w' /\ w'.ownsRow base 68 2 (.slice (some ⟨g, 0, none⟩) (n + m) cap) (n + m) (xs ++ news) /\
   Below w.heap.size w w' /\ (∀ m o, m < base -> zqd W m = some o -> zqd w' m = some o) /\ base <= g :=
 zqf9 (i := (Tryz.prog.info? 68).get zqc) (z := ((Tryz.prog.info? 68).get zqc).zero.get zqc) 2 16 Tryz.underlying134 zqc zqc zqc zqc zqc (by decide) (by decide) ty w W base v n xs ad m c news own hn hm hl hnews h1 hG hwb hbW
theorem zqqj (n : Int) (w : World) (hn : n <= 1099511627776) :
  Calls Tryz.prog 105 #[.int .i64 n] w (Rt w (.int .i64 (zqr n.toNat : Nat))) := by
 by_cases h2 : n < 2
 case pos =>
  rw [zqql (by omega : n.toNat < 2)];have hG := Grew.refl w
  go_enter Tryz.func105, Tryz.ntmps105
  go_wp2;go_ret;exact ⟨rfl, by exact zqe⟩
 obtain ⟨N, rfl⟩ := Int.eq_ofNat_of_zero_le (show 0 <= n by omega);rw [show ((N : Int)).toNat = N by omega];have hL : Hid (∀ j, 2 ^ j < N -> N <= 2 * 2 ^ j -> zqr N = 2 ^ j) := fun j a b => zqml a b;generalize zqr N = L at *
 go_enter Tryz.func105, Tryz.ntmps105
 go_wp2_with fail
 go_loopw [3] (fun v wr => ∃ j k : Nat, k = 2 ^ j /\ k < N /\ v = .int .i64 k /\ wr = w) (fun v _ => N - (intOf v).toNat)
 case atStart => exact ⟨0, 1, rfl, by omega, rfl, rfl⟩
 case round =>
  obtain ⟨j, k, hj, hk, rfl, rfl⟩ := hrel;have hk0 : 0 < k := by rw [hj]; exact Nat.two_pow_pos j
  have hj2 : Hid (2 * k = 2 ^ (j + 1)) := by show _ = _; rw [hj, Nat.pow_succ]; omega
  by_cases hlt : 2 * k < N
  ·have hi : 2 * (k : Int) < (N : Int) := by omega
   clear hj;go_wp2
   go_roundw
   case rel => exact ⟨j + 1, 2 * k, hj2.out, hlt, by go_num, trivial⟩
   case measure => simp [intOf]; omega
  ·have hi : ¬ (2 * (k : Int) < (N : Int)) := by omega
   have e := hL.out j (by omega) (by omega);rw [<- hj] at e;subst e;clear hj hj2;go_wp2;go_ret;exact ⟨rfl, Grew.refl _⟩
theorem zq4v (f s : Nat) (j : Int) (w : World) (hf : f <= 2199023255552) (hs : s <= 2199023255552) :
  Calls Tryz.prog 131 #[.agg #[.int .i64 (f : Int), .int .i64 (s : Int)], .int .i64 j] w (Rt w (.bool (decide ((f : Int) <= j /\ j < (f : Int) + (s : Int))))) := by
 have hG := Grew.refl w
 by_cases h1 : (f : Int) <= j
 ·by_cases h2 : j < (f : Int) + (s : Int)
  ·rw [decide_eq_true ⟨h1, h2⟩]
   go_enter Tryz.func131, Tryz.ntmps131
   go_wp2;go_ret;exact ⟨rfl, by exact zqe⟩
  ·rw [decide_eq_false (fun h => h2 h.2)]
   go_enter Tryz.func131, Tryz.ntmps131
   go_wp2;go_ret;exact ⟨rfl, by exact zqe⟩
 ·rw [decide_eq_false (fun h => h1 h.1)]
  go_enter Tryz.func131, Tryz.ntmps131
  go_wp2;go_ret;exact ⟨rfl, by exact zqe⟩
theorem zqxh (s : Nat) : ∀ (f : Nat) (w : World), 1 <= s -> f + s <= 1024 ->
  Calls Tryz.prog 129 #[.agg #[.int .i64 ((f : Nat) : Int), .int .i64 ((s : Nat) : Int)]] w fun e w' => ∃ g c, e = .returned (.slice (some ⟨g, 0, none⟩) (2 * s - 1) c) /\ w'.ownsRow w.heap.size 68 2 (.slice (some ⟨g, 0, none⟩) (2 * s - 1) c) (2 * s - 1) (ndsL (zqab f s)) /\ Below w.heap.size w w' := by
 induction s using Nat.strongRecOn with
 | _ s ih =>
  intro f w h1 h2;have hG := Grew.refl w
  by_cases hs : s < 2
  ·obtain rfl : s = 1 := by omega
   rw [zqbu (by decide)]
   go_enter Tryz.func129, Tryz.ntmps129
   go_wp2;go_ret;exact ⟨_, _, rfl, zqz9 (cs := #[.int .i64 f, .int .i64 (1 : Nat)]) (zqf _ _ _ (by simp)) (by simp) rfl (by unfold maxLen; omega), by exact zqe⟩
  ·have hb := zqcd (n := s) (by omega)
   have cl := fun W : World => zqqj (s : Int) W (by omega);rw [show ((s : Int)).toNat = s by omega] at cl;have iL := fun W : World => ih (zqr s) (by omega) f W (by omega) (by omega);have iR := fun W : World => ih (s - zqr s) (by omega) (f + zqr s) W (by omega) (by omega);have hL : Hid (ndsL (zqab f s) = ndsL [⟨f, s⟩] ++ ndsL (zqab f (zqr s)) ++ ndsL (zqab (f + zqr s) (s - zqr s))) := by
    show _ = _
    rw [zqbh (by omega), <- zqd7, <- zqd7]; rfl
   have n1 : (ndsL (zqab f (zqr s))).length = (2 * zqr s - 1) * 2 := by rw [zqky, zqbv _ _ (by omega)]
   have n2 : (ndsL (zqab (f + zqr s) (s - zqr s))).length = (2 * (s - zqr s) - 1) * 2 := by rw [zqky, zqbv _ _ (by omega)]
   have o1 := zqrm (zqab f (zqr s));have o2 := zqrm (zqab (f + zqr s) (s - zqr s));have hsz : 1 + (2 * zqr s - 1) + (2 * (s - zqr s) - 1) = 2 * s - 1 := by omega
   have hsi : ((s - zqr s : Nat) : Int) = (s : Int) - (zqr s : Int) := by omega
   have hfi : ((f + zqr s : Nat) : Int) = (f : Int) + (zqr s : Int) := by omega
   rw [hsi, hfi] at iR;generalize ndsL (zqab f s) = A0 at *;generalize ndsL (zqab f (zqr s)) = A1 at *;generalize ndsL (zqab (f + zqr s) (s - zqr s)) = A2 at *;generalize zqr s = L at *;clear ih hsi hfi;have hgt : (1 : Int) < (s : Int) := by omega
   go_enter Tryz.func129, Tryz.ntmps129
   go_wp2_with fail;refine (cl _).mono ?_
   rintro e w1 ⟨rfl, hb1⟩;have hgg := Grew.trans (by exact zqe) hb1;have fbx : zqd w1 w.heap.size = some (.cells #[.int .i64 f, .int .i64 s] 68) := zqb hb1 (by exact zqh);have fou : zqd w1 (w.heap.size + 1) = some (.cells #[.int .i64 f, .int .i64 s] 68) := zqb hb1 (by exact zqh);have OUT : Hid (w1.ownsRow (w.heap.size + 1) 68 2 (.slice (some ⟨w.heap.size + 1, 0, none⟩) 1 1) 1 (ndsL [⟨f, s⟩])) := zqz9 (cs := #[.int .i64 f, .int .i64 s]) fou (Nat.le_refl _) rfl (by unfold maxLen; omega);have hG1 : Below w.heap.size w w1 := Grew.trans (by exact zqe) hb1;clear hb1 fou hgg cl;generalize ndsL [⟨f, s⟩] = A3 at *;have lbx := zqa fbx;go_wp2_with fail;refine (iL _).mono ?_
   rintro e w2 ⟨g2, c2, rfl, own2, hb2⟩;obtain ⟨g3, c3, w3, hr3, own3, hb3, kp3, _⟩ := zqg0 w w2 134 (w.heap.size + 1) _ 1 A3 ⟨g2, 0, none⟩ (2 * L - 1) c2 A1 (zqcc OUT.out hb2) (by omega) (by omega) n1 (fun j u hu => (zqdb g2 j ▸ (zqo5 own2 j u hu).2 _ (Below.refl _ _))) o1 (Grew.trans hG1 hb2) (by omega) (by have := hb2.size; omega);have fbx3 := kp3 _ _ (Nat.lt_succ_self _) (zqb hb2 fbx);have OUT3 : Hid (w3.ownsRow (w.heap.size + 1) 68 2 (.slice (some ⟨g3, 0, none⟩) (1 + (2 * L - 1)) c3) (1 + (2 * L - 1)) (A3 ++ A1)) := own3;clear own3 own2 hb2 OUT fbx lbx kp3 hG1 o1 n1 iL;have lbx := zqa fbx3;go_wp2_with fail;refine (iR _).mono ?_
   rintro e w4 ⟨g4, c4, rfl, own4, hb4⟩;obtain ⟨g5, c5, w5, hr5, own5, hb5, kp5, hg5⟩ := zqg0 w w4 134 (w.heap.size + 1) _ _ (A3 ++ A1) ⟨g4, 0, none⟩ (2 * (s - L) - 1) c4 A2 (zqcc OUT3.out hb4) (by omega) (by omega) n2 (fun j u hu => (zqdb g4 j ▸ (zqo5 own4 j u hu).2 _ (Below.refl _ _))) o2 (Grew.trans hb3 hb4) (by omega) (by have := hb4.size; omega);have OUT5 := zqv5 own5 (Nat.le_succ w.heap.size);rw [hsz, <- hL.out] at OUT5;clear own5 own4 kp5 hr3;go_wp2;go_ret;exact ⟨g5, c5, rfl, OUT5, hb5⟩
def zqkg (w : World) (L : List Nd) (e : Ending) (w' : World) : Prop := ∃ oa c, e = .returned (.slice oa L.length c) /\ NdsAt w' oa L /\ Below w.heap.size w w'
def allN (n : Int) : List Nd := if 1 <= n /\ n <= 1024 then zqab 0 n.toNat else []
theorem zqgh {n : Nat} (h1 : 1 <= n) (h2 : n <= 1024) : allN n = zqab 0 n := by unfold allN; rw [if_pos (by omega)]; rfl
theorem zqkz {n : Int} (h : ¬ (1 <= n /\ n <= 1024)) : allN n = [] := by unfold allN; rw [if_neg h]
theorem all_in (n : Int) (v : Nd) (h : v ∈ allN n) : v.f <= 1024 /\ v.s <= 1024 := by
 unfold allN at h
 split at h
 ·have := zqds _ _ v h
  omega
 ·cases h
theorem zqpg (n : Int) : (allN n).length <= 2047 := by
 unfold allN
 split
 ·rw [zqbv _ _ (by omega)]; omega
 ·simp
theorem zqus (n : Int) (w : World) :
  Calls Tryz.prog 102 #[.int .i64 n] w (zqkg w (allN n)) := by
 have hG := Grew.refl w
 by_cases h : 1 <= n /\ n <= 1024
 case neg =>
  rw [zqkz h]
  by_cases h1 : n < 1
  ·go_enter Tryz.func102, Tryz.ntmps102
   go_wp2;go_ret;exact ⟨none, 0, rfl, .inl rfl, by exact zqe⟩
  ·have h2 : 1024 < n := by omega
   go_enter Tryz.func102, Tryz.ntmps102
   go_wp2;go_ret;exact ⟨none, 0, rfl, .inl rfl, by exact zqe⟩
 obtain ⟨N, rfl⟩ := Int.eq_ofNat_of_zero_le (show 0 <= n by omega);obtain ⟨h1, h2⟩ := h;rw [zqgh (by omega) (by omega)];have hl := zqbv 0 N (by omega);have c1 := fun W : World => zqxh N 0 W (by omega) (by omega);rw [<- hl] at c1;generalize zqab 0 N = L at *;clear hl
 go_enter Tryz.func102, Tryz.ntmps102
 go_wp2_with fail;refine (c1 _).mono ?_
 rintro e w1 ⟨g, c, rfl, own, hb⟩;obtain ⟨oa, c', e1, hN, _⟩ := zqjs own;have hG1 : Below w.heap.size w w1 := Grew.trans (by exact zqe) hb;clear own hb
 cases e1
 go_wp2;go_ret;exact ⟨_, _, rfl, hN, hG1⟩
def idxN (f s : Nat) : List Nd -> Nat -> Int
 | [], _ => -1
 | u :: l, k => if u.f = f /\ u.s = s then (k : Int) else idxN f s l (k + 1)
theorem drop_at {L : List Nd} {k : Nat} {u : Nd} (h : L[k]? = some u) : L.drop k = u :: L.drop (k + 1) := by
 obtain ⟨hk, e⟩ := List.getElem?_eq_some_iff.1 h
 rw [<- e];exact List.drop_eq_getElem_cons hk
theorem zrav {f s k : Nat} {u : Nd} {L : List Nd} (h : L[k]? = some u) (he : u.f = f /\ u.s = s) : idxN f s (L.drop k) k = k := by rw [drop_at h, idxN, if_pos he]
theorem zq5e {f s k : Nat} {u : Nd} {L : List Nd} (h : L[k]? = some u) (he : ¬ (u.f = f /\ u.s = s)) : idxN f s (L.drop k) k = idxN f s (L.drop (k + 1)) (k + 1) := by rw [drop_at h, idxN, if_neg he]
theorem zrbz {f s k : Nat} {L : List Nd} (h : L.length <= k) : idxN f s (L.drop k) k = -1 := by rw [List.drop_of_length_le h]; rfl
def idxI (f s : Int) : List Nd -> Nat -> Int
 | [], _ => -1
 | u :: l, k => if (u.f : Int) = f /\ (u.s : Int) = s then (k : Int) else idxI f s l (k + 1)
theorem zq4m {f s : Int} {k : Nat} {u : Nd} {L : List Nd} (h : L[k]? = some u) (he : (u.f : Int) = f /\ (u.s : Int) = s) : idxI f s (L.drop k) k = k := by rw [drop_at h, idxI, if_pos he]
theorem zqzz {f s : Int} {k : Nat} {u : Nd} {L : List Nd} (h : L[k]? = some u) (he : ¬ ((u.f : Int) = f /\ (u.s : Int) = s)) : idxI f s (L.drop k) k = idxI f s (L.drop (k + 1)) (k + 1) := by rw [drop_at h, idxI, if_neg he]
theorem zq4n {f s : Int} {k : Nat} {L : List Nd} (h : L.length <= k) : idxI f s (L.drop k) k = -1 := by rw [List.drop_of_length_le h]; rfl
theorem zqpm (f s : Nat) : ∀ (L : List Nd) (k : Nat), idxI f s L k = idxN f s L k
 | [], k => rfl
 | u :: L, k => by
  rw [idxI, idxN, zqpm f s L (k + 1)]
  by_cases h : u.f = f /\ u.s = s
  ·rw [if_pos h, if_pos (by omega)]
  ·rw [if_neg h, if_neg (by omega)]
theorem zqyo (n f s : Int) (w : World) :
  Calls Tryz.prog 69 #[.int .i64 n, .agg #[.int .i64 (f : Int), .int .i64 (s : Int)]] w (Rt w (.int .i64 (idxI f s (allN n) 0))) := by
 have c1 := fun W : World => zqus n W;have hlen := zqpg n;have hR : Hid (idxI f s ((allN n).drop 0) 0 = idxI f s (allN n) 0) := by show _ = _; rw [List.drop_zero]
 obtain ⟨R, hRe⟩ : ∃ R, idxI f s (allN n) 0 = R := ⟨_, rfl⟩
 rw [hRe] at hR ⊢;clear hRe;generalize allN n = L at *
 go_enter Tryz.func69, Tryz.ntmps69
 go_wp2_with fail;refine (c1 _).mono ?_
 rintro e w1 ⟨oa, c, rfl, hN, hb⟩;have fbx : zqd w1 w.heap.size = some (.cells #[.int .i64 f, .int .i64 s] 68) := zqb hb (by exact zqh);have hG : Below w.heap.size w w1 := Grew.trans (by exact zqe) hb;have HN : Hid (NdsAt w1 oa L) := hN;clear hN hb c1;have lbx := zqa fbx;go_wp2_with fail
 go_loopw [10, 5, 6] (fun i _ _ wr => ∃ k : Nat, k <= L.length /\ i = .int .i64 k /\ Below w1.heap.size w1 wr /\ Hid (idxI f s (L.drop k) k = R)) (fun i _ _ _ => L.length - (intOf i).toNat)
 case atStart => exact ⟨0, by omega, rfl, Grew.refl _, hR⟩
 case round =>
  obtain ⟨k, hk, rfl, hM, hI⟩ := hrel
  by_cases hlt : k < L.length
  ·obtain ⟨u, hu⟩ : ∃ u, L[k]? = some u := ⟨_, List.getElem?_eq_getElem hlt⟩
   have fb2 := zqb hM fbx;have lb2 := zqa fb2
   rcases HN.out.later hM with h0 | ⟨g, o, rfl, hg, hl⟩
   ·subst h0; simp at hlt
   obtain ⟨l1, l2⟩ := hl k u hu;have l1' : cellOf (zqd wr g) (o + k * 2) = some (.int .i64 u.f) := by rw [Nat.mul_comm]; exact l1
   have l2' : cellOf (zqd wr g) (o + k * 2 + 1) = some (.int .i64 u.s) := by rw [Nat.mul_comm]; exact l2
   have hi1 : (k : Int) < (L.length : Int) := by omega
   have hi0 : (0 : Int) <= (k : Int) := by omega
   by_cases he : (u.f : Int) = f /\ (u.s : Int) = s
   ·have e := hI.out
    rw [zq4m hu he] at e;obtain ⟨he1, he2⟩ := he;subst e;clear hI hR hl;go_wp2;go_ret;exact ⟨rfl, by have := Grew.trans hG hM; exact zqe⟩
   ·have e := hI.out
    rw [zqzz hu he] at e;have E : Hid (idxI f s (L.drop (k + 1)) (k + 1) = R) := e;clear hI hl e
    by_cases he1 : (u.f : Int) = f
    ·have he2 : ¬ ((u.s : Int) = s) := fun h => he ⟨he1, h⟩
     go_wp2
     go_roundw
     case rel => exact ⟨k + 1, by omega, by go_num, by exact zqe, E⟩
     case measure => simp [intOf]; omega
    ·go_wp2
     go_roundw
     case rel => exact ⟨k + 1, by omega, by go_num, by exact zqe, E⟩
     case measure => simp [intOf]; omega
  ·have e := hI.out
   rw [zq4n (by omega)] at e;subst e;clear hI hR;go_wp2;go_ret;exact ⟨rfl, by have := Grew.trans hG hM; exact zqe⟩
end Go.Proofs.YtnjghcnhcbobhaaGreatDoor
namespace Go.Proofs.YtnjghcnhcbobhaaGreatDoor
open Go.RowKit
theorem cell_kept {w w' : World} {g i : Nat} {v : Value} (hb : Below w.heap.size w w') (hg : g < w.heap.size) (h : cellOf (zqd w g) i = some v) : cellOf (zqd w' g) i = some v := by
 rw [show zqd w' g = zqd w g from hb.block g hg]; exact h
def hasI (n j : Int) (v : Nd) : Bool := decide (0 <= j) && decide (j < n) && decide ((v.f : Int) <= j) && decide (j < (v.f : Int) + (v.s : Int))
def zqgi (n j : Int) : List Nd := (allN n).reverse.filter (hasI n j)
theorem zqrr {n j : Int} (h : ¬ (1 <= n /\ n <= 1024 /\ 0 <= j /\ j < n)) : zqgi n j = [] := by
 unfold zqgi
 by_cases h1 : 1 <= n /\ n <= 1024
 ·rw [List.filter_eq_nil_iff]
  intro v _ hv;unfold hasI at hv
  simp only [Bool.and_eq_true, decide_eq_true_eq] at hv
  omega
 ·rw [zqkz h1]; rfl
theorem zqf0 {n j : Nat} (h1 : 1 <= n) (h2 : n <= 1024) (hj : j < n) : zqgi n j = zqdy n j := by
 unfold zqgi;rw [zqgh h1 h2, <- zqhq n j h1 hj];refine List.filter_congr fun v _ => ?_
 rw [Bool.eq_iff_iff, zqoq];unfold hasI
 simp only [Bool.and_eq_true, decide_eq_true_eq]
 omega
theorem zrc2 (n j : Int) : (zqgi n j).length <= 2047 := by
 unfold zqgi;have h1 := List.length_filter_le (hasI n j) (allN n).reverse;rw [List.length_reverse] at h1;have h2 := zqpg n;exact Nat.le_trans h1 h2
theorem zra3 (n j : Int) (v : Nd) (h : v ∈ zqgi n j) : v.f <= 1024 /\ v.s <= 1024 := by
 unfold zqgi at h;exact all_in n v (List.mem_reverse.1 (List.mem_filter.1 h).1)
def doneN (p : Nd -> Bool) (L : List Nd) (k : Nat) : List Nd := (L.drop k).reverse.filter p
theorem zq31 (p : Nd -> Bool) (L : List Nd) : doneN p L L.length = [] := by unfold doneN; rw [List.drop_length]; rfl
theorem zq4c (p : Nd -> Bool) (L : List Nd) : doneN p L 0 = L.reverse.filter p := by unfold doneN; rw [List.drop_zero]
theorem zq6x {p : Nd -> Bool} {L : List Nd} {k : Nat} {u : Nd} (h : L[k]? = some u) (hp : p u = true) : doneN p L k = doneN p L (k + 1) ++ [u] := by
 unfold doneN;rw [drop_at h, List.reverse_cons, List.filter_append, List.filter_cons_of_pos hp, List.filter_nil]
theorem zqmp {p : Nd -> Bool} {L : List Nd} {k : Nat} {u : Nd} (h : L[k]? = some u) (hp : p u = false) : doneN p L k = doneN p L (k + 1) := by
 unfold doneN;rw [drop_at h, List.reverse_cons, List.filter_append, List.filter_cons_of_neg (by rw [hp]; decide), List.filter_nil, List.append_nil]
theorem zrd9 (p : Nd -> Bool) (L : List Nd) (k : Nat) : (doneN p L k).length <= L.length := by
 unfold doneN;have := List.length_filter_le p (L.drop k).reverse;rw [List.length_reverse, List.length_drop] at this
 omega
theorem zqjg (w W : World) (base : Nat) (v : Value) (l : List Nd) (u : Nd) (g2 : Nat) (own : W.ownsRow base 68 2 v l.length (ndsL l)) (hn : l.length <= 1048576)
  (hg2 : zqd W g2 = some (.cells #[.int .i64 u.f, .int .i64 u.s] 68)) (hG : Below w.heap.size w W) (hwb : w.heap.size <= base) (hbW : base <= W.heap.size) :
  ∃ g cap w', (zqt #[134, 134] 134 #[v, .slice (some ⟨g2, 0, none⟩) 1 1]).run Tryz.prog W = .ok (.value (.slice (some ⟨g, 0, none⟩) (l.length + 1) cap)) w' /\ w'.ownsRow base 68 2 (.slice (some ⟨g, 0, none⟩) (l.length + 1) cap) (l ++ [u]).length (ndsL (l ++ [u])) /\
   Below w.heap.size w w' /\ (∀ m o, m < base -> zqd W m = some o -> zqd w' m = some o) := by
 obtain ⟨g, cap, w', hr, ho, hb, hk, _⟩ := zqg0 w W 134 base v l.length (ndsL l) ⟨g2, 0, none⟩ 1 1 [.int .i64 u.f, .int .i64 u.s] own (by omega) (by decide) rfl
  (fun j x hx => by
   have ha := zqdb g2 j;rw [<- ha];unfold zqd at hg2;rw [cell_of_row W g2 j _ _ _ hg2]
   simpa using hx) (fun x hx => by simp at hx; rcases hx with rfl | rfl <;> rfl) hG hwb hbW
 refine ⟨g, cap, w', hr, ?_, hb, hk⟩;rw [<- zqk3, <- zqd7] at ho;rw [List.length_append];exact ho
theorem zq1m (n j : Int) (w : World) :
  Calls Tryz.prog 104 #[.int .i64 n, .int .i64 j] w (zqkg w (zqgi n j)) := by
 have c1 := fun W : World => zqus n W;have hlen := zqpg n;have hin := all_in n;have hD : Hid (doneN (hasI n j) (allN n) 0 = zqgi n j) := zq4c _ _;have hE : Hid (doneN (hasI n j) (allN n) (allN n).length = []) := zq31 _ _;generalize zqgi n j = R at *;generalize allN n = L at *
 go_enter Tryz.func104, Tryz.ntmps104
 go_wp2_with fail;refine (c1 _).mono ?_
 rintro e w1 ⟨oa, c, rfl, hN, hb⟩;have hG : Below w.heap.size w w1 := hb;have HN : Hid (NdsAt w1 oa L) := hN;clear hN hb c1;go_wp2_with fail
 go_loopw [5, 7] (fun v i wr => ∃ (k : Nat) (v0 : Value), v0 = v /\ k <= L.length /\ i = .int .i64 ((k : Int) - 1) /\ Below w1.heap.size w1 wr /\ Hid (wr.ownsRow w1.heap.size 68 2 v0 (doneN (hasI n j) L k).length (ndsL (doneN (hasI n j) L k)))) (fun _ i _ => (intOf i + 1).toNat)
 case atStart => exact ⟨L.length, _, rfl, by omega, by go_num, Grew.refl _, by rw [hE.out]; exact World.ownsRow_nil _ _ _ _⟩
 case round =>
  clear hE;obtain ⟨k, v0, rfl, hk, rfl, hM, OWN⟩ := hrel
  by_cases hk0 : 0 < k
  ·obtain ⟨k, rfl⟩ : ∃ m, k = m + 1 := ⟨k - 1, by omega⟩
   obtain ⟨u, hu⟩ : ∃ u, L[k]? = some u := ⟨_, List.getElem?_eq_getElem (by omega)⟩
   have hub := hin u (List.mem_of_getElem? hu)
   rcases HN.out.later hM with h0 | ⟨g, o, rfl, hg, hl⟩
   ·subst h0; simp at hk
   obtain ⟨l1, l2⟩ := hl k u hu;have l1' : cellOf (zqd wr g) (o + k * 2) = some (.int .i64 u.f) := by rw [Nat.mul_comm]; exact l1
   have l2' : cellOf (zqd wr g) (o + k * 2 + 1) = some (.int .i64 u.s) := by rw [Nat.mul_comm]; exact l2
   have ki : ((k + 1 : Nat) : Int) - 1 = (k : Int) := by omega
   have hi1 : (k : Int) < (L.length : Int) := by omega
   have hi0 : (0 : Int) <= (k : Int) := by omega
   have hit : ((k : Int)).toNat = k := by omega
   have ch := fun W : World => zq4v u.f u.s j W (by omega) (by omega);have hle := zrd9 (hasI n j) L (k + 1);rw [ki];clear hl l1 l2
   by_cases a1 : 0 <= j
   ·by_cases a2 : j < n
    ·by_cases a3 : (u.f : Int) <= j /\ j < (u.f : Int) + (u.s : Int)
     ·rw [decide_eq_true a3] at ch
      have hp : hasI n j u = true := by unfold hasI; simp [a1, a2, a3.1, a3.2]
      have hnx := zq6x hu hp;generalize doneN (hasI n j) L (k + 1) = D at *;go_wp2_with fail;refine (ch _).mono ?_
      rintro e w2 ⟨rfl, hb2⟩;have hg2 := hb2.size;have l1'' := cell_kept hb2 hg l1';have l2'' := cell_kept hb2 hg l2';obtain ⟨g3, c3, w3, hr3, own3, hb3, _⟩ := zqjg w1 (w2.alloc (.cells #[.int .i64 u.f, .int .i64 u.s] 68)) w1.heap.size _ D u w2.heap.size ((zqcc OWN.out hb2).alloc _) (by omega) (zqf _ _ _ rfl) (Grew.alloc (Grew.trans hM hb2) _) (Nat.le_refl _) (by have := (Grew.alloc (Grew.trans hM hb2) (.cells #[.int .i64 u.f, .int .i64 u.s] 68)).size; omega);have OWN3 : Hid (w3.ownsRow w1.heap.size 68 2 (.slice (some ⟨g3, 0, none⟩) (D.length + 1) c3) (doneN (hasI n j) L k).length (ndsL (doneN (hasI n j) L k))) := by rw [hnx]; exact own3
      clear own3 hnx OWN hb2 l1' l2' ch;have lg2 : g < w2.heap.size := by omega
      go_wp2
      go_roundw
      case rel => exact ⟨k, _, rfl, by omega, by go_num, hb3, OWN3⟩
      case measure => (simp [intOf] <;> omega)
     ·rw [decide_eq_false a3] at ch
      have hp : hasI n j u = false := by
       unfold hasI;rw [Bool.eq_false_iff];intro h
       simp only [Bool.and_eq_true, decide_eq_true_eq] at h
       exact a3 ⟨h.1.2, h.2⟩
      have hnx := zqmp hu hp;rw [<- hnx] at OWN;go_wp2_with fail;refine (ch _).mono ?_
      rintro e w2 ⟨rfl, hb2⟩;have OWN2 : Hid (w2.ownsRow w1.heap.size 68 2 v0 (doneN (hasI n j) L k).length (ndsL (doneN (hasI n j) L k))) := zqcc OWN.out hb2;clear OWN hnx ch;go_wp2
      go_roundw
      case rel => exact ⟨k, _, rfl, by omega, by go_num, Grew.trans hM hb2, OWN2⟩
      case measure => (simp [intOf] <;> omega)
    ·have hp : hasI n j u = false := by unfold hasI; simp [a2]
     have hnx := zqmp hu hp;rw [<- hnx] at OWN;clear ch hnx;go_wp2
     go_roundw
     case rel => exact ⟨k, _, rfl, by omega, by go_num, hM, OWN⟩
     case measure => (simp [intOf] <;> omega)
   ·have hp : hasI n j u = false := by unfold hasI; simp [a1]
    have hnx := zqmp hu hp;rw [<- hnx] at OWN;clear ch hnx;go_wp2
    go_roundw
    case rel => exact ⟨k, _, rfl, by omega, by go_num, hM, OWN⟩
    case measure => (simp [intOf] <;> omega)
  ·obtain rfl : k = 0 := by omega
   rw [hD.out] at OWN;obtain ⟨oa2, c2, rfl, hN2, hl2⟩ := zqjs OWN.out;have hz : ((0 : Nat) : Int) - 1 = -1 := by decide
   have HN2 : Hid (NdsAt wr oa2 R) := hN2;clear OWN hN2;rw [hz];go_wp2;go_ret;exact ⟨oa2, c2, rfl, HN2, Grew.trans hG hM⟩
end Go.Proofs.YtnjghcnhcbobhaaGreatDoor
namespace Go.Proofs.YtnjghcnhcbobhaaGreatDoor
open Go.RowKit
theorem zqbm (a b : Value) : (Value.agg #[a, b]).cells.size = 2 := rfl
theorem zqbr (k k' : IntKind) (a b : Int) : (#[Value.int k a, Value.int k' b] : Array Value).all (·.oneCell') = true := by simp [Value.oneCell']
theorem zqa9 (w : World) : (zeroValue 68).run Tryz.prog w = .ok (.agg #[.int .i64 0, .int .i64 0]) w := by kernel_rfl
def zqaq (n j : Int) : List Nd := if 1 <= n /\ n <= 1024 /\ 0 <= j /\ j < n then zqac n.toNat j.toNat else []
theorem zqzs {l : List Nd} {i : Nat} {v : Nd} (h : l[i]? = some v) : l.take (i + 1) = l.take i ++ [v] := by
 obtain ⟨hi, e⟩ := List.getElem?_eq_some_iff.1 h
 rw [<- e, List.take_succ_eq_append_getElem hi]
theorem zqsn (n j : Int) (w : World) :
  Calls Tryz.prog 71 #[.int .i64 n, .int .i64 j] w (zqkg w (zqaq n j)) := by
 have c1 := fun W : World => zq1m n j W
 by_cases hv : 1 <= n /\ n <= 1024 /\ 0 <= j /\ j < n
 case neg =>
  have e : zqaq n j = [] := by unfold zqaq; rw [if_neg hv]
  rw [e];rw [zqrr hv] at c1;clear hv e
  go_enter Tryz.func71, Tryz.ntmps71
  go_wp2_with fail;refine (c1 _).mono ?_
  rintro e w1 ⟨oa, c, rfl, hN, hb⟩;clear hN c1;go_wp2_with fail
  go_loopw [5, 7] (fun v i wr => v = .slice none 0 0 /\ i = .int .i64 0 /\ wr = w1) (fun _ _ _ => 0)
  case atStart => exact ⟨rfl, rfl, rfl⟩
  case round =>
   obtain ⟨rfl, rfl, rfl⟩ := hrel;go_wp2;go_ret;exact ⟨none, 0, rfl, .inl rfl, hb⟩
 obtain ⟨N, rfl⟩ := Int.eq_ofNat_of_zero_le (show 0 <= n by omega);obtain ⟨J, rfl⟩ := Int.eq_ofNat_of_zero_le (show 0 <= j by omega);have e : zqaq N J = zqac N J := by unfold zqaq; rw [if_pos hv]; rfl
 rw [e];obtain ⟨v1, v2, v3, v4⟩ := hv;rw [zqf0 (by omega) (by omega) (by omega)] at c1;have hl := zqc8 N J;have hst : Hid (∀ i, i < (zqac N J).length -> ∃ F S : Nat, ∃ b v : Nd, (zqdy N J)[i + 1]? = some ⟨F, S⟩ /\ (zqdy N J)[i]? = some b /\ (zqac N J)[i]? = some v /\ 2 <= S /\ S <= 1024 /\ F <= 1024 /\ ((b = ⟨F, zqr S⟩ /\ v = ⟨F + zqr S, S - zqr S⟩) \/ (b = ⟨F + zqr S, S - zqr S⟩ /\ v = ⟨F, zqr S⟩))) := fun i hi => by
  obtain ⟨⟨F, S⟩, b, v, e1, e2, e3, e4, e5, e6, e7, e8, e9, e10⟩ := zqqz N J (by omega) (by omega) i hi;have hin := zra3 N J ⟨F, S⟩ (by rw [zqf0 (by omega) (by omega) (by omega)]; exact List.mem_of_getElem? e1);exact ⟨F, S, b, v, e1, e2, e3, e4, hin.2, hin.1, e10⟩
 have hcd := zqed N J (by omega);generalize zqdy N J = P at *;generalize zqac N J = C at *;clear v1 v2 v3 v4 e
 go_enter Tryz.func71, Tryz.ntmps71
 go_wp2_with fail;refine (c1 _).mono ?_
 rintro e w1 ⟨oa, c, rfl, hN, hG⟩;have HN : Hid (NdsAt w1 oa P) := hN;clear hN c1;go_wp2_with fail
 go_loopw [5, 7, 8, 9, 10, 11] (fun v i _ _ _ _ wr => ∃ (k : Nat) (v0 : Value), v0 = v /\ k <= C.length /\ i = .int .i64 k /\ Below w1.heap.size w1 wr /\ Hid (wr.ownsRow w1.heap.size 68 2 v0 (C.take k).length (ndsL (C.take k)))) (fun _ i _ _ _ _ _ => C.length - (intOf i).toNat)
 case atStart => exact ⟨0, _, rfl, by omega, rfl, Grew.refl _, World.ownsRow_nil _ _ _ _⟩
 case round =>
  obtain ⟨k, v0, rfl, hk, rfl, hM, OWN⟩ := hrel
  by_cases hlt : k < C.length
  ·obtain ⟨F, S, b, v, e1, e2, e3, e4, e5, e6, hor⟩ := hst.out k hlt
   rcases HN.out.later hM with h0 | ⟨g, o, rfl, hg, hcl⟩
   ·subst h0; simp at e2
   obtain ⟨l1, l2⟩ := hcl (k + 1) _ e1;obtain ⟨m1, m2⟩ := hcl k _ e2;have l1' : cellOf (zqd wr g) (o + (k + 1) * 2) = some (.int .i64 F) := by rw [Nat.mul_comm]; exact l1
   have l2' : cellOf (zqd wr g) (o + (k + 1) * 2 + 1) = some (.int .i64 S) := by rw [Nat.mul_comm]; exact l2
   have m1' : cellOf (zqd wr g) (o + k * 2) = some (.int .i64 b.f) := by rw [Nat.mul_comm]; exact m1
   have m2' : cellOf (zqd wr g) (o + k * 2 + 1) = some (.int .i64 b.s) := by rw [Nat.mul_comm]; exact m2
   have hnx := zqzs e3;have hlb := zqcd (n := S) e4;have cl := fun W : World => zqqj (S : Int) W (by omega);rw [show ((S : Int)).toNat = S by omega] at cl;have hPl : (k : Int) + 1 < (P.length : Int) := by omega
   have hPk : (k : Int) < (P.length : Int) := by omega
   have hi0 : (0 : Int) <= (k : Int) := by omega
   have hi1 : (0 : Int) <= (k : Int) + 1 := by omega
   have ht1 : ((k : Int) + 1).toNat = k + 1 := by omega
   have hsub : ((S - zqr S : Nat) : Int) = (S : Int) - (zqr S : Int) := by omega
   have hadd : ((F + zqr S : Nat) : Int) = (F : Int) + (zqr S : Int) := by omega
   clear hcl l1 l2 m1 m2 e1 e2 e3 hst;generalize zqr S = L at *;have hDl : (C.take k).length <= 10 := by rw [List.length_take]; omega
   obtain ⟨D2, hD2⟩ : ∃ D2, Hid (C.take (k + 1) = D2) := ⟨_, rfl⟩
   rw [hD2.out] at hnx;generalize C.take k = D at *;go_wp2_with fail;refine (cl _).mono ?_
   rintro e w2 ⟨rfl, hb2⟩;have hR : Below wr.heap.size wr w2 := Grew.trans (by have := Grew.refl wr; exact zqe) hb2;have fu : zqd w2 wr.heap.size = some (.cells #[.int .i64 F, .int .i64 S] 68) := zqb hb2 (by exact zqh);have lfu := zqa fu;have hg2 : g < w2.heap.size := by have := hR.size; omega
   have m1'' := cell_kept hR hg m1';have m2'' := cell_kept hR hg m2';have OWN2 : Hid (w2.ownsRow w1.heap.size 68 2 v0 D.length (ndsL D)) := zqcc OWN.out hR;have hM2 := Grew.trans hM hR;clear hb2 l1' l2' m1' m2' OWN cl hg;generalize wr.heap.size = gu at *;go_wp2_with fail
   (refine zqgn zqc zqc ?_; (repeat (first | refine zqv rfl ?_ | (refine zqo rfl ?_; apply Exists.intro))); refine zqbw ?_; intro γ hinj hbase; (repeat (first | (refine zqy rfl ?_; ((first | go_big_quiet_skip | (go_big_quiet_want; go_big_quiet_op; go_big_quiet_on)); refine wpQuiet_nil ?_)) | ((first | refine zql rfl (fun _ => rfl) ?_ | ((try simp only [Nat.zero_add, Nat.reduceAdd]); apply zqdi zq1; (focus rfl); (focus (first | exact zqag _ | exact zqah _ _ | exact zqaa _ | rfl)); (focus (exact zq8))) | ((try simp only [Nat.zero_add, Nat.reduceAdd]); apply zqbn _ _ zq1; (focus rfl); (focus (intro W; (first | exact zqb9 _ | exact zqbk _ | exact zero_num _ | exact zqbl _ | exact zqa9 _ | exact zqa5 _))); (focus (first | exact zqa8 _ _ _ | exact zqbm _ _ | rfl)); (focus (exact zq8))) | ((try simp only [Nat.zero_add, Nat.reduceAdd]); apply zqbx zq1; (focus rfl); (focus (intro W; simp only [List.map_toArray, List.map_cons, List.map_nil]; first | fail)); (focus (exact zq8))) | (apply zq9; (focus rfl); (focus rfl); (focus rfl); (focus (intro W hC hF; go_big_quiet_want; go_big_quiet_op; (first | go_big_quiet_on | (apply Exists.intro; refine ⟨fun _ => ?_, ?_⟩; (focus (fail)); go_big_quiet_on)); exact wpQuiet_nil rfl)); (focus (first | exact fun _ => ⟨rfl, rfl⟩ | exact fun h => absurd h (by decide))))); ((first | go_big_quiet_skip | (go_big_quiet_want; go_big_quiet_op; go_big_quiet_on)); refine wpQuiet_nil ?_)) | refine zqm rfl (fun _ => rfl) ?_ | ((try simp only [Nat.zero_add, Nat.reduceAdd]); apply zqbo (zqa7 (hbase _)); (focus rfl); (focus rfl); (focus rfl); (focus (first | exact zqag _ | exact zqah _ _ | exact zqaa _ | rfl)); rotate_left 3; (focus (exact zqdv)); rotate_right 3; (focus kernel_rfl); (focus (first | exact zqj _ _ _ | rfl)); (focus (first | exact zqa3 _ _ _ | exact zqbr _ _ _ _ | kernel_rfl)); (focus (decide +kernel)); (focus (exact zq8))))))
   (refine zqb7 ?_; rintro _ ⟨mq, rfl⟩ hF; simp only [List.forall_mem_cons] at hF; obtain ⟨f16, f15, -⟩ := hF)
   have fr : zqd (more w2 mq) (γ 14) = some (.cells #[.int .i64 ((F : Int) + (L : Int)), .int .i64 ((S : Int) - (L : Int))] 68) := f16;have fl : zqd (more w2 mq) (γ 13) = some (.cells #[.int .i64 (F : Int), .int .i64 (L : Int)] 68) := f15;have hR3 : Below w2.heap.size w2 (more w2 mq) := zqk w2 mq;have n1 := cell_kept hR3 hg2 m1'';have n2 := cell_kept hR3 hg2 m2'';have hg3 : g < (more w2 mq).heap.size := by have := hR3.size; omega
   have OWN3 : Hid ((more w2 mq).ownsRow w1.heap.size 68 2 v0 D.length (ndsL D)) := zqcc OWN2.out hR3;have hM3 := Grew.trans hM2 hR3;clear hinj hbase f16 f15 m1'' m2'' OWN2 hM2 hR3 hR fu lfu hg2;generalize γ 14 = gr at *;generalize γ 13 = gl at *;generalize more w2 mq = w3 at *;have lfr := zqa fr;have lfl := zqa fl;have hne : ¬ ((F : Int) = (F : Int) + (L : Int)) := by omega
   rcases hor with ⟨rfl, rfl⟩ | ⟨rfl, rfl⟩
   ·simp only at n1 n2 hnx
    go_wp2_with fail
    ((first | (with_reducible refine zq5 zqc zqc ?_) | refine zqz zqc zqc ?_); (repeat (first | go_big_quiet_skip | (go_big_quiet_want; go_big_quiet_op; go_big_quiet_on))); refine wpQuiet_nil ?_; rintro _ ⟨mq, rfl⟩)
    have fr4 := zqp mq fr;have hM4 := Grew.trans hM3 (zqk w3 mq);have OWN4 : Hid ((more w3 mq).ownsRow w1.heap.size 68 2 v0 D.length (ndsL D)) := zqcc OWN3.out (zqk w3 mq);clear n1 n2 fr fl lfr lfl OWN3 hM3 hg3;generalize more w3 mq = w4 at *;have lfr := zqa fr4;obtain ⟨g5, c5, w5, hr5, own5, hb5, _⟩ := zqjg w1 (w4.alloc (.cells #[.int .i64 ((F + L : Nat) : Int), .int .i64 ((S - L : Nat) : Int)] 68)) w1.heap.size v0 D ⟨F + L, S - L⟩ w4.heap.size (OWN4.out.alloc _) (by omega) (zqf _ _ _ rfl) (Grew.alloc hM4 _) (Nat.le_refl _) (by have := (Grew.alloc hM4 (.cells #[.int .i64 ((F + L : Nat) : Int), .int .i64 ((S - L : Nat) : Int)] 68)).size; omega);rw [hadd, hsub] at hr5;have OWN5 : Hid (w5.ownsRow w1.heap.size 68 2 (.slice (some ⟨g5, 0, none⟩) (D.length + 1) c5) D2.length (ndsL D2)) := by rw [hnx]; exact own5
    clear own5 hnx OWN4;go_wp2
    go_roundw
    case rel => first | exact ⟨k + 1, _, rfl, by omega, by go_num, hb5, by rw [hD2.out]; exact OWN5⟩ | ((repeat' apply Exists.intro) <;> first | exact ⟨⟨k + 1, _, rfl, by omega, by go_num, hb5, by rw [hD2.out]; exact OWN5⟩, rfl⟩ | exact undef)
    case measure => (simp [intOf] <;> omega)
   ·simp only at n1 n2 hnx
    rw [hadd] at n1;rw [hsub] at n2;go_wp2_with fail
    ((first | (with_reducible refine zq5 zqc zqc ?_) | refine zqz zqc zqc ?_); (repeat (first | go_big_quiet_skip | (go_big_quiet_want; go_big_quiet_op; go_big_quiet_on))); refine wpQuiet_nil ?_; rintro _ ⟨mq, rfl⟩)
    have fl4 := zqp mq fl;have hM4 := Grew.trans hM3 (zqk w3 mq);have OWN4 : Hid ((more w3 mq).ownsRow w1.heap.size 68 2 v0 D.length (ndsL D)) := zqcc OWN3.out (zqk w3 mq);clear n1 n2 fr fl lfr lfl OWN3 hM3 hg3;generalize more w3 mq = w4 at *;have lfl := zqa fl4;obtain ⟨g5, c5, w5, hr5, own5, hb5, _⟩ := zqjg w1 (w4.alloc (.cells #[.int .i64 (F : Int), .int .i64 (L : Int)] 68)) w1.heap.size v0 D ⟨F, L⟩ w4.heap.size (OWN4.out.alloc _) (by omega) (zqf _ _ _ rfl) (Grew.alloc hM4 _) (Nat.le_refl _) (by have := (Grew.alloc hM4 (.cells #[.int .i64 (F : Int), .int .i64 (L : Int)] 68)).size; omega);have OWN5 : Hid (w5.ownsRow w1.heap.size 68 2 (.slice (some ⟨g5, 0, none⟩) (D.length + 1) c5) D2.length (ndsL D2)) := by rw [hnx]; exact own5
    clear own5 hnx OWN4;go_wp2
    go_roundw
    case rel => first | exact ⟨k + 1, _, rfl, by omega, by go_num, hb5, by rw [hD2.out]; exact OWN5⟩ | ((repeat' apply Exists.intro) <;> first | exact ⟨⟨k + 1, _, rfl, by omega, by go_num, hb5, by rw [hD2.out]; exact OWN5⟩, rfl⟩ | exact undef)
    case measure => (simp [intOf] <;> omega)
  ·obtain rfl : k = C.length := by omega
   rw [List.take_length] at OWN;obtain ⟨oa2, c2, rfl, hN2, hl2⟩ := zqjs OWN.out;have hPl : ¬ ((C.length : Int) + 1 < (P.length : Int)) := by omega
   have HN2 : Hid (NdsAt wr oa2 C) := hN2;clear OWN hN2 hst;go_wp2;go_ret;exact ⟨oa2, c2, rfl, HN2, Grew.trans hG hM⟩
end Go.Proofs.YtnjghcnhcbobhaaGreatDoor
