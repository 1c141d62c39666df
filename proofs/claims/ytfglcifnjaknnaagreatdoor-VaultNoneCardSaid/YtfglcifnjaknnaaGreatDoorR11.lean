/- R11 -/
import Derived.Test.YtfglcifnjaknnaaGreatDoorNds
import Derived.Test.YtfglcifnjaknnaaGreatDoorFrame
set_option linter.unusedVariables false
set_option linter.unusedSimpArgs false
namespace Go.Proofs.YtfglcifnjaknnaaGreatDoor
open Go.RowKit
theorem zqem (g j : Nat) : (⟨g, j, none⟩ : Addr) = (⟨g, 0, none⟩ : Addr).add j := by unfold Addr.add; split <;> simp_all
theorem zqf8 {t e : TypeId} {i : TypeInfo} {z : Value} (size bytes : Nat) (ht : Tryz.prog.underlying t = some (.slice e)) (hi : Tryz.prog.info? e = some i) (hz : i.zero = some z) (hsize : i.size = size) (hby : i.bytes = bytes) (hzs : z.cells.size = size) (hsz : 0 < size) (hb8 : bytes <= 4096)
  (ty : TypeId) (w W : World) (base : Nat) (v : Value) (n : Nat) (xs : List Value) (ad : Addr) (m c : Nat) (news : List Value) (own : W.ownsRow base e size v n xs) (hn : n + m <= 1073741824) (hm : 0 < m)
  (hl : news.length = m * size) (hnews : ∀ j u, news[j]? = some u -> W.cell? (ad.add j) = some u) (h1 : ∀ u ∈ news, u.oneCell' = true) (hG : Below w.heap.size w W) (hwb : w.heap.size <= base) (hbW : base <= W.heap.size) :
  ∃ g cap w', (zqr #[t, t] ty #[v, .slice (some ad) m c]).run Tryz.prog W = .ok (.value (.slice (some ⟨g, 0, none⟩) (n + m) cap)) w' /\ w'.ownsRow base e size (.slice (some ⟨g, 0, none⟩) (n + m) cap) (n + m) (xs ++ news) /\
   Below w.heap.size w w' /\ (∀ m o, m < base -> zqe W m = some o -> zqe w' m = some o) /\ base <= g := by
 have hbn : (n + m) * bytes <= 140737488355328 := Nat.le_trans (Nat.mul_le_mul hn hb8) (by decide);obtain ⟨g, cap, w', hr, ho, hg, _, _⟩ := run_append_lies (P := Tryz.prog) W t ty base e i z size bytes ht hi hz hsize hby hzs hsz v n xs own ad m c news hl hnews h1 hm (by unfold maxLen; omega) hbn hbW W.heap.size rfl;obtain ⟨h2, h3⟩ := zqqk own hg hG hwb;exact ⟨g, cap, w', by unfold zqr; simp only [Sem.run_bind, hr, Result.andThen_ok, Sem.run_pure], ho, h2, h3, (ho.lt g rfl).1⟩
theorem zrcc {w : World} {base g n size : Nat} {e : TypeId} {cs : Array Value} (h : zqe w g = some (.cells cs e)) (hb : base <= g) (hs : cs.size = n * size) (hn : n <= maxLen) : w.ownsRow base e size (.slice (some ⟨g, 0, none⟩) n n) n cs.toList :=
 ⟨by rw [Array.length_toList, hs], .inr ⟨g, n, cs, rfl, hb, h, Nat.le_refl _, hn, hs, by rw [List.take_of_length_le]; rw [Array.length_toList, hs]; exact Nat.le_refl _⟩⟩
theorem zq3t {w : World} {base base' n size : Nat} {e : TypeId} {v : Value} {xs : List Value} (h : w.ownsRow base e size v n xs) (hb : base' <= base) : w.ownsRow base' e size v n xs := by
 rcases h with ⟨h1, h2 | ⟨g, cap, cur, hv, hg, rest⟩⟩
 ·exact ⟨h1, .inl h2⟩
 ·exact ⟨h1, .inr ⟨g, cap, cur, hv, Nat.le_trans hb hg, rest⟩⟩
def zqqb (w : World) (L : List Nd) (e : Ending) (w' : World) : Prop := ∃ oa c, e = .returned (.slice oa L.length c) /\ NdsAt w' oa L /\ Below w.heap.size w w'
def allN (n : Int) : List Nd := if 1 <= n /\ n <= 1024 then zqae 0 n.toNat else []
theorem zqhi {n : Nat} (h1 : 1 <= n) (h2 : n <= 1024) : allN n = zqae 0 n := by unfold allN; rw [if_pos (by omega)]; rfl
theorem zqn8 {n : Int} (h : ¬ (1 <= n /\ n <= 1024)) : allN n = [] := by unfold allN; rw [if_neg h]
theorem zq8n (n : Int) : (allN n).length <= 2047 := by
 unfold allN
 split
 ·rw [zqcb _ _ (by omega)]; omega
 ·simp
def idxN (f s : Nat) : List Nd -> Nat -> Int
 | [], _ => -1
 | u :: l, k => if u.f = f /\ u.s = s then (k : Int) else idxN f s l (k + 1)
theorem drop_at {L : List Nd} {k : Nat} {u : Nd} (h : L[k]? = some u) : L.drop k = u :: L.drop (k + 1) := by
 obtain ⟨hk, e⟩ := List.getElem?_eq_some_iff.1 h
 rw [<- e];exact List.drop_eq_getElem_cons hk
theorem zrba {f s k : Nat} {u : Nd} {L : List Nd} (h : L[k]? = some u) (he : u.f = f /\ u.s = s) : idxN f s (L.drop k) k = k := by rw [drop_at h, idxN, if_pos he]
theorem zq5o {f s k : Nat} {u : Nd} {L : List Nd} (h : L[k]? = some u) (he : ¬ (u.f = f /\ u.s = s)) : idxN f s (L.drop k) k = idxN f s (L.drop (k + 1)) (k + 1) := by rw [drop_at h, idxN, if_neg he]
theorem zrby {f s k : Nat} {L : List Nd} (h : L.length <= k) : idxN f s (L.drop k) k = -1 := by rw [List.drop_of_length_le h]; rfl
def idxI (f s : Int) : List Nd -> Nat -> Int
 | [], _ => -1
 | u :: l, k => if (u.f : Int) = f /\ (u.s : Int) = s then (k : Int) else idxI f s l (k + 1)
theorem zqoa (f s : Nat) : ∀ (L : List Nd) (k : Nat), idxI f s L k = idxN f s L k
 | [], k => rfl
 | u :: L, k => by
  rw [idxI, idxN, zqoa f s L (k + 1)]
  by_cases h : u.f = f /\ u.s = s
  ·rw [if_pos h, if_pos (by omega)]
  ·rw [if_neg h, if_neg (by omega)]
def hasI (n j : Int) (v : Nd) : Bool := decide (0 <= j) && decide (j < n) && decide ((v.f : Int) <= j) && decide (j < (v.f : Int) + (v.s : Int))
def zqi0 (n j : Int) : List Nd := (allN n).reverse.filter (hasI n j)
theorem zq0e {n j : Int} (h : ¬ (1 <= n /\ n <= 1024 /\ 0 <= j /\ j < n)) : zqi0 n j = [] := by
 unfold zqi0
 by_cases h1 : 1 <= n /\ n <= 1024
 ·rw [List.filter_eq_nil_iff]
  intro v _ hv;unfold hasI at hv
  simp only [Bool.and_eq_true, decide_eq_true_eq] at hv
  omega
 ·rw [zqn8 h1]; rfl
theorem zqh3 {n j : Nat} (h1 : 1 <= n) (h2 : n <= 1024) (hj : j < n) : zqi0 n j = zqdy n j := by
 unfold zqi0;rw [zqhi h1 h2, <- zqhp n j h1 hj];refine List.filter_congr fun v _ => ?_
 rw [Bool.eq_iff_iff, zqop];unfold hasI
 simp only [Bool.and_eq_true, decide_eq_true_eq]
 omega
theorem zrbe (n j : Int) : (zqi0 n j).length <= 2047 := by
 unfold zqi0;have h1 := List.length_filter_le (hasI n j) (allN n).reverse;rw [List.length_reverse] at h1;have h2 := zq8n n;exact Nat.le_trans h1 h2
theorem zqbd (a b : Value) : (Value.agg #[a, b]).cells.size = 2 := rfl
theorem zqbk (k k' : IntKind) (a b : Int) : (#[Value.int k a, Value.int k' b] : Array Value).all (·.oneCell') = true := by simp [Value.oneCell']
def zqb6 (n j : Int) : List Nd := if 1 <= n /\ n <= 1024 /\ 0 <= j /\ j < n then zqac n.toNat j.toNat else []
end Go.Proofs.YtfglcifnjaknnaaGreatDoor
