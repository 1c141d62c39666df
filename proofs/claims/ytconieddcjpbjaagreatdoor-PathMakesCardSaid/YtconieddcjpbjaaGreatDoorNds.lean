/- Nds -/
import Derived.Test.YtconieddcjpbjaaGreatDoorOw
import Derived.Test.YtconieddcjpbjaaGreatDoorBase
import Derived.Test.YtconieddcjpbjaaGreatDoorMem
set_option linter.unusedVariables false
set_option linter.unusedSimpArgs false
namespace Go.Proofs.YtconieddcjpbjaaGreatDoor
open Go.RowKit Go.Lib
theorem zqr5 {w W w' : World} {base : Nat} {e : TypeId} {size : Nat} {v : Value} {n : Nat} {xs : List Value} (own : W.ownsRow base e size v n xs) (hg : W.grownBy w' v.ownBlock) (hG : Below w.heap.size w W) (hwb : w.heap.size <= base) :
  Below w.heap.size w w' /\ ∀ m o, m < base -> zqd W m = some o -> zqd w' m = some o := by
 refine ⟨hG.grown hg hG.size (fun k hk => ?_), fun m o hm hob => ?_⟩
 ·have := (own.lt k hk).1; omega
 ·have hlt := zqa hob
  refine (hg.block m hlt fun e => ?_).trans hob;have := (own.lt m e.symm).1
  omega
section
variable {ops : Array Oper} {o : Oper} {a : Act} {K : Act -> World -> Prop} {Q : Exit -> Act -> World -> Prop} {E : Prop}
theorem zq5i {t e : TypeId} {i : TypeInfo} {z : Value} (size bytes : Nat) (ht : Tryz.prog.underlying t = some (.slice e)) (hi : Tryz.prog.info? e = some i) (hz : i.zero = some z) (hsize : i.size = size) (hby : i.bytes = bytes) (hzs : z.cells.size = size) (hsz : 0 < size) (hb8 : bytes <= 4096)
  (hgd : o.guard = none) (s x : Operand) (ho : o.op = .call { callee := .builtin .append, args := #[s, x], argTypes := #[t, t] })
  (w W : World) (base : Nat) (v : Value) (n : Nat) (xs : List Value) (ad : Addr) (m c : Nat) (news : List Value) (hs : a.eval s = v) (hx : a.eval x = .slice (some ad) m c) (own : W.ownsRow base e size v n xs) (hn : n + m <= 1073741824) (hm : 0 < m)
  (hl : news.length = m * size) (hnews : ∀ j u, news[j]? = some u -> W.cell? (ad.add j) = some u) (h1 : ∀ u ∈ news, u.oneCell' = true) (hG : Below w.heap.size w W) (hwb : w.heap.size <= base) (hbW : base <= W.heap.size)
  (h : ∀ g cap w', w'.ownsRow base e size (.slice (some ⟨g, 0, none⟩) (n + m) cap) (n + m) (xs ++ news) -> Below w.heap.size w w' -> (∀ m ob, m < base -> zqd W m = some ob -> zqd w' m = some ob) -> base <= g -> K (a.put o.dst (.slice (some ⟨g, 0, none⟩) (n + m) cap)) w') :
  if Region.wanted o (yielded ops a.tmps) = true then Oper.wp Tryz.prog o a W K Q else E := by
 have hbn : (n + m) * bytes <= 140737488355328 := Nat.le_trans (Nat.mul_le_mul hn hb8) (by decide);refine step_append_lies (P := Tryz.prog) (w := W) hgd s x t ho base e i z size bytes ht hi hz hsize hby hzs hsz v n xs hs own ad m c news hx hl hnews h1 hm (by unfold maxLen; omega) hbn hbW W.heap.size rfl (fun g cap w' ho' hg _ _ => ?_);obtain ⟨h1, h2⟩ := zqr5 own hg hG hwb;exact h g cap w' ho' h1 h2 (ho'.lt g rfl).1
theorem step_cells {t e : TypeId} {i : TypeInfo} {z : Value} (size bytes : Nat) (ht : Tryz.prog.underlying t = some (.slice e)) (hi : Tryz.prog.info? e = some i) (hz : i.zero = some z) (hsize : i.size = size) (hby : i.bytes = bytes) (hzs : z.cells.size = size) (hsz : 0 < size) (hb8 : bytes <= 4096)
  (hgd : o.guard = none) (s x : Operand) (ho : o.op = .call { callee := .builtin .append, args := #[s, x], argTypes := #[t, t] })
  (w W : World) (base : Nat) (v : Value) (n : Nat) (xs : List Value) (cs : Array Value) (g2 : Nat) (t2 : TypeId) (fr : Nat × Nat) (hs : a.eval s = v) (hx : a.eval x = .slice (some ⟨g2, 0, none⟩) 1 1) (own : W.ownsRow base e size v n xs) (hn : n <= 1048576)
  (hg2 : zqd W g2 = some (.cells cs t2 fr)) (hcs : cs.size = size) (h1 : ∀ u ∈ cs.toList, u.oneCell' = true) (hG : Below w.heap.size w W) (hwb : w.heap.size <= base) (hbW : base <= W.heap.size)
  (h : ∀ g cap w', w'.ownsRow base e size (.slice (some ⟨g, 0, none⟩) (n + 1) cap) (n + 1) (xs ++ cs.toList) -> Below w.heap.size w w' -> (∀ m ob, m < base -> zqd W m = some ob -> zqd w' m = some ob) -> base <= g -> K (a.put o.dst (.slice (some ⟨g, 0, none⟩) (n + 1) cap)) w') :
  if Region.wanted o (yielded ops a.tmps) = true then Oper.wp Tryz.prog o a W K Q else E :=
 zq5i size bytes ht hi hz hsize hby hzs hsz hb8 hgd s x ho w W base v n xs ⟨g2, 0, none⟩ 1 1 cs.toList hs hx own (by omega) (by decide) (by rw [Array.length_toList, hcs, Nat.one_mul])
  (fun j u hu => by
   unfold zqd at hg2;have ha : ((⟨g2, 0, none⟩ : Addr).add j) = ⟨g2, j, none⟩ := by unfold Addr.add; split <;> simp_all
   rw [ha, cell_of_row W g2 j _ _ _ hg2]
   simpa using hu) h1 hG hwb hbW h
end
theorem zqq5 {w : World} {base g n c size : Nat} {xs : List Value} {t : TypeId} (h : w.ownsRow base t size (.slice (some ⟨g, 0, none⟩) n c) n xs) (i : Nat) (u : Value) (hu : xs[i]? = some u) : g < w.heap.size /\ ∀ w', Below w.heap.size w w' -> w'.cell? ⟨g, i, none⟩ = some u := by
 rcases h.2 with ⟨h0, _⟩ | ⟨g', cap, cur, h0, hb, hg, hnc, hcm, hcs, htake⟩
 ·cases h0
 ·cases h0
  have hlt : g < w.heap.size := zqa (show zqd w g = _ from hg);refine ⟨hlt, fun w' hb' => ?_⟩;have h' := zqb hb' (show zqd w g = _ from hg);rw [cell_of_row w' g i _ _ _ h'];have h2 : i < n * size := by
   rcases Nat.lt_or_ge i (n * size) with h2 | h2
   ·exact h2
   ·rw [<- htake, List.getElem?_take, if_neg (by omega)] at hu; cases hu
  rw [<- htake, List.getElem?_take, if_pos h2] at hu
  simpa using hu
end Go.Proofs.YtconieddcjpbjaaGreatDoor
namespace Go.Proofs.YtconieddcjpbjaaGreatDoor
def zqw (n : Nat) : Nat := if n < 2 then 0 else 2 ^ Nat.log2 (n - 1)
theorem zqcr {n : Nat} (h : 2 <= n) : 0 < zqw n /\ zqw n < n /\ n <= 2 * zqw n := by
 unfold zqw;rw [if_neg (by omega)];have h1 : 2 ^ Nat.log2 (n - 1) <= n - 1 := Nat.log2_self_le (by omega);have h2 : n - 1 < 2 ^ (Nat.log2 (n - 1) + 1) := Nat.lt_log2_self;rw [Nat.pow_succ] at h2;exact ⟨Nat.two_pow_pos _, by omega, by omega⟩
theorem zq14 {n d : Nat} (h : 2 <= n) (hd : n <= 2 ^ (d + 1)) : zqw n <= 2 ^ d /\ n - zqw n <= 2 ^ d := by
 have hb := zqcr h;have e : zqw n = 2 ^ Nat.log2 (n - 1) := by unfold zqw; rw [if_neg (by omega)]
 have h1 : Nat.log2 (n - 1) <= d := by
  have h3 : 2 ^ Nat.log2 (n - 1) < 2 ^ (d + 1) := by omega
  have := (Nat.pow_lt_pow_iff_right (a := 2) (by decide)).1 h3
  omega
 have h4 : zqw n <= 2 ^ d := by rw [e]; exact Nat.pow_le_pow_right (by decide) h1
 omega
structure Nd where
 f : Nat
 s : Nat
def Nd.has (v : Nd) (j : Nat) : Prop := v.f <= j /\ j < v.f + v.s
instance (v : Nd) (j : Nat) : Decidable (v.has j) := by unfold Nd.has; infer_instance
theorem zqrb (v : Nd) (j : Nat) : decide (v.has j) = true ↔ v.f <= j /\ j < v.f + v.s := by rw [decide_eq_true_eq]; exact Iff.rfl
theorem zqxb (f s j : Nat) : decide ((⟨f, s⟩ : Nd).has j) = true ↔ f <= j /\ j < f + s := zqrb _ _
theorem zqmh {f s j : Nat} {l : List Nd} (h : f <= j /\ j < f + s) : (⟨f, s⟩ :: l : List Nd).filter (fun v => decide (v.has j)) = ⟨f, s⟩ :: l.filter (fun v => decide (v.has j)) := List.filter_cons_of_pos (p := fun v : Nd => decide (v.has j)) ((zqxb _ _ _).2 h)
theorem zqxz {f s j : Nat} {l : List Nd} (h : ¬ (f <= j /\ j < f + s)) : (⟨f, s⟩ :: l : List Nd).filter (fun v => decide (v.has j)) = l.filter (fun v => decide (v.has j)) := List.filter_cons_of_neg (p := fun v : Nd => decide (v.has j)) (fun hh => h ((zqxb _ _ _).1 hh))
def zqad (f s : Nat) : List Nd := if h : s < 2 then [⟨f, s⟩] else
 have := zqcr (n := s) (by omega)
 ⟨f, s⟩ :: (zqad f (zqw s) ++ zqad (f + zqw s) (s - zqw s))
termination_by s
def zqd7 (f s j : Nat) : List Nd := if h : s < 2 then [⟨f, s⟩] else
 have := zqcr (n := s) (by omega)
 ⟨f, s⟩ :: (if j < f + zqw s then zqd7 f (zqw s) j else zqd7 (f + zqw s) (s - zqw s) j)
termination_by s
def zqcm (f s j : Nat) : List Nd := if h : s < 2 then [] else
 have := zqcr (n := s) (by omega)
 if j < f + zqw s then ⟨f + zqw s, s - zqw s⟩ :: zqcm f (zqw s) j else ⟨f, zqw s⟩ :: zqcm (f + zqw s) (s - zqw s) j
termination_by s
theorem zqb5 {f s : Nat} (h : s < 2) : zqad f s = [⟨f, s⟩] := by rw [zqad, dif_pos h]
theorem zqbt {f s : Nat} (h : 2 <= s) : zqad f s = ⟨f, s⟩ :: (zqad f (zqw s) ++ zqad (f + zqw s) (s - zqw s)) := by rw [zqad, dif_neg (by omega)]
theorem zqjd {f s j : Nat} (h : s < 2) : zqd7 f s j = [⟨f, s⟩] := by rw [zqd7, dif_pos h]
theorem zqgq {f s j : Nat} (h : 2 <= s) (hj : j < f + zqw s) : zqd7 f s j = ⟨f, s⟩ :: zqd7 f (zqw s) j := by rw [zqd7, dif_neg (by omega)]; simp only [hj, if_true]
theorem zqfb {f s j : Nat} (h : 2 <= s) (hj : ¬ j < f + zqw s) : zqd7 f s j = ⟨f, s⟩ :: zqd7 (f + zqw s) (s - zqw s) j := by rw [zqd7, dif_neg (by omega)]; simp only [hj, if_false]
theorem zqd5 {f s j : Nat} (h : s < 2) : zqcm f s j = [] := by rw [zqcm, dif_pos h]
theorem zqea {f s j : Nat} (h : 2 <= s) (hj : j < f + zqw s) : zqcm f s j = ⟨f + zqw s, s - zqw s⟩ :: zqcm f (zqw s) j := by rw [zqcm, dif_neg (by omega)]; simp only [hj, if_true]
theorem zqds {f s j : Nat} (h : 2 <= s) (hj : ¬ j < f + zqw s) : zqcm f s j = ⟨f, zqw s⟩ :: zqcm (f + zqw s) (s - zqw s) j := by rw [zqcm, dif_neg (by omega)]; simp only [hj, if_false]
theorem zqec {P : Nat -> Nat -> Prop} (h1 : ∀ f s, s < 2 -> P f s) (h2 : ∀ f s, 2 <= s -> P f (zqw s) -> P (f + zqw s) (s - zqw s) -> P f s) (f s : Nat) : P f s := by
 induction s using Nat.strongRecOn generalizing f with
 | _ s ih =>
  by_cases h : s < 2
  ·exact h1 f s h
  ·have hb := zqcr (n := s) (by omega)
   exact h2 f s (by omega) (ih _ (by omega) f) (ih _ (by omega) _)
theorem zqb6 (f s : Nat) : 1 <= s -> (zqad f s).length = 2 * s - 1 := by
 refine zqec (P := fun f s => 1 <= s -> (zqad f s).length = 2 * s - 1) (fun f s h h0 => ?_) (fun f s h i1 i2 h0 => ?_) f s
 ·rw [zqb5 h]; simp; omega
 ·have hb := zqcr h
  rw [zqbt h, List.length_cons, List.length_append, i1 (by omega), i2 (by omega)]
  omega
theorem zqdu (f s : Nat) : ∀ v ∈ zqad f s, f <= v.f /\ v.f + v.s <= f + s /\ v.s <= s /\ (1 <= s -> 1 <= v.s) := by
 refine zqec (P := fun f s => ∀ v ∈ zqad f s, f <= v.f /\ v.f + v.s <= f + s /\ v.s <= s /\ (1 <= s -> 1 <= v.s)) (fun f s h v hv => ?_) (fun f s h i1 i2 v hv => ?_) f s
 ·rw [zqb5 h, List.mem_singleton] at hv
  subst hv; simp
 ·have hb := zqcr h
  rw [zqbt h, List.mem_cons, List.mem_append] at hv
  rcases hv with rfl | hv | hv
  ·simp
  ·have := i1 v hv; omega
  ·have := i2 v hv; omega
theorem zqom (f s : Nat) : 1 <= s -> (zqad f s).Nodup := by
 refine zqec (P := fun f s => 1 <= s -> (zqad f s).Nodup) (fun f s h h0 => ?_) (fun f s h i1 i2 h0 => ?_) f s
 ·rw [zqb5 h]; simp
 ·have hb := zqcr h
  rw [zqbt h, List.nodup_cons, List.nodup_append];refine ⟨fun hm => ?_, i1 (by omega), i2 (by omega), fun a ha b hb' e => ?_⟩
  ·rcases List.mem_append.1 hm with hm | hm
   ·have := zqdu _ _ _ hm; simp at this; omega
   ·have := zqdu _ _ _ hm; simp at this; omega
  ·subst e
   have h1 := zqdu _ _ _ ha;have h2 := zqdu _ _ _ hb';have h3 := h1.2.2.2 (by omega)
   omega
theorem zqph (f s j : Nat) (h : ¬ (f <= j /\ j < f + s)) : (zqad f s).filter (fun v => decide (v.has j)) = [] := by
 rw [List.filter_eq_nil_iff];intro v hv;have := zqdu f s v hv;intro hh;have := (zqrb _ _).1 hh
 omega
theorem zq0j (j : Nat) (f s : Nat) : 1 <= s -> f <= j -> j < f + s -> (zqad f s).filter (fun v => decide (v.has j)) = zqd7 f s j := by
 refine zqec (P := fun f s => 1 <= s -> f <= j -> j < f + s -> (zqad f s).filter (fun v => decide (v.has j)) = zqd7 f s j) (fun f s h h0 h1 h2 => ?_) (fun f s h i1 i2 h0 h1 h2 => ?_) f s
 ·rw [zqb5 h, zqjd h, zqmh ⟨h1, h2⟩, List.filter_nil]
 ·have hb := zqcr h
  rw [zqbt h, zqmh (by omega), List.filter_append]
  by_cases hj : j < f + zqw s
  ·rw [zqgq h hj, i1 (by omega) h1 hj, zqph _ _ _ (by omega), List.append_nil]
  ·rw [zqfb h hj, i2 (by omega) (by omega) (by omega), zqph _ _ _ (by omega), List.nil_append]
theorem zqfq (j f s : Nat) : (zqd7 f s j).length = (zqcm f s j).length + 1 := by
 refine zqec (P := fun f s => (zqd7 f s j).length = (zqcm f s j).length + 1) (fun f s h => ?_) (fun f s h i1 i2 => ?_) f s
 ·rw [zqjd h, zqd5 h]; rfl
 ·by_cases hj : j < f + zqw s
  ·rw [zqgq h hj, zqea h hj, List.length_cons, List.length_cons, i1]
  ·rw [zqfb h hj, zqds h hj, List.length_cons, List.length_cons, i2]
theorem zqfj (j : Nat) : ∀ d f s, s <= 2 ^ d -> (zqcm f s j).length <= d
 | 0, f, s, h => by rw [zqd5 (by omega)]; simp
 | d + 1, f, s, h => by
  by_cases h2 : s < 2
  ·rw [zqd5 h2]; simp
  ·have hb := zq14 (n := s) (by omega) h
   by_cases hj : j < f + zqw s
   ·rw [zqea (by omega) hj, List.length_cons]; have := zqfj j d f _ hb.1; omega
   ·rw [zqds (by omega) hj, List.length_cons]; have := zqfj j d (f + zqw s) _ hb.2; omega
theorem zqh1 (j f s : Nat) : ∃ l, zqd7 f s j = ⟨f, s⟩ :: l := by
 by_cases h : s < 2
 ·exact ⟨[], zqjd h⟩
 ·by_cases hj : j < f + zqw s
  ·exact ⟨_, zqgq (by omega) hj⟩
  ·exact ⟨_, zqfb (by omega) hj⟩
theorem zq4d (j f s : Nat) : 1 <= s -> f <= j -> j < f + s -> (zqd7 f s j).getLast? = some ⟨j, 1⟩ := by
 refine zqec (P := fun f s => 1 <= s -> f <= j -> j < f + s -> (zqd7 f s j).getLast? = some ⟨j, 1⟩) (fun f s h h0 h1 h2 => ?_) (fun f s h i1 i2 h0 h1 h2 => ?_) f s
 ·rw [zqjd h]
  obtain rfl : s = 1 := by omega
  obtain rfl : f = j := by omega
  rfl
 ·have hb := zqcr h
  by_cases hj : j < f + zqw s
  ·rw [zqgq h hj]
   obtain ⟨l, e⟩ := zqh1 j f (zqw s);have := i1 (by omega) h1 hj;rw [e] at this ⊢;exact this
  ·rw [zqfb h hj]
   obtain ⟨l, e⟩ := zqh1 j (f + zqw s) (s - zqw s);have := i2 (by omega) (by omega) (by omega);rw [e] at this ⊢;exact this
theorem zq0r (j f s : Nat) : 1 <= s -> f <= j -> j < f + s -> ∀ i v, (zqcm f s j)[i]? = some v -> ∃ a b, (zqd7 f s j)[i]? = some a /\ (zqd7 f s j)[i + 1]? = some b /\ a.s = b.s + v.s /\ a.f = min b.f v.f /\ a.has j /\ ¬ v.has j /\ 1 <= v.s /\ ((b.f = a.f /\ b.s = zqw a.s /\ v.f = a.f + zqw a.s) \/ (v.f = a.f /\ v.s = zqw a.s /\ b.f = a.f + zqw a.s)) /\ 2 <= a.s := by
 refine zqec (P := fun f s => 1 <= s -> f <= j -> j < f + s -> ∀ i v, (zqcm f s j)[i]? = some v -> ∃ a b, (zqd7 f s j)[i]? = some a /\ (zqd7 f s j)[i + 1]? = some b /\ a.s = b.s + v.s /\ a.f = min b.f v.f /\ a.has j /\ ¬ v.has j /\ 1 <= v.s /\ ((b.f = a.f /\ b.s = zqw a.s /\ v.f = a.f + zqw a.s) \/ (v.f = a.f /\ v.s = zqw a.s /\ b.f = a.f + zqw a.s)) /\ 2 <= a.s) (fun f s h h0 h1 h2 i v hv => ?_) (fun f s h i1 i2 h0 h1 h2 i v hv => ?_) f s
 ·rw [zqd5 h] at hv; cases hv
 ·have hb := zqcr h
  by_cases hj : j < f + zqw s
  ·rw [zqea h hj] at hv
   rw [zqgq h hj]
   cases i with
   | zero =>
    obtain ⟨l, e⟩ := zqh1 j f (zqw s);rw [e]
    simp only [List.getElem?_cons_zero, Option.some.injEq] at hv
    subst hv;exact ⟨⟨f, s⟩, ⟨f, zqw s⟩, rfl, rfl, by simp; omega, by simp; try omega, ⟨h1, h2⟩, fun hh => by have := (zqxb _ _ _).1 (decide_eq_true hh); omega, by simp; omega, .inl ⟨rfl, rfl, rfl⟩, h⟩
   | succ i =>
    rw [List.getElem?_cons_succ] at hv;exact i1 (by omega) h1 hj i v hv
  ·rw [zqds h hj] at hv
   rw [zqfb h hj]
   cases i with
   | zero =>
    obtain ⟨l, e⟩ := zqh1 j (f + zqw s) (s - zqw s);rw [e]
    simp only [List.getElem?_cons_zero, Option.some.injEq] at hv
    subst hv;exact ⟨⟨f, s⟩, ⟨f + zqw s, s - zqw s⟩, rfl, rfl, by simp; omega, by simp; try omega, ⟨h1, h2⟩, fun hh => by have := (zqxb _ _ _).1 (decide_eq_true hh); omega, by simp; omega, .inr ⟨rfl, rfl, rfl⟩, h⟩
   | succ i =>
    rw [List.getElem?_cons_succ] at hv;exact i2 (by omega) (by omega) (by omega) i v hv
def zqnm (l : List Nd) (k : Nat) : Nat := (l.filter fun v => decide (v.has k)).length
theorem zqwf (j k f s : Nat) : 1 <= s -> f <= j -> j < f + s -> f <= k -> k < f + s -> zqnm (zqcm f s j) k + (if k = j then 1 else 0) = 1 := by
 refine zqec (P := fun f s => 1 <= s -> f <= j -> j < f + s -> f <= k -> k < f + s -> zqnm (zqcm f s j) k + (if k = j then 1 else 0) = 1) (fun f s h h0 h1 h2 h3 h4 => ?_) (fun f s h i1 i2 h0 h1 h2 h3 h4 => ?_) f s
 ·rw [zqd5 h, if_pos (by omega)]; rfl
 ·have hb := zqcr h
  have none : ∀ f s : Nat, ¬ (f <= k /\ k < f + s) -> f <= j -> j < f + s -> zqnm (zqcm f s j) k = 0 := fun f s hk hj1 hj2 => by
   unfold zqnm;rw [List.length_eq_zero_iff, List.filter_eq_nil_iff];intro v hv;have hin : ∀ f s : Nat, ∀ v ∈ zqcm f s j, f <= v.f /\ v.f + v.s <= f + s := fun f s => by
    refine zqec (P := fun f s => ∀ v ∈ zqcm f s j, f <= v.f /\ v.f + v.s <= f + s) (fun f s h v hv => ?_) (fun f s h i1 i2 v hv => ?_) f s
    ·rw [zqd5 h] at hv; cases hv
    ·have hb := zqcr h
     by_cases hj : j < f + zqw s
     ·rw [zqea h hj, List.mem_cons] at hv
      rcases hv with rfl | hv
      ·simp; omega
      ·have := i1 v hv; omega
     ·rw [zqds h hj, List.mem_cons] at hv
      rcases hv with rfl | hv
      ·simp; omega
      ·have := i2 v hv; omega
   have := hin f s v hv;intro hh;have := (zqrb _ _).1 hh
   omega
  by_cases hj : j < f + zqw s
  ·rw [zqea h hj]
   by_cases hk : k < f + zqw s
   ·have := i1 (by omega) h1 hj h3 hk
    unfold zqnm at this ⊢;rw [zqxz (by omega)];exact this
   ·have := none f (zqw s) (by omega) h1 hj
    unfold zqnm at this ⊢;rw [zqmh (by omega), List.length_cons, this, if_neg (by omega)]
  ·rw [zqds h hj]
   by_cases hk : k < f + zqw s
   ·have := none (f + zqw s) (s - zqw s) (by omega) (by omega) (by omega)
    unfold zqnm at this ⊢;rw [zqmh (by omega), List.length_cons, this, if_neg (by omega)]
   ·have := i2 (by omega) (by omega) (by omega) (by omega) (by omega)
    unfold zqnm at this ⊢;rw [zqxz (by omega)];exact this
section
variable {K : Type} (up : K -> K -> K) (pub : K -> K)
def secN (L : Nat -> K) (f s : Nat) : K := if h : s < 2 then L f else
 have := zqcr (n := s) (by omega)
 up (secN L f (zqw s)) (pub (secN L (f + zqw s) (s - zqw s)))
termination_by s
theorem zrbb {L : Nat -> K} {f s : Nat} (h : s < 2) : secN up pub L f s = L f := by rw [secN, dif_pos h]
theorem zq6s {L : Nat -> K} {f s : Nat} (h : 2 <= s) : secN up pub L f s = up (secN up pub L f (zqw s)) (pub (secN up pub L (f + zqw s) (s - zqw s))) := by rw [secN, dif_neg (by omega)]
variable (hc : ∀ a b, up a (pub b) = up b (pub a))
include hc
end
theorem zqmp {n j : Nat} (h1 : 2 ^ j < n) (h2 : n <= 2 * 2 ^ j) : zqw n = 2 ^ j := by
 have hp := Nat.two_pow_pos j;unfold zqw;rw [if_neg (by omega)]
 congr 1
 rw [Nat.log2_eq_iff (by omega)];rw [Nat.pow_succ]
 omega
theorem zqs0 {n : Nat} (h : n < 2) : zqw n = 0 := by unfold zqw; rw [if_pos h]
def zqco (n j : Nat) : List Nd := (zqd7 0 n j).reverse
def zq1 (n j : Nat) : List Nd := (zqcm 0 n j).reverse
theorem zqa0 (n j : Nat) : (zqco n j).length = (zq1 n j).length + 1 := by
 unfold zqco zq1;rw [List.length_reverse, List.length_reverse, zqfq]
theorem zqiw (n j : Nat) (h0 : 1 <= n) (h : j < n) : (zqad 0 n).reverse.filter (fun v => decide (v.has j)) = zqco n j := by
 rw [List.filter_reverse, zq0j j 0 n h0 (Nat.zero_le _) (by omega)]; rfl
theorem zqbm (n j : Nat) (h : n <= 1024) : (zq1 n j).length <= 10 := by
 unfold zq1;rw [List.length_reverse];exact zqfj j 10 0 n h
theorem zqnk (n j : Nat) (h0 : 1 <= n) (h : j < n) (i : Nat) (hi : i < (zq1 n j).length) :
  ∃ up b v, (zqco n j)[i + 1]? = some up /\ (zqco n j)[i]? = some b /\ (zq1 n j)[i]? = some v /\ 2 <= up.s /\ b.s + v.s = up.s /\ up.has j /\ ¬ v.has j /\ up.f = min b.f v.f /\ 1 <= v.s /\
   ((b = ⟨up.f, zqw up.s⟩ /\ v = ⟨up.f + zqw up.s, up.s - zqw up.s⟩) \/ (b = ⟨up.f + zqw up.s, up.s - zqw up.s⟩ /\ v = ⟨up.f, zqw up.s⟩)) := by
 have hl := zqa0 n j;unfold zq1 at hi;rw [List.length_reverse] at hi;have hl2 : (zqd7 0 n j).length = (zqcm 0 n j).length + 1 := zqfq j 0 n;obtain ⟨v, hv⟩ : ∃ v, (zqcm 0 n j)[(zqcm 0 n j).length - 1 - i]? = some v := ⟨_, List.getElem?_eq_getElem (by omega)⟩
 obtain ⟨a, b, e1, e2, e3, e4, e5, e6, e7, hk, ha⟩ := zq0r j 0 n h0 (Nat.zero_le _) (by omega) _ v hv;refine ⟨a, b, v, ?_, ?_, ?_, ha, e3.symm, e5, e6, e4, e7, ?_⟩
 ·unfold zqco
  rw [List.getElem?_reverse (by omega), <- e1]
  congr 1; omega
 ·unfold zqco
  rw [List.getElem?_reverse (by omega), <- e2]
  congr 1; omega
 ·unfold zq1
  rw [List.getElem?_reverse (by omega), <- hv]
 ·cases a; cases b; cases v
  simp only [Nd.mk.injEq] at *
  rcases hk with ⟨k1, k2, k3⟩ | ⟨k1, k2, k3⟩
  ·left; omega
  ·right; omega
theorem zqpu (n j : Nat) (h0 : 1 <= n) (h : j < n) : (zqco n j)[0]? = some ⟨j, 1⟩ := by
 unfold zqco;have := zq4d j 0 n h0 (Nat.zero_le _) (by omega);rw [List.getLast?_eq_getElem?] at this;have hl := zqfq j 0 n;rw [List.getElem?_reverse (by omega), <- this]
 rfl
theorem zqmv (n j : Nat) : (zqco n j)[(zq1 n j).length]? = some ⟨0, n⟩ := by
 obtain ⟨l, e⟩ := zqh1 j 0 n;have hl := zqfq j 0 n;unfold zqco zq1;rw [List.length_reverse, List.getElem?_reverse (by omega), e];have : (zqd7 0 n j).length - 1 - (zqcm 0 n j).length = 0 := by omega
 rw [e] at this;rw [this]; rfl
theorem zqs5 (n j k : Nat) (h0 : 1 <= n) (h : j < n) (hk : k < n) : zqnm (zq1 n j) k + (if k = j then 1 else 0) = 1 := by
 have := zqwf j k 0 n h0 (Nat.zero_le _) (by omega) (Nat.zero_le _) (by omega);unfold zqnm zq1 at *;rw [List.filter_reverse, List.length_reverse];exact this
end Go.Proofs.YtconieddcjpbjaaGreatDoor
namespace Go.Proofs.YtconieddcjpbjaaGreatDoor
open Go.RowKit Go.Lib
def ndsL (l : List Nd) : List Value := l.flatMap fun v => [.int .i64 v.f, .int .i64 v.s]
theorem zqeo (l m : List Nd) : ndsL (l ++ m) = ndsL l ++ ndsL m := by simp [ndsL]
theorem zqmf (v : Nd) : ndsL [v] = [.int .i64 v.f, .int .i64 v.s] := by simp [ndsL]
theorem zqj2 (v : Nd) (l : List Nd) : ndsL (v :: l) = .int .i64 v.f :: .int .i64 v.s :: ndsL l := by simp [ndsL]
theorem zqmm : ∀ l : List Nd, (ndsL l).length = l.length * 2
 | [] => rfl
 | v :: l => by rw [zqj2, List.length_cons, List.length_cons, List.length_cons, zqmm l]; omega
theorem zqmn : ∀ (l : List Nd) (i : Nat) (v : Nd), l[i]? = some v -> (ndsL l)[2 * i]? = some (.int .i64 v.f) /\ (ndsL l)[2 * i + 1]? = some (.int .i64 v.s)
 | [], i, v, h => by simp at h
 | u :: l, 0, v, h => by
  simp at h; subst h
  rw [zqj2]; exact ⟨rfl, rfl⟩
 | u :: l, i + 1, v, h => by
  rw [zqj2, show 2 * (i + 1) = 2 * i + 1 + 1 by omega];exact zqmn l i v (by simpa using h)
theorem zqt4 (l : List Nd) : ∀ u ∈ ndsL l, u.oneCell' = true := fun u hu => by
 unfold ndsL at hu;obtain ⟨v, _, hv⟩ := List.mem_flatMap.1 hu
 simp at hv
 rcases hv with rfl | rfl <;> rfl
def NdsAt (w : World) (oa : Option Addr) (l : List Nd) : Prop :=
 l = [] \/ ∃ g o, oa = some ⟨g, o, none⟩ /\ g < w.heap.size /\ ∀ i v, l[i]? = some v -> cellOf (zqd w g) (o + 2 * i) = some (.int .i64 v.f) /\ cellOf (zqd w g) (o + 2 * i + 1) = some (.int .i64 v.s)
theorem NdsAt.later {w w' : World} {oa : Option Addr} {l : List Nd} (h : NdsAt w oa l) (hb : Below w.heap.size w w') : NdsAt w' oa l := by
 rcases h with h | ⟨g, o, e, hg, hl⟩
 ·exact .inl h
 ·refine .inr ⟨g, o, e, Nat.lt_of_lt_of_le hg hb.size, fun i v hv => ?_⟩
  rw [show zqd w' g = zqd w g from hb.block g hg];exact hl i v hv
theorem zqle {w : World} {base n : Nat} {v : Value} {l : List Nd} {t : TypeId} (h : w.ownsRow base t 2 v n (ndsL l)) : ∃ oa c, v = .slice oa n c /\ NdsAt w oa l /\ l.length = n := by
 have hn : l.length = n := by have := h.1; rw [zqmm] at this; omega
 rcases h.2 with ⟨rfl, h0⟩ | ⟨g, cap, cur, rfl, hb, hg, hnc, hcm, hcs, htake⟩
 ·subst h0
  exact ⟨none, 0, rfl, .inl (by cases l <;> simp_all), hn⟩
 ·refine ⟨some ⟨g, 0, none⟩, cap, rfl, .inr ⟨g, 0, rfl, zqa (show zqd w g = _ from hg), fun i v hv => ?_⟩, hn⟩
  have hi : i < l.length := (List.getElem?_eq_some_iff.1 hv).1;obtain ⟨h1, h2⟩ := zqmn l i v hv;rw [show zqd w g = some (.cells cur t (0, 0)) from hg, zqb7, zqb7, Nat.zero_add];rw [<- htake, List.getElem?_take, if_pos (by omega)] at h1 h2;exact ⟨by simpa using h1, by simpa using h2⟩
end Go.Proofs.YtconieddcjpbjaaGreatDoor
namespace Go.Proofs.YtconieddcjpbjaaGreatDoor
open Go.RowKit
def zqbw (x z : Nat -> Int) : Nat -> Int := fun i => if i < 32 then x i else z (i - 32)
theorem zqsh (f : Nat -> Int) : zqbw f (fun i => f (i + 32)) = f := by
 funext i
 unfold zqbw
 split
 ·rfl
 ·show f (i - 32 + 32) = f i
  rw [show i - 32 + 32 = i by omega]
@[go_sem ↓ high] theorem zrfu (ρ : Operand -> Value) (d : Option Tmp) (x : Operand) (t : TypeId) (pos : String) (af : Array Edge) (g : Option (Nat × Bool)) :
  execOp ρ ⟨d, .load 39 x, t, pos, af, g⟩ = zq6 39 (ρ x) := zqb0 _ ρ d x t pos af g
@[go_sem high] theorem zrb7 (ρ : Operand -> Value) (d : Option Tmp) (x : Operand) (t : TypeId) (pos : String) (af : Array Edge) (g : Option (Nat × Bool)) :
  execOp ρ ⟨d, .load 39 x, t, pos, af, g⟩ = zq6 39 (ρ x) := zqb0 _ ρ d x t pos af g
@[go_sem] theorem zqq4 (g : Nat) (w : World) : (zq6 39 (.pointer (some ⟨g, 0, none⟩))).run Tryz.prog w = (zqbv Tryz.prog 39 g 64 w (zqd w g)).andThen fun v w' => .ok (.value v) w' := by
 rw [zqa2, zqb9 Tryz.underlying39 rfl zqc g w]
@[go_sem] theorem zq8u (g : Nat) (w : World) (cs : Array Value) (t' : TypeId) (fr : Nat × Nat) (h : cs.size = 64) : zqbv Tryz.prog 39 g 64 w (some (.cells cs t' fr)) = .ok (.agg cs) w := zqbo cs t' fr h
@[go_sem ↓ high] theorem zrcp (ρ : Operand -> Value) (d : Option Tmp) (x y : Operand) (t : TypeId) (pos : String) (af : Array Edge) (g : Option (Nat × Bool)) :
  execOp ρ ⟨d, .store 39 x y, t, pos, af, g⟩ = zq7 39 (ρ x) (ρ y) := zqbj _ ρ d x y t pos af g
@[go_sem high] theorem zraz (ρ : Operand -> Value) (d : Option Tmp) (x y : Operand) (t : TypeId) (pos : String) (af : Array Edge) (g : Option (Nat × Bool)) :
  execOp ρ ⟨d, .store 39 x y, t, pos, af, g⟩ = zq7 39 (ρ x) (ρ y) := zqbj _ ρ d x y t pos af g
@[go_sem] theorem zq5r (g : Nat) (cs : Array Value) (w : World) : (zq7 39 (.pointer (some ⟨g, 0, none⟩)) (.agg cs)).run Tryz.prog w = (zqbb Tryz.prog 39 g 64 (.agg cs) w (zqd w g)).andThen fun _ w' => .ok .skip w' := by
 rw [zqax, zqb3 zqc g cs w]
@[go_sem] theorem zq5q (g : Nat) (w : World) (old cs : Array Value) (t' : TypeId) (h1 : old.size = 64) (h2 : cs.size = 64) (h3 : zqa5 cs = true) :
  zqbb Tryz.prog 39 g 64 (.agg cs) w (some (.cells old t' (0, 0))) = .ok () (w.setRow g cs) := zqbg old cs t' h1 h2 h3
@[go_sem high] theorem zrbg (w : World) : (zeroValue 39).run Tryz.prog w = .ok (.agg (ints .u8 64 (zqbw zqg zqg))) w := by kernel_rfl
@[go_sem ↓ high] theorem zqag (w : World) : (zeroValue 39).run Tryz.prog w = .ok (.agg (ints .u8 64 (zqbw zqg zqg))) w := by kernel_rfl
theorem zqx7 (x z : Nat -> Int) : (ints .u8 64 (zqbw x z)).extract 0 32 = ints .u8 32 x := by kernel_rfl
theorem zq00 (x z : Nat -> Int) : (ints .u8 64 (zqbw x z)).extract 32 (32 + 32) = ints .u8 32 z := by kernel_rfl
theorem zrf6 (x z a : Nat -> Int) : zqcp (ints .u8 64 (zqbw x z)) 0 (ints .u8 32 a).toList = ints .u8 64 (zqbw a z) := by kernel_rfl
theorem zrf8 (x z a : Nat -> Int) : zqcp (ints .u8 64 (zqbw x z)) 32 (ints .u8 32 a).toList = ints .u8 64 (zqbw x a) := by kernel_rfl
@[go_sem] theorem zrdp (g : Nat) (w : World) (x z : Nat -> Int) (t' : TypeId) (fr : Nat × Nat) : zqbv Tryz.prog 24 g 32 w (some (.cells (ints .u8 64 (zqbw x z)) t' fr)) = .ok (.agg (ints .u8 32 x)) w := by
 unfold zqbv
 simp only [zqh]
 rw [if_neg (by decide), if_pos (by decide), zqx7]
@[go_sem] theorem zq9r (g : Nat) (w : World) (x z a : Nat -> Int) (t' : TypeId) : zqbb Tryz.prog 24 g 32 (.agg (ints .u8 32 a)) w (some (.cells (ints .u8 64 (zqbw x z)) t' (0, 0))) = .ok () (w.setRow g (ints .u8 64 (zqbw a z))) := by
 unfold zqbb
 simp only [zqh]
 rw [if_neg (fun h => absurd h.1 (by decide)), if_pos ⟨by decide, by trivial, zqed _ _ _⟩, zrf6]
@[go_sem] theorem zq9u (g : Nat) (w : World) : (zq6 24 (.pointer (some ⟨g, 32, none⟩))).run Tryz.prog w = (zqd2 Tryz.prog 24 g 32 32 w (zqd w g)).andThen fun v w' => .ok (.value v) w' := by
 rw [zqa2, zqh3 Tryz.underlying24 rfl zqc g 32 w]
@[go_sem] theorem zrdk (g : Nat) (w : World) (x z : Nat -> Int) (t' : TypeId) (fr : Nat × Nat) : zqd2 Tryz.prog 24 g 32 32 w (some (.cells (ints .u8 64 (zqbw x z)) t' fr)) = .ok (.agg (ints .u8 32 z)) w := by
 unfold zqd2
 simp only [zqh]
 rw [if_pos (by decide), zq00]
@[go_sem] theorem zq8e (g : Nat) (cs : Array Value) (w : World) : (zq7 24 (.pointer (some ⟨g, 32, none⟩)) (.agg cs)).run Tryz.prog w = (zqde Tryz.prog 24 g 32 32 (.agg cs) w (zqd w g)).andThen fun _ w' => .ok .skip w' := by
 rw [zqax, zqfn zqc g 32 cs w]
@[go_sem] theorem zq9z (g : Nat) (w : World) (x z a : Nat -> Int) (t' : TypeId) : zqde Tryz.prog 24 g 32 32 (.agg (ints .u8 32 a)) w (some (.cells (ints .u8 64 (zqbw x z)) t' (0, 0))) = .ok () (w.setRow g (ints .u8 64 (zqbw x a))) := by
 unfold zqde
 simp only [zqh]
 rw [if_pos ⟨by decide, by trivial, zqed _ _ _⟩, zrf8]
@[go_sem] theorem zram (x z : Nat -> Int) (w : World) : (Instr.field 39 (.agg (ints .u8 64 (zqbw x z))) 0).run Tryz.prog w = .ok (.agg (ints .u8 32 x)) w := by kernel_rfl
@[go_sem] theorem zq9i (x z : Nat -> Int) (w : World) : (Instr.field 39 (.agg (ints .u8 64 (zqbw x z))) 1).run Tryz.prog w = .ok (.agg (ints .u8 32 z)) w := by kernel_rfl
def zqgt (x z : Value) : Sem Next := do pure (.value (<- Instr.build 39 #[(0, x), (1, z)]))
def zqh8 (x : Value) : Sem Next := do pure (.value (<- Instr.build 39 #[(0, x)]))
@[go_sem ↓ high] theorem zrji (ρ : Operand -> Value) (d : Option Tmp) (x y : Operand) (t : TypeId) (pos : String) (af : Array Edge) (g : Option (Nat × Bool)) :
  execOp ρ ⟨d, .build 39 #[(0, x), (1, y)], t, pos, af, g⟩ = zqgt (ρ x) (ρ y) := by simp [execOp, zqgt]
@[go_sem high] theorem zrik (ρ : Operand -> Value) (d : Option Tmp) (x y : Operand) (t : TypeId) (pos : String) (af : Array Edge) (g : Option (Nat × Bool)) :
  execOp ρ ⟨d, .build 39 #[(0, x), (1, y)], t, pos, af, g⟩ = zqgt (ρ x) (ρ y) := by simp [execOp, zqgt]
@[go_sem ↓ high] theorem zrge (ρ : Operand -> Value) (d : Option Tmp) (x : Operand) (t : TypeId) (pos : String) (af : Array Edge) (g : Option (Nat × Bool)) :
  execOp ρ ⟨d, .build 39 #[(0, x)], t, pos, af, g⟩ = zqh8 (ρ x) := by simp [execOp, zqh8]
@[go_sem high] theorem zrfv (ρ : Operand -> Value) (d : Option Tmp) (x : Operand) (t : TypeId) (pos : String) (af : Array Edge) (g : Option (Nat × Bool)) :
  execOp ρ ⟨d, .build 39 #[(0, x)], t, pos, af, g⟩ = zqh8 (ρ x) := by simp [execOp, zqh8]
@[go_sem] theorem zrf1 (x z : Nat -> Int) (w : World) : (zqgt (.agg (ints .u8 32 x)) (.agg (ints .u8 32 z))).run Tryz.prog w = .ok (.value (.agg (ints .u8 64 (zqbw x z)))) w := by kernel_rfl
@[go_sem] theorem zrft (x : Nat -> Int) (w : World) : (zqh8 (.agg (ints .u8 32 x))).run Tryz.prog w = .ok (.value (.agg (ints .u8 64 (zqbw x zqg)))) w := by kernel_rfl
attribute [irreducible] zqgt zqh8
end Go.Proofs.YtconieddcjpbjaaGreatDoor
