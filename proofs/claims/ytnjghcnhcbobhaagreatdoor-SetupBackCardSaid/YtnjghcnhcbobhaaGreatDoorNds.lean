/- Nds -/
import Derived.Test.YtnjghcnhcbobhaaGreatDoorOw
import Derived.Test.YtnjghcnhcbobhaaGreatDoorBase
import Derived.Test.YtnjghcnhcbobhaaGreatDoorMem
set_option linter.unusedVariables false
set_option linter.unusedSimpArgs false
namespace Go.Proofs.YtnjghcnhcbobhaaGreatDoor
open Go.RowKit Go.Lib
theorem zqlo {w W w' : World} {base : Nat} {e : TypeId} {size : Nat} {v : Value} {n : Nat} {xs : List Value} (own : W.ownsRow base e size v n xs) (hg : W.grownBy w' v.ownBlock) (hG : Below w.heap.size w W) (hwb : w.heap.size <= base) :
  Below w.heap.size w w' /\ ∀ m o, m < base -> zqd W m = some o -> zqd w' m = some o := by
 refine ⟨hG.grown hg hG.size (fun k hk => ?_), fun m o hm hob => ?_⟩
 ·have := (own.lt k hk).1; omega
 ·have hlt := zqa hob
  refine (hg.block m hlt fun e => ?_).trans hob;have := (own.lt m e.symm).1
  omega
section
variable {ops : Array Oper} {o : Oper} {a : Act} {K : Act -> World -> Prop} {Q : Exit -> Act -> World -> Prop} {E : Prop}
theorem zqzx {t e : TypeId} {i : TypeInfo} {z : Value} (size bytes : Nat) (ht : Tryz.prog.underlying t = some (.slice e)) (hi : Tryz.prog.info? e = some i) (hz : i.zero = some z) (hsize : i.size = size) (hby : i.bytes = bytes) (hzs : z.cells.size = size) (hsz : 0 < size) (hb8 : bytes <= 4096)
  (hgd : o.guard = none) (s x : Operand) (ho : o.op = .call { callee := .builtin .append, args := #[s, x], argTypes := #[t, t] })
  (w W : World) (base : Nat) (v : Value) (n : Nat) (xs : List Value) (ad : Addr) (m c : Nat) (news : List Value) (hs : a.eval s = v) (hx : a.eval x = .slice (some ad) m c) (own : W.ownsRow base e size v n xs) (hn : n + m <= 1073741824) (hm : 0 < m)
  (hl : news.length = m * size) (hnews : ∀ j u, news[j]? = some u -> W.cell? (ad.add j) = some u) (h1 : ∀ u ∈ news, u.oneCell' = true) (hG : Below w.heap.size w W) (hwb : w.heap.size <= base) (hbW : base <= W.heap.size)
  (h : ∀ g cap w', w'.ownsRow base e size (.slice (some ⟨g, 0, none⟩) (n + m) cap) (n + m) (xs ++ news) -> Below w.heap.size w w' -> (∀ m ob, m < base -> zqd W m = some ob -> zqd w' m = some ob) -> base <= g -> K (a.put o.dst (.slice (some ⟨g, 0, none⟩) (n + m) cap)) w') :
  if Region.wanted o (yielded ops a.tmps) = true then Oper.wp Tryz.prog o a W K Q else E := by
 have hbn : (n + m) * bytes <= 140737488355328 := Nat.le_trans (Nat.mul_le_mul hn hb8) (by decide);refine step_append_lies (P := Tryz.prog) (w := W) hgd s x t ho base e i z size bytes ht hi hz hsize hby hzs hsz v n xs hs own ad m c news hx hl hnews h1 hm (by unfold maxLen; omega) hbn hbW W.heap.size rfl (fun g cap w' ho' hg _ _ => ?_);obtain ⟨h1, h2⟩ := zqlo own hg hG hwb;exact h g cap w' ho' h1 h2 (ho'.lt g rfl).1
theorem step_cells {t e : TypeId} {i : TypeInfo} {z : Value} (size bytes : Nat) (ht : Tryz.prog.underlying t = some (.slice e)) (hi : Tryz.prog.info? e = some i) (hz : i.zero = some z) (hsize : i.size = size) (hby : i.bytes = bytes) (hzs : z.cells.size = size) (hsz : 0 < size) (hb8 : bytes <= 4096)
  (hgd : o.guard = none) (s x : Operand) (ho : o.op = .call { callee := .builtin .append, args := #[s, x], argTypes := #[t, t] })
  (w W : World) (base : Nat) (v : Value) (n : Nat) (xs : List Value) (cs : Array Value) (g2 : Nat) (t2 : TypeId) (fr : Nat × Nat) (hs : a.eval s = v) (hx : a.eval x = .slice (some ⟨g2, 0, none⟩) 1 1) (own : W.ownsRow base e size v n xs) (hn : n <= 1048576)
  (hg2 : zqd W g2 = some (.cells cs t2 fr)) (hcs : cs.size = size) (h1 : ∀ u ∈ cs.toList, u.oneCell' = true) (hG : Below w.heap.size w W) (hwb : w.heap.size <= base) (hbW : base <= W.heap.size)
  (h : ∀ g cap w', w'.ownsRow base e size (.slice (some ⟨g, 0, none⟩) (n + 1) cap) (n + 1) (xs ++ cs.toList) -> Below w.heap.size w w' -> (∀ m ob, m < base -> zqd W m = some ob -> zqd w' m = some ob) -> base <= g -> K (a.put o.dst (.slice (some ⟨g, 0, none⟩) (n + 1) cap)) w') :
  if Region.wanted o (yielded ops a.tmps) = true then Oper.wp Tryz.prog o a W K Q else E :=
 zqzx size bytes ht hi hz hsize hby hzs hsz hb8 hgd s x ho w W base v n xs ⟨g2, 0, none⟩ 1 1 cs.toList hs hx own (by omega) (by decide) (by rw [Array.length_toList, hcs, Nat.one_mul])
  (fun j u hu => by
   unfold zqd at hg2;have ha : ((⟨g2, 0, none⟩ : Addr).add j) = ⟨g2, j, none⟩ := by unfold Addr.add; split <;> simp_all
   rw [ha, cell_of_row W g2 j _ _ _ hg2]
   simpa using hu) h1 hG hwb hbW h
end
theorem zq4u {w : World} {base g n c size : Nat} {xs : List Value} {t : TypeId} (h : w.ownsRow base t size (.slice (some ⟨g, 0, none⟩) n c) n xs) (i : Nat) (u : Value) (hu : xs[i]? = some u) : g < w.heap.size /\ ∀ w', Below w.heap.size w w' -> w'.cell? ⟨g, i, none⟩ = some u := by
 rcases h.2 with ⟨h0, _⟩ | ⟨g', cap, cur, h0, hb, hg, hnc, hcm, hcs, htake⟩
 ·cases h0
 ·cases h0
  have hlt : g < w.heap.size := zqa (show zqd w g = _ from hg);refine ⟨hlt, fun w' hb' => ?_⟩;have h' := zqc hb' (show zqd w g = _ from hg);rw [cell_of_row w' g i _ _ _ h'];have h2 : i < n * size := by
   rcases Nat.lt_or_ge i (n * size) with h2 | h2
   ·exact h2
   ·rw [<- htake, List.getElem?_take, if_neg (by omega)] at hu; cases hu
  rw [<- htake, List.getElem?_take, if_pos h2] at hu
  simpa using hu
end Go.Proofs.YtnjghcnhcbobhaaGreatDoor
namespace Go.Proofs.YtnjghcnhcbobhaaGreatDoor
def zqz (n : Nat) : Nat := if n < 2 then 0 else 2 ^ Nat.log2 (n - 1)
theorem zqch {n : Nat} (h : 2 <= n) : 0 < zqz n /\ zqz n < n /\ n <= 2 * zqz n := by
 unfold zqz;rw [if_neg (by omega)];have h1 : 2 ^ Nat.log2 (n - 1) <= n - 1 := Nat.log2_self_le (by omega);have h2 : n - 1 < 2 ^ (Nat.log2 (n - 1) + 1) := Nat.lt_log2_self;rw [Nat.pow_succ] at h2;exact ⟨Nat.two_pow_pos _, by omega, by omega⟩
theorem zq0k {n d : Nat} (h : 2 <= n) (hd : n <= 2 ^ (d + 1)) : zqz n <= 2 ^ d /\ n - zqz n <= 2 ^ d := by
 have hb := zqch h;have e : zqz n = 2 ^ Nat.log2 (n - 1) := by unfold zqz; rw [if_neg (by omega)]
 have h1 : Nat.log2 (n - 1) <= d := by
  have h3 : 2 ^ Nat.log2 (n - 1) < 2 ^ (d + 1) := by omega
  have := (Nat.pow_lt_pow_iff_right (a := 2) (by decide)).1 h3
  omega
 have h4 : zqz n <= 2 ^ d := by rw [e]; exact Nat.pow_le_pow_right (by decide) h1
 omega
structure Nd where
 f : Nat
 s : Nat
def Nd.has (v : Nd) (j : Nat) : Prop := v.f <= j /\ j < v.f + v.s
instance (v : Nd) (j : Nat) : Decidable (v.has j) := by unfold Nd.has; infer_instance
theorem zqo4 (v : Nd) (j : Nat) : decide (v.has j) = true ↔ v.f <= j /\ j < v.f + v.s := by rw [decide_eq_true_eq]; exact Iff.rfl
theorem zquy (f s j : Nat) : decide ((⟨f, s⟩ : Nd).has j) = true ↔ f <= j /\ j < f + s := zqo4 _ _
theorem zqk5 {f s j : Nat} {l : List Nd} (h : f <= j /\ j < f + s) : (⟨f, s⟩ :: l : List Nd).filter (fun v => decide (v.has j)) = ⟨f, s⟩ :: l.filter (fun v => decide (v.has j)) := List.filter_cons_of_pos (p := fun v : Nd => decide (v.has j)) ((zquy _ _ _).2 h)
theorem zquq {f s j : Nat} {l : List Nd} (h : ¬ (f <= j /\ j < f + s)) : (⟨f, s⟩ :: l : List Nd).filter (fun v => decide (v.has j)) = l.filter (fun v => decide (v.has j)) := List.filter_cons_of_neg (p := fun v : Nd => decide (v.has j)) (fun hh => h ((zquy _ _ _).1 hh))
def zqad (f s : Nat) : List Nd := if h : s < 2 then [⟨f, s⟩] else
 have := zqch (n := s) (by omega)
 ⟨f, s⟩ :: (zqad f (zqz s) ++ zqad (f + zqz s) (s - zqz s))
termination_by s
def zqdk (f s j : Nat) : List Nd := if h : s < 2 then [⟨f, s⟩] else
 have := zqch (n := s) (by omega)
 ⟨f, s⟩ :: (if j < f + zqz s then zqdk f (zqz s) j else zqdk (f + zqz s) (s - zqz s) j)
termination_by s
def zqbv (f s j : Nat) : List Nd := if h : s < 2 then [] else
 have := zqch (n := s) (by omega)
 if j < f + zqz s then ⟨f + zqz s, s - zqz s⟩ :: zqbv f (zqz s) j else ⟨f, zqz s⟩ :: zqbv (f + zqz s) (s - zqz s) j
termination_by s
theorem zqbp {f s : Nat} (h : s < 2) : zqad f s = [⟨f, s⟩] := by rw [zqad, dif_pos h]
theorem zqbc {f s : Nat} (h : 2 <= s) : zqad f s = ⟨f, s⟩ :: (zqad f (zqz s) ++ zqad (f + zqz s) (s - zqz s)) := by rw [zqad, dif_neg (by omega)]
theorem zqi1 {f s j : Nat} (h : s < 2) : zqdk f s j = [⟨f, s⟩] := by rw [zqdk, dif_pos h]
theorem zqfv {f s j : Nat} (h : 2 <= s) (hj : j < f + zqz s) : zqdk f s j = ⟨f, s⟩ :: zqdk f (zqz s) j := by rw [zqdk, dif_neg (by omega)]; simp only [hj, if_true]
theorem zqer {f s j : Nat} (h : 2 <= s) (hj : ¬ j < f + zqz s) : zqdk f s j = ⟨f, s⟩ :: zqdk (f + zqz s) (s - zqz s) j := by rw [zqdk, dif_neg (by omega)]; simp only [hj, if_false]
theorem zqdl {f s j : Nat} (h : s < 2) : zqbv f s j = [] := by rw [zqbv, dif_pos h]
theorem zqdu {f s j : Nat} (h : 2 <= s) (hj : j < f + zqz s) : zqbv f s j = ⟨f + zqz s, s - zqz s⟩ :: zqbv f (zqz s) j := by rw [zqbv, dif_neg (by omega)]; simp only [hj, if_true]
theorem zqc7 {f s j : Nat} (h : 2 <= s) (hj : ¬ j < f + zqz s) : zqbv f s j = ⟨f, zqz s⟩ :: zqbv (f + zqz s) (s - zqz s) j := by rw [zqbv, dif_neg (by omega)]; simp only [hj, if_false]
theorem zqdx {P : Nat -> Nat -> Prop} (h1 : ∀ f s, s < 2 -> P f s) (h2 : ∀ f s, 2 <= s -> P f (zqz s) -> P (f + zqz s) (s - zqz s) -> P f s) (f s : Nat) : P f s := by
 induction s using Nat.strongRecOn generalizing f with
 | _ s ih =>
  by_cases h : s < 2
  ·exact h1 f s h
  ·have hb := zqch (n := s) (by omega)
   exact h2 f s (by omega) (ih _ (by omega) f) (ih _ (by omega) _)
theorem zqcp (f s : Nat) : 1 <= s -> (zqad f s).length = 2 * s - 1 := by
 refine zqdx (P := fun f s => 1 <= s -> (zqad f s).length = 2 * s - 1) (fun f s h h0 => ?_) (fun f s h i1 i2 h0 => ?_) f s
 ·rw [zqbp h]; simp; omega
 ·have hb := zqch h
  rw [zqbc h, List.length_cons, List.length_append, i1 (by omega), i2 (by omega)]
  omega
theorem zqdz (f s : Nat) : ∀ v ∈ zqad f s, f <= v.f /\ v.f + v.s <= f + s /\ v.s <= s /\ (1 <= s -> 1 <= v.s) := by
 refine zqdx (P := fun f s => ∀ v ∈ zqad f s, f <= v.f /\ v.f + v.s <= f + s /\ v.s <= s /\ (1 <= s -> 1 <= v.s)) (fun f s h v hv => ?_) (fun f s h i1 i2 v hv => ?_) f s
 ·rw [zqbp h, List.mem_singleton] at hv
  subst hv; simp
 ·have hb := zqch h
  rw [zqbc h, List.mem_cons, List.mem_append] at hv
  rcases hv with rfl | hv | hv
  ·simp
  ·have := i1 v hv; omega
  ·have := i2 v hv; omega
theorem zqk8 (f s : Nat) : 1 <= s -> (zqad f s).Nodup := by
 refine zqdx (P := fun f s => 1 <= s -> (zqad f s).Nodup) (fun f s h h0 => ?_) (fun f s h i1 i2 h0 => ?_) f s
 ·rw [zqbp h]; simp
 ·have hb := zqch h
  rw [zqbc h, List.nodup_cons, List.nodup_append];refine ⟨fun hm => ?_, i1 (by omega), i2 (by omega), fun a ha b hb' e => ?_⟩
  ·rcases List.mem_append.1 hm with hm | hm
   ·have := zqdz _ _ _ hm; simp at this; omega
   ·have := zqdz _ _ _ hm; simp at this; omega
  ·subst e
   have h1 := zqdz _ _ _ ha;have h2 := zqdz _ _ _ hb';have h3 := h1.2.2.2 (by omega)
   omega
theorem zqnm (f s j : Nat) (h : ¬ (f <= j /\ j < f + s)) : (zqad f s).filter (fun v => decide (v.has j)) = [] := by
 rw [List.filter_eq_nil_iff];intro v hv;have := zqdz f s v hv;intro hh;have := (zqo4 _ _).1 hh
 omega
theorem zqv9 (j : Nat) (f s : Nat) : 1 <= s -> f <= j -> j < f + s -> (zqad f s).filter (fun v => decide (v.has j)) = zqdk f s j := by
 refine zqdx (P := fun f s => 1 <= s -> f <= j -> j < f + s -> (zqad f s).filter (fun v => decide (v.has j)) = zqdk f s j) (fun f s h h0 h1 h2 => ?_) (fun f s h i1 i2 h0 h1 h2 => ?_) f s
 ·rw [zqbp h, zqi1 h, zqk5 ⟨h1, h2⟩, List.filter_nil]
 ·have hb := zqch h
  rw [zqbc h, zqk5 (by omega), List.filter_append]
  by_cases hj : j < f + zqz s
  ·rw [zqfv h hj, i1 (by omega) h1 hj, zqnm _ _ _ (by omega), List.append_nil]
  ·rw [zqer h hj, i2 (by omega) (by omega) (by omega), zqnm _ _ _ (by omega), List.nil_append]
theorem zqe7 (j f s : Nat) : (zqdk f s j).length = (zqbv f s j).length + 1 := by
 refine zqdx (P := fun f s => (zqdk f s j).length = (zqbv f s j).length + 1) (fun f s h => ?_) (fun f s h i1 i2 => ?_) f s
 ·rw [zqi1 h, zqdl h]; rfl
 ·by_cases hj : j < f + zqz s
  ·rw [zqfv h hj, zqdu h hj, List.length_cons, List.length_cons, i1]
  ·rw [zqer h hj, zqc7 h hj, List.length_cons, List.length_cons, i2]
theorem zqe0 (j : Nat) : ∀ d f s, s <= 2 ^ d -> (zqbv f s j).length <= d
 | 0, f, s, h => by rw [zqdl (by omega)]; simp
 | d + 1, f, s, h => by
  by_cases h2 : s < 2
  ·rw [zqdl h2]; simp
  ·have hb := zq0k (n := s) (by omega) h
   by_cases hj : j < f + zqz s
   ·rw [zqdu (by omega) hj, List.length_cons]; have := zqe0 j d f _ hb.1; omega
   ·rw [zqc7 (by omega) hj, List.length_cons]; have := zqe0 j d (f + zqz s) _ hb.2; omega
theorem zqgy (j f s : Nat) : ∃ l, zqdk f s j = ⟨f, s⟩ :: l := by
 by_cases h : s < 2
 ·exact ⟨[], zqi1 h⟩
 ·by_cases hj : j < f + zqz s
  ·exact ⟨_, zqfv (by omega) hj⟩
  ·exact ⟨_, zqer (by omega) hj⟩
theorem zq0h (j f s : Nat) : 1 <= s -> f <= j -> j < f + s -> (zqdk f s j).getLast? = some ⟨j, 1⟩ := by
 refine zqdx (P := fun f s => 1 <= s -> f <= j -> j < f + s -> (zqdk f s j).getLast? = some ⟨j, 1⟩) (fun f s h h0 h1 h2 => ?_) (fun f s h i1 i2 h0 h1 h2 => ?_) f s
 ·rw [zqi1 h]
  obtain rfl : s = 1 := by omega
  obtain rfl : f = j := by omega
  rfl
 ·have hb := zqch h
  by_cases hj : j < f + zqz s
  ·rw [zqfv h hj]
   obtain ⟨l, e⟩ := zqgy j f (zqz s);have := i1 (by omega) h1 hj;rw [e] at this ⊢;exact this
  ·rw [zqer h hj]
   obtain ⟨l, e⟩ := zqgy j (f + zqz s) (s - zqz s);have := i2 (by omega) (by omega) (by omega);rw [e] at this ⊢;exact this
theorem zqxl (j f s : Nat) : 1 <= s -> f <= j -> j < f + s -> ∀ i v, (zqbv f s j)[i]? = some v -> ∃ a b, (zqdk f s j)[i]? = some a /\ (zqdk f s j)[i + 1]? = some b /\ a.s = b.s + v.s /\ a.f = min b.f v.f /\ a.has j /\ ¬ v.has j /\ 1 <= v.s /\ ((b.f = a.f /\ b.s = zqz a.s /\ v.f = a.f + zqz a.s) \/ (v.f = a.f /\ v.s = zqz a.s /\ b.f = a.f + zqz a.s)) /\ 2 <= a.s := by
 refine zqdx (P := fun f s => 1 <= s -> f <= j -> j < f + s -> ∀ i v, (zqbv f s j)[i]? = some v -> ∃ a b, (zqdk f s j)[i]? = some a /\ (zqdk f s j)[i + 1]? = some b /\ a.s = b.s + v.s /\ a.f = min b.f v.f /\ a.has j /\ ¬ v.has j /\ 1 <= v.s /\ ((b.f = a.f /\ b.s = zqz a.s /\ v.f = a.f + zqz a.s) \/ (v.f = a.f /\ v.s = zqz a.s /\ b.f = a.f + zqz a.s)) /\ 2 <= a.s) (fun f s h h0 h1 h2 i v hv => ?_) (fun f s h i1 i2 h0 h1 h2 i v hv => ?_) f s
 ·rw [zqdl h] at hv; cases hv
 ·have hb := zqch h
  by_cases hj : j < f + zqz s
  ·rw [zqdu h hj] at hv
   rw [zqfv h hj]
   cases i with
   | zero =>
    obtain ⟨l, e⟩ := zqgy j f (zqz s);rw [e]
    simp only [List.getElem?_cons_zero, Option.some.injEq] at hv
    subst hv;exact ⟨⟨f, s⟩, ⟨f, zqz s⟩, rfl, rfl, by simp; omega, by simp; try omega, ⟨h1, h2⟩, fun hh => by have := (zquy _ _ _).1 (decide_eq_true hh); omega, by simp; omega, .inl ⟨rfl, rfl, rfl⟩, h⟩
   | succ i =>
    rw [List.getElem?_cons_succ] at hv;exact i1 (by omega) h1 hj i v hv
  ·rw [zqc7 h hj] at hv
   rw [zqer h hj]
   cases i with
   | zero =>
    obtain ⟨l, e⟩ := zqgy j (f + zqz s) (s - zqz s);rw [e]
    simp only [List.getElem?_cons_zero, Option.some.injEq] at hv
    subst hv;exact ⟨⟨f, s⟩, ⟨f + zqz s, s - zqz s⟩, rfl, rfl, by simp; omega, by simp; try omega, ⟨h1, h2⟩, fun hh => by have := (zquy _ _ _).1 (decide_eq_true hh); omega, by simp; omega, .inr ⟨rfl, rfl, rfl⟩, h⟩
   | succ i =>
    rw [List.getElem?_cons_succ] at hv;exact i2 (by omega) (by omega) (by omega) i v hv
def zql7 (l : List Nd) (k : Nat) : Nat := (l.filter fun v => decide (v.has k)).length
theorem zqty (j k f s : Nat) : 1 <= s -> f <= j -> j < f + s -> f <= k -> k < f + s -> zql7 (zqbv f s j) k + (if k = j then 1 else 0) = 1 := by
 refine zqdx (P := fun f s => 1 <= s -> f <= j -> j < f + s -> f <= k -> k < f + s -> zql7 (zqbv f s j) k + (if k = j then 1 else 0) = 1) (fun f s h h0 h1 h2 h3 h4 => ?_) (fun f s h i1 i2 h0 h1 h2 h3 h4 => ?_) f s
 ·rw [zqdl h, if_pos (by omega)]; rfl
 ·have hb := zqch h
  have none : ∀ f s : Nat, ¬ (f <= k /\ k < f + s) -> f <= j -> j < f + s -> zql7 (zqbv f s j) k = 0 := fun f s hk hj1 hj2 => by
   unfold zql7;rw [List.length_eq_zero_iff, List.filter_eq_nil_iff];intro v hv;have hin : ∀ f s : Nat, ∀ v ∈ zqbv f s j, f <= v.f /\ v.f + v.s <= f + s := fun f s => by
    refine zqdx (P := fun f s => ∀ v ∈ zqbv f s j, f <= v.f /\ v.f + v.s <= f + s) (fun f s h v hv => ?_) (fun f s h i1 i2 v hv => ?_) f s
    ·rw [zqdl h] at hv; cases hv
    ·have hb := zqch h
     by_cases hj : j < f + zqz s
     ·rw [zqdu h hj, List.mem_cons] at hv
      rcases hv with rfl | hv
      ·simp; omega
      ·have := i1 v hv; omega
     ·rw [zqc7 h hj, List.mem_cons] at hv
      rcases hv with rfl | hv
      ·simp; omega
      ·have := i2 v hv; omega
   have := hin f s v hv;intro hh;have := (zqo4 _ _).1 hh
   omega
  by_cases hj : j < f + zqz s
  ·rw [zqdu h hj]
   by_cases hk : k < f + zqz s
   ·have := i1 (by omega) h1 hj h3 hk
    unfold zql7 at this ⊢;rw [zquq (by omega)];exact this
   ·have := none f (zqz s) (by omega) h1 hj
    unfold zql7 at this ⊢;rw [zqk5 (by omega), List.length_cons, this, if_neg (by omega)]
  ·rw [zqc7 h hj]
   by_cases hk : k < f + zqz s
   ·have := none (f + zqz s) (s - zqz s) (by omega) (by omega) (by omega)
    unfold zql7 at this ⊢;rw [zqk5 (by omega), List.length_cons, this, if_neg (by omega)]
   ·have := i2 (by omega) (by omega) (by omega) (by omega) (by omega)
    unfold zql7 at this ⊢;rw [zquq (by omega)];exact this
section
variable {K : Type} (up : K -> K -> K) (pub : K -> K)
def secN (L : Nat -> K) (f s : Nat) : K := if h : s < 2 then L f else
 have := zqch (n := s) (by omega)
 up (secN L f (zqz s)) (pub (secN L (f + zqz s) (s - zqz s)))
termination_by s
theorem zq98 {L : Nat -> K} {f s : Nat} (h : s < 2) : secN up pub L f s = L f := by rw [secN, dif_pos h]
theorem zq53 {L : Nat -> K} {f s : Nat} (h : 2 <= s) : secN up pub L f s = up (secN up pub L f (zqz s)) (pub (secN up pub L (f + zqz s) (s - zqz s))) := by rw [secN, dif_neg (by omega)]
variable (hc : ∀ a b, up a (pub b) = up b (pub a))
include hc
end
theorem zqp1 {n j : Nat} (h1 : 2 ^ j < n) (h2 : n <= 2 * 2 ^ j) : zqz n = 2 ^ j := by
 have hp := Nat.two_pow_pos j;unfold zqz;rw [if_neg (by omega)]
 congr 1
 rw [Nat.log2_eq_iff (by omega)];rw [Nat.pow_succ]
 omega
theorem zq0i {n : Nat} (h : n < 2) : zqz n = 0 := by unfold zqz; rw [if_pos h]
def zqd3 (n j : Nat) : List Nd := (zqdk 0 n j).reverse
def zqaa (n j : Nat) : List Nd := (zqbv 0 n j).reverse
theorem zqds (n j : Nat) : (zqd3 n j).length = (zqaa n j).length + 1 := by
 unfold zqd3 zqaa;rw [List.length_reverse, List.length_reverse, zqe7]
theorem zqh1 (n j : Nat) (h0 : 1 <= n) (h : j < n) : (zqad 0 n).reverse.filter (fun v => decide (v.has j)) = zqd3 n j := by
 rw [List.filter_reverse, zqv9 j 0 n h0 (Nat.zero_le _) (by omega)]; rfl
theorem zqfe (n j : Nat) (h : n <= 1024) : (zqaa n j).length <= 10 := by
 unfold zqaa;rw [List.length_reverse];exact zqe0 j 10 0 n h
theorem zq0n (n j : Nat) (h0 : 1 <= n) (h : j < n) (i : Nat) (hi : i < (zqaa n j).length) :
  ∃ up b v, (zqd3 n j)[i + 1]? = some up /\ (zqd3 n j)[i]? = some b /\ (zqaa n j)[i]? = some v /\ 2 <= up.s /\ b.s + v.s = up.s /\ up.has j /\ ¬ v.has j /\ up.f = min b.f v.f /\ 1 <= v.s /\
   ((b = ⟨up.f, zqz up.s⟩ /\ v = ⟨up.f + zqz up.s, up.s - zqz up.s⟩) \/ (b = ⟨up.f + zqz up.s, up.s - zqz up.s⟩ /\ v = ⟨up.f, zqz up.s⟩)) := by
 have hl := zqds n j;unfold zqaa at hi;rw [List.length_reverse] at hi;have hl2 : (zqdk 0 n j).length = (zqbv 0 n j).length + 1 := zqe7 j 0 n;obtain ⟨v, hv⟩ : ∃ v, (zqbv 0 n j)[(zqbv 0 n j).length - 1 - i]? = some v := ⟨_, List.getElem?_eq_getElem (by omega)⟩
 obtain ⟨a, b, e1, e2, e3, e4, e5, e6, e7, hk, ha⟩ := zqxl j 0 n h0 (Nat.zero_le _) (by omega) _ v hv;refine ⟨a, b, v, ?_, ?_, ?_, ha, e3.symm, e5, e6, e4, e7, ?_⟩
 ·unfold zqd3
  rw [List.getElem?_reverse (by omega), <- e1]
  congr 1; omega
 ·unfold zqd3
  rw [List.getElem?_reverse (by omega), <- e2]
  congr 1; omega
 ·unfold zqaa
  rw [List.getElem?_reverse (by omega), <- hv]
 ·cases a; cases b; cases v
  simp only [Nd.mk.injEq] at *
  rcases hk with ⟨k1, k2, k3⟩ | ⟨k1, k2, k3⟩
  ·left; omega
  ·right; omega
theorem zqxt (n j : Nat) (h0 : 1 <= n) (h : j < n) : (zqd3 n j)[0]? = some ⟨j, 1⟩ := by
 unfold zqd3;have := zq0h j 0 n h0 (Nat.zero_le _) (by omega);rw [List.getLast?_eq_getElem?] at this;have hl := zqe7 j 0 n;rw [List.getElem?_reverse (by omega), <- this]
 rfl
theorem zqpv (n j : Nat) : (zqd3 n j)[(zqaa n j).length]? = some ⟨0, n⟩ := by
 obtain ⟨l, e⟩ := zqgy j 0 n;have hl := zqe7 j 0 n;unfold zqd3 zqaa;rw [List.length_reverse, List.getElem?_reverse (by omega), e];have : (zqdk 0 n j).length - 1 - (zqbv 0 n j).length = 0 := by omega
 rw [e] at this;rw [this]; rfl
theorem zqqq (n j k : Nat) (h0 : 1 <= n) (h : j < n) (hk : k < n) : zql7 (zqaa n j) k + (if k = j then 1 else 0) = 1 := by
 have := zqty j k 0 n h0 (Nat.zero_le _) (by omega) (Nat.zero_le _) (by omega);unfold zql7 zqaa at *;rw [List.filter_reverse, List.length_reverse];exact this
end Go.Proofs.YtnjghcnhcbobhaaGreatDoor
namespace Go.Proofs.YtnjghcnhcbobhaaGreatDoor
open Go.RowKit Go.Lib
def ndsL (l : List Nd) : List Value := l.flatMap fun v => [.int .i64 v.f, .int .i64 v.s]
theorem zqh6 (l m : List Nd) : ndsL (l ++ m) = ndsL l ++ ndsL m := by simp [ndsL]
theorem zqo6 (v : Nd) : ndsL [v] = [.int .i64 v.f, .int .i64 v.s] := by simp [ndsL]
theorem zqmx (v : Nd) (l : List Nd) : ndsL (v :: l) = .int .i64 v.f :: .int .i64 v.s :: ndsL l := by simp [ndsL]
theorem zqo5 : ∀ (l : List Nd) (i : Nat) (v : Nd), l[i]? = some v -> (ndsL l)[2 * i]? = some (.int .i64 v.f) /\ (ndsL l)[2 * i + 1]? = some (.int .i64 v.s)
 | [], i, v, h => by simp at h
 | u :: l, 0, v, h => by
  simp at h; subst h
  rw [zqmx]; exact ⟨rfl, rfl⟩
 | u :: l, i + 1, v, h => by
  rw [zqmx, show 2 * (i + 1) = 2 * i + 1 + 1 by omega];exact zqo5 l i v (by simpa using h)
def NdsAt (w : World) (oa : Option Addr) (l : List Nd) : Prop :=
 l = [] \/ ∃ g o, oa = some ⟨g, o, none⟩ /\ g < w.heap.size /\ ∀ i v, l[i]? = some v -> cellOf (zqd w g) (o + 2 * i) = some (.int .i64 v.f) /\ cellOf (zqd w g) (o + 2 * i + 1) = some (.int .i64 v.s)
theorem NdsAt.later {w w' : World} {oa : Option Addr} {l : List Nd} (h : NdsAt w oa l) (hb : Below w.heap.size w w') : NdsAt w' oa l := by
 rcases h with h | ⟨g, o, e, hg, hl⟩
 ·exact .inl h
 ·refine .inr ⟨g, o, e, Nat.lt_of_lt_of_le hg hb.size, fun i v hv => ?_⟩
  rw [show zqd w' g = zqd w g from hb.block g hg];exact hl i v hv
end Go.Proofs.YtnjghcnhcbobhaaGreatDoor
namespace Go.Proofs.YtnjghcnhcbobhaaGreatDoor
open Go.RowKit
def zqa9 (x z : Nat -> Int) : Nat -> Int := fun i => if i < 32 then x i else z (i - 32)
theorem zqqu (f : Nat -> Int) : zqa9 f (fun i => f (i + 32)) = f := by
 funext i
 unfold zqa9
 split
 ·rfl
 ·show f (i - 32 + 32) = f i
  rw [show i - 32 + 32 = i by omega]
@[go_sem ↓ high] theorem zrea (ρ : Operand -> Value) (d : Option Tmp) (x : Operand) (t : TypeId) (pos : String) (af : Array Edge) (g : Option (Nat × Bool)) :
  execOp ρ ⟨d, .load 276 x, t, pos, af, g⟩ = zqq 276 (ρ x) := zqax _ ρ d x t pos af g
@[go_sem high] theorem zrbo (ρ : Operand -> Value) (d : Option Tmp) (x : Operand) (t : TypeId) (pos : String) (af : Array Edge) (g : Option (Nat × Bool)) :
  execOp ρ ⟨d, .load 276 x, t, pos, af, g⟩ = zqq 276 (ρ x) := zqax _ ρ d x t pos af g
@[go_sem] theorem zqpe (g : Nat) (w : World) : (zqq 276 (.pointer (some ⟨g, 0, none⟩))).run Tryz.prog w = (zqau Tryz.prog 276 g 64 w (zqd w g)).andThen fun v w' => .ok (.value v) w' := by
 rw [zq6, zqa3 Tryz.underlying276 rfl zqb g w]
@[go_sem] theorem zq50 (g : Nat) (w : World) (cs : Array Value) (t' : TypeId) (fr : Nat × Nat) (h : cs.size = 64) : zqau Tryz.prog 276 g 64 w (some (.cells cs t' fr)) = .ok (.agg cs) w := zqam cs t' fr h
@[go_sem ↓ high] theorem zq94 (ρ : Operand -> Value) (d : Option Tmp) (x y : Operand) (t : TypeId) (pos : String) (af : Array Edge) (g : Option (Nat × Bool)) :
  execOp ρ ⟨d, .store 276 x y, t, pos, af, g⟩ = zqt 276 (ρ x) (ρ y) := zqat _ ρ d x y t pos af g
@[go_sem high] theorem zq8z (ρ : Operand -> Value) (d : Option Tmp) (x y : Operand) (t : TypeId) (pos : String) (af : Array Edge) (g : Option (Nat × Bool)) :
  execOp ρ ⟨d, .store 276 x y, t, pos, af, g⟩ = zqt 276 (ρ x) (ρ y) := zqat _ ρ d x y t pos af g
@[go_sem] theorem zq3k (g : Nat) (cs : Array Value) (w : World) : (zqt 276 (.pointer (some ⟨g, 0, none⟩)) (.agg cs)).run Tryz.prog w = (zqan Tryz.prog 276 g 64 (.agg cs) w (zqd w g)).andThen fun _ w' => .ok .skip w' := by
 rw [zq8, zqa6 zqb g cs w]
@[go_sem] theorem zq3m (g : Nat) (w : World) (old cs : Array Value) (t' : TypeId) (h1 : old.size = 64) (h2 : cs.size = 64) (h3 : zqal cs = true) :
  zqan Tryz.prog 276 g 64 (.agg cs) w (some (.cells old t' (0, 0))) = .ok () (w.setRow g cs) := zqaq old cs t' h1 h2 h3
@[go_sem high] theorem zrak (w : World) : (zeroValue 276).run Tryz.prog w = .ok (.agg (ints .u8 64 (zqa9 zqe zqe))) w := by kernel_rfl
@[go_sem ↓ high] theorem zqbi (w : World) : (zeroValue 276).run Tryz.prog w = .ok (.agg (ints .u8 64 (zqa9 zqe zqe))) w := by kernel_rfl
theorem zqwd (x z : Nat -> Int) : (ints .u8 64 (zqa9 x z)).extract 0 32 = ints .u8 32 x := by kernel_rfl
theorem zqx6 (x z : Nat -> Int) : (ints .u8 64 (zqa9 x z)).extract 32 (32 + 32) = ints .u8 32 z := by kernel_rfl
theorem zri0 (x z a : Nat -> Int) : zqbw (ints .u8 64 (zqa9 x z)) 0 (ints .u8 32 a).toList = ints .u8 64 (zqa9 a z) := by kernel_rfl
theorem zrf1 (x z a : Nat -> Int) : zqbw (ints .u8 64 (zqa9 x z)) 32 (ints .u8 32 a).toList = ints .u8 64 (zqa9 x a) := by kernel_rfl
@[go_sem] theorem zrdu (g : Nat) (w : World) (x z : Nat -> Int) (t' : TypeId) (fr : Nat × Nat) : zqau Tryz.prog 44 g 32 w (some (.cells (ints .u8 64 (zqa9 x z)) t' fr)) = .ok (.agg (ints .u8 32 x)) w := by
 unfold zqau
 simp only [zqi]
 rw [if_neg (by decide), if_pos (by decide), zqwd]
@[go_sem] theorem zq88 (g : Nat) (w : World) (x z a : Nat -> Int) (t' : TypeId) : zqan Tryz.prog 44 g 32 (.agg (ints .u8 32 a)) w (some (.cells (ints .u8 64 (zqa9 x z)) t' (0, 0))) = .ok () (w.setRow g (ints .u8 64 (zqa9 a z))) := by
 unfold zqan
 simp only [zqi]
 rw [if_neg (fun h => absurd h.1 (by decide)), if_pos ⟨by decide, by trivial, zqdd _ _ _⟩, zri0]
@[go_sem] theorem zq85 (g : Nat) (w : World) : (zqq 44 (.pointer (some ⟨g, 32, none⟩))).run Tryz.prog w = (zqa8 Tryz.prog 44 g 32 32 w (zqd w g)).andThen fun v w' => .ok (.value v) w' := by
 rw [zq6, zqde Tryz.underlying44 rfl zqb g 32 w]
@[go_sem] theorem zrb5 (g : Nat) (w : World) (x z : Nat -> Int) (t' : TypeId) (fr : Nat × Nat) : zqa8 Tryz.prog 44 g 32 32 w (some (.cells (ints .u8 64 (zqa9 x z)) t' fr)) = .ok (.agg (ints .u8 32 z)) w := by
 unfold zqa8
 simp only [zqi]
 rw [if_pos (by decide), zqx6]
@[go_sem] theorem zq4r (g : Nat) (cs : Array Value) (w : World) : (zqt 44 (.pointer (some ⟨g, 32, none⟩)) (.agg cs)).run Tryz.prog w = (zqbs Tryz.prog 44 g 32 32 (.agg cs) w (zqd w g)).andThen fun _ w' => .ok .skip w' := by
 rw [zq8, zqdq zqb g 32 cs w]
@[go_sem] theorem zq74 (g : Nat) (w : World) (x z a : Nat -> Int) (t' : TypeId) : zqbs Tryz.prog 44 g 32 32 (.agg (ints .u8 32 a)) w (some (.cells (ints .u8 64 (zqa9 x z)) t' (0, 0))) = .ok () (w.setRow g (ints .u8 64 (zqa9 x a))) := by
 unfold zqbs
 simp only [zqi]
 rw [if_pos ⟨by decide, by trivial, zqdd _ _ _⟩, zrf1]
@[go_sem] theorem zq8s (x z : Nat -> Int) (w : World) : (Instr.field 276 (.agg (ints .u8 64 (zqa9 x z))) 0).run Tryz.prog w = .ok (.agg (ints .u8 32 x)) w := by kernel_rfl
@[go_sem] theorem zq9e (x z : Nat -> Int) (w : World) : (Instr.field 276 (.agg (ints .u8 64 (zqa9 x z))) 1).run Tryz.prog w = .ok (.agg (ints .u8 32 z)) w := by kernel_rfl
def zqfx (x z : Value) : Sem Next := do pure (.value (<- Instr.build 276 #[(0, x), (1, z)]))
def zqhi (x : Value) : Sem Next := do pure (.value (<- Instr.build 276 #[(0, x)]))
@[go_sem ↓ high] theorem zrjg (ρ : Operand -> Value) (d : Option Tmp) (x y : Operand) (t : TypeId) (pos : String) (af : Array Edge) (g : Option (Nat × Bool)) :
  execOp ρ ⟨d, .build 276 #[(0, x), (1, y)], t, pos, af, g⟩ = zqfx (ρ x) (ρ y) := by simp [execOp, zqfx]
@[go_sem high] theorem zrib (ρ : Operand -> Value) (d : Option Tmp) (x y : Operand) (t : TypeId) (pos : String) (af : Array Edge) (g : Option (Nat × Bool)) :
  execOp ρ ⟨d, .build 276 #[(0, x), (1, y)], t, pos, af, g⟩ = zqfx (ρ x) (ρ y) := by simp [execOp, zqfx]
@[go_sem ↓ high] theorem zrgu (ρ : Operand -> Value) (d : Option Tmp) (x : Operand) (t : TypeId) (pos : String) (af : Array Edge) (g : Option (Nat × Bool)) :
  execOp ρ ⟨d, .build 276 #[(0, x)], t, pos, af, g⟩ = zqhi (ρ x) := by simp [execOp, zqhi]
@[go_sem high] theorem zreb (ρ : Operand -> Value) (d : Option Tmp) (x : Operand) (t : TypeId) (pos : String) (af : Array Edge) (g : Option (Nat × Bool)) :
  execOp ρ ⟨d, .build 276 #[(0, x)], t, pos, af, g⟩ = zqhi (ρ x) := by simp [execOp, zqhi]
@[go_sem] theorem zrhq (x z : Nat -> Int) (w : World) : (zqfx (.agg (ints .u8 32 x)) (.agg (ints .u8 32 z))).run Tryz.prog w = .ok (.value (.agg (ints .u8 64 (zqa9 x z)))) w := by kernel_rfl
@[go_sem] theorem zreq (x : Nat -> Int) (w : World) : (zqhi (.agg (ints .u8 32 x))).run Tryz.prog w = .ok (.value (.agg (ints .u8 64 (zqa9 x zqe)))) w := by kernel_rfl
attribute [irreducible] zqfx zqhi
end Go.Proofs.YtnjghcnhcbobhaaGreatDoor
