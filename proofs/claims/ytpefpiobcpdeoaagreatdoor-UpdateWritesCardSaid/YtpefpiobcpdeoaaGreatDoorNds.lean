/- Nds -/
import Derived.Test.YtpefpiobcpdeoaaGreatDoorOw
import Derived.Test.YtpefpiobcpdeoaaGreatDoorBase
import Derived.Test.YtpefpiobcpdeoaaGreatDoorMem
set_option linter.unusedVariables false
set_option linter.unusedSimpArgs false
namespace Go.Proofs.YtpefpiobcpdeoaaGreatDoor
open Go.RowKit Go.Lib
theorem zqmo {w W w' : World} {base : Nat} {e : TypeId} {size : Nat} {v : Value} {n : Nat} {xs : List Value} (own : W.ownsRow base e size v n xs) (hg : W.grownBy w' v.ownBlock) (hG : Below w.heap.size w W) (hwb : w.heap.size <= base) :
  Below w.heap.size w w' /\ ∀ m o, m < base -> zqd W m = some o -> zqd w' m = some o := by
 refine ⟨hG.grown hg hG.size (fun k hk => ?_), fun m o hm hob => ?_⟩
 ·have := (own.lt k hk).1; omega
 ·have hlt := zqa hob
  refine (hg.block m hlt fun e => ?_).trans hob;have := (own.lt m e.symm).1
  omega
section
variable {ops : Array Oper} {o : Oper} {a : Act} {K : Act -> World -> Prop} {Q : Exit -> Act -> World -> Prop} {E : Prop}
theorem zq1b {t e : TypeId} {i : TypeInfo} {z : Value} (size bytes : Nat) (ht : Tryz.prog.underlying t = some (.slice e)) (hi : Tryz.prog.info? e = some i) (hz : i.zero = some z) (hsize : i.size = size) (hby : i.bytes = bytes) (hzs : z.cells.size = size) (hsz : 0 < size) (hb8 : bytes <= 4096)
  (hgd : o.guard = none) (s x : Operand) (ho : o.op = .call { callee := .builtin .append, args := #[s, x], argTypes := #[t, t] })
  (w W : World) (base : Nat) (v : Value) (n : Nat) (xs : List Value) (ad : Addr) (m c : Nat) (news : List Value) (hs : a.eval s = v) (hx : a.eval x = .slice (some ad) m c) (own : W.ownsRow base e size v n xs) (hn : n + m <= 1073741824) (hm : 0 < m)
  (hl : news.length = m * size) (hnews : ∀ j u, news[j]? = some u -> W.cell? (ad.add j) = some u) (h1 : ∀ u ∈ news, u.oneCell' = true) (hG : Below w.heap.size w W) (hwb : w.heap.size <= base) (hbW : base <= W.heap.size)
  (h : ∀ g cap w', w'.ownsRow base e size (.slice (some ⟨g, 0, none⟩) (n + m) cap) (n + m) (xs ++ news) -> Below w.heap.size w w' -> (∀ m ob, m < base -> zqd W m = some ob -> zqd w' m = some ob) -> base <= g -> K (a.put o.dst (.slice (some ⟨g, 0, none⟩) (n + m) cap)) w') :
  if Region.wanted o (yielded ops a.tmps) = true then Oper.wp Tryz.prog o a W K Q else E := by
 have hbn : (n + m) * bytes <= 140737488355328 := Nat.le_trans (Nat.mul_le_mul hn hb8) (by decide);refine step_append_lies (P := Tryz.prog) (w := W) hgd s x t ho base e i z size bytes ht hi hz hsize hby hzs hsz v n xs hs own ad m c news hx hl hnews h1 hm (by unfold maxLen; omega) hbn hbW W.heap.size rfl (fun g cap w' ho' hg _ _ => ?_);obtain ⟨h1, h2⟩ := zqmo own hg hG hwb;exact h g cap w' ho' h1 h2 (ho'.lt g rfl).1
theorem step_cells {t e : TypeId} {i : TypeInfo} {z : Value} (size bytes : Nat) (ht : Tryz.prog.underlying t = some (.slice e)) (hi : Tryz.prog.info? e = some i) (hz : i.zero = some z) (hsize : i.size = size) (hby : i.bytes = bytes) (hzs : z.cells.size = size) (hsz : 0 < size) (hb8 : bytes <= 4096)
  (hgd : o.guard = none) (s x : Operand) (ho : o.op = .call { callee := .builtin .append, args := #[s, x], argTypes := #[t, t] })
  (w W : World) (base : Nat) (v : Value) (n : Nat) (xs : List Value) (cs : Array Value) (g2 : Nat) (t2 : TypeId) (fr : Nat × Nat) (hs : a.eval s = v) (hx : a.eval x = .slice (some ⟨g2, 0, none⟩) 1 1) (own : W.ownsRow base e size v n xs) (hn : n <= 1048576)
  (hg2 : zqd W g2 = some (.cells cs t2 fr)) (hcs : cs.size = size) (h1 : ∀ u ∈ cs.toList, u.oneCell' = true) (hG : Below w.heap.size w W) (hwb : w.heap.size <= base) (hbW : base <= W.heap.size)
  (h : ∀ g cap w', w'.ownsRow base e size (.slice (some ⟨g, 0, none⟩) (n + 1) cap) (n + 1) (xs ++ cs.toList) -> Below w.heap.size w w' -> (∀ m ob, m < base -> zqd W m = some ob -> zqd w' m = some ob) -> base <= g -> K (a.put o.dst (.slice (some ⟨g, 0, none⟩) (n + 1) cap)) w') :
  if Region.wanted o (yielded ops a.tmps) = true then Oper.wp Tryz.prog o a W K Q else E :=
 zq1b size bytes ht hi hz hsize hby hzs hsz hb8 hgd s x ho w W base v n xs ⟨g2, 0, none⟩ 1 1 cs.toList hs hx own (by omega) (by decide) (by rw [Array.length_toList, hcs, Nat.one_mul])
  (fun j u hu => by
   unfold zqd at hg2;have ha : ((⟨g2, 0, none⟩ : Addr).add j) = ⟨g2, j, none⟩ := by unfold Addr.add; split <;> simp_all
   rw [ha, cell_of_row W g2 j _ _ _ hg2]
   simpa using hu) h1 hG hwb hbW h
end
theorem zqow {w : World} {base g n c size : Nat} {xs : List Value} {t : TypeId} (h : w.ownsRow base t size (.slice (some ⟨g, 0, none⟩) n c) n xs) (i : Nat) (u : Value) (hu : xs[i]? = some u) : g < w.heap.size /\ ∀ w', Below w.heap.size w w' -> w'.cell? ⟨g, i, none⟩ = some u := by
 rcases h.2 with ⟨h0, _⟩ | ⟨g', cap, cur, h0, hb, hg, hnc, hcm, hcs, htake⟩
 ·cases h0
 ·cases h0
  have hlt : g < w.heap.size := zqa (show zqd w g = _ from hg);refine ⟨hlt, fun w' hb' => ?_⟩;have h' := zqc hb' (show zqd w g = _ from hg);rw [cell_of_row w' g i _ _ _ h'];have h2 : i < n * size := by
   rcases Nat.lt_or_ge i (n * size) with h2 | h2
   ·exact h2
   ·rw [<- htake, List.getElem?_take, if_neg (by omega)] at hu; cases hu
  rw [<- htake, List.getElem?_take, if_pos h2] at hu
  simpa using hu
end Go.Proofs.YtpefpiobcpdeoaaGreatDoor
namespace Go.Proofs.YtpefpiobcpdeoaaGreatDoor
def zqv (n : Nat) : Nat := if n < 2 then 0 else 2 ^ Nat.log2 (n - 1)
theorem zqcg {n : Nat} (h : 2 <= n) : 0 < zqv n /\ zqv n < n /\ n <= 2 * zqv n := by
 unfold zqv;rw [if_neg (by omega)];have h1 : 2 ^ Nat.log2 (n - 1) <= n - 1 := Nat.log2_self_le (by omega);have h2 : n - 1 < 2 ^ (Nat.log2 (n - 1) + 1) := Nat.lt_log2_self;rw [Nat.pow_succ] at h2;exact ⟨Nat.two_pow_pos _, by omega, by omega⟩
theorem zqzz {n d : Nat} (h : 2 <= n) (hd : n <= 2 ^ (d + 1)) : zqv n <= 2 ^ d /\ n - zqv n <= 2 ^ d := by
 have hb := zqcg h;have e : zqv n = 2 ^ Nat.log2 (n - 1) := by unfold zqv; rw [if_neg (by omega)]
 have h1 : Nat.log2 (n - 1) <= d := by
  have h3 : 2 ^ Nat.log2 (n - 1) < 2 ^ (d + 1) := by omega
  have := (Nat.pow_lt_pow_iff_right (a := 2) (by decide)).1 h3
  omega
 have h4 : zqv n <= 2 ^ d := by rw [e]; exact Nat.pow_le_pow_right (by decide) h1
 omega
structure Nd where
 f : Nat
 s : Nat
def Nd.has (v : Nd) (j : Nat) : Prop := v.f <= j /\ j < v.f + v.s
instance (v : Nd) (j : Nat) : Decidable (v.has j) := by unfold Nd.has; infer_instance
theorem zqph (v : Nd) (j : Nat) : decide (v.has j) = true ↔ v.f <= j /\ j < v.f + v.s := by rw [decide_eq_true_eq]; exact Iff.rfl
theorem zqud (f s j : Nat) : decide ((⟨f, s⟩ : Nd).has j) = true ↔ f <= j /\ j < f + s := zqph _ _
theorem zqle {f s j : Nat} {l : List Nd} (h : f <= j /\ j < f + s) : (⟨f, s⟩ :: l : List Nd).filter (fun v => decide (v.has j)) = ⟨f, s⟩ :: l.filter (fun v => decide (v.has j)) := List.filter_cons_of_pos (p := fun v : Nd => decide (v.has j)) ((zqud _ _ _).2 h)
theorem zqt2 {f s j : Nat} {l : List Nd} (h : ¬ (f <= j /\ j < f + s)) : (⟨f, s⟩ :: l : List Nd).filter (fun v => decide (v.has j)) = l.filter (fun v => decide (v.has j)) := List.filter_cons_of_neg (p := fun v : Nd => decide (v.has j)) (fun hh => h ((zqud _ _ _).1 hh))
def zqab (f s : Nat) : List Nd := if h : s < 2 then [⟨f, s⟩] else
 have := zqcg (n := s) (by omega)
 ⟨f, s⟩ :: (zqab f (zqv s) ++ zqab (f + zqv s) (s - zqv s))
termination_by s
def zqdr (f s j : Nat) : List Nd := if h : s < 2 then [⟨f, s⟩] else
 have := zqcg (n := s) (by omega)
 ⟨f, s⟩ :: (if j < f + zqv s then zqdr f (zqv s) j else zqdr (f + zqv s) (s - zqv s) j)
termination_by s
def zqca (f s j : Nat) : List Nd := if h : s < 2 then [] else
 have := zqcg (n := s) (by omega)
 if j < f + zqv s then ⟨f + zqv s, s - zqv s⟩ :: zqca f (zqv s) j else ⟨f, zqv s⟩ :: zqca (f + zqv s) (s - zqv s) j
termination_by s
theorem zqby {f s : Nat} (h : s < 2) : zqab f s = [⟨f, s⟩] := by rw [zqab, dif_pos h]
theorem zqbg {f s : Nat} (h : 2 <= s) : zqab f s = ⟨f, s⟩ :: (zqab f (zqv s) ++ zqab (f + zqv s) (s - zqv s)) := by rw [zqab, dif_neg (by omega)]
theorem zqi4 {f s j : Nat} (h : s < 2) : zqdr f s j = [⟨f, s⟩] := by rw [zqdr, dif_pos h]
theorem zqfx {f s j : Nat} (h : 2 <= s) (hj : j < f + zqv s) : zqdr f s j = ⟨f, s⟩ :: zqdr f (zqv s) j := by rw [zqdr, dif_neg (by omega)]; simp only [hj, if_true]
theorem zqe1 {f s j : Nat} (h : 2 <= s) (hj : ¬ j < f + zqv s) : zqdr f s j = ⟨f, s⟩ :: zqdr (f + zqv s) (s - zqv s) j := by rw [zqdr, dif_neg (by omega)]; simp only [hj, if_false]
theorem zqdq {f s j : Nat} (h : s < 2) : zqca f s j = [] := by rw [zqca, dif_pos h]
theorem zqd1 {f s j : Nat} (h : 2 <= s) (hj : j < f + zqv s) : zqca f s j = ⟨f + zqv s, s - zqv s⟩ :: zqca f (zqv s) j := by rw [zqca, dif_neg (by omega)]; simp only [hj, if_true]
theorem zqdb {f s j : Nat} (h : 2 <= s) (hj : ¬ j < f + zqv s) : zqca f s j = ⟨f, zqv s⟩ :: zqca (f + zqv s) (s - zqv s) j := by rw [zqca, dif_neg (by omega)]; simp only [hj, if_false]
theorem zqd6 {P : Nat -> Nat -> Prop} (h1 : ∀ f s, s < 2 -> P f s) (h2 : ∀ f s, 2 <= s -> P f (zqv s) -> P (f + zqv s) (s - zqv s) -> P f s) (f s : Nat) : P f s := by
 induction s using Nat.strongRecOn generalizing f with
 | _ s ih =>
  by_cases h : s < 2
  ·exact h1 f s h
  ·have hb := zqcg (n := s) (by omega)
   exact h2 f s (by omega) (ih _ (by omega) f) (ih _ (by omega) _)
theorem zqbz (f s : Nat) : 1 <= s -> (zqab f s).length = 2 * s - 1 := by
 refine zqd6 (P := fun f s => 1 <= s -> (zqab f s).length = 2 * s - 1) (fun f s h h0 => ?_) (fun f s h i1 i2 h0 => ?_) f s
 ·rw [zqby h]; simp; omega
 ·have hb := zqcg h
  rw [zqbg h, List.length_cons, List.length_append, i1 (by omega), i2 (by omega)]
  omega
theorem zqdw (f s : Nat) : ∀ v ∈ zqab f s, f <= v.f /\ v.f + v.s <= f + s /\ v.s <= s /\ (1 <= s -> 1 <= v.s) := by
 refine zqd6 (P := fun f s => ∀ v ∈ zqab f s, f <= v.f /\ v.f + v.s <= f + s /\ v.s <= s /\ (1 <= s -> 1 <= v.s)) (fun f s h v hv => ?_) (fun f s h i1 i2 v hv => ?_) f s
 ·rw [zqby h, List.mem_singleton] at hv
  subst hv; simp
 ·have hb := zqcg h
  rw [zqbg h, List.mem_cons, List.mem_append] at hv
  rcases hv with rfl | hv | hv
  ·simp
  ·have := i1 v hv; omega
  ·have := i2 v hv; omega
theorem zqmz (f s : Nat) : 1 <= s -> (zqab f s).Nodup := by
 refine zqd6 (P := fun f s => 1 <= s -> (zqab f s).Nodup) (fun f s h h0 => ?_) (fun f s h i1 i2 h0 => ?_) f s
 ·rw [zqby h]; simp
 ·have hb := zqcg h
  rw [zqbg h, List.nodup_cons, List.nodup_append];refine ⟨fun hm => ?_, i1 (by omega), i2 (by omega), fun a ha b hb' e => ?_⟩
  ·rcases List.mem_append.1 hm with hm | hm
   ·have := zqdw _ _ _ hm; simp at this; omega
   ·have := zqdw _ _ _ hm; simp at this; omega
  ·subst e
   have h1 := zqdw _ _ _ ha;have h2 := zqdw _ _ _ hb';have h3 := h1.2.2.2 (by omega)
   omega
theorem zqnu (f s j : Nat) (h : ¬ (f <= j /\ j < f + s)) : (zqab f s).filter (fun v => decide (v.has j)) = [] := by
 rw [List.filter_eq_nil_iff];intro v hv;have := zqdw f s v hv;intro hh;have := (zqph _ _).1 hh
 omega
theorem zqwj (j : Nat) (f s : Nat) : 1 <= s -> f <= j -> j < f + s -> (zqab f s).filter (fun v => decide (v.has j)) = zqdr f s j := by
 refine zqd6 (P := fun f s => 1 <= s -> f <= j -> j < f + s -> (zqab f s).filter (fun v => decide (v.has j)) = zqdr f s j) (fun f s h h0 h1 h2 => ?_) (fun f s h i1 i2 h0 h1 h2 => ?_) f s
 ·rw [zqby h, zqi4 h, zqle ⟨h1, h2⟩, List.filter_nil]
 ·have hb := zqcg h
  rw [zqbg h, zqle (by omega), List.filter_append]
  by_cases hj : j < f + zqv s
  ·rw [zqfx h hj, i1 (by omega) h1 hj, zqnu _ _ _ (by omega), List.append_nil]
  ·rw [zqe1 h hj, i2 (by omega) (by omega) (by omega), zqnu _ _ _ (by omega), List.nil_append]
theorem zqfc (j f s : Nat) : (zqdr f s j).length = (zqca f s j).length + 1 := by
 refine zqd6 (P := fun f s => (zqdr f s j).length = (zqca f s j).length + 1) (fun f s h => ?_) (fun f s h i1 i2 => ?_) f s
 ·rw [zqi4 h, zqdq h]; rfl
 ·by_cases hj : j < f + zqv s
  ·rw [zqfx h hj, zqd1 h hj, List.length_cons, List.length_cons, i1]
  ·rw [zqe1 h hj, zqdb h hj, List.length_cons, List.length_cons, i2]
theorem zqfd (j : Nat) : ∀ d f s, s <= 2 ^ d -> (zqca f s j).length <= d
 | 0, f, s, h => by rw [zqdq (by omega)]; simp
 | d + 1, f, s, h => by
  by_cases h2 : s < 2
  ·rw [zqdq h2]; simp
  ·have hb := zqzz (n := s) (by omega) h
   by_cases hj : j < f + zqv s
   ·rw [zqd1 (by omega) hj, List.length_cons]; have := zqfd j d f _ hb.1; omega
   ·rw [zqdb (by omega) hj, List.length_cons]; have := zqfd j d (f + zqv s) _ hb.2; omega
theorem zqgx (j f s : Nat) : ∃ l, zqdr f s j = ⟨f, s⟩ :: l := by
 by_cases h : s < 2
 ·exact ⟨[], zqi4 h⟩
 ·by_cases hj : j < f + zqv s
  ·exact ⟨_, zqfx (by omega) hj⟩
  ·exact ⟨_, zqe1 (by omega) hj⟩
theorem zqyn (j f s : Nat) : 1 <= s -> f <= j -> j < f + s -> (zqdr f s j).getLast? = some ⟨j, 1⟩ := by
 refine zqd6 (P := fun f s => 1 <= s -> f <= j -> j < f + s -> (zqdr f s j).getLast? = some ⟨j, 1⟩) (fun f s h h0 h1 h2 => ?_) (fun f s h i1 i2 h0 h1 h2 => ?_) f s
 ·rw [zqi4 h]
  obtain rfl : s = 1 := by omega
  obtain rfl : f = j := by omega
  rfl
 ·have hb := zqcg h
  by_cases hj : j < f + zqv s
  ·rw [zqfx h hj]
   obtain ⟨l, e⟩ := zqgx j f (zqv s);have := i1 (by omega) h1 hj;rw [e] at this ⊢;exact this
  ·rw [zqe1 h hj]
   obtain ⟨l, e⟩ := zqgx j (f + zqv s) (s - zqv s);have := i2 (by omega) (by omega) (by omega);rw [e] at this ⊢;exact this
theorem zqw1 (j f s : Nat) : 1 <= s -> f <= j -> j < f + s -> ∀ i v, (zqca f s j)[i]? = some v -> ∃ a b, (zqdr f s j)[i]? = some a /\ (zqdr f s j)[i + 1]? = some b /\ a.s = b.s + v.s /\ a.f = min b.f v.f /\ a.has j /\ ¬ v.has j /\ 1 <= v.s /\ ((b.f = a.f /\ b.s = zqv a.s /\ v.f = a.f + zqv a.s) \/ (v.f = a.f /\ v.s = zqv a.s /\ b.f = a.f + zqv a.s)) /\ 2 <= a.s := by
 refine zqd6 (P := fun f s => 1 <= s -> f <= j -> j < f + s -> ∀ i v, (zqca f s j)[i]? = some v -> ∃ a b, (zqdr f s j)[i]? = some a /\ (zqdr f s j)[i + 1]? = some b /\ a.s = b.s + v.s /\ a.f = min b.f v.f /\ a.has j /\ ¬ v.has j /\ 1 <= v.s /\ ((b.f = a.f /\ b.s = zqv a.s /\ v.f = a.f + zqv a.s) \/ (v.f = a.f /\ v.s = zqv a.s /\ b.f = a.f + zqv a.s)) /\ 2 <= a.s) (fun f s h h0 h1 h2 i v hv => ?_) (fun f s h i1 i2 h0 h1 h2 i v hv => ?_) f s
 ·rw [zqdq h] at hv; cases hv
 ·have hb := zqcg h
  by_cases hj : j < f + zqv s
  ·rw [zqd1 h hj] at hv
   rw [zqfx h hj]
   cases i with
   | zero =>
    obtain ⟨l, e⟩ := zqgx j f (zqv s);rw [e]
    simp only [List.getElem?_cons_zero, Option.some.injEq] at hv
    subst hv;exact ⟨⟨f, s⟩, ⟨f, zqv s⟩, rfl, rfl, by simp; omega, by simp; try omega, ⟨h1, h2⟩, fun hh => by have := (zqud _ _ _).1 (decide_eq_true hh); omega, by simp; omega, .inl ⟨rfl, rfl, rfl⟩, h⟩
   | succ i =>
    rw [List.getElem?_cons_succ] at hv;exact i1 (by omega) h1 hj i v hv
  ·rw [zqdb h hj] at hv
   rw [zqe1 h hj]
   cases i with
   | zero =>
    obtain ⟨l, e⟩ := zqgx j (f + zqv s) (s - zqv s);rw [e]
    simp only [List.getElem?_cons_zero, Option.some.injEq] at hv
    subst hv;exact ⟨⟨f, s⟩, ⟨f + zqv s, s - zqv s⟩, rfl, rfl, by simp; omega, by simp; try omega, ⟨h1, h2⟩, fun hh => by have := (zqud _ _ _).1 (decide_eq_true hh); omega, by simp; omega, .inr ⟨rfl, rfl, rfl⟩, h⟩
   | succ i =>
    rw [List.getElem?_cons_succ] at hv;exact i2 (by omega) (by omega) (by omega) i v hv
def zqlv (l : List Nd) (k : Nat) : Nat := (l.filter fun v => decide (v.has k)).length
theorem zqsm (j k f s : Nat) : 1 <= s -> f <= j -> j < f + s -> f <= k -> k < f + s -> zqlv (zqca f s j) k + (if k = j then 1 else 0) = 1 := by
 refine zqd6 (P := fun f s => 1 <= s -> f <= j -> j < f + s -> f <= k -> k < f + s -> zqlv (zqca f s j) k + (if k = j then 1 else 0) = 1) (fun f s h h0 h1 h2 h3 h4 => ?_) (fun f s h i1 i2 h0 h1 h2 h3 h4 => ?_) f s
 ·rw [zqdq h, if_pos (by omega)]; rfl
 ·have hb := zqcg h
  have none : ∀ f s : Nat, ¬ (f <= k /\ k < f + s) -> f <= j -> j < f + s -> zqlv (zqca f s j) k = 0 := fun f s hk hj1 hj2 => by
   unfold zqlv;rw [List.length_eq_zero_iff, List.filter_eq_nil_iff];intro v hv;have hin : ∀ f s : Nat, ∀ v ∈ zqca f s j, f <= v.f /\ v.f + v.s <= f + s := fun f s => by
    refine zqd6 (P := fun f s => ∀ v ∈ zqca f s j, f <= v.f /\ v.f + v.s <= f + s) (fun f s h v hv => ?_) (fun f s h i1 i2 v hv => ?_) f s
    ·rw [zqdq h] at hv; cases hv
    ·have hb := zqcg h
     by_cases hj : j < f + zqv s
     ·rw [zqd1 h hj, List.mem_cons] at hv
      rcases hv with rfl | hv
      ·simp; omega
      ·have := i1 v hv; omega
     ·rw [zqdb h hj, List.mem_cons] at hv
      rcases hv with rfl | hv
      ·simp; omega
      ·have := i2 v hv; omega
   have := hin f s v hv;intro hh;have := (zqph _ _).1 hh
   omega
  by_cases hj : j < f + zqv s
  ·rw [zqd1 h hj]
   by_cases hk : k < f + zqv s
   ·have := i1 (by omega) h1 hj h3 hk
    unfold zqlv at this ⊢;rw [zqt2 (by omega)];exact this
   ·have := none f (zqv s) (by omega) h1 hj
    unfold zqlv at this ⊢;rw [zqle (by omega), List.length_cons, this, if_neg (by omega)]
  ·rw [zqdb h hj]
   by_cases hk : k < f + zqv s
   ·have := none (f + zqv s) (s - zqv s) (by omega) (by omega) (by omega)
    unfold zqlv at this ⊢;rw [zqle (by omega), List.length_cons, this, if_neg (by omega)]
   ·have := i2 (by omega) (by omega) (by omega) (by omega) (by omega)
    unfold zqlv at this ⊢;rw [zqt2 (by omega)];exact this
section
variable {K : Type} (up : K -> K -> K) (pub : K -> K)
def secN (L : Nat -> K) (f s : Nat) : K := if h : s < 2 then L f else
 have := zqcg (n := s) (by omega)
 up (secN L f (zqv s)) (pub (secN L (f + zqv s) (s - zqv s)))
termination_by s
theorem zq9i {L : Nat -> K} {f s : Nat} (h : s < 2) : secN up pub L f s = L f := by rw [secN, dif_pos h]
theorem zq46 {L : Nat -> K} {f s : Nat} (h : 2 <= s) : secN up pub L f s = up (secN up pub L f (zqv s)) (pub (secN up pub L (f + zqv s) (s - zqv s))) := by rw [secN, dif_neg (by omega)]
variable (hc : ∀ a b, up a (pub b) = up b (pub a))
include hc
end
theorem zql3 {n j : Nat} (h1 : 2 ^ j < n) (h2 : n <= 2 * 2 ^ j) : zqv n = 2 ^ j := by
 have hp := Nat.two_pow_pos j;unfold zqv;rw [if_neg (by omega)]
 congr 1
 rw [Nat.log2_eq_iff (by omega)];rw [Nat.pow_succ]
 omega
theorem zqrt {n : Nat} (h : n < 2) : zqv n = 0 := by unfold zqv; rw [if_pos h]
def zqee (n j : Nat) : List Nd := (zqdr 0 n j).reverse
def zqaf (n j : Nat) : List Nd := (zqca 0 n j).reverse
theorem zqdx (n j : Nat) : (zqee n j).length = (zqaf n j).length + 1 := by
 unfold zqee zqaf;rw [List.length_reverse, List.length_reverse, zqfc]
theorem zqil (n j : Nat) (h0 : 1 <= n) (h : j < n) : (zqab 0 n).reverse.filter (fun v => decide (v.has j)) = zqee n j := by
 rw [List.filter_reverse, zqwj j 0 n h0 (Nat.zero_le _) (by omega)]; rfl
theorem zqfk (n j : Nat) (h : n <= 1024) : (zqaf n j).length <= 10 := by
 unfold zqaf;rw [List.length_reverse];exact zqfd j 10 0 n h
theorem zqym (n j : Nat) (h0 : 1 <= n) (h : j < n) (i : Nat) (hi : i < (zqaf n j).length) :
  ∃ up b v, (zqee n j)[i + 1]? = some up /\ (zqee n j)[i]? = some b /\ (zqaf n j)[i]? = some v /\ 2 <= up.s /\ b.s + v.s = up.s /\ up.has j /\ ¬ v.has j /\ up.f = min b.f v.f /\ 1 <= v.s /\
   ((b = ⟨up.f, zqv up.s⟩ /\ v = ⟨up.f + zqv up.s, up.s - zqv up.s⟩) \/ (b = ⟨up.f + zqv up.s, up.s - zqv up.s⟩ /\ v = ⟨up.f, zqv up.s⟩)) := by
 have hl := zqdx n j;unfold zqaf at hi;rw [List.length_reverse] at hi;have hl2 : (zqdr 0 n j).length = (zqca 0 n j).length + 1 := zqfc j 0 n;obtain ⟨v, hv⟩ : ∃ v, (zqca 0 n j)[(zqca 0 n j).length - 1 - i]? = some v := ⟨_, List.getElem?_eq_getElem (by omega)⟩
 obtain ⟨a, b, e1, e2, e3, e4, e5, e6, e7, hk, ha⟩ := zqw1 j 0 n h0 (Nat.zero_le _) (by omega) _ v hv;refine ⟨a, b, v, ?_, ?_, ?_, ha, e3.symm, e5, e6, e4, e7, ?_⟩
 ·unfold zqee
  rw [List.getElem?_reverse (by omega), <- e1]
  congr 1; omega
 ·unfold zqee
  rw [List.getElem?_reverse (by omega), <- e2]
  congr 1; omega
 ·unfold zqaf
  rw [List.getElem?_reverse (by omega), <- hv]
 ·cases a; cases b; cases v
  simp only [Nd.mk.injEq] at *
  rcases hk with ⟨k1, k2, k3⟩ | ⟨k1, k2, k3⟩
  ·left; omega
  ·right; omega
theorem zqwa (n j : Nat) (h0 : 1 <= n) (h : j < n) : (zqee n j)[0]? = some ⟨j, 1⟩ := by
 unfold zqee;have := zqyn j 0 n h0 (Nat.zero_le _) (by omega);rw [List.getLast?_eq_getElem?] at this;have hl := zqfc j 0 n;rw [List.getElem?_reverse (by omega), <- this]
 rfl
theorem zqq6 (n j : Nat) : (zqee n j)[(zqaf n j).length]? = some ⟨0, n⟩ := by
 obtain ⟨l, e⟩ := zqgx j 0 n;have hl := zqfc j 0 n;unfold zqee zqaf;rw [List.length_reverse, List.getElem?_reverse (by omega), e];have : (zqdr 0 n j).length - 1 - (zqca 0 n j).length = 0 := by omega
 rw [e] at this;rw [this]; rfl
theorem zqqr (n j k : Nat) (h0 : 1 <= n) (h : j < n) (hk : k < n) : zqlv (zqaf n j) k + (if k = j then 1 else 0) = 1 := by
 have := zqsm j k 0 n h0 (Nat.zero_le _) (by omega) (Nat.zero_le _) (by omega);unfold zqlv zqaf at *;rw [List.filter_reverse, List.length_reverse];exact this
end Go.Proofs.YtpefpiobcpdeoaaGreatDoor
namespace Go.Proofs.YtpefpiobcpdeoaaGreatDoor
open Go.RowKit Go.Lib
def ndsL (l : List Nd) : List Value := l.flatMap fun v => [.int .i64 v.f, .int .i64 v.s]
theorem zqea (l m : List Nd) : ndsL (l ++ m) = ndsL l ++ ndsL m := by simp [ndsL]
theorem zqlc (v : Nd) : ndsL [v] = [.int .i64 v.f, .int .i64 v.s] := by simp [ndsL]
theorem zqjf (v : Nd) (l : List Nd) : ndsL (v :: l) = .int .i64 v.f :: .int .i64 v.s :: ndsL l := by simp [ndsL]
theorem zqlg : ∀ l : List Nd, (ndsL l).length = l.length * 2
 | [] => rfl
 | v :: l => by rw [zqjf, List.length_cons, List.length_cons, List.length_cons, zqlg l]; omega
theorem zqla : ∀ (l : List Nd) (i : Nat) (v : Nd), l[i]? = some v -> (ndsL l)[2 * i]? = some (.int .i64 v.f) /\ (ndsL l)[2 * i + 1]? = some (.int .i64 v.s)
 | [], i, v, h => by simp at h
 | u :: l, 0, v, h => by
  simp at h; subst h
  rw [zqjf]; exact ⟨rfl, rfl⟩
 | u :: l, i + 1, v, h => by
  rw [zqjf, show 2 * (i + 1) = 2 * i + 1 + 1 by omega];exact zqla l i v (by simpa using h)
theorem zqrq (l : List Nd) : ∀ u ∈ ndsL l, u.oneCell' = true := fun u hu => by
 unfold ndsL at hu;obtain ⟨v, _, hv⟩ := List.mem_flatMap.1 hu
 simp at hv
 rcases hv with rfl | rfl <;> rfl
def NdsAt (w : World) (oa : Option Addr) (l : List Nd) : Prop :=
 l = [] \/ ∃ g o, oa = some ⟨g, o, none⟩ /\ g < w.heap.size /\ ∀ i v, l[i]? = some v -> cellOf (zqd w g) (o + 2 * i) = some (.int .i64 v.f) /\ cellOf (zqd w g) (o + 2 * i + 1) = some (.int .i64 v.s)
theorem NdsAt.later {w w' : World} {oa : Option Addr} {l : List Nd} (h : NdsAt w oa l) (hb : Below w.heap.size w w') : NdsAt w' oa l := by
 rcases h with h | ⟨g, o, e, hg, hl⟩
 ·exact .inl h
 ·refine .inr ⟨g, o, e, Nat.lt_of_lt_of_le hg hb.size, fun i v hv => ?_⟩
  rw [show zqd w' g = zqd w g from hb.block g hg];exact hl i v hv
theorem zqoe {w : World} {base n : Nat} {v : Value} {l : List Nd} {t : TypeId} (h : w.ownsRow base t 2 v n (ndsL l)) : ∃ oa c, v = .slice oa n c /\ NdsAt w oa l /\ l.length = n := by
 have hn : l.length = n := by have := h.1; rw [zqlg] at this; omega
 rcases h.2 with ⟨rfl, h0⟩ | ⟨g, cap, cur, rfl, hb, hg, hnc, hcm, hcs, htake⟩
 ·subst h0
  exact ⟨none, 0, rfl, .inl (by cases l <;> simp_all), hn⟩
 ·refine ⟨some ⟨g, 0, none⟩, cap, rfl, .inr ⟨g, 0, rfl, zqa (show zqd w g = _ from hg), fun i v hv => ?_⟩, hn⟩
  have hi : i < l.length := (List.getElem?_eq_some_iff.1 hv).1;obtain ⟨h1, h2⟩ := zqla l i v hv;rw [show zqd w g = some (.cells cur t (0, 0)) from hg, zqb9, zqb9, Nat.zero_add];rw [<- htake, List.getElem?_take, if_pos (by omega)] at h1 h2;exact ⟨by simpa using h1, by simpa using h2⟩
end Go.Proofs.YtpefpiobcpdeoaaGreatDoor
namespace Go.Proofs.YtpefpiobcpdeoaaGreatDoor
open Go.RowKit
def zqbi (x z : Nat -> Int) : Nat -> Int := fun i => if i < 32 then x i else z (i - 32)
theorem zqrs (f : Nat -> Int) : zqbi f (fun i => f (i + 32)) = f := by
 funext i
 unfold zqbi
 split
 ·rfl
 ·show f (i - 32 + 32) = f i
  rw [show i - 32 + 32 = i by omega]
@[go_sem ↓ high] theorem zrcj (ρ : Operand -> Value) (d : Option Tmp) (x : Operand) (t : TypeId) (pos : String) (af : Array Edge) (g : Option (Nat × Bool)) :
  execOp ρ ⟨d, .load 297 x, t, pos, af, g⟩ = zqq 297 (ρ x) := zqax _ ρ d x t pos af g
@[go_sem high] theorem zq7o (ρ : Operand -> Value) (d : Option Tmp) (x : Operand) (t : TypeId) (pos : String) (af : Array Edge) (g : Option (Nat × Bool)) :
  execOp ρ ⟨d, .load 297 x, t, pos, af, g⟩ = zqq 297 (ρ x) := zqax _ ρ d x t pos af g
@[go_sem] theorem zqo3 (g : Nat) (w : World) : (zqq 297 (.pointer (some ⟨g, 0, none⟩))).run Tryz.prog w = (zqau Tryz.prog 297 g 64 w (zqd w g)).andThen fun v w' => .ok (.value v) w' := by
 rw [zq7, zqa4 Tryz.underlying297 rfl zqb g w]
@[go_sem] theorem zq2p (g : Nat) (w : World) (cs : Array Value) (t' : TypeId) (fr : Nat × Nat) (h : cs.size = 64) : zqau Tryz.prog 297 g 64 w (some (.cells cs t' fr)) = .ok (.agg cs) w := zqao cs t' fr h
@[go_sem ↓ high] theorem zq7z (ρ : Operand -> Value) (d : Option Tmp) (x y : Operand) (t : TypeId) (pos : String) (af : Array Edge) (g : Option (Nat × Bool)) :
  execOp ρ ⟨d, .store 297 x y, t, pos, af, g⟩ = zqu 297 (ρ x) (ρ y) := zqas _ ρ d x y t pos af g
@[go_sem high] theorem zq6z (ρ : Operand -> Value) (d : Option Tmp) (x y : Operand) (t : TypeId) (pos : String) (af : Array Edge) (g : Option (Nat × Bool)) :
  execOp ρ ⟨d, .store 297 x y, t, pos, af, g⟩ = zqu 297 (ρ x) (ρ y) := zqas _ ρ d x y t pos af g
@[go_sem] theorem zq13 (g : Nat) (cs : Array Value) (w : World) : (zqu 297 (.pointer (some ⟨g, 0, none⟩)) (.agg cs)).run Tryz.prog w = (zqap Tryz.prog 297 g 64 (.agg cs) w (zqd w g)).andThen fun _ w' => .ok .skip w' := by
 rw [zqaa, zqa8 zqb g cs w]
@[go_sem] theorem zq18 (g : Nat) (w : World) (old cs : Array Value) (t' : TypeId) (h1 : old.size = 64) (h2 : cs.size = 64) (h3 : zqam cs = true) :
  zqap Tryz.prog 297 g 64 (.agg cs) w (some (.cells old t' (0, 0))) = .ok () (w.setRow g cs) := zqaq old cs t' h1 h2 h3
@[go_sem high] theorem zq7u (w : World) : (zeroValue 297).run Tryz.prog w = .ok (.agg (ints .u8 64 (zqbi zqe zqe))) w := by kernel_rfl
@[go_sem ↓ high] theorem zqbc (w : World) : (zeroValue 297).run Tryz.prog w = .ok (.agg (ints .u8 64 (zqbi zqe zqe))) w := by kernel_rfl
theorem zqxw (x z : Nat -> Int) : (ints .u8 64 (zqbi x z)).extract 0 32 = ints .u8 32 x := by kernel_rfl
theorem zqw9 (x z : Nat -> Int) : (ints .u8 64 (zqbi x z)).extract 32 (32 + 32) = ints .u8 32 z := by kernel_rfl
theorem zrfc (x z a : Nat -> Int) : zqb7 (ints .u8 64 (zqbi x z)) 0 (ints .u8 32 a).toList = ints .u8 64 (zqbi a z) := by kernel_rfl
theorem zrek (x z a : Nat -> Int) : zqb7 (ints .u8 64 (zqbi x z)) 32 (ints .u8 32 a).toList = ints .u8 64 (zqbi x a) := by kernel_rfl
@[go_sem] theorem zq8m (g : Nat) (w : World) (x z : Nat -> Int) (t' : TypeId) (fr : Nat × Nat) : zqau Tryz.prog 44 g 32 w (some (.cells (ints .u8 64 (zqbi x z)) t' fr)) = .ok (.agg (ints .u8 32 x)) w := by
 unfold zqau
 simp only [zqi]
 rw [if_neg (by decide), if_pos (by decide), zqxw]
@[go_sem] theorem zq69 (g : Nat) (w : World) (x z a : Nat -> Int) (t' : TypeId) : zqap Tryz.prog 44 g 32 (.agg (ints .u8 32 a)) w (some (.cells (ints .u8 64 (zqbi x z)) t' (0, 0))) = .ok () (w.setRow g (ints .u8 64 (zqbi a z))) := by
 unfold zqap
 simp only [zqi]
 rw [if_neg (fun h => absurd h.1 (by decide)), if_pos ⟨by decide, by trivial, zqdj _ _ _⟩, zrfc]
@[go_sem] theorem zq6b (g : Nat) (w : World) : (zqq 44 (.pointer (some ⟨g, 32, none⟩))).run Tryz.prog w = (zqbh Tryz.prog 44 g 32 32 w (zqd w g)).andThen fun v w' => .ok (.value v) w' := by
 rw [zq7, zqdi Tryz.underlying44 rfl zqb g 32 w]
@[go_sem] theorem zq9l (g : Nat) (w : World) (x z : Nat -> Int) (t' : TypeId) (fr : Nat × Nat) : zqbh Tryz.prog 44 g 32 32 w (some (.cells (ints .u8 64 (zqbi x z)) t' fr)) = .ok (.agg (ints .u8 32 z)) w := by
 unfold zqbh
 simp only [zqi]
 rw [if_pos (by decide), zqw9]
@[go_sem] theorem zq2c (g : Nat) (cs : Array Value) (w : World) : (zqu 44 (.pointer (some ⟨g, 32, none⟩)) (.agg cs)).run Tryz.prog w = (zqb5 Tryz.prog 44 g 32 32 (.agg cs) w (zqd w g)).andThen fun _ w' => .ok .skip w' := by
 rw [zqaa, zqdy zqb g 32 cs w]
@[go_sem] theorem zq57 (g : Nat) (w : World) (x z a : Nat -> Int) (t' : TypeId) : zqb5 Tryz.prog 44 g 32 32 (.agg (ints .u8 32 a)) w (some (.cells (ints .u8 64 (zqbi x z)) t' (0, 0))) = .ok () (w.setRow g (ints .u8 64 (zqbi x a))) := by
 unfold zqb5
 simp only [zqi]
 rw [if_pos ⟨by decide, by trivial, zqdj _ _ _⟩, zrek]
@[go_sem] theorem zq6l (x z : Nat -> Int) (w : World) : (Instr.field 297 (.agg (ints .u8 64 (zqbi x z))) 0).run Tryz.prog w = .ok (.agg (ints .u8 32 x)) w := by kernel_rfl
@[go_sem] theorem zq53 (x z : Nat -> Int) (w : World) : (Instr.field 297 (.agg (ints .u8 64 (zqbi x z))) 1).run Tryz.prog w = .ok (.agg (ints .u8 32 z)) w := by kernel_rfl
def zqf1 (x z : Value) : Sem Next := do pure (.value (<- Instr.build 297 #[(0, x), (1, z)]))
def zqhi (x : Value) : Sem Next := do pure (.value (<- Instr.build 297 #[(0, x)]))
@[go_sem ↓ high] theorem zrgk (ρ : Operand -> Value) (d : Option Tmp) (x y : Operand) (t : TypeId) (pos : String) (af : Array Edge) (g : Option (Nat × Bool)) :
  execOp ρ ⟨d, .build 297 #[(0, x), (1, y)], t, pos, af, g⟩ = zqf1 (ρ x) (ρ y) := by simp [execOp, zqf1]
@[go_sem high] theorem zre7 (ρ : Operand -> Value) (d : Option Tmp) (x y : Operand) (t : TypeId) (pos : String) (af : Array Edge) (g : Option (Nat × Bool)) :
  execOp ρ ⟨d, .build 297 #[(0, x), (1, y)], t, pos, af, g⟩ = zqf1 (ρ x) (ρ y) := by simp [execOp, zqf1]
@[go_sem ↓ high] theorem zrdh (ρ : Operand -> Value) (d : Option Tmp) (x : Operand) (t : TypeId) (pos : String) (af : Array Edge) (g : Option (Nat × Bool)) :
  execOp ρ ⟨d, .build 297 #[(0, x)], t, pos, af, g⟩ = zqhi (ρ x) := by simp [execOp, zqhi]
@[go_sem high] theorem zrbt (ρ : Operand -> Value) (d : Option Tmp) (x : Operand) (t : TypeId) (pos : String) (af : Array Edge) (g : Option (Nat × Bool)) :
  execOp ρ ⟨d, .build 297 #[(0, x)], t, pos, af, g⟩ = zqhi (ρ x) := by simp [execOp, zqhi]
@[go_sem] theorem zrfp (x z : Nat -> Int) (w : World) : (zqf1 (.agg (ints .u8 32 x)) (.agg (ints .u8 32 z))).run Tryz.prog w = .ok (.value (.agg (ints .u8 64 (zqbi x z)))) w := by kernel_rfl
@[go_sem] theorem zrcs (x : Nat -> Int) (w : World) : (zqhi (.agg (ints .u8 32 x))).run Tryz.prog w = .ok (.value (.agg (ints .u8 64 (zqbi x zqe)))) w := by kernel_rfl
attribute [irreducible] zqf1 zqhi
end Go.Proofs.YtpefpiobcpdeoaaGreatDoor
