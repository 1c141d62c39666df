/- Nds -/
import Derived.Test.YtnjghcnhcbobhaaGreatDoorOw
import Derived.Test.YtnjghcnhcbobhaaGreatDoorBase
import Derived.Test.YtnjghcnhcbobhaaGreatDoorMem
set_option linter.unusedVariables false
set_option linter.unusedSimpArgs false
namespace Go.Proofs.YtnjghcnhcbobhaaGreatDoor
open Go.RowKit Go.Lib
theorem zqqw {w W w' : World} {base : Nat} {e : TypeId} {size : Nat} {v : Value} {n : Nat} {xs : List Value} (own : W.ownsRow base e size v n xs) (hg : W.grownBy w' v.ownBlock) (hG : Below w.heap.size w W) (hwb : w.heap.size <= base) :
  Below w.heap.size w w' /\ ∀ m o, m < base -> zqd W m = some o -> zqd w' m = some o := by
 refine ⟨hG.grown hg hG.size (fun k hk => ?_), fun m o hm hob => ?_⟩
 ·have := (own.lt k hk).1; omega
 ·have hlt := zqa hob
  refine (hg.block m hlt fun e => ?_).trans hob;have := (own.lt m e.symm).1
  omega
section
variable {ops : Array Oper} {o : Oper} {a : Act} {K : Act -> World -> Prop} {Q : Exit -> Act -> World -> Prop} {E : Prop}
theorem zq2j {t e : TypeId} {i : TypeInfo} {z : Value} (size bytes : Nat) (ht : Tryz.prog.underlying t = some (.slice e)) (hi : Tryz.prog.info? e = some i) (hz : i.zero = some z) (hsize : i.size = size) (hby : i.bytes = bytes) (hzs : z.cells.size = size) (hsz : 0 < size) (hb8 : bytes <= 4096)
  (hgd : o.guard = none) (s x : Operand) (ho : o.op = .call { callee := .builtin .append, args := #[s, x], argTypes := #[t, t] })
  (w W : World) (base : Nat) (v : Value) (n : Nat) (xs : List Value) (ad : Addr) (m c : Nat) (news : List Value) (hs : a.eval s = v) (hx : a.eval x = .slice (some ad) m c) (own : W.ownsRow base e size v n xs) (hn : n + m <= 1073741824) (hm : 0 < m)
  (hl : news.length = m * size) (hnews : ∀ j u, news[j]? = some u -> W.cell? (ad.add j) = some u) (h1 : ∀ u ∈ news, u.oneCell' = true) (hG : Below w.heap.size w W) (hwb : w.heap.size <= base) (hbW : base <= W.heap.size)
  (h : ∀ g cap w', w'.ownsRow base e size (.slice (some ⟨g, 0, none⟩) (n + m) cap) (n + m) (xs ++ news) -> Below w.heap.size w w' -> (∀ m ob, m < base -> zqd W m = some ob -> zqd w' m = some ob) -> base <= g -> K (a.put o.dst (.slice (some ⟨g, 0, none⟩) (n + m) cap)) w') :
  if Region.wanted o (yielded ops a.tmps) = true then Oper.wp Tryz.prog o a W K Q else E := by
 have hbn : (n + m) * bytes <= 140737488355328 := Nat.le_trans (Nat.mul_le_mul hn hb8) (by decide);refine step_append_lies (P := Tryz.prog) (w := W) hgd s x t ho base e i z size bytes ht hi hz hsize hby hzs hsz v n xs hs own ad m c news hx hl hnews h1 hm (by unfold maxLen; omega) hbn hbW W.heap.size rfl (fun g cap w' ho' hg _ _ => ?_);obtain ⟨h1, h2⟩ := zqqw own hg hG hwb;exact h g cap w' ho' h1 h2 (ho'.lt g rfl).1
theorem step_cells {t e : TypeId} {i : TypeInfo} {z : Value} (size bytes : Nat) (ht : Tryz.prog.underlying t = some (.slice e)) (hi : Tryz.prog.info? e = some i) (hz : i.zero = some z) (hsize : i.size = size) (hby : i.bytes = bytes) (hzs : z.cells.size = size) (hsz : 0 < size) (hb8 : bytes <= 4096)
  (hgd : o.guard = none) (s x : Operand) (ho : o.op = .call { callee := .builtin .append, args := #[s, x], argTypes := #[t, t] })
  (w W : World) (base : Nat) (v : Value) (n : Nat) (xs : List Value) (cs : Array Value) (g2 : Nat) (t2 : TypeId) (fr : Nat × Nat) (hs : a.eval s = v) (hx : a.eval x = .slice (some ⟨g2, 0, none⟩) 1 1) (own : W.ownsRow base e size v n xs) (hn : n <= 1048576)
  (hg2 : zqd W g2 = some (.cells cs t2 fr)) (hcs : cs.size = size) (h1 : ∀ u ∈ cs.toList, u.oneCell' = true) (hG : Below w.heap.size w W) (hwb : w.heap.size <= base) (hbW : base <= W.heap.size)
  (h : ∀ g cap w', w'.ownsRow base e size (.slice (some ⟨g, 0, none⟩) (n + 1) cap) (n + 1) (xs ++ cs.toList) -> Below w.heap.size w w' -> (∀ m ob, m < base -> zqd W m = some ob -> zqd w' m = some ob) -> base <= g -> K (a.put o.dst (.slice (some ⟨g, 0, none⟩) (n + 1) cap)) w') :
  if Region.wanted o (yielded ops a.tmps) = true then Oper.wp Tryz.prog o a W K Q else E :=
 zq2j size bytes ht hi hz hsize hby hzs hsz hb8 hgd s x ho w W base v n xs ⟨g2, 0, none⟩ 1 1 cs.toList hs hx own (by omega) (by decide) (by rw [Array.length_toList, hcs, Nat.one_mul])
  (fun j u hu => by
   unfold zqd at hg2;have ha : ((⟨g2, 0, none⟩ : Addr).add j) = ⟨g2, j, none⟩ := by unfold Addr.add; split <;> simp_all
   rw [ha, cell_of_row W g2 j _ _ _ hg2]
   simpa using hu) h1 hG hwb hbW h
end
theorem zqo5 {w : World} {base g n c size : Nat} {xs : List Value} {t : TypeId} (h : w.ownsRow base t size (.slice (some ⟨g, 0, none⟩) n c) n xs) (i : Nat) (u : Value) (hu : xs[i]? = some u) : g < w.heap.size /\ ∀ w', Below w.heap.size w w' -> w'.cell? ⟨g, i, none⟩ = some u := by
 rcases h.2 with ⟨h0, _⟩ | ⟨g', cap, cur, h0, hb, hg, hnc, hcm, hcs, htake⟩
 ·cases h0
 ·cases h0
  have hlt : g < w.heap.size := zqa (show zqd w g = _ from hg);refine ⟨hlt, fun w' hb' => ?_⟩;have h' := zqb hb' (show zqd w g = _ from hg);rw [cell_of_row w' g i _ _ _ h'];have h2 : i < n * size := by
   rcases Nat.lt_or_ge i (n * size) with h2 | h2
   ·exact h2
   ·rw [<- htake, List.getElem?_take, if_neg (by omega)] at hu; cases hu
  rw [<- htake, List.getElem?_take, if_pos h2] at hu
  simpa using hu
end Go.Proofs.YtnjghcnhcbobhaaGreatDoor
namespace Go.Proofs.YtnjghcnhcbobhaaGreatDoor
def zqr (n : Nat) : Nat := if n < 2 then 0 else 2 ^ Nat.log2 (n - 1)
theorem zqcd {n : Nat} (h : 2 <= n) : 0 < zqr n /\ zqr n < n /\ n <= 2 * zqr n := by
 unfold zqr;rw [if_neg (by omega)];have h1 : 2 ^ Nat.log2 (n - 1) <= n - 1 := Nat.log2_self_le (by omega);have h2 : n - 1 < 2 ^ (Nat.log2 (n - 1) + 1) := Nat.lt_log2_self;rw [Nat.pow_succ] at h2;exact ⟨Nat.two_pow_pos _, by omega, by omega⟩
theorem zq3f {n d : Nat} (h : 2 <= n) (hd : n <= 2 ^ (d + 1)) : zqr n <= 2 ^ d /\ n - zqr n <= 2 ^ d := by
 have hb := zqcd h;have e : zqr n = 2 ^ Nat.log2 (n - 1) := by unfold zqr; rw [if_neg (by omega)]
 have h1 : Nat.log2 (n - 1) <= d := by
  have h3 : 2 ^ Nat.log2 (n - 1) < 2 ^ (d + 1) := by omega
  have := (Nat.pow_lt_pow_iff_right (a := 2) (by decide)).1 h3
  omega
 have h4 : zqr n <= 2 ^ d := by rw [e]; exact Nat.pow_le_pow_right (by decide) h1
 omega
structure Nd where
 f : Nat
 s : Nat
def Nd.has (v : Nd) (j : Nat) : Prop := v.f <= j /\ j < v.f + v.s
instance (v : Nd) (j : Nat) : Decidable (v.has j) := by unfold Nd.has; infer_instance
theorem zqoq (v : Nd) (j : Nat) : decide (v.has j) = true ↔ v.f <= j /\ j < v.f + v.s := by rw [decide_eq_true_eq]; exact Iff.rfl
theorem zqu4 (f s j : Nat) : decide ((⟨f, s⟩ : Nd).has j) = true ↔ f <= j /\ j < f + s := zqoq _ _
theorem zqkv {f s j : Nat} {l : List Nd} (h : f <= j /\ j < f + s) : (⟨f, s⟩ :: l : List Nd).filter (fun v => decide (v.has j)) = ⟨f, s⟩ :: l.filter (fun v => decide (v.has j)) := List.filter_cons_of_pos (p := fun v : Nd => decide (v.has j)) ((zqu4 _ _ _).2 h)
theorem zqvd {f s j : Nat} {l : List Nd} (h : ¬ (f <= j /\ j < f + s)) : (⟨f, s⟩ :: l : List Nd).filter (fun v => decide (v.has j)) = l.filter (fun v => decide (v.has j)) := List.filter_cons_of_neg (p := fun v : Nd => decide (v.has j)) (fun hh => h ((zqu4 _ _ _).1 hh))
def zqab (f s : Nat) : List Nd := if h : s < 2 then [⟨f, s⟩] else
 have := zqcd (n := s) (by omega)
 ⟨f, s⟩ :: (zqab f (zqr s) ++ zqab (f + zqr s) (s - zqr s))
termination_by s
def zqdo (f s j : Nat) : List Nd := if h : s < 2 then [⟨f, s⟩] else
 have := zqcd (n := s) (by omega)
 ⟨f, s⟩ :: (if j < f + zqr s then zqdo f (zqr s) j else zqdo (f + zqr s) (s - zqr s) j)
termination_by s
def zqb5 (f s j : Nat) : List Nd := if h : s < 2 then [] else
 have := zqcd (n := s) (by omega)
 if j < f + zqr s then ⟨f + zqr s, s - zqr s⟩ :: zqb5 f (zqr s) j else ⟨f, zqr s⟩ :: zqb5 (f + zqr s) (s - zqr s) j
termination_by s
theorem zqbu {f s : Nat} (h : s < 2) : zqab f s = [⟨f, s⟩] := by rw [zqab, dif_pos h]
theorem zqbh {f s : Nat} (h : 2 <= s) : zqab f s = ⟨f, s⟩ :: (zqab f (zqr s) ++ zqab (f + zqr s) (s - zqr s)) := by rw [zqab, dif_neg (by omega)]
theorem zqiy {f s j : Nat} (h : s < 2) : zqdo f s j = [⟨f, s⟩] := by rw [zqdo, dif_pos h]
theorem zqfr {f s j : Nat} (h : 2 <= s) (hj : j < f + zqr s) : zqdo f s j = ⟨f, s⟩ :: zqdo f (zqr s) j := by rw [zqdo, dif_neg (by omega)]; simp only [hj, if_true]
theorem zqez {f s j : Nat} (h : 2 <= s) (hj : ¬ j < f + zqr s) : zqdo f s j = ⟨f, s⟩ :: zqdo (f + zqr s) (s - zqr s) j := by rw [zqdo, dif_neg (by omega)]; simp only [hj, if_false]
theorem zqdl {f s j : Nat} (h : s < 2) : zqb5 f s j = [] := by rw [zqb5, dif_pos h]
theorem zqdx {f s j : Nat} (h : 2 <= s) (hj : j < f + zqr s) : zqb5 f s j = ⟨f + zqr s, s - zqr s⟩ :: zqb5 f (zqr s) j := by rw [zqb5, dif_neg (by omega)]; simp only [hj, if_true]
theorem zqc6 {f s j : Nat} (h : 2 <= s) (hj : ¬ j < f + zqr s) : zqb5 f s j = ⟨f, zqr s⟩ :: zqb5 (f + zqr s) (s - zqr s) j := by rw [zqb5, dif_neg (by omega)]; simp only [hj, if_false]
theorem zqd2 {P : Nat -> Nat -> Prop} (h1 : ∀ f s, s < 2 -> P f s) (h2 : ∀ f s, 2 <= s -> P f (zqr s) -> P (f + zqr s) (s - zqr s) -> P f s) (f s : Nat) : P f s := by
 induction s using Nat.strongRecOn generalizing f with
 | _ s ih =>
  by_cases h : s < 2
  ·exact h1 f s h
  ·have hb := zqcd (n := s) (by omega)
   exact h2 f s (by omega) (ih _ (by omega) f) (ih _ (by omega) _)
theorem zqbv (f s : Nat) : 1 <= s -> (zqab f s).length = 2 * s - 1 := by
 refine zqd2 (P := fun f s => 1 <= s -> (zqab f s).length = 2 * s - 1) (fun f s h h0 => ?_) (fun f s h i1 i2 h0 => ?_) f s
 ·rw [zqbu h]; simp; omega
 ·have hb := zqcd h
  rw [zqbh h, List.length_cons, List.length_append, i1 (by omega), i2 (by omega)]
  omega
theorem zqds (f s : Nat) : ∀ v ∈ zqab f s, f <= v.f /\ v.f + v.s <= f + s /\ v.s <= s /\ (1 <= s -> 1 <= v.s) := by
 refine zqd2 (P := fun f s => ∀ v ∈ zqab f s, f <= v.f /\ v.f + v.s <= f + s /\ v.s <= s /\ (1 <= s -> 1 <= v.s)) (fun f s h v hv => ?_) (fun f s h i1 i2 v hv => ?_) f s
 ·rw [zqbu h, List.mem_singleton] at hv
  subst hv; simp
 ·have hb := zqcd h
  rw [zqbh h, List.mem_cons, List.mem_append] at hv
  rcases hv with rfl | hv | hv
  ·simp
  ·have := i1 v hv; omega
  ·have := i2 v hv; omega
theorem zqlf (f s : Nat) : 1 <= s -> (zqab f s).Nodup := by
 refine zqd2 (P := fun f s => 1 <= s -> (zqab f s).Nodup) (fun f s h h0 => ?_) (fun f s h i1 i2 h0 => ?_) f s
 ·rw [zqbu h]; simp
 ·have hb := zqcd h
  rw [zqbh h, List.nodup_cons, List.nodup_append];refine ⟨fun hm => ?_, i1 (by omega), i2 (by omega), fun a ha b hb' e => ?_⟩
  ·rcases List.mem_append.1 hm with hm | hm
   ·have := zqds _ _ _ hm; simp at this; omega
   ·have := zqds _ _ _ hm; simp at this; omega
  ·subst e
   have h1 := zqds _ _ _ ha;have h2 := zqds _ _ _ hb';have h3 := h1.2.2.2 (by omega)
   omega
theorem zqn5 (f s j : Nat) (h : ¬ (f <= j /\ j < f + s)) : (zqab f s).filter (fun v => decide (v.has j)) = [] := by
 rw [List.filter_eq_nil_iff];intro v hv;have := zqds f s v hv;intro hh;have := (zqoq _ _).1 hh
 omega
theorem zqwp (j : Nat) (f s : Nat) : 1 <= s -> f <= j -> j < f + s -> (zqab f s).filter (fun v => decide (v.has j)) = zqdo f s j := by
 refine zqd2 (P := fun f s => 1 <= s -> f <= j -> j < f + s -> (zqab f s).filter (fun v => decide (v.has j)) = zqdo f s j) (fun f s h h0 h1 h2 => ?_) (fun f s h i1 i2 h0 h1 h2 => ?_) f s
 ·rw [zqbu h, zqiy h, zqkv ⟨h1, h2⟩, List.filter_nil]
 ·have hb := zqcd h
  rw [zqbh h, zqkv (by omega), List.filter_append]
  by_cases hj : j < f + zqr s
  ·rw [zqfr h hj, i1 (by omega) h1 hj, zqn5 _ _ _ (by omega), List.append_nil]
  ·rw [zqez h hj, i2 (by omega) (by omega) (by omega), zqn5 _ _ _ (by omega), List.nil_append]
theorem zqe9 (j f s : Nat) : (zqdo f s j).length = (zqb5 f s j).length + 1 := by
 refine zqd2 (P := fun f s => (zqdo f s j).length = (zqb5 f s j).length + 1) (fun f s h => ?_) (fun f s h i1 i2 => ?_) f s
 ·rw [zqiy h, zqdl h]; rfl
 ·by_cases hj : j < f + zqr s
  ·rw [zqfr h hj, zqdx h hj, List.length_cons, List.length_cons, i1]
  ·rw [zqez h hj, zqc6 h hj, List.length_cons, List.length_cons, i2]
theorem zqe7 (j : Nat) : ∀ d f s, s <= 2 ^ d -> (zqb5 f s j).length <= d
 | 0, f, s, h => by rw [zqdl (by omega)]; simp
 | d + 1, f, s, h => by
  by_cases h2 : s < 2
  ·rw [zqdl h2]; simp
  ·have hb := zq3f (n := s) (by omega) h
   by_cases hj : j < f + zqr s
   ·rw [zqdx (by omega) hj, List.length_cons]; have := zqe7 j d f _ hb.1; omega
   ·rw [zqc6 (by omega) hj, List.length_cons]; have := zqe7 j d (f + zqr s) _ hb.2; omega
theorem zqg1 (j f s : Nat) : ∃ l, zqdo f s j = ⟨f, s⟩ :: l := by
 by_cases h : s < 2
 ·exact ⟨[], zqiy h⟩
 ·by_cases hj : j < f + zqr s
  ·exact ⟨_, zqfr (by omega) hj⟩
  ·exact ⟨_, zqez (by omega) hj⟩
theorem zq1c (j f s : Nat) : 1 <= s -> f <= j -> j < f + s -> (zqdo f s j).getLast? = some ⟨j, 1⟩ := by
 refine zqd2 (P := fun f s => 1 <= s -> f <= j -> j < f + s -> (zqdo f s j).getLast? = some ⟨j, 1⟩) (fun f s h h0 h1 h2 => ?_) (fun f s h i1 i2 h0 h1 h2 => ?_) f s
 ·rw [zqiy h]
  obtain rfl : s = 1 := by omega
  obtain rfl : f = j := by omega
  rfl
 ·have hb := zqcd h
  by_cases hj : j < f + zqr s
  ·rw [zqfr h hj]
   obtain ⟨l, e⟩ := zqg1 j f (zqr s);have := i1 (by omega) h1 hj;rw [e] at this ⊢;exact this
  ·rw [zqez h hj]
   obtain ⟨l, e⟩ := zqg1 j (f + zqr s) (s - zqr s);have := i2 (by omega) (by omega) (by omega);rw [e] at this ⊢;exact this
theorem zqxj (j f s : Nat) : 1 <= s -> f <= j -> j < f + s -> ∀ i v, (zqb5 f s j)[i]? = some v -> ∃ a b, (zqdo f s j)[i]? = some a /\ (zqdo f s j)[i + 1]? = some b /\ a.s = b.s + v.s /\ a.f = min b.f v.f /\ a.has j /\ ¬ v.has j /\ 1 <= v.s /\ ((b.f = a.f /\ b.s = zqr a.s /\ v.f = a.f + zqr a.s) \/ (v.f = a.f /\ v.s = zqr a.s /\ b.f = a.f + zqr a.s)) /\ 2 <= a.s := by
 refine zqd2 (P := fun f s => 1 <= s -> f <= j -> j < f + s -> ∀ i v, (zqb5 f s j)[i]? = some v -> ∃ a b, (zqdo f s j)[i]? = some a /\ (zqdo f s j)[i + 1]? = some b /\ a.s = b.s + v.s /\ a.f = min b.f v.f /\ a.has j /\ ¬ v.has j /\ 1 <= v.s /\ ((b.f = a.f /\ b.s = zqr a.s /\ v.f = a.f + zqr a.s) \/ (v.f = a.f /\ v.s = zqr a.s /\ b.f = a.f + zqr a.s)) /\ 2 <= a.s) (fun f s h h0 h1 h2 i v hv => ?_) (fun f s h i1 i2 h0 h1 h2 i v hv => ?_) f s
 ·rw [zqdl h] at hv; cases hv
 ·have hb := zqcd h
  by_cases hj : j < f + zqr s
  ·rw [zqdx h hj] at hv
   rw [zqfr h hj]
   cases i with
   | zero =>
    obtain ⟨l, e⟩ := zqg1 j f (zqr s);rw [e]
    simp only [List.getElem?_cons_zero, Option.some.injEq] at hv
    subst hv;exact ⟨⟨f, s⟩, ⟨f, zqr s⟩, rfl, rfl, by simp; omega, by simp; try omega, ⟨h1, h2⟩, fun hh => by have := (zqu4 _ _ _).1 (decide_eq_true hh); omega, by simp; omega, .inl ⟨rfl, rfl, rfl⟩, h⟩
   | succ i =>
    rw [List.getElem?_cons_succ] at hv;exact i1 (by omega) h1 hj i v hv
  ·rw [zqc6 h hj] at hv
   rw [zqez h hj]
   cases i with
   | zero =>
    obtain ⟨l, e⟩ := zqg1 j (f + zqr s) (s - zqr s);rw [e]
    simp only [List.getElem?_cons_zero, Option.some.injEq] at hv
    subst hv;exact ⟨⟨f, s⟩, ⟨f + zqr s, s - zqr s⟩, rfl, rfl, by simp; omega, by simp; try omega, ⟨h1, h2⟩, fun hh => by have := (zqu4 _ _ _).1 (decide_eq_true hh); omega, by simp; omega, .inr ⟨rfl, rfl, rfl⟩, h⟩
   | succ i =>
    rw [List.getElem?_cons_succ] at hv;exact i2 (by omega) (by omega) (by omega) i v hv
def zqlb (l : List Nd) (k : Nat) : Nat := (l.filter fun v => decide (v.has k)).length
theorem zquj (j k f s : Nat) : 1 <= s -> f <= j -> j < f + s -> f <= k -> k < f + s -> zqlb (zqb5 f s j) k + (if k = j then 1 else 0) = 1 := by
 refine zqd2 (P := fun f s => 1 <= s -> f <= j -> j < f + s -> f <= k -> k < f + s -> zqlb (zqb5 f s j) k + (if k = j then 1 else 0) = 1) (fun f s h h0 h1 h2 h3 h4 => ?_) (fun f s h i1 i2 h0 h1 h2 h3 h4 => ?_) f s
 ·rw [zqdl h, if_pos (by omega)]; rfl
 ·have hb := zqcd h
  have none : ∀ f s : Nat, ¬ (f <= k /\ k < f + s) -> f <= j -> j < f + s -> zqlb (zqb5 f s j) k = 0 := fun f s hk hj1 hj2 => by
   unfold zqlb;rw [List.length_eq_zero_iff, List.filter_eq_nil_iff];intro v hv;have hin : ∀ f s : Nat, ∀ v ∈ zqb5 f s j, f <= v.f /\ v.f + v.s <= f + s := fun f s => by
    refine zqd2 (P := fun f s => ∀ v ∈ zqb5 f s j, f <= v.f /\ v.f + v.s <= f + s) (fun f s h v hv => ?_) (fun f s h i1 i2 v hv => ?_) f s
    ·rw [zqdl h] at hv; cases hv
    ·have hb := zqcd h
     by_cases hj : j < f + zqr s
     ·rw [zqdx h hj, List.mem_cons] at hv
      rcases hv with rfl | hv
      ·simp; omega
      ·have := i1 v hv; omega
     ·rw [zqc6 h hj, List.mem_cons] at hv
      rcases hv with rfl | hv
      ·simp; omega
      ·have := i2 v hv; omega
   have := hin f s v hv;intro hh;have := (zqoq _ _).1 hh
   omega
  by_cases hj : j < f + zqr s
  ·rw [zqdx h hj]
   by_cases hk : k < f + zqr s
   ·have := i1 (by omega) h1 hj h3 hk
    unfold zqlb at this ⊢;rw [zqvd (by omega)];exact this
   ·have := none f (zqr s) (by omega) h1 hj
    unfold zqlb at this ⊢;rw [zqkv (by omega), List.length_cons, this, if_neg (by omega)]
  ·rw [zqc6 h hj]
   by_cases hk : k < f + zqr s
   ·have := none (f + zqr s) (s - zqr s) (by omega) (by omega) (by omega)
    unfold zqlb at this ⊢;rw [zqkv (by omega), List.length_cons, this, if_neg (by omega)]
   ·have := i2 (by omega) (by omega) (by omega) (by omega) (by omega)
    unfold zqlb at this ⊢;rw [zqvd (by omega)];exact this
section
variable {K : Type} (up : K -> K -> K) (pub : K -> K)
def secN (L : Nat -> K) (f s : Nat) : K := if h : s < 2 then L f else
 have := zqcd (n := s) (by omega)
 up (secN L f (zqr s)) (pub (secN L (f + zqr s) (s - zqr s)))
termination_by s
theorem zrdf {L : Nat -> K} {f s : Nat} (h : s < 2) : secN up pub L f s = L f := by rw [secN, dif_pos h]
theorem zq7a {L : Nat -> K} {f s : Nat} (h : 2 <= s) : secN up pub L f s = up (secN up pub L f (zqr s)) (pub (secN up pub L (f + zqr s) (s - zqr s))) := by rw [secN, dif_neg (by omega)]
variable (hc : ∀ a b, up a (pub b) = up b (pub a))
include hc
end
theorem zqml {n j : Nat} (h1 : 2 ^ j < n) (h2 : n <= 2 * 2 ^ j) : zqr n = 2 ^ j := by
 have hp := Nat.two_pow_pos j;unfold zqr;rw [if_neg (by omega)]
 congr 1
 rw [Nat.log2_eq_iff (by omega)];rw [Nat.pow_succ]
 omega
theorem zqql {n : Nat} (h : n < 2) : zqr n = 0 := by unfold zqr; rw [if_pos h]
def zqdy (n j : Nat) : List Nd := (zqdo 0 n j).reverse
def zqac (n j : Nat) : List Nd := (zqb5 0 n j).reverse
theorem zqc8 (n j : Nat) : (zqdy n j).length = (zqac n j).length + 1 := by
 unfold zqdy zqac;rw [List.length_reverse, List.length_reverse, zqe9]
theorem zqhq (n j : Nat) (h0 : 1 <= n) (h : j < n) : (zqab 0 n).reverse.filter (fun v => decide (v.has j)) = zqdy n j := by
 rw [List.filter_reverse, zqwp j 0 n h0 (Nat.zero_le _) (by omega)]; rfl
theorem zqed (n j : Nat) (h : n <= 1024) : (zqac n j).length <= 10 := by
 unfold zqac;rw [List.length_reverse];exact zqe7 j 10 0 n h
theorem zqqz (n j : Nat) (h0 : 1 <= n) (h : j < n) (i : Nat) (hi : i < (zqac n j).length) :
  ∃ up b v, (zqdy n j)[i + 1]? = some up /\ (zqdy n j)[i]? = some b /\ (zqac n j)[i]? = some v /\ 2 <= up.s /\ b.s + v.s = up.s /\ up.has j /\ ¬ v.has j /\ up.f = min b.f v.f /\ 1 <= v.s /\
   ((b = ⟨up.f, zqr up.s⟩ /\ v = ⟨up.f + zqr up.s, up.s - zqr up.s⟩) \/ (b = ⟨up.f + zqr up.s, up.s - zqr up.s⟩ /\ v = ⟨up.f, zqr up.s⟩)) := by
 have hl := zqc8 n j;unfold zqac at hi;rw [List.length_reverse] at hi;have hl2 : (zqdo 0 n j).length = (zqb5 0 n j).length + 1 := zqe9 j 0 n;obtain ⟨v, hv⟩ : ∃ v, (zqb5 0 n j)[(zqb5 0 n j).length - 1 - i]? = some v := ⟨_, List.getElem?_eq_getElem (by omega)⟩
 obtain ⟨a, b, e1, e2, e3, e4, e5, e6, e7, hk, ha⟩ := zqxj j 0 n h0 (Nat.zero_le _) (by omega) _ v hv;refine ⟨a, b, v, ?_, ?_, ?_, ha, e3.symm, e5, e6, e4, e7, ?_⟩
 ·unfold zqdy
  rw [List.getElem?_reverse (by omega), <- e1]
  congr 1; omega
 ·unfold zqdy
  rw [List.getElem?_reverse (by omega), <- e2]
  congr 1; omega
 ·unfold zqac
  rw [List.getElem?_reverse (by omega), <- hv]
 ·cases a; cases b; cases v
  simp only [Nd.mk.injEq] at *
  rcases hk with ⟨k1, k2, k3⟩ | ⟨k1, k2, k3⟩
  ·left; omega
  ·right; omega
theorem zqxl (n j : Nat) (h0 : 1 <= n) (h : j < n) : (zqdy n j)[0]? = some ⟨j, 1⟩ := by
 unfold zqdy;have := zq1c j 0 n h0 (Nat.zero_le _) (by omega);rw [List.getLast?_eq_getElem?] at this;have hl := zqe9 j 0 n;rw [List.getElem?_reverse (by omega), <- this]
 rfl
theorem zqqm (n j : Nat) : (zqdy n j)[(zqac n j).length]? = some ⟨0, n⟩ := by
 obtain ⟨l, e⟩ := zqg1 j 0 n;have hl := zqe9 j 0 n;unfold zqdy zqac;rw [List.length_reverse, List.getElem?_reverse (by omega), e];have : (zqdo 0 n j).length - 1 - (zqb5 0 n j).length = 0 := by omega
 rw [e] at this;rw [this]; rfl
theorem zqp0 (n j k : Nat) (h0 : 1 <= n) (h : j < n) (hk : k < n) : zqlb (zqac n j) k + (if k = j then 1 else 0) = 1 := by
 have := zquj j k 0 n h0 (Nat.zero_le _) (by omega) (Nat.zero_le _) (by omega);unfold zqlb zqac at *;rw [List.filter_reverse, List.length_reverse];exact this
end Go.Proofs.YtnjghcnhcbobhaaGreatDoor
namespace Go.Proofs.YtnjghcnhcbobhaaGreatDoor
open Go.RowKit Go.Lib
def ndsL (l : List Nd) : List Value := l.flatMap fun v => [.int .i64 v.f, .int .i64 v.s]
theorem zqd7 (l m : List Nd) : ndsL (l ++ m) = ndsL l ++ ndsL m := by simp [ndsL]
theorem zqk3 (v : Nd) : ndsL [v] = [.int .i64 v.f, .int .i64 v.s] := by simp [ndsL]
theorem zqif (v : Nd) (l : List Nd) : ndsL (v :: l) = .int .i64 v.f :: .int .i64 v.s :: ndsL l := by simp [ndsL]
theorem zqky : ∀ l : List Nd, (ndsL l).length = l.length * 2
 | [] => rfl
 | v :: l => by rw [zqif, List.length_cons, List.length_cons, List.length_cons, zqky l]; omega
theorem zqk7 : ∀ (l : List Nd) (i : Nat) (v : Nd), l[i]? = some v -> (ndsL l)[2 * i]? = some (.int .i64 v.f) /\ (ndsL l)[2 * i + 1]? = some (.int .i64 v.s)
 | [], i, v, h => by simp at h
 | u :: l, 0, v, h => by
  simp at h; subst h
  rw [zqif]; exact ⟨rfl, rfl⟩
 | u :: l, i + 1, v, h => by
  rw [zqif, show 2 * (i + 1) = 2 * i + 1 + 1 by omega];exact zqk7 l i v (by simpa using h)
theorem zqrm (l : List Nd) : ∀ u ∈ ndsL l, u.oneCell' = true := fun u hu => by
 unfold ndsL at hu;obtain ⟨v, _, hv⟩ := List.mem_flatMap.1 hu
 simp at hv
 rcases hv with rfl | rfl <;> rfl
def NdsAt (w : World) (oa : Option Addr) (l : List Nd) : Prop :=
 l = [] \/ ∃ g o, oa = some ⟨g, o, none⟩ /\ g < w.heap.size /\ ∀ i v, l[i]? = some v -> cellOf (zqd w g) (o + 2 * i) = some (.int .i64 v.f) /\ cellOf (zqd w g) (o + 2 * i + 1) = some (.int .i64 v.s)
theorem NdsAt.later {w w' : World} {oa : Option Addr} {l : List Nd} (h : NdsAt w oa l) (hb : Below w.heap.size w w') : NdsAt w' oa l := by
 rcases h with h | ⟨g, o, e, hg, hl⟩
 ·exact .inl h
 ·refine .inr ⟨g, o, e, Nat.lt_of_lt_of_le hg hb.size, fun i v hv => ?_⟩
  rw [show zqd w' g = zqd w g from hb.block g hg];exact hl i v hv
theorem zqjs {w : World} {base n : Nat} {v : Value} {l : List Nd} {t : TypeId} (h : w.ownsRow base t 2 v n (ndsL l)) : ∃ oa c, v = .slice oa n c /\ NdsAt w oa l /\ l.length = n := by
 have hn : l.length = n := by have := h.1; rw [zqky] at this; omega
 rcases h.2 with ⟨rfl, h0⟩ | ⟨g, cap, cur, rfl, hb, hg, hnc, hcm, hcs, htake⟩
 ·subst h0
  exact ⟨none, 0, rfl, .inl (by cases l <;> simp_all), hn⟩
 ·refine ⟨some ⟨g, 0, none⟩, cap, rfl, .inr ⟨g, 0, rfl, zqa (show zqd w g = _ from hg), fun i v hv => ?_⟩, hn⟩
  have hi : i < l.length := (List.getElem?_eq_some_iff.1 hv).1;obtain ⟨h1, h2⟩ := zqk7 l i v hv;rw [show zqd w g = some (.cells cur t (0, 0)) from hg, zqb2, zqb2, Nat.zero_add];rw [<- htake, List.getElem?_take, if_pos (by omega)] at h1 h2;exact ⟨by simpa using h1, by simpa using h2⟩
end Go.Proofs.YtnjghcnhcbobhaaGreatDoor
namespace Go.Proofs.YtnjghcnhcbobhaaGreatDoor
open Go.RowKit
def zqbe (x z : Nat -> Int) : Nat -> Int := fun i => if i < 32 then x i else z (i - 32)
theorem zqri (f : Nat -> Int) : zqbe f (fun i => f (i + 32)) = f := by
 funext i
 unfold zqbe
 split
 ·rfl
 ·show f (i - 32 + 32) = f i
  rw [show i - 32 + 32 = i by omega]
@[go_sem ↓ high] theorem zre3 (ρ : Operand -> Value) (d : Option Tmp) (x : Operand) (t : TypeId) (pos : String) (af : Array Edge) (g : Option (Nat × Bool)) :
  execOp ρ ⟨d, .load 276 x, t, pos, af, g⟩ = zqq 276 (ρ x) := zqax _ ρ d x t pos af g
@[go_sem high] theorem zrdh (ρ : Operand -> Value) (d : Option Tmp) (x : Operand) (t : TypeId) (pos : String) (af : Array Edge) (g : Option (Nat × Bool)) :
  execOp ρ ⟨d, .load 276 x, t, pos, af, g⟩ = zqq 276 (ρ x) := zqax _ ρ d x t pos af g
@[go_sem] theorem zqot (g : Nat) (w : World) : (zqq 276 (.pointer (some ⟨g, 0, none⟩))).run Tryz.prog w = (zqau Tryz.prog 276 g 64 w (zqd w g)).andThen fun v w' => .ok (.value v) w' := by
 rw [zq7, zqa6 Tryz.underlying276 rfl zqc g w]
@[go_sem] theorem zq7o (g : Nat) (w : World) (cs : Array Value) (t' : TypeId) (fr : Nat × Nat) (h : cs.size = 64) : zqau Tryz.prog 276 g 64 w (some (.cells cs t' fr)) = .ok (.agg cs) w := zqal cs t' fr h
@[go_sem ↓ high] theorem zrca (ρ : Operand -> Value) (d : Option Tmp) (x y : Operand) (t : TypeId) (pos : String) (af : Array Edge) (g : Option (Nat × Bool)) :
  execOp ρ ⟨d, .store 276 x y, t, pos, af, g⟩ = zqu 276 (ρ x) (ρ y) := zqat _ ρ d x y t pos af g
@[go_sem high] theorem zq8a (ρ : Operand -> Value) (d : Option Tmp) (x y : Operand) (t : TypeId) (pos : String) (af : Array Edge) (g : Option (Nat × Bool)) :
  execOp ρ ⟨d, .store 276 x y, t, pos, af, g⟩ = zqu 276 (ρ x) (ρ y) := zqat _ ρ d x y t pos af g
@[go_sem] theorem zq3w (g : Nat) (cs : Array Value) (w : World) : (zqu 276 (.pointer (some ⟨g, 0, none⟩)) (.agg cs)).run Tryz.prog w = (zqam Tryz.prog 276 g 64 (.agg cs) w (zqd w g)).andThen fun _ w' => .ok .skip w' := by
 rw [zqae, zqbb zqc g cs w]
@[go_sem] theorem zq3p (g : Nat) (w : World) (old cs : Array Value) (t' : TypeId) (h1 : old.size = 64) (h2 : cs.size = 64) (h3 : zqak cs = true) :
  zqam Tryz.prog 276 g 64 (.agg cs) w (some (.cells old t' (0, 0))) = .ok () (w.setRow g cs) := zqar old cs t' h1 h2 h3
@[go_sem high] theorem zrbq (w : World) : (zeroValue 276).run Tryz.prog w = .ok (.agg (ints .u8 64 (zqbe zqg zqg))) w := by kernel_rfl
@[go_sem ↓ high] theorem zqa5 (w : World) : (zeroValue 276).run Tryz.prog w = .ok (.agg (ints .u8 64 (zqbe zqg zqg))) w := by kernel_rfl
theorem zqwa (x z : Nat -> Int) : (ints .u8 64 (zqbe x z)).extract 0 32 = ints .u8 32 x := by kernel_rfl
theorem zqxw (x z : Nat -> Int) : (ints .u8 64 (zqbe x z)).extract 32 (32 + 32) = ints .u8 32 z := by kernel_rfl
theorem zrii (x z a : Nat -> Int) : zqb6 (ints .u8 64 (zqbe x z)) 0 (ints .u8 32 a).toList = ints .u8 64 (zqbe a z) := by kernel_rfl
theorem zrh9 (x z a : Nat -> Int) : zqb6 (ints .u8 64 (zqbe x z)) 32 (ints .u8 32 a).toList = ints .u8 64 (zqbe x a) := by kernel_rfl
@[go_sem] theorem zrdb (g : Nat) (w : World) (x z : Nat -> Int) (t' : TypeId) (fr : Nat × Nat) : zqau Tryz.prog 44 g 32 w (some (.cells (ints .u8 64 (zqbe x z)) t' fr)) = .ok (.agg (ints .u8 32 x)) w := by
 unfold zqau
 simp only [zqj]
 rw [if_neg (by decide), if_pos (by decide), zqwa]
@[go_sem] theorem zq78 (g : Nat) (w : World) (x z a : Nat -> Int) (t' : TypeId) : zqam Tryz.prog 44 g 32 (.agg (ints .u8 32 a)) w (some (.cells (ints .u8 64 (zqbe x z)) t' (0, 0))) = .ok () (w.setRow g (ints .u8 64 (zqbe a z))) := by
 unfold zqam
 simp only [zqj]
 rw [if_neg (fun h => absurd h.1 (by decide)), if_pos ⟨by decide, by trivial, zqdf _ _ _⟩, zrii]
@[go_sem] theorem zq7z (g : Nat) (w : World) : (zqq 44 (.pointer (some ⟨g, 32, none⟩))).run Tryz.prog w = (zqbf Tryz.prog 44 g 32 32 w (zqd w g)).andThen fun v w' => .ok (.value v) w' := by
 rw [zq7, zqdd Tryz.underlying44 rfl zqc g 32 w]
@[go_sem] theorem zra6 (g : Nat) (w : World) (x z : Nat -> Int) (t' : TypeId) (fr : Nat × Nat) : zqbf Tryz.prog 44 g 32 32 w (some (.cells (ints .u8 64 (zqbe x z)) t' fr)) = .ok (.agg (ints .u8 32 z)) w := by
 unfold zqbf
 simp only [zqj]
 rw [if_pos (by decide), zqxw]
@[go_sem] theorem zq5f (g : Nat) (cs : Array Value) (w : World) : (zqu 44 (.pointer (some ⟨g, 32, none⟩)) (.agg cs)).run Tryz.prog w = (zqby Tryz.prog 44 g 32 32 (.agg cs) w (zqd w g)).andThen fun _ w' => .ok .skip w' := by
 rw [zqae, zqdt zqc g 32 cs w]
@[go_sem] theorem zq74 (g : Nat) (w : World) (x z a : Nat -> Int) (t' : TypeId) : zqby Tryz.prog 44 g 32 32 (.agg (ints .u8 32 a)) w (some (.cells (ints .u8 64 (zqbe x z)) t' (0, 0))) = .ok () (w.setRow g (ints .u8 64 (zqbe x a))) := by
 unfold zqby
 simp only [zqj]
 rw [if_pos ⟨by decide, by trivial, zqdf _ _ _⟩, zrh9]
@[go_sem] theorem zq8u (x z : Nat -> Int) (w : World) : (Instr.field 276 (.agg (ints .u8 64 (zqbe x z))) 0).run Tryz.prog w = .ok (.agg (ints .u8 32 x)) w := by kernel_rfl
@[go_sem] theorem zq9k (x z : Nat -> Int) (w : World) : (Instr.field 276 (.agg (ints .u8 64 (zqbe x z))) 1).run Tryz.prog w = .ok (.agg (ints .u8 32 z)) w := by kernel_rfl
def zqf2 (x z : Value) : Sem Next := do pure (.value (<- Instr.build 276 #[(0, x), (1, z)]))
def zqhb (x : Value) : Sem Next := do pure (.value (<- Instr.build 276 #[(0, x)]))
@[go_sem ↓ high] theorem zrl0 (ρ : Operand -> Value) (d : Option Tmp) (x y : Operand) (t : TypeId) (pos : String) (af : Array Edge) (g : Option (Nat × Bool)) :
  execOp ρ ⟨d, .build 276 #[(0, x), (1, y)], t, pos, af, g⟩ = zqf2 (ρ x) (ρ y) := by simp [execOp, zqf2]
@[go_sem high] theorem zrjl (ρ : Operand -> Value) (d : Option Tmp) (x y : Operand) (t : TypeId) (pos : String) (af : Array Edge) (g : Option (Nat × Bool)) :
  execOp ρ ⟨d, .build 276 #[(0, x), (1, y)], t, pos, af, g⟩ = zqf2 (ρ x) (ρ y) := by simp [execOp, zqf2]
@[go_sem ↓ high] theorem zrio (ρ : Operand -> Value) (d : Option Tmp) (x : Operand) (t : TypeId) (pos : String) (af : Array Edge) (g : Option (Nat × Bool)) :
  execOp ρ ⟨d, .build 276 #[(0, x)], t, pos, af, g⟩ = zqhb (ρ x) := by simp [execOp, zqhb]
@[go_sem high] theorem zrfk (ρ : Operand -> Value) (d : Option Tmp) (x : Operand) (t : TypeId) (pos : String) (af : Array Edge) (g : Option (Nat × Bool)) :
  execOp ρ ⟨d, .build 276 #[(0, x)], t, pos, af, g⟩ = zqhb (ρ x) := by simp [execOp, zqhb]
@[go_sem] theorem zrg0 (x z : Nat -> Int) (w : World) : (zqf2 (.agg (ints .u8 32 x)) (.agg (ints .u8 32 z))).run Tryz.prog w = .ok (.value (.agg (ints .u8 64 (zqbe x z)))) w := by kernel_rfl
@[go_sem] theorem zrff (x : Nat -> Int) (w : World) : (zqhb (.agg (ints .u8 32 x))).run Tryz.prog w = .ok (.value (.agg (ints .u8 64 (zqbe x zqg)))) w := by kernel_rfl
attribute [irreducible] zqf2 zqhb
end Go.Proofs.YtnjghcnhcbobhaaGreatDoor
