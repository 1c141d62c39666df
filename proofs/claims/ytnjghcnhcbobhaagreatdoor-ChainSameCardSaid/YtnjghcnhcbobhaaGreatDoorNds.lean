/- Nds -/
import Derived.Test.YtnjghcnhcbobhaaGreatDoorOw
import Derived.Test.YtnjghcnhcbobhaaGreatDoorBase
import Derived.Test.YtnjghcnhcbobhaaGreatDoorMem
set_option linter.unusedVariables false
set_option linter.unusedSimpArgs false
namespace Go.Proofs.YtnjghcnhcbobhaaGreatDoor
open Go.RowKit Go.Lib
theorem zqsy {w W w' : World} {base : Nat} {e : TypeId} {size : Nat} {v : Value} {n : Nat} {xs : List Value} (own : W.ownsRow base e size v n xs) (hg : W.grownBy w' v.ownBlock) (hG : Below w.heap.size w W) (hwb : w.heap.size <= base) :
  Below w.heap.size w w' /\ ∀ m o, m < base -> zqd W m = some o -> zqd w' m = some o := by
 refine ⟨hG.grown hg hG.size (fun k hk => ?_), fun m o hm hob => ?_⟩
 ·have := (own.lt k hk).1; omega
 ·have hlt := zqa hob
  refine (hg.block m hlt fun e => ?_).trans hob;have := (own.lt m e.symm).1
  omega
section
variable {ops : Array Oper} {o : Oper} {a : Act} {K : Act -> World -> Prop} {Q : Exit -> Act -> World -> Prop} {E : Prop}
theorem zq4q {t e : TypeId} {i : TypeInfo} {z : Value} (size bytes : Nat) (ht : Tryz.prog.underlying t = some (.slice e)) (hi : Tryz.prog.info? e = some i) (hz : i.zero = some z) (hsize : i.size = size) (hby : i.bytes = bytes) (hzs : z.cells.size = size) (hsz : 0 < size) (hb8 : bytes <= 4096)
  (hgd : o.guard = none) (s x : Operand) (ho : o.op = .call { callee := .builtin .append, args := #[s, x], argTypes := #[t, t] })
  (w W : World) (base : Nat) (v : Value) (n : Nat) (xs : List Value) (ad : Addr) (m c : Nat) (news : List Value) (hs : a.eval s = v) (hx : a.eval x = .slice (some ad) m c) (own : W.ownsRow base e size v n xs) (hn : n + m <= 1073741824) (hm : 0 < m)
  (hl : news.length = m * size) (hnews : ∀ j u, news[j]? = some u -> W.cell? (ad.add j) = some u) (h1 : ∀ u ∈ news, u.oneCell' = true) (hG : Below w.heap.size w W) (hwb : w.heap.size <= base) (hbW : base <= W.heap.size)
  (h : ∀ g cap w', w'.ownsRow base e size (.slice (some ⟨g, 0, none⟩) (n + m) cap) (n + m) (xs ++ news) -> Below w.heap.size w w' -> (∀ m ob, m < base -> zqd W m = some ob -> zqd w' m = some ob) -> base <= g -> K (a.put o.dst (.slice (some ⟨g, 0, none⟩) (n + m) cap)) w') :
  if Region.wanted o (yielded ops a.tmps) = true then Oper.wp Tryz.prog o a W K Q else E := by
 have hbn : (n + m) * bytes <= 140737488355328 := Nat.le_trans (Nat.mul_le_mul hn hb8) (by decide);refine step_append_lies (P := Tryz.prog) (w := W) hgd s x t ho base e i z size bytes ht hi hz hsize hby hzs hsz v n xs hs own ad m c news hx hl hnews h1 hm (by unfold maxLen; omega) hbn hbW W.heap.size rfl (fun g cap w' ho' hg _ _ => ?_);obtain ⟨h1, h2⟩ := zqsy own hg hG hwb;exact h g cap w' ho' h1 h2 (ho'.lt g rfl).1
theorem step_cells {t e : TypeId} {i : TypeInfo} {z : Value} (size bytes : Nat) (ht : Tryz.prog.underlying t = some (.slice e)) (hi : Tryz.prog.info? e = some i) (hz : i.zero = some z) (hsize : i.size = size) (hby : i.bytes = bytes) (hzs : z.cells.size = size) (hsz : 0 < size) (hb8 : bytes <= 4096)
  (hgd : o.guard = none) (s x : Operand) (ho : o.op = .call { callee := .builtin .append, args := #[s, x], argTypes := #[t, t] })
  (w W : World) (base : Nat) (v : Value) (n : Nat) (xs : List Value) (cs : Array Value) (g2 : Nat) (t2 : TypeId) (fr : Nat × Nat) (hs : a.eval s = v) (hx : a.eval x = .slice (some ⟨g2, 0, none⟩) 1 1) (own : W.ownsRow base e size v n xs) (hn : n <= 1048576)
  (hg2 : zqd W g2 = some (.cells cs t2 fr)) (hcs : cs.size = size) (h1 : ∀ u ∈ cs.toList, u.oneCell' = true) (hG : Below w.heap.size w W) (hwb : w.heap.size <= base) (hbW : base <= W.heap.size)
  (h : ∀ g cap w', w'.ownsRow base e size (.slice (some ⟨g, 0, none⟩) (n + 1) cap) (n + 1) (xs ++ cs.toList) -> Below w.heap.size w w' -> (∀ m ob, m < base -> zqd W m = some ob -> zqd w' m = some ob) -> base <= g -> K (a.put o.dst (.slice (some ⟨g, 0, none⟩) (n + 1) cap)) w') :
  if Region.wanted o (yielded ops a.tmps) = true then Oper.wp Tryz.prog o a W K Q else E :=
 zq4q size bytes ht hi hz hsize hby hzs hsz hb8 hgd s x ho w W base v n xs ⟨g2, 0, none⟩ 1 1 cs.toList hs hx own (by omega) (by decide) (by rw [Array.length_toList, hcs, Nat.one_mul])
  (fun j u hu => by
   unfold zqd at hg2;have ha : ((⟨g2, 0, none⟩ : Addr).add j) = ⟨g2, j, none⟩ := by unfold Addr.add; split <;> simp_all
   rw [ha, cell_of_row W g2 j _ _ _ hg2]
   simpa using hu) h1 hG hwb hbW h
end
theorem zq50 {w : World} {base g n c size : Nat} {xs : List Value} {t : TypeId} (h : w.ownsRow base t size (.slice (some ⟨g, 0, none⟩) n c) n xs) (i : Nat) (u : Value) (hu : xs[i]? = some u) : g < w.heap.size /\ ∀ w', Below w.heap.size w w' -> w'.cell? ⟨g, i, none⟩ = some u := by
 rcases h.2 with ⟨h0, _⟩ | ⟨g', cap, cur, h0, hb, hg, hnc, hcm, hcs, htake⟩
 ·cases h0
 ·cases h0
  have hlt : g < w.heap.size := zqa (show zqd w g = _ from hg);refine ⟨hlt, fun w' hb' => ?_⟩;have h' := zqc hb' (show zqd w g = _ from hg);rw [cell_of_row w' g i _ _ _ h'];have h2 : i < n * size := by
   rcases Nat.lt_or_ge i (n * size) with h2 | h2
   ·exact h2
   ·rw [<- htake, List.getElem?_take, if_neg (by omega)] at hu; cases hu
  rw [<- htake, List.getElem?_take, if_pos h2] at hu
  simpa using hu
end Go.Proofs.YtnjghcnhcbobhaaGreatDoor
namespace Go.Proofs.YtnjghcnhcbobhaaGreatDoor
def zq3 (n : Nat) : Nat := if n < 2 then 0 else 2 ^ Nat.log2 (n - 1)
theorem zqch {n : Nat} (h : 2 <= n) : 0 < zq3 n /\ zq3 n < n /\ n <= 2 * zq3 n := by
 unfold zq3;rw [if_neg (by omega)];have h1 : 2 ^ Nat.log2 (n - 1) <= n - 1 := Nat.log2_self_le (by omega);have h2 : n - 1 < 2 ^ (Nat.log2 (n - 1) + 1) := Nat.lt_log2_self;rw [Nat.pow_succ] at h2;exact ⟨Nat.two_pow_pos _, by omega, by omega⟩
theorem zq01 {n d : Nat} (h : 2 <= n) (hd : n <= 2 ^ (d + 1)) : zq3 n <= 2 ^ d /\ n - zq3 n <= 2 ^ d := by
 have hb := zqch h;have e : zq3 n = 2 ^ Nat.log2 (n - 1) := by unfold zq3; rw [if_neg (by omega)]
 have h1 : Nat.log2 (n - 1) <= d := by
  have h3 : 2 ^ Nat.log2 (n - 1) < 2 ^ (d + 1) := by omega
  have := (Nat.pow_lt_pow_iff_right (a := 2) (by decide)).1 h3
  omega
 have h4 : zq3 n <= 2 ^ d := by rw [e]; exact Nat.pow_le_pow_right (by decide) h1
 omega
structure Nd where
 f : Nat
 s : Nat
def Nd.has (v : Nd) (j : Nat) : Prop := v.f <= j /\ j < v.f + v.s
instance (v : Nd) (j : Nat) : Decidable (v.has j) := by unfold Nd.has; infer_instance
theorem zqpt (v : Nd) (j : Nat) : decide (v.has j) = true ↔ v.f <= j /\ j < v.f + v.s := by rw [decide_eq_true_eq]; exact Iff.rfl
theorem zqve (f s j : Nat) : decide ((⟨f, s⟩ : Nd).has j) = true ↔ f <= j /\ j < f + s := zqpt _ _
theorem zqll {f s j : Nat} {l : List Nd} (h : f <= j /\ j < f + s) : (⟨f, s⟩ :: l : List Nd).filter (fun v => decide (v.has j)) = ⟨f, s⟩ :: l.filter (fun v => decide (v.has j)) := List.filter_cons_of_pos (p := fun v : Nd => decide (v.has j)) ((zqve _ _ _).2 h)
theorem zqwx {f s j : Nat} {l : List Nd} (h : ¬ (f <= j /\ j < f + s)) : (⟨f, s⟩ :: l : List Nd).filter (fun v => decide (v.has j)) = l.filter (fun v => decide (v.has j)) := List.filter_cons_of_neg (p := fun v : Nd => decide (v.has j)) (fun hh => h ((zqve _ _ _).1 hh))
def zqaj (f s : Nat) : List Nd := if h : s < 2 then [⟨f, s⟩] else
 have := zqch (n := s) (by omega)
 ⟨f, s⟩ :: (zqaj f (zq3 s) ++ zqaj (f + zq3 s) (s - zq3 s))
termination_by s
def zqdt (f s j : Nat) : List Nd := if h : s < 2 then [⟨f, s⟩] else
 have := zqch (n := s) (by omega)
 ⟨f, s⟩ :: (if j < f + zq3 s then zqdt f (zq3 s) j else zqdt (f + zq3 s) (s - zq3 s) j)
termination_by s
def zqb3 (f s j : Nat) : List Nd := if h : s < 2 then [] else
 have := zqch (n := s) (by omega)
 if j < f + zq3 s then ⟨f + zq3 s, s - zq3 s⟩ :: zqb3 f (zq3 s) j else ⟨f, zq3 s⟩ :: zqb3 (f + zq3 s) (s - zq3 s) j
termination_by s
theorem zqbx {f s : Nat} (h : s < 2) : zqaj f s = [⟨f, s⟩] := by rw [zqaj, dif_pos h]
theorem zqbq {f s : Nat} (h : 2 <= s) : zqaj f s = ⟨f, s⟩ :: (zqaj f (zq3 s) ++ zqaj (f + zq3 s) (s - zq3 s)) := by rw [zqaj, dif_neg (by omega)]
theorem zqjg {f s j : Nat} (h : s < 2) : zqdt f s j = [⟨f, s⟩] := by rw [zqdt, dif_pos h]
theorem zqf3 {f s j : Nat} (h : 2 <= s) (hj : j < f + zq3 s) : zqdt f s j = ⟨f, s⟩ :: zqdt f (zq3 s) j := by rw [zqdt, dif_neg (by omega)]; simp only [hj, if_true]
theorem zqe3 {f s j : Nat} (h : 2 <= s) (hj : ¬ j < f + zq3 s) : zqdt f s j = ⟨f, s⟩ :: zqdt (f + zq3 s) (s - zq3 s) j := by rw [zqdt, dif_neg (by omega)]; simp only [hj, if_false]
theorem zqdw {f s j : Nat} (h : s < 2) : zqb3 f s j = [] := by rw [zqb3, dif_pos h]
theorem zqd5 {f s j : Nat} (h : 2 <= s) (hj : j < f + zq3 s) : zqb3 f s j = ⟨f + zq3 s, s - zq3 s⟩ :: zqb3 f (zq3 s) j := by rw [zqb3, dif_neg (by omega)]; simp only [hj, if_true]
theorem zqdb {f s j : Nat} (h : 2 <= s) (hj : ¬ j < f + zq3 s) : zqb3 f s j = ⟨f, zq3 s⟩ :: zqb3 (f + zq3 s) (s - zq3 s) j := by rw [zqb3, dif_neg (by omega)]; simp only [hj, if_false]
theorem zqd7 {P : Nat -> Nat -> Prop} (h1 : ∀ f s, s < 2 -> P f s) (h2 : ∀ f s, 2 <= s -> P f (zq3 s) -> P (f + zq3 s) (s - zq3 s) -> P f s) (f s : Nat) : P f s := by
 induction s using Nat.strongRecOn generalizing f with
 | _ s ih =>
  by_cases h : s < 2
  ·exact h1 f s h
  ·have hb := zqch (n := s) (by omega)
   exact h2 f s (by omega) (ih _ (by omega) f) (ih _ (by omega) _)
theorem zqcj (f s : Nat) : 1 <= s -> (zqaj f s).length = 2 * s - 1 := by
 refine zqd7 (P := fun f s => 1 <= s -> (zqaj f s).length = 2 * s - 1) (fun f s h h0 => ?_) (fun f s h i1 i2 h0 => ?_) f s
 ·rw [zqbx h]; simp; omega
 ·have hb := zqch h
  rw [zqbq h, List.length_cons, List.length_append, i1 (by omega), i2 (by omega)]
  omega
theorem zqd9 (f s : Nat) : ∀ v ∈ zqaj f s, f <= v.f /\ v.f + v.s <= f + s /\ v.s <= s /\ (1 <= s -> 1 <= v.s) := by
 refine zqd7 (P := fun f s => ∀ v ∈ zqaj f s, f <= v.f /\ v.f + v.s <= f + s /\ v.s <= s /\ (1 <= s -> 1 <= v.s)) (fun f s h v hv => ?_) (fun f s h i1 i2 v hv => ?_) f s
 ·rw [zqbx h, List.mem_singleton] at hv
  subst hv; simp
 ·have hb := zqch h
  rw [zqbq h, List.mem_cons, List.mem_append] at hv
  rcases hv with rfl | hv | hv
  ·simp
  ·have := i1 v hv; omega
  ·have := i2 v hv; omega
theorem zql2 (f s : Nat) : 1 <= s -> (zqaj f s).Nodup := by
 refine zqd7 (P := fun f s => 1 <= s -> (zqaj f s).Nodup) (fun f s h h0 => ?_) (fun f s h i1 i2 h0 => ?_) f s
 ·rw [zqbx h]; simp
 ·have hb := zqch h
  rw [zqbq h, List.nodup_cons, List.nodup_append];refine ⟨fun hm => ?_, i1 (by omega), i2 (by omega), fun a ha b hb' e => ?_⟩
  ·rcases List.mem_append.1 hm with hm | hm
   ·have := zqd9 _ _ _ hm; simp at this; omega
   ·have := zqd9 _ _ _ hm; simp at this; omega
  ·subst e
   have h1 := zqd9 _ _ _ ha;have h2 := zqd9 _ _ _ hb';have h3 := h1.2.2.2 (by omega)
   omega
theorem zqob (f s j : Nat) (h : ¬ (f <= j /\ j < f + s)) : (zqaj f s).filter (fun v => decide (v.has j)) = [] := by
 rw [List.filter_eq_nil_iff];intro v hv;have := zqd9 f s v hv;intro hh;have := (zqpt _ _).1 hh
 omega
theorem zqx1 (j : Nat) (f s : Nat) : 1 <= s -> f <= j -> j < f + s -> (zqaj f s).filter (fun v => decide (v.has j)) = zqdt f s j := by
 refine zqd7 (P := fun f s => 1 <= s -> f <= j -> j < f + s -> (zqaj f s).filter (fun v => decide (v.has j)) = zqdt f s j) (fun f s h h0 h1 h2 => ?_) (fun f s h i1 i2 h0 h1 h2 => ?_) f s
 ·rw [zqbx h, zqjg h, zqll ⟨h1, h2⟩, List.filter_nil]
 ·have hb := zqch h
  rw [zqbq h, zqll (by omega), List.filter_append]
  by_cases hj : j < f + zq3 s
  ·rw [zqf3 h hj, i1 (by omega) h1 hj, zqob _ _ _ (by omega), List.append_nil]
  ·rw [zqe3 h hj, i2 (by omega) (by omega) (by omega), zqob _ _ _ (by omega), List.nil_append]
theorem zqfe (j f s : Nat) : (zqdt f s j).length = (zqb3 f s j).length + 1 := by
 refine zqd7 (P := fun f s => (zqdt f s j).length = (zqb3 f s j).length + 1) (fun f s h => ?_) (fun f s h i1 i2 => ?_) f s
 ·rw [zqjg h, zqdw h]; rfl
 ·by_cases hj : j < f + zq3 s
  ·rw [zqf3 h hj, zqd5 h hj, List.length_cons, List.length_cons, i1]
  ·rw [zqe3 h hj, zqdb h hj, List.length_cons, List.length_cons, i2]
theorem zqfh (j : Nat) : ∀ d f s, s <= 2 ^ d -> (zqb3 f s j).length <= d
 | 0, f, s, h => by rw [zqdw (by omega)]; simp
 | d + 1, f, s, h => by
  by_cases h2 : s < 2
  ·rw [zqdw h2]; simp
  ·have hb := zq01 (n := s) (by omega) h
   by_cases hj : j < f + zq3 s
   ·rw [zqd5 (by omega) hj, List.length_cons]; have := zqfh j d f _ hb.1; omega
   ·rw [zqdb (by omega) hj, List.length_cons]; have := zqfh j d (f + zq3 s) _ hb.2; omega
theorem zqgx (j f s : Nat) : ∃ l, zqdt f s j = ⟨f, s⟩ :: l := by
 by_cases h : s < 2
 ·exact ⟨[], zqjg h⟩
 ·by_cases hj : j < f + zq3 s
  ·exact ⟨_, zqf3 (by omega) hj⟩
  ·exact ⟨_, zqe3 (by omega) hj⟩
theorem zq16 (j f s : Nat) : 1 <= s -> f <= j -> j < f + s -> (zqdt f s j).getLast? = some ⟨j, 1⟩ := by
 refine zqd7 (P := fun f s => 1 <= s -> f <= j -> j < f + s -> (zqdt f s j).getLast? = some ⟨j, 1⟩) (fun f s h h0 h1 h2 => ?_) (fun f s h i1 i2 h0 h1 h2 => ?_) f s
 ·rw [zqjg h]
  obtain rfl : s = 1 := by omega
  obtain rfl : f = j := by omega
  rfl
 ·have hb := zqch h
  by_cases hj : j < f + zq3 s
  ·rw [zqf3 h hj]
   obtain ⟨l, e⟩ := zqgx j f (zq3 s);have := i1 (by omega) h1 hj;rw [e] at this ⊢;exact this
  ·rw [zqe3 h hj]
   obtain ⟨l, e⟩ := zqgx j (f + zq3 s) (s - zq3 s);have := i2 (by omega) (by omega) (by omega);rw [e] at this ⊢;exact this
theorem zqzz (j f s : Nat) : 1 <= s -> f <= j -> j < f + s -> ∀ i v, (zqb3 f s j)[i]? = some v -> ∃ a b, (zqdt f s j)[i]? = some a /\ (zqdt f s j)[i + 1]? = some b /\ a.s = b.s + v.s /\ a.f = min b.f v.f /\ a.has j /\ ¬ v.has j /\ 1 <= v.s /\ ((b.f = a.f /\ b.s = zq3 a.s /\ v.f = a.f + zq3 a.s) \/ (v.f = a.f /\ v.s = zq3 a.s /\ b.f = a.f + zq3 a.s)) /\ 2 <= a.s := by
 refine zqd7 (P := fun f s => 1 <= s -> f <= j -> j < f + s -> ∀ i v, (zqb3 f s j)[i]? = some v -> ∃ a b, (zqdt f s j)[i]? = some a /\ (zqdt f s j)[i + 1]? = some b /\ a.s = b.s + v.s /\ a.f = min b.f v.f /\ a.has j /\ ¬ v.has j /\ 1 <= v.s /\ ((b.f = a.f /\ b.s = zq3 a.s /\ v.f = a.f + zq3 a.s) \/ (v.f = a.f /\ v.s = zq3 a.s /\ b.f = a.f + zq3 a.s)) /\ 2 <= a.s) (fun f s h h0 h1 h2 i v hv => ?_) (fun f s h i1 i2 h0 h1 h2 i v hv => ?_) f s
 ·rw [zqdw h] at hv; cases hv
 ·have hb := zqch h
  by_cases hj : j < f + zq3 s
  ·rw [zqd5 h hj] at hv
   rw [zqf3 h hj]
   cases i with
   | zero =>
    obtain ⟨l, e⟩ := zqgx j f (zq3 s);rw [e]
    simp only [List.getElem?_cons_zero, Option.some.injEq] at hv
    subst hv;exact ⟨⟨f, s⟩, ⟨f, zq3 s⟩, rfl, rfl, by simp; omega, by simp; try omega, ⟨h1, h2⟩, fun hh => by have := (zqve _ _ _).1 (decide_eq_true hh); omega, by simp; omega, .inl ⟨rfl, rfl, rfl⟩, h⟩
   | succ i =>
    rw [List.getElem?_cons_succ] at hv;exact i1 (by omega) h1 hj i v hv
  ·rw [zqdb h hj] at hv
   rw [zqe3 h hj]
   cases i with
   | zero =>
    obtain ⟨l, e⟩ := zqgx j (f + zq3 s) (s - zq3 s);rw [e]
    simp only [List.getElem?_cons_zero, Option.some.injEq] at hv
    subst hv;exact ⟨⟨f, s⟩, ⟨f + zq3 s, s - zq3 s⟩, rfl, rfl, by simp; omega, by simp; try omega, ⟨h1, h2⟩, fun hh => by have := (zqve _ _ _).1 (decide_eq_true hh); omega, by simp; omega, .inr ⟨rfl, rfl, rfl⟩, h⟩
   | succ i =>
    rw [List.getElem?_cons_succ] at hv;exact i2 (by omega) (by omega) (by omega) i v hv
def zqmt (l : List Nd) (k : Nat) : Nat := (l.filter fun v => decide (v.has k)).length
theorem zqva (j k f s : Nat) : 1 <= s -> f <= j -> j < f + s -> f <= k -> k < f + s -> zqmt (zqb3 f s j) k + (if k = j then 1 else 0) = 1 := by
 refine zqd7 (P := fun f s => 1 <= s -> f <= j -> j < f + s -> f <= k -> k < f + s -> zqmt (zqb3 f s j) k + (if k = j then 1 else 0) = 1) (fun f s h h0 h1 h2 h3 h4 => ?_) (fun f s h i1 i2 h0 h1 h2 h3 h4 => ?_) f s
 ·rw [zqdw h, if_pos (by omega)]; rfl
 ·have hb := zqch h
  have none : ∀ f s : Nat, ¬ (f <= k /\ k < f + s) -> f <= j -> j < f + s -> zqmt (zqb3 f s j) k = 0 := fun f s hk hj1 hj2 => by
   unfold zqmt;rw [List.length_eq_zero_iff, List.filter_eq_nil_iff];intro v hv;have hin : ∀ f s : Nat, ∀ v ∈ zqb3 f s j, f <= v.f /\ v.f + v.s <= f + s := fun f s => by
    refine zqd7 (P := fun f s => ∀ v ∈ zqb3 f s j, f <= v.f /\ v.f + v.s <= f + s) (fun f s h v hv => ?_) (fun f s h i1 i2 v hv => ?_) f s
    ·rw [zqdw h] at hv; cases hv
    ·have hb := zqch h
     by_cases hj : j < f + zq3 s
     ·rw [zqd5 h hj, List.mem_cons] at hv
      rcases hv with rfl | hv
      ·simp; omega
      ·have := i1 v hv; omega
     ·rw [zqdb h hj, List.mem_cons] at hv
      rcases hv with rfl | hv
      ·simp; omega
      ·have := i2 v hv; omega
   have := hin f s v hv;intro hh;have := (zqpt _ _).1 hh
   omega
  by_cases hj : j < f + zq3 s
  ·rw [zqd5 h hj]
   by_cases hk : k < f + zq3 s
   ·have := i1 (by omega) h1 hj h3 hk
    unfold zqmt at this ⊢;rw [zqwx (by omega)];exact this
   ·have := none f (zq3 s) (by omega) h1 hj
    unfold zqmt at this ⊢;rw [zqll (by omega), List.length_cons, this, if_neg (by omega)]
  ·rw [zqdb h hj]
   by_cases hk : k < f + zq3 s
   ·have := none (f + zq3 s) (s - zq3 s) (by omega) (by omega) (by omega)
    unfold zqmt at this ⊢;rw [zqll (by omega), List.length_cons, this, if_neg (by omega)]
   ·have := i2 (by omega) (by omega) (by omega) (by omega) (by omega)
    unfold zqmt at this ⊢;rw [zqwx (by omega)];exact this
section
variable {K : Type} (up : K -> K -> K) (pub : K -> K)
def secN (L : Nat -> K) (f s : Nat) : K := if h : s < 2 then L f else
 have := zqch (n := s) (by omega)
 up (secN L f (zq3 s)) (pub (secN L (f + zq3 s) (s - zq3 s)))
termination_by s
theorem zrez {L : Nat -> K} {f s : Nat} (h : s < 2) : secN up pub L f s = L f := by rw [secN, dif_pos h]
theorem zq75 {L : Nat -> K} {f s : Nat} (h : 2 <= s) : secN up pub L f s = up (secN up pub L f (zq3 s)) (pub (secN up pub L (f + zq3 s) (s - zq3 s))) := by rw [secN, dif_neg (by omega)]
variable (hc : ∀ a b, up a (pub b) = up b (pub a))
include hc
end
theorem zqsx {n j : Nat} (h1 : 2 ^ j < n) (h2 : n <= 2 * 2 ^ j) : zq3 n = 2 ^ j := by
 have hp := Nat.two_pow_pos j;unfold zq3;rw [if_neg (by omega)]
 congr 1
 rw [Nat.log2_eq_iff (by omega)];rw [Nat.pow_succ]
 omega
theorem zq4y {n : Nat} (h : n < 2) : zq3 n = 0 := by unfold zq3; rw [if_pos h]
def zqee (n j : Nat) : List Nd := (zqdt 0 n j).reverse
def zqah (n j : Nat) : List Nd := (zqb3 0 n j).reverse
theorem zqd2 (n j : Nat) : (zqee n j).length = (zqah n j).length + 1 := by
 unfold zqee zqah;rw [List.length_reverse, List.length_reverse, zqfe]
theorem zqic (n j : Nat) (h0 : 1 <= n) (h : j < n) : (zqaj 0 n).reverse.filter (fun v => decide (v.has j)) = zqee n j := by
 rw [List.filter_reverse, zqx1 j 0 n h0 (Nat.zero_le _) (by omega)]; rfl
theorem zqfn (n j : Nat) (h : n <= 1024) : (zqah n j).length <= 10 := by
 unfold zqah;rw [List.length_reverse];exact zqfh j 10 0 n h
theorem zq34 (n j : Nat) (h0 : 1 <= n) (h : j < n) (i : Nat) (hi : i < (zqah n j).length) :
  ∃ up b v, (zqee n j)[i + 1]? = some up /\ (zqee n j)[i]? = some b /\ (zqah n j)[i]? = some v /\ 2 <= up.s /\ b.s + v.s = up.s /\ up.has j /\ ¬ v.has j /\ up.f = min b.f v.f /\ 1 <= v.s /\
   ((b = ⟨up.f, zq3 up.s⟩ /\ v = ⟨up.f + zq3 up.s, up.s - zq3 up.s⟩) \/ (b = ⟨up.f + zq3 up.s, up.s - zq3 up.s⟩ /\ v = ⟨up.f, zq3 up.s⟩)) := by
 have hl := zqd2 n j;unfold zqah at hi;rw [List.length_reverse] at hi;have hl2 : (zqdt 0 n j).length = (zqb3 0 n j).length + 1 := zqfe j 0 n;obtain ⟨v, hv⟩ : ∃ v, (zqb3 0 n j)[(zqb3 0 n j).length - 1 - i]? = some v := ⟨_, List.getElem?_eq_getElem (by omega)⟩
 obtain ⟨a, b, e1, e2, e3, e4, e5, e6, e7, hk, ha⟩ := zqzz j 0 n h0 (Nat.zero_le _) (by omega) _ v hv;refine ⟨a, b, v, ?_, ?_, ?_, ha, e3.symm, e5, e6, e4, e7, ?_⟩
 ·unfold zqee
  rw [List.getElem?_reverse (by omega), <- e1]
  congr 1; omega
 ·unfold zqee
  rw [List.getElem?_reverse (by omega), <- e2]
  congr 1; omega
 ·unfold zqah
  rw [List.getElem?_reverse (by omega), <- hv]
 ·cases a; cases b; cases v
  simp only [Nd.mk.injEq] at *
  rcases hk with ⟨k1, k2, k3⟩ | ⟨k1, k2, k3⟩
  ·left; omega
  ·right; omega
theorem zqzk (n j : Nat) (h0 : 1 <= n) (h : j < n) : (zqee n j)[0]? = some ⟨j, 1⟩ := by
 unfold zqee;have := zq16 j 0 n h0 (Nat.zero_le _) (by omega);rw [List.getLast?_eq_getElem?] at this;have hl := zqfe j 0 n;rw [List.getElem?_reverse (by omega), <- this]
 rfl
theorem zqq4 (n j : Nat) : (zqee n j)[(zqah n j).length]? = some ⟨0, n⟩ := by
 obtain ⟨l, e⟩ := zqgx j 0 n;have hl := zqfe j 0 n;unfold zqee zqah;rw [List.length_reverse, List.getElem?_reverse (by omega), e];have : (zqdt 0 n j).length - 1 - (zqb3 0 n j).length = 0 := by omega
 rw [e] at this;rw [this]; rfl
theorem zqqu (n j k : Nat) (h0 : 1 <= n) (h : j < n) (hk : k < n) : zqmt (zqah n j) k + (if k = j then 1 else 0) = 1 := by
 have := zqva j k 0 n h0 (Nat.zero_le _) (by omega) (Nat.zero_le _) (by omega);unfold zqmt zqah at *;rw [List.filter_reverse, List.length_reverse];exact this
end Go.Proofs.YtnjghcnhcbobhaaGreatDoor
namespace Go.Proofs.YtnjghcnhcbobhaaGreatDoor
open Go.RowKit Go.Lib
def ndsL (l : List Nd) : List Value := l.flatMap fun v => [.int .i64 v.f, .int .i64 v.s]
theorem zqie (l m : List Nd) : ndsL (l ++ m) = ndsL l ++ ndsL m := by simp [ndsL]
theorem zqp5 (v : Nd) : ndsL [v] = [.int .i64 v.f, .int .i64 v.s] := by simp [ndsL]
theorem zqns (v : Nd) (l : List Nd) : ndsL (v :: l) = .int .i64 v.f :: .int .i64 v.s :: ndsL l := by simp [ndsL]
theorem zqpm : ∀ (l : List Nd) (i : Nat) (v : Nd), l[i]? = some v -> (ndsL l)[2 * i]? = some (.int .i64 v.f) /\ (ndsL l)[2 * i + 1]? = some (.int .i64 v.s)
 | [], i, v, h => by simp at h
 | u :: l, 0, v, h => by
  simp at h; subst h
  rw [zqns]; exact ⟨rfl, rfl⟩
 | u :: l, i + 1, v, h => by
  rw [zqns, show 2 * (i + 1) = 2 * i + 1 + 1 by omega];exact zqpm l i v (by simpa using h)
def NdsAt (w : World) (oa : Option Addr) (l : List Nd) : Prop :=
 l = [] \/ ∃ g o, oa = some ⟨g, o, none⟩ /\ g < w.heap.size /\ ∀ i v, l[i]? = some v -> cellOf (zqd w g) (o + 2 * i) = some (.int .i64 v.f) /\ cellOf (zqd w g) (o + 2 * i + 1) = some (.int .i64 v.s)
theorem NdsAt.later {w w' : World} {oa : Option Addr} {l : List Nd} (h : NdsAt w oa l) (hb : Below w.heap.size w w') : NdsAt w' oa l := by
 rcases h with h | ⟨g, o, e, hg, hl⟩
 ·exact .inl h
 ·refine .inr ⟨g, o, e, Nat.lt_of_lt_of_le hg hb.size, fun i v hv => ?_⟩
  rw [show zqd w' g = zqd w g from hb.block g hg];exact hl i v hv
end Go.Proofs.YtnjghcnhcbobhaaGreatDoor
namespace Go.Proofs.YtnjghcnhcbobhaaGreatDoor
open Go.RowKit
def zqbl (x z : Nat -> Int) : Nat -> Int := fun i => if i < 32 then x i else z (i - 32)
theorem zqqz (f : Nat -> Int) : zqbl f (fun i => f (i + 32)) = f := by
 funext i
 unfold zqbl
 split
 ·rfl
 ·show f (i - 32 + 32) = f i
  rw [show i - 32 + 32 = i by omega]
@[go_sem ↓ high] theorem zrg9 (ρ : Operand -> Value) (d : Option Tmp) (x : Operand) (t : TypeId) (pos : String) (af : Array Edge) (g : Option (Nat × Bool)) :
  execOp ρ ⟨d, .load 276 x, t, pos, af, g⟩ = zqp 276 (ρ x) := zqa4 _ ρ d x t pos af g
@[go_sem high] theorem zrgc (ρ : Operand -> Value) (d : Option Tmp) (x : Operand) (t : TypeId) (pos : String) (af : Array Edge) (g : Option (Nat × Bool)) :
  execOp ρ ⟨d, .load 276 x, t, pos, af, g⟩ = zqp 276 (ρ x) := zqa4 _ ρ d x t pos af g
@[go_sem] theorem zqpr (g : Nat) (w : World) : (zqp 276 (.pointer (some ⟨g, 0, none⟩))).run Tryz.prog w = (zqa0 Tryz.prog 276 g 64 w (zqd w g)).andThen fun v w' => .ok (.value v) w' := by
 rw [zq6, zqbh Tryz.underlying276 rfl zqb g w]
@[go_sem] theorem zq8t (g : Nat) (w : World) (cs : Array Value) (t' : TypeId) (fr : Nat × Nat) (h : cs.size = 64) : zqa0 Tryz.prog 276 g 64 w (some (.cells cs t' fr)) = .ok (.agg cs) w := zqat cs t' fr h
@[go_sem ↓ high] theorem zrf9 (ρ : Operand -> Value) (d : Option Tmp) (x y : Operand) (t : TypeId) (pos : String) (af : Array Edge) (g : Option (Nat × Bool)) :
  execOp ρ ⟨d, .store 276 x y, t, pos, af, g⟩ = zqv 276 (ρ x) (ρ y) := zqav _ ρ d x y t pos af g
@[go_sem high] theorem zra6 (ρ : Operand -> Value) (d : Option Tmp) (x y : Operand) (t : TypeId) (pos : String) (af : Array Edge) (g : Option (Nat × Bool)) :
  execOp ρ ⟨d, .store 276 x y, t, pos, af, g⟩ = zqv 276 (ρ x) (ρ y) := zqav _ ρ d x y t pos af g
@[go_sem] theorem zq5j (g : Nat) (cs : Array Value) (w : World) : (zqv 276 (.pointer (some ⟨g, 0, none⟩)) (.agg cs)).run Tryz.prog w = (zqaq Tryz.prog 276 g 64 (.agg cs) w (zqd w g)).andThen fun _ w' => .ok .skip w' := by
 rw [zqae, zqbf zqb g cs w]
@[go_sem] theorem zq5i (g : Nat) (w : World) (old cs : Array Value) (t' : TypeId) (h1 : old.size = 64) (h2 : cs.size = 64) (h3 : zqai cs = true) :
  zqaq Tryz.prog 276 g 64 (.agg cs) w (some (.cells old t' (0, 0))) = .ok () (w.setRow g cs) := zqas old cs t' h1 h2 h3
@[go_sem high] theorem zrdo (w : World) : (zeroValue 276).run Tryz.prog w = .ok (.agg (ints .u8 64 (zqbl zqe zqe))) w := by kernel_rfl
@[go_sem ↓ high] theorem zqax (w : World) : (zeroValue 276).run Tryz.prog w = .ok (.agg (ints .u8 64 (zqbl zqe zqe))) w := by kernel_rfl
theorem zqx2 (x z : Nat -> Int) : (ints .u8 64 (zqbl x z)).extract 0 32 = ints .u8 32 x := by kernel_rfl
theorem zqz1 (x z : Nat -> Int) : (ints .u8 64 (zqbl x z)).extract 32 (32 + 32) = ints .u8 32 z := by kernel_rfl
theorem zrke (x z a : Nat -> Int) : zqb4 (ints .u8 64 (zqbl x z)) 0 (ints .u8 32 a).toList = ints .u8 64 (zqbl a z) := by kernel_rfl
theorem zrlg (x z a : Nat -> Int) : zqb4 (ints .u8 64 (zqbl x z)) 32 (ints .u8 32 a).toList = ints .u8 64 (zqbl x a) := by kernel_rfl
@[go_sem] theorem zrd8 (g : Nat) (w : World) (x z : Nat -> Int) (t' : TypeId) (fr : Nat × Nat) : zqa0 Tryz.prog 44 g 32 w (some (.cells (ints .u8 64 (zqbl x z)) t' fr)) = .ok (.agg (ints .u8 32 x)) w := by
 unfold zqa0
 simp only [zqj]
 rw [if_neg (by decide), if_pos (by decide), zqx2]
@[go_sem] theorem zra3 (g : Nat) (w : World) (x z a : Nat -> Int) (t' : TypeId) : zqaq Tryz.prog 44 g 32 (.agg (ints .u8 32 a)) w (some (.cells (ints .u8 64 (zqbl x z)) t' (0, 0))) = .ok () (w.setRow g (ints .u8 64 (zqbl a z))) := by
 unfold zqaq
 simp only [zqj]
 rw [if_neg (fun h => absurd h.1 (by decide)), if_pos ⟨by decide, by trivial, zqdn _ _ _⟩, zrke]
@[go_sem] theorem zra0 (g : Nat) (w : World) : (zqp 44 (.pointer (some ⟨g, 32, none⟩))).run Tryz.prog w = (zqao Tryz.prog 44 g 32 32 w (zqd w g)).andThen fun v w' => .ok (.value v) w' := by
 rw [zq6, zqca Tryz.underlying44 rfl zqb g 32 w]
@[go_sem] theorem zrfk (g : Nat) (w : World) (x z : Nat -> Int) (t' : TypeId) (fr : Nat × Nat) : zqao Tryz.prog 44 g 32 32 w (some (.cells (ints .u8 64 (zqbl x z)) t' fr)) = .ok (.agg (ints .u8 32 z)) w := by
 unfold zqao
 simp only [zqj]
 rw [if_pos (by decide), zqz1]
@[go_sem] theorem zq8h (g : Nat) (cs : Array Value) (w : World) : (zqv 44 (.pointer (some ⟨g, 32, none⟩)) (.agg cs)).run Tryz.prog w = (zqb0 Tryz.prog 44 g 32 32 (.agg cs) w (zqd w g)).andThen fun _ w' => .ok .skip w' := by
 rw [zqae, zqd3 zqb g 32 cs w]
@[go_sem] theorem zq93 (g : Nat) (w : World) (x z a : Nat -> Int) (t' : TypeId) : zqb0 Tryz.prog 44 g 32 32 (.agg (ints .u8 32 a)) w (some (.cells (ints .u8 64 (zqbl x z)) t' (0, 0))) = .ok () (w.setRow g (ints .u8 64 (zqbl x a))) := by
 unfold zqb0
 simp only [zqj]
 rw [if_pos ⟨by decide, by trivial, zqdn _ _ _⟩, zrlg]
@[go_sem] theorem zq90 (x z : Nat -> Int) (w : World) : (Instr.field 276 (.agg (ints .u8 64 (zqbl x z))) 0).run Tryz.prog w = .ok (.agg (ints .u8 32 x)) w := by kernel_rfl
@[go_sem] theorem zq95 (x z : Nat -> Int) (w : World) : (Instr.field 276 (.agg (ints .u8 64 (zqbl x z))) 1).run Tryz.prog w = .ok (.agg (ints .u8 32 z)) w := by kernel_rfl
def zqf0 (x z : Value) : Sem Next := do pure (.value (<- Instr.build 276 #[(0, x), (1, z)]))
def zqhw (x : Value) : Sem Next := do pure (.value (<- Instr.build 276 #[(0, x)]))
@[go_sem ↓ high] theorem zrnm (ρ : Operand -> Value) (d : Option Tmp) (x y : Operand) (t : TypeId) (pos : String) (af : Array Edge) (g : Option (Nat × Bool)) :
  execOp ρ ⟨d, .build 276 #[(0, x), (1, y)], t, pos, af, g⟩ = zqf0 (ρ x) (ρ y) := by simp [execOp, zqf0]
@[go_sem high] theorem zrk2 (ρ : Operand -> Value) (d : Option Tmp) (x y : Operand) (t : TypeId) (pos : String) (af : Array Edge) (g : Option (Nat × Bool)) :
  execOp ρ ⟨d, .build 276 #[(0, x), (1, y)], t, pos, af, g⟩ = zqf0 (ρ x) (ρ y) := by simp [execOp, zqf0]
@[go_sem ↓ high] theorem zrik (ρ : Operand -> Value) (d : Option Tmp) (x : Operand) (t : TypeId) (pos : String) (af : Array Edge) (g : Option (Nat × Bool)) :
  execOp ρ ⟨d, .build 276 #[(0, x)], t, pos, af, g⟩ = zqhw (ρ x) := by simp [execOp, zqhw]
@[go_sem high] theorem zrhv (ρ : Operand -> Value) (d : Option Tmp) (x : Operand) (t : TypeId) (pos : String) (af : Array Edge) (g : Option (Nat × Bool)) :
  execOp ρ ⟨d, .build 276 #[(0, x)], t, pos, af, g⟩ = zqhw (ρ x) := by simp [execOp, zqhw]
@[go_sem] theorem zrjl (x z : Nat -> Int) (w : World) : (zqf0 (.agg (ints .u8 32 x)) (.agg (ints .u8 32 z))).run Tryz.prog w = .ok (.value (.agg (ints .u8 64 (zqbl x z)))) w := by kernel_rfl
@[go_sem] theorem zrg1 (x : Nat -> Int) (w : World) : (zqhw (.agg (ints .u8 32 x))).run Tryz.prog w = .ok (.value (.agg (ints .u8 64 (zqbl x zqe)))) w := by kernel_rfl
attribute [irreducible] zqf0 zqhw
end Go.Proofs.YtnjghcnhcbobhaaGreatDoor
