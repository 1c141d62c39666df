/- Nds -/
import Derived.Test.YtfglcifnjaknnaaGreatDoorOw
import Derived.Test.YtfglcifnjaknnaaGreatDoorBase
import Derived.Test.YtfglcifnjaknnaaGreatDoorMem
set_option linter.unusedVariables false
set_option linter.unusedSimpArgs false
namespace Go.Proofs.YtfglcifnjaknnaaGreatDoor
open Go.RowKit Go.Lib
theorem zqqk {w W w' : World} {base : Nat} {e : TypeId} {size : Nat} {v : Value} {n : Nat} {xs : List Value} (own : W.ownsRow base e size v n xs) (hg : W.grownBy w' v.ownBlock) (hG : Below w.heap.size w W) (hwb : w.heap.size <= base) :
  Below w.heap.size w w' /\ ∀ m o, m < base -> zqe W m = some o -> zqe w' m = some o := by
 refine ⟨hG.grown hg hG.size (fun k hk => ?_), fun m o hm hob => ?_⟩
 ·have := (own.lt k hk).1; omega
 ·have hlt := zqa hob
  refine (hg.block m hlt fun e => ?_).trans hob;have := (own.lt m e.symm).1
  omega
section
variable {ops : Array Oper} {o : Oper} {a : Act} {K : Act -> World -> Prop} {Q : Exit -> Act -> World -> Prop} {E : Prop}
theorem zq2l {t e : TypeId} {i : TypeInfo} {z : Value} (size bytes : Nat) (ht : Tryz.prog.underlying t = some (.slice e)) (hi : Tryz.prog.info? e = some i) (hz : i.zero = some z) (hsize : i.size = size) (hby : i.bytes = bytes) (hzs : z.cells.size = size) (hsz : 0 < size) (hb8 : bytes <= 4096)
  (hgd : o.guard = none) (s x : Operand) (ho : o.op = .call { callee := .builtin .append, args := #[s, x], argTypes := #[t, t] })
  (w W : World) (base : Nat) (v : Value) (n : Nat) (xs : List Value) (ad : Addr) (m c : Nat) (news : List Value) (hs : a.eval s = v) (hx : a.eval x = .slice (some ad) m c) (own : W.ownsRow base e size v n xs) (hn : n + m <= 1073741824) (hm : 0 < m)
  (hl : news.length = m * size) (hnews : ∀ j u, news[j]? = some u -> W.cell? (ad.add j) = some u) (h1 : ∀ u ∈ news, u.oneCell' = true) (hG : Below w.heap.size w W) (hwb : w.heap.size <= base) (hbW : base <= W.heap.size)
  (h : ∀ g cap w', w'.ownsRow base e size (.slice (some ⟨g, 0, none⟩) (n + m) cap) (n + m) (xs ++ news) -> Below w.heap.size w w' -> (∀ m ob, m < base -> zqe W m = some ob -> zqe w' m = some ob) -> base <= g -> K (a.put o.dst (.slice (some ⟨g, 0, none⟩) (n + m) cap)) w') :
  if Region.wanted o (yielded ops a.tmps) = true then Oper.wp Tryz.prog o a W K Q else E := by
 have hbn : (n + m) * bytes <= 140737488355328 := Nat.le_trans (Nat.mul_le_mul hn hb8) (by decide);refine step_append_lies (P := Tryz.prog) (w := W) hgd s x t ho base e i z size bytes ht hi hz hsize hby hzs hsz v n xs hs own ad m c news hx hl hnews h1 hm (by unfold maxLen; omega) hbn hbW W.heap.size rfl (fun g cap w' ho' hg _ _ => ?_);obtain ⟨h1, h2⟩ := zqqk own hg hG hwb;exact h g cap w' ho' h1 h2 (ho'.lt g rfl).1
theorem step_cells {t e : TypeId} {i : TypeInfo} {z : Value} (size bytes : Nat) (ht : Tryz.prog.underlying t = some (.slice e)) (hi : Tryz.prog.info? e = some i) (hz : i.zero = some z) (hsize : i.size = size) (hby : i.bytes = bytes) (hzs : z.cells.size = size) (hsz : 0 < size) (hb8 : bytes <= 4096)
  (hgd : o.guard = none) (s x : Operand) (ho : o.op = .call { callee := .builtin .append, args := #[s, x], argTypes := #[t, t] })
  (w W : World) (base : Nat) (v : Value) (n : Nat) (xs : List Value) (cs : Array Value) (g2 : Nat) (t2 : TypeId) (fr : Nat × Nat) (hs : a.eval s = v) (hx : a.eval x = .slice (some ⟨g2, 0, none⟩) 1 1) (own : W.ownsRow base e size v n xs) (hn : n <= 1048576)
  (hg2 : zqe W g2 = some (.cells cs t2 fr)) (hcs : cs.size = size) (h1 : ∀ u ∈ cs.toList, u.oneCell' = true) (hG : Below w.heap.size w W) (hwb : w.heap.size <= base) (hbW : base <= W.heap.size)
  (h : ∀ g cap w', w'.ownsRow base e size (.slice (some ⟨g, 0, none⟩) (n + 1) cap) (n + 1) (xs ++ cs.toList) -> Below w.heap.size w w' -> (∀ m ob, m < base -> zqe W m = some ob -> zqe w' m = some ob) -> base <= g -> K (a.put o.dst (.slice (some ⟨g, 0, none⟩) (n + 1) cap)) w') :
  if Region.wanted o (yielded ops a.tmps) = true then Oper.wp Tryz.prog o a W K Q else E :=
 zq2l size bytes ht hi hz hsize hby hzs hsz hb8 hgd s x ho w W base v n xs ⟨g2, 0, none⟩ 1 1 cs.toList hs hx own (by omega) (by decide) (by rw [Array.length_toList, hcs, Nat.one_mul])
  (fun j u hu => by
   unfold zqe at hg2;have ha : ((⟨g2, 0, none⟩ : Addr).add j) = ⟨g2, j, none⟩ := by unfold Addr.add; split <;> simp_all
   rw [ha, cell_of_row W g2 j _ _ _ hg2]
   simpa using hu) h1 hG hwb hbW h
end
theorem zq34 {w : World} {base g n c size : Nat} {xs : List Value} {t : TypeId} (h : w.ownsRow base t size (.slice (some ⟨g, 0, none⟩) n c) n xs) (i : Nat) (u : Value) (hu : xs[i]? = some u) : g < w.heap.size /\ ∀ w', Below w.heap.size w w' -> w'.cell? ⟨g, i, none⟩ = some u := by
 rcases h.2 with ⟨h0, _⟩ | ⟨g', cap, cur, h0, hb, hg, hnc, hcm, hcs, htake⟩
 ·cases h0
 ·cases h0
  have hlt : g < w.heap.size := zqa (show zqe w g = _ from hg);refine ⟨hlt, fun w' hb' => ?_⟩;have h' := zqc hb' (show zqe w g = _ from hg);rw [cell_of_row w' g i _ _ _ h'];have h2 : i < n * size := by
   rcases Nat.lt_or_ge i (n * size) with h2 | h2
   ·exact h2
   ·rw [<- htake, List.getElem?_take, if_neg (by omega)] at hu; cases hu
  rw [<- htake, List.getElem?_take, if_pos h2] at hu
  simpa using hu
end Go.Proofs.YtfglcifnjaknnaaGreatDoor
namespace Go.Proofs.YtfglcifnjaknnaaGreatDoor
def zqw (n : Nat) : Nat := if n < 2 then 0 else 2 ^ Nat.log2 (n - 1)
theorem zqb8 {n : Nat} (h : 2 <= n) : 0 < zqw n /\ zqw n < n /\ n <= 2 * zqw n := by
 unfold zqw;rw [if_neg (by omega)];have h1 : 2 ^ Nat.log2 (n - 1) <= n - 1 := Nat.log2_self_le (by omega);have h2 : n - 1 < 2 ^ (Nat.log2 (n - 1) + 1) := Nat.lt_log2_self;rw [Nat.pow_succ] at h2;exact ⟨Nat.two_pow_pos _, by omega, by omega⟩
theorem zqzr {n d : Nat} (h : 2 <= n) (hd : n <= 2 ^ (d + 1)) : zqw n <= 2 ^ d /\ n - zqw n <= 2 ^ d := by
 have hb := zqb8 h;have e : zqw n = 2 ^ Nat.log2 (n - 1) := by unfold zqw; rw [if_neg (by omega)]
 have h1 : Nat.log2 (n - 1) <= d := by
  have h3 : 2 ^ Nat.log2 (n - 1) < 2 ^ (d + 1) := by omega
  have := (Nat.pow_lt_pow_iff_right (a := 2) (by decide)).1 h3
  omega
 have h4 : zqw n <= 2 ^ d := by rw [e]; exact Nat.pow_le_pow_right (by decide) h1
 omega
structure Nd where
 f : Nat
 s : Nat
def Nd.has (v : Nd) (j : Nat) : Prop := v.f <= j /\ j < v.f + v.s
instance (v : Nd) (j : Nat) : Decidable (v.has j) := by unfold Nd.has; infer_instance
theorem zqop (v : Nd) (j : Nat) : decide (v.has j) = true ↔ v.f <= j /\ j < v.f + v.s := by rw [decide_eq_true_eq]; exact Iff.rfl
theorem zqu9 (f s j : Nat) : decide ((⟨f, s⟩ : Nd).has j) = true ↔ f <= j /\ j < f + s := zqop _ _
theorem zqkq {f s j : Nat} {l : List Nd} (h : f <= j /\ j < f + s) : (⟨f, s⟩ :: l : List Nd).filter (fun v => decide (v.has j)) = ⟨f, s⟩ :: l.filter (fun v => decide (v.has j)) := List.filter_cons_of_pos (p := fun v : Nd => decide (v.has j)) ((zqu9 _ _ _).2 h)
theorem zqud {f s j : Nat} {l : List Nd} (h : ¬ (f <= j /\ j < f + s)) : (⟨f, s⟩ :: l : List Nd).filter (fun v => decide (v.has j)) = l.filter (fun v => decide (v.has j)) := List.filter_cons_of_neg (p := fun v : Nd => decide (v.has j)) (fun hh => h ((zqu9 _ _ _).1 hh))
def zqae (f s : Nat) : List Nd := if h : s < 2 then [⟨f, s⟩] else
 have := zqb8 (n := s) (by omega)
 ⟨f, s⟩ :: (zqae f (zqw s) ++ zqae (f + zqw s) (s - zqw s))
termination_by s
def zqdf (f s j : Nat) : List Nd := if h : s < 2 then [⟨f, s⟩] else
 have := zqb8 (n := s) (by omega)
 ⟨f, s⟩ :: (if j < f + zqw s then zqdf f (zqw s) j else zqdf (f + zqw s) (s - zqw s) j)
termination_by s
def zqbu (f s j : Nat) : List Nd := if h : s < 2 then [] else
 have := zqb8 (n := s) (by omega)
 if j < f + zqw s then ⟨f + zqw s, s - zqw s⟩ :: zqbu f (zqw s) j else ⟨f, zqw s⟩ :: zqbu (f + zqw s) (s - zqw s) j
termination_by s
theorem zqbl {f s : Nat} (h : s < 2) : zqae f s = [⟨f, s⟩] := by rw [zqae, dif_pos h]
theorem zqa9 {f s : Nat} (h : 2 <= s) : zqae f s = ⟨f, s⟩ :: (zqae f (zqw s) ++ zqae (f + zqw s) (s - zqw s)) := by rw [zqae, dif_neg (by omega)]
theorem zqiw {f s j : Nat} (h : s < 2) : zqdf f s j = [⟨f, s⟩] := by rw [zqdf, dif_pos h]
theorem zqfg {f s j : Nat} (h : 2 <= s) (hj : j < f + zqw s) : zqdf f s j = ⟨f, s⟩ :: zqdf f (zqw s) j := by rw [zqdf, dif_neg (by omega)]; simp only [hj, if_true]
theorem zqel {f s j : Nat} (h : 2 <= s) (hj : ¬ j < f + zqw s) : zqdf f s j = ⟨f, s⟩ :: zqdf (f + zqw s) (s - zqw s) j := by rw [zqdf, dif_neg (by omega)]; simp only [hj, if_false]
theorem zqdd {f s j : Nat} (h : s < 2) : zqbu f s j = [] := by rw [zqbu, dif_pos h]
theorem zqdn {f s j : Nat} (h : 2 <= s) (hj : j < f + zqw s) : zqbu f s j = ⟨f + zqw s, s - zqw s⟩ :: zqbu f (zqw s) j := by rw [zqbu, dif_neg (by omega)]; simp only [hj, if_true]
theorem zqc1 {f s j : Nat} (h : 2 <= s) (hj : ¬ j < f + zqw s) : zqbu f s j = ⟨f, zqw s⟩ :: zqbu (f + zqw s) (s - zqw s) j := by rw [zqbu, dif_neg (by omega)]; simp only [hj, if_false]
theorem zqdt {P : Nat -> Nat -> Prop} (h1 : ∀ f s, s < 2 -> P f s) (h2 : ∀ f s, 2 <= s -> P f (zqw s) -> P (f + zqw s) (s - zqw s) -> P f s) (f s : Nat) : P f s := by
 induction s using Nat.strongRecOn generalizing f with
 | _ s ih =>
  by_cases h : s < 2
  ·exact h1 f s h
  ·have hb := zqb8 (n := s) (by omega)
   exact h2 f s (by omega) (ih _ (by omega) f) (ih _ (by omega) _)
theorem zqcb (f s : Nat) : 1 <= s -> (zqae f s).length = 2 * s - 1 := by
 refine zqdt (P := fun f s => 1 <= s -> (zqae f s).length = 2 * s - 1) (fun f s h h0 => ?_) (fun f s h i1 i2 h0 => ?_) f s
 ·rw [zqbl h]; simp; omega
 ·have hb := zqb8 h
  rw [zqa9 h, List.length_cons, List.length_append, i1 (by omega), i2 (by omega)]
  omega
theorem zqdp (f s : Nat) : ∀ v ∈ zqae f s, f <= v.f /\ v.f + v.s <= f + s /\ v.s <= s /\ (1 <= s -> 1 <= v.s) := by
 refine zqdt (P := fun f s => ∀ v ∈ zqae f s, f <= v.f /\ v.f + v.s <= f + s /\ v.s <= s /\ (1 <= s -> 1 <= v.s)) (fun f s h v hv => ?_) (fun f s h i1 i2 v hv => ?_) f s
 ·rw [zqbl h, List.mem_singleton] at hv
  subst hv; simp
 ·have hb := zqb8 h
  rw [zqa9 h, List.mem_cons, List.mem_append] at hv
  rcases hv with rfl | hv | hv
  ·simp
  ·have := i1 v hv; omega
  ·have := i2 v hv; omega
theorem zqmd (f s : Nat) : 1 <= s -> (zqae f s).Nodup := by
 refine zqdt (P := fun f s => 1 <= s -> (zqae f s).Nodup) (fun f s h h0 => ?_) (fun f s h i1 i2 h0 => ?_) f s
 ·rw [zqbl h]; simp
 ·have hb := zqb8 h
  rw [zqa9 h, List.nodup_cons, List.nodup_append];refine ⟨fun hm => ?_, i1 (by omega), i2 (by omega), fun a ha b hb' e => ?_⟩
  ·rcases List.mem_append.1 hm with hm | hm
   ·have := zqdp _ _ _ hm; simp at this; omega
   ·have := zqdp _ _ _ hm; simp at this; omega
  ·subst e
   have h1 := zqdp _ _ _ ha;have h2 := zqdp _ _ _ hb';have h3 := h1.2.2.2 (by omega)
   omega
theorem zqnz (f s j : Nat) (h : ¬ (f <= j /\ j < f + s)) : (zqae f s).filter (fun v => decide (v.has j)) = [] := by
 rw [List.filter_eq_nil_iff];intro v hv;have := zqdp f s v hv;intro hh;have := (zqop _ _).1 hh
 omega
theorem zqvu (j : Nat) (f s : Nat) : 1 <= s -> f <= j -> j < f + s -> (zqae f s).filter (fun v => decide (v.has j)) = zqdf f s j := by
 refine zqdt (P := fun f s => 1 <= s -> f <= j -> j < f + s -> (zqae f s).filter (fun v => decide (v.has j)) = zqdf f s j) (fun f s h h0 h1 h2 => ?_) (fun f s h i1 i2 h0 h1 h2 => ?_) f s
 ·rw [zqbl h, zqiw h, zqkq ⟨h1, h2⟩, List.filter_nil]
 ·have hb := zqb8 h
  rw [zqa9 h, zqkq (by omega), List.filter_append]
  by_cases hj : j < f + zqw s
  ·rw [zqfg h hj, i1 (by omega) h1 hj, zqnz _ _ _ (by omega), List.append_nil]
  ·rw [zqel h hj, i2 (by omega) (by omega) (by omega), zqnz _ _ _ (by omega), List.nil_append]
theorem zqeu (j f s : Nat) : (zqdf f s j).length = (zqbu f s j).length + 1 := by
 refine zqdt (P := fun f s => (zqdf f s j).length = (zqbu f s j).length + 1) (fun f s h => ?_) (fun f s h i1 i2 => ?_) f s
 ·rw [zqiw h, zqdd h]; rfl
 ·by_cases hj : j < f + zqw s
  ·rw [zqfg h hj, zqdn h hj, List.length_cons, List.length_cons, i1]
  ·rw [zqel h hj, zqc1 h hj, List.length_cons, List.length_cons, i2]
theorem zqeq (j : Nat) : ∀ d f s, s <= 2 ^ d -> (zqbu f s j).length <= d
 | 0, f, s, h => by rw [zqdd (by omega)]; simp
 | d + 1, f, s, h => by
  by_cases h2 : s < 2
  ·rw [zqdd h2]; simp
  ·have hb := zqzr (n := s) (by omega) h
   by_cases hj : j < f + zqw s
   ·rw [zqdn (by omega) hj, List.length_cons]; have := zqeq j d f _ hb.1; omega
   ·rw [zqc1 (by omega) hj, List.length_cons]; have := zqeq j d (f + zqw s) _ hb.2; omega
theorem zqgs (j f s : Nat) : ∃ l, zqdf f s j = ⟨f, s⟩ :: l := by
 by_cases h : s < 2
 ·exact ⟨[], zqiw h⟩
 ·by_cases hj : j < f + zqw s
  ·exact ⟨_, zqfg (by omega) hj⟩
  ·exact ⟨_, zqel (by omega) hj⟩
theorem zqzm (j f s : Nat) : 1 <= s -> f <= j -> j < f + s -> (zqdf f s j).getLast? = some ⟨j, 1⟩ := by
 refine zqdt (P := fun f s => 1 <= s -> f <= j -> j < f + s -> (zqdf f s j).getLast? = some ⟨j, 1⟩) (fun f s h h0 h1 h2 => ?_) (fun f s h i1 i2 h0 h1 h2 => ?_) f s
 ·rw [zqiw h]
  obtain rfl : s = 1 := by omega
  obtain rfl : f = j := by omega
  rfl
 ·have hb := zqb8 h
  by_cases hj : j < f + zqw s
  ·rw [zqfg h hj]
   obtain ⟨l, e⟩ := zqgs j f (zqw s);have := i1 (by omega) h1 hj;rw [e] at this ⊢;exact this
  ·rw [zqel h hj]
   obtain ⟨l, e⟩ := zqgs j (f + zqw s) (s - zqw s);have := i2 (by omega) (by omega) (by omega);rw [e] at this ⊢;exact this
theorem zqv6 (j f s : Nat) : 1 <= s -> f <= j -> j < f + s -> ∀ i v, (zqbu f s j)[i]? = some v -> ∃ a b, (zqdf f s j)[i]? = some a /\ (zqdf f s j)[i + 1]? = some b /\ a.s = b.s + v.s /\ a.f = min b.f v.f /\ a.has j /\ ¬ v.has j /\ 1 <= v.s /\ ((b.f = a.f /\ b.s = zqw a.s /\ v.f = a.f + zqw a.s) \/ (v.f = a.f /\ v.s = zqw a.s /\ b.f = a.f + zqw a.s)) /\ 2 <= a.s := by
 refine zqdt (P := fun f s => 1 <= s -> f <= j -> j < f + s -> ∀ i v, (zqbu f s j)[i]? = some v -> ∃ a b, (zqdf f s j)[i]? = some a /\ (zqdf f s j)[i + 1]? = some b /\ a.s = b.s + v.s /\ a.f = min b.f v.f /\ a.has j /\ ¬ v.has j /\ 1 <= v.s /\ ((b.f = a.f /\ b.s = zqw a.s /\ v.f = a.f + zqw a.s) \/ (v.f = a.f /\ v.s = zqw a.s /\ b.f = a.f + zqw a.s)) /\ 2 <= a.s) (fun f s h h0 h1 h2 i v hv => ?_) (fun f s h i1 i2 h0 h1 h2 i v hv => ?_) f s
 ·rw [zqdd h] at hv; cases hv
 ·have hb := zqb8 h
  by_cases hj : j < f + zqw s
  ·rw [zqdn h hj] at hv
   rw [zqfg h hj]
   cases i with
   | zero =>
    obtain ⟨l, e⟩ := zqgs j f (zqw s);rw [e]
    simp only [List.getElem?_cons_zero, Option.some.injEq] at hv
    subst hv;exact ⟨⟨f, s⟩, ⟨f, zqw s⟩, rfl, rfl, by simp; omega, by simp; try omega, ⟨h1, h2⟩, fun hh => by have := (zqu9 _ _ _).1 (decide_eq_true hh); omega, by simp; omega, .inl ⟨rfl, rfl, rfl⟩, h⟩
   | succ i =>
    rw [List.getElem?_cons_succ] at hv;exact i1 (by omega) h1 hj i v hv
  ·rw [zqc1 h hj] at hv
   rw [zqel h hj]
   cases i with
   | zero =>
    obtain ⟨l, e⟩ := zqgs j (f + zqw s) (s - zqw s);rw [e]
    simp only [List.getElem?_cons_zero, Option.some.injEq] at hv
    subst hv;exact ⟨⟨f, s⟩, ⟨f + zqw s, s - zqw s⟩, rfl, rfl, by simp; omega, by simp; try omega, ⟨h1, h2⟩, fun hh => by have := (zqu9 _ _ _).1 (decide_eq_true hh); omega, by simp; omega, .inr ⟨rfl, rfl, rfl⟩, h⟩
   | succ i =>
    rw [List.getElem?_cons_succ] at hv;exact i2 (by omega) (by omega) (by omega) i v hv
def zqmm (l : List Nd) (k : Nat) : Nat := (l.filter fun v => decide (v.has k)).length
theorem zqtp (j k f s : Nat) : 1 <= s -> f <= j -> j < f + s -> f <= k -> k < f + s -> zqmm (zqbu f s j) k + (if k = j then 1 else 0) = 1 := by
 refine zqdt (P := fun f s => 1 <= s -> f <= j -> j < f + s -> f <= k -> k < f + s -> zqmm (zqbu f s j) k + (if k = j then 1 else 0) = 1) (fun f s h h0 h1 h2 h3 h4 => ?_) (fun f s h i1 i2 h0 h1 h2 h3 h4 => ?_) f s
 ·rw [zqdd h, if_pos (by omega)]; rfl
 ·have hb := zqb8 h
  have none : ∀ f s : Nat, ¬ (f <= k /\ k < f + s) -> f <= j -> j < f + s -> zqmm (zqbu f s j) k = 0 := fun f s hk hj1 hj2 => by
   unfold zqmm;rw [List.length_eq_zero_iff, List.filter_eq_nil_iff];intro v hv;have hin : ∀ f s : Nat, ∀ v ∈ zqbu f s j, f <= v.f /\ v.f + v.s <= f + s := fun f s => by
    refine zqdt (P := fun f s => ∀ v ∈ zqbu f s j, f <= v.f /\ v.f + v.s <= f + s) (fun f s h v hv => ?_) (fun f s h i1 i2 v hv => ?_) f s
    ·rw [zqdd h] at hv; cases hv
    ·have hb := zqb8 h
     by_cases hj : j < f + zqw s
     ·rw [zqdn h hj, List.mem_cons] at hv
      rcases hv with rfl | hv
      ·simp; omega
      ·have := i1 v hv; omega
     ·rw [zqc1 h hj, List.mem_cons] at hv
      rcases hv with rfl | hv
      ·simp; omega
      ·have := i2 v hv; omega
   have := hin f s v hv;intro hh;have := (zqop _ _).1 hh
   omega
  by_cases hj : j < f + zqw s
  ·rw [zqdn h hj]
   by_cases hk : k < f + zqw s
   ·have := i1 (by omega) h1 hj h3 hk
    unfold zqmm at this ⊢;rw [zqud (by omega)];exact this
   ·have := none f (zqw s) (by omega) h1 hj
    unfold zqmm at this ⊢;rw [zqkq (by omega), List.length_cons, this, if_neg (by omega)]
  ·rw [zqc1 h hj]
   by_cases hk : k < f + zqw s
   ·have := none (f + zqw s) (s - zqw s) (by omega) (by omega) (by omega)
    unfold zqmm at this ⊢;rw [zqkq (by omega), List.length_cons, this, if_neg (by omega)]
   ·have := i2 (by omega) (by omega) (by omega) (by omega) (by omega)
    unfold zqmm at this ⊢;rw [zqud (by omega)];exact this
section
variable {K : Type} (up : K -> K -> K) (pub : K -> K)
def secN (L : Nat -> K) (f s : Nat) : K := if h : s < 2 then L f else
 have := zqb8 (n := s) (by omega)
 up (secN L f (zqw s)) (pub (secN L (f + zqw s) (s - zqw s)))
termination_by s
theorem zrbu {L : Nat -> K} {f s : Nat} (h : s < 2) : secN up pub L f s = L f := by rw [secN, dif_pos h]
theorem zq53 {L : Nat -> K} {f s : Nat} (h : 2 <= s) : secN up pub L f s = up (secN up pub L f (zqw s)) (pub (secN up pub L (f + zqw s) (s - zqw s))) := by rw [secN, dif_neg (by omega)]
variable (hc : ∀ a b, up a (pub b) = up b (pub a))
include hc
end
theorem zqrc {n j : Nat} (h1 : 2 ^ j < n) (h2 : n <= 2 * 2 ^ j) : zqw n = 2 ^ j := by
 have hp := Nat.two_pow_pos j;unfold zqw;rw [if_neg (by omega)]
 congr 1
 rw [Nat.log2_eq_iff (by omega)];rw [Nat.pow_succ]
 omega
theorem zq0g {n : Nat} (h : n < 2) : zqw n = 0 := by unfold zqw; rw [if_pos h]
def zqdy (n j : Nat) : List Nd := (zqdf 0 n j).reverse
def zqac (n j : Nat) : List Nd := (zqbu 0 n j).reverse
theorem zqdm (n j : Nat) : (zqdy n j).length = (zqac n j).length + 1 := by
 unfold zqdy zqac;rw [List.length_reverse, List.length_reverse, zqeu]
theorem zqhp (n j : Nat) (h0 : 1 <= n) (h : j < n) : (zqae 0 n).reverse.filter (fun v => decide (v.has j)) = zqdy n j := by
 rw [List.filter_reverse, zqvu j 0 n h0 (Nat.zero_le _) (by omega)]; rfl
theorem zqe5 (n j : Nat) (h : n <= 1024) : (zqac n j).length <= 10 := by
 unfold zqac;rw [List.length_reverse];exact zqeq j 10 0 n h
theorem zq0w (n j : Nat) (h0 : 1 <= n) (h : j < n) (i : Nat) (hi : i < (zqac n j).length) :
  ∃ up b v, (zqdy n j)[i + 1]? = some up /\ (zqdy n j)[i]? = some b /\ (zqac n j)[i]? = some v /\ 2 <= up.s /\ b.s + v.s = up.s /\ up.has j /\ ¬ v.has j /\ up.f = min b.f v.f /\ 1 <= v.s /\
   ((b = ⟨up.f, zqw up.s⟩ /\ v = ⟨up.f + zqw up.s, up.s - zqw up.s⟩) \/ (b = ⟨up.f + zqw up.s, up.s - zqw up.s⟩ /\ v = ⟨up.f, zqw up.s⟩)) := by
 have hl := zqdm n j;unfold zqac at hi;rw [List.length_reverse] at hi;have hl2 : (zqdf 0 n j).length = (zqbu 0 n j).length + 1 := zqeu j 0 n;obtain ⟨v, hv⟩ : ∃ v, (zqbu 0 n j)[(zqbu 0 n j).length - 1 - i]? = some v := ⟨_, List.getElem?_eq_getElem (by omega)⟩
 obtain ⟨a, b, e1, e2, e3, e4, e5, e6, e7, hk, ha⟩ := zqv6 j 0 n h0 (Nat.zero_le _) (by omega) _ v hv;refine ⟨a, b, v, ?_, ?_, ?_, ha, e3.symm, e5, e6, e4, e7, ?_⟩
 ·unfold zqdy
  rw [List.getElem?_reverse (by omega), <- e1]
  congr 1; omega
 ·unfold zqdy
  rw [List.getElem?_reverse (by omega), <- e2]
  congr 1; omega
 ·unfold zqac
  rw [List.getElem?_reverse (by omega), <- hv]
 ·cases a; cases b; cases v
  simp only [Nd.mk.injEq] at *
  rcases hk with ⟨k1, k2, k3⟩ | ⟨k1, k2, k3⟩
  ·left; omega
  ·right; omega
theorem zqwy (n j : Nat) (h0 : 1 <= n) (h : j < n) : (zqdy n j)[0]? = some ⟨j, 1⟩ := by
 unfold zqdy;have := zqzm j 0 n h0 (Nat.zero_le _) (by omega);rw [List.getLast?_eq_getElem?] at this;have hl := zqeu j 0 n;rw [List.getElem?_reverse (by omega), <- this]
 rfl
theorem zqp2 (n j : Nat) : (zqdy n j)[(zqac n j).length]? = some ⟨0, n⟩ := by
 obtain ⟨l, e⟩ := zqgs j 0 n;have hl := zqeu j 0 n;unfold zqdy zqac;rw [List.length_reverse, List.getElem?_reverse (by omega), e];have : (zqdf 0 n j).length - 1 - (zqbu 0 n j).length = 0 := by omega
 rw [e] at this;rw [this]; rfl
theorem zqq1 (n j k : Nat) (h0 : 1 <= n) (h : j < n) (hk : k < n) : zqmm (zqac n j) k + (if k = j then 1 else 0) = 1 := by
 have := zqtp j k 0 n h0 (Nat.zero_le _) (by omega) (Nat.zero_le _) (by omega);unfold zqmm zqac at *;rw [List.filter_reverse, List.length_reverse];exact this
end Go.Proofs.YtfglcifnjaknnaaGreatDoor
namespace Go.Proofs.YtfglcifnjaknnaaGreatDoor
open Go.RowKit Go.Lib
def ndsL (l : List Nd) : List Value := l.flatMap fun v => [.int .i64 v.f, .int .i64 v.s]
theorem zqhu (l m : List Nd) : ndsL (l ++ m) = ndsL l ++ ndsL m := by simp [ndsL]
theorem zqoo (v : Nd) : ndsL [v] = [.int .i64 v.f, .int .i64 v.s] := by simp [ndsL]
theorem zqlq (v : Nd) (l : List Nd) : ndsL (v :: l) = .int .i64 v.f :: .int .i64 v.s :: ndsL l := by simp [ndsL]
theorem zqor : ∀ (l : List Nd) (i : Nat) (v : Nd), l[i]? = some v -> (ndsL l)[2 * i]? = some (.int .i64 v.f) /\ (ndsL l)[2 * i + 1]? = some (.int .i64 v.s)
 | [], i, v, h => by simp at h
 | u :: l, 0, v, h => by
  simp at h; subst h
  rw [zqlq]; exact ⟨rfl, rfl⟩
 | u :: l, i + 1, v, h => by
  rw [zqlq, show 2 * (i + 1) = 2 * i + 1 + 1 by omega];exact zqor l i v (by simpa using h)
def NdsAt (w : World) (oa : Option Addr) (l : List Nd) : Prop :=
 l = [] \/ ∃ g o, oa = some ⟨g, o, none⟩ /\ g < w.heap.size /\ ∀ i v, l[i]? = some v -> cellOf (zqe w g) (o + 2 * i) = some (.int .i64 v.f) /\ cellOf (zqe w g) (o + 2 * i + 1) = some (.int .i64 v.s)
theorem NdsAt.later {w w' : World} {oa : Option Addr} {l : List Nd} (h : NdsAt w oa l) (hb : Below w.heap.size w w') : NdsAt w' oa l := by
 rcases h with h | ⟨g, o, e, hg, hl⟩
 ·exact .inl h
 ·refine .inr ⟨g, o, e, Nat.lt_of_lt_of_le hg hb.size, fun i v hv => ?_⟩
  rw [show zqe w' g = zqe w g from hb.block g hg];exact hl i v hv
end Go.Proofs.YtfglcifnjaknnaaGreatDoor
namespace Go.Proofs.YtfglcifnjaknnaaGreatDoor
open Go.RowKit
def zqa6 (x z : Nat -> Int) : Nat -> Int := fun i => if i < 32 then x i else z (i - 32)
theorem zqp7 (f : Nat -> Int) : zqa6 f (fun i => f (i + 32)) = f := by
 funext i
 unfold zqa6
 split
 ·rfl
 ·show f (i - 32 + 32) = f i
  rw [show i - 32 + 32 = i by omega]
@[go_sem ↓ high] theorem zrct (ρ : Operand -> Value) (d : Option Tmp) (x : Operand) (t : TypeId) (pos : String) (af : Array Edge) (g : Option (Nat × Bool)) :
  execOp ρ ⟨d, .load 306 x, t, pos, af, g⟩ = zqah 306 (ρ x) := zqn3 _ ρ d x t pos af g
@[go_sem high] theorem zrb8 (ρ : Operand -> Value) (d : Option Tmp) (x : Operand) (t : TypeId) (pos : String) (af : Array Edge) (g : Option (Nat × Bool)) :
  execOp ρ ⟨d, .load 306 x, t, pos, af, g⟩ = zqah 306 (ρ x) := zqn3 _ ρ d x t pos af g
@[go_sem] theorem zqob (g : Nat) (w : World) : (zqah 306 (.pointer (some ⟨g, 0, none⟩))).run Tryz.prog w = (zqcw Tryz.prog 306 g 64 w (zqe w g)).andThen fun v w' => .ok (.value v) w' := by
 rw [zqz, zqaw Tryz.underlying306 rfl zqb g w]
@[go_sem] theorem zq6i (g : Nat) (w : World) (cs : Array Value) (t' : TypeId) (fr : Nat × Nat) (h : cs.size = 64) : zqcw Tryz.prog 306 g 64 w (some (.cells cs t' fr)) = .ok (.agg cs) w := zqj9 cs t' fr h
@[go_sem] theorem zrim : szT 306 = 64 := by kernel_rfl
@[go_sem] theorem zrj8 : StP 306 64 := ⟨fun g cs w => by rw [zq6, zqar zqb g cs w]⟩
@[go_sem high] theorem zrbk (w : World) : (zeroValue 306).run Tryz.prog w = .ok (.agg (ints .u8 64 (zqa6 zqd zqd))) w := by kernel_rfl
@[go_sem ↓ high] theorem zqa5 (w : World) : (zeroValue 306).run Tryz.prog w = .ok (.agg (ints .u8 64 (zqa6 zqd zqd))) w := by kernel_rfl
theorem zqwh (x z : Nat -> Int) : (ints .u8 64 (zqa6 x z)).extract 0 32 = ints .u8 32 x := by kernel_rfl
theorem zqwx (x z : Nat -> Int) : (ints .u8 64 (zqa6 x z)).extract 32 (32 + 32) = ints .u8 32 z := by kernel_rfl
theorem zrdv (x z a : Nat -> Int) : zqbs (ints .u8 64 (zqa6 x z)) 0 (ints .u8 32 a).toList = ints .u8 64 (zqa6 a z) := by kernel_rfl
theorem zrgn (x z a : Nat -> Int) : zqbs (ints .u8 64 (zqa6 x z)) 32 (ints .u8 32 a).toList = ints .u8 64 (zqa6 x a) := by kernel_rfl
@[go_sem] theorem zq9y (g : Nat) (w : World) (x z : Nat -> Int) (t' : TypeId) (fr : Nat × Nat) : zqcw Tryz.prog 29 g 32 w (some (.cells (ints .u8 64 (zqa6 x z)) t' fr)) = .ok (.agg (ints .u8 32 x)) w := by
 unfold zqcw
 simp only [zqi]
 rw [if_neg (by decide), if_pos (by decide), zqwh]
@[go_sem] theorem zq8h (g : Nat) (w : World) (x z a : Nat -> Int) (t' : TypeId) : zqdl Tryz.prog 29 g 32 (.agg (ints .u8 32 a)) w (some (.cells (ints .u8 64 (zqa6 x z)) t' (0, 0))) = .ok () (w.setRow g (ints .u8 64 (zqa6 a z))) := by
 unfold zqdl
 simp only [zqi]
 rw [if_neg (fun h => absurd h.1 (by decide)), if_pos ⟨by decide, by trivial, zqc7 _ _ _⟩, zrdv]
@[go_sem] theorem zq8b (g : Nat) (w : World) : (zqah 29 (.pointer (some ⟨g, 32, none⟩))).run Tryz.prog w = (zqak Tryz.prog 29 g 32 32 w (zqe w g)).andThen fun v w' => .ok (.value v) w' := by
 rw [zqz, zqb3 Tryz.underlying29 rfl zqb g 32 w]
@[go_sem] theorem zq85 (g : Nat) (w : World) (x z : Nat -> Int) (t' : TypeId) (fr : Nat × Nat) : zqak Tryz.prog 29 g 32 32 w (some (.cells (ints .u8 64 (zqa6 x z)) t' fr)) = .ok (.agg (ints .u8 32 z)) w := by
 unfold zqak
 simp only [zqi]
 rw [if_pos (by decide), zqwx]
@[go_sem] theorem zq37 (g : Nat) (cs : Array Value) (w : World) : (zqb7 29 (.pointer (some ⟨g, 32, none⟩)) (.agg cs)).run Tryz.prog w = (zqbo Tryz.prog 29 g 32 32 (.agg cs) w (zqe w g)).andThen fun _ w' => .ok .skip w' := by
 rw [zq6, zqdk zqb g 32 cs w]
@[go_sem] theorem zq7s (g : Nat) (w : World) (x z a : Nat -> Int) (t' : TypeId) : zqbo Tryz.prog 29 g 32 32 (.agg (ints .u8 32 a)) w (some (.cells (ints .u8 64 (zqa6 x z)) t' (0, 0))) = .ok () (w.setRow g (ints .u8 64 (zqa6 x a))) := by
 unfold zqbo
 simp only [zqi]
 rw [if_pos ⟨by decide, by trivial, zqc7 _ _ _⟩, zrgn]
@[go_sem] theorem zq8g (x z : Nat -> Int) (w : World) : (Instr.field 306 (.agg (ints .u8 64 (zqa6 x z))) 0).run Tryz.prog w = .ok (.agg (ints .u8 32 x)) w := by kernel_rfl
@[go_sem] theorem zq8d (x z : Nat -> Int) (w : World) : (Instr.field 306 (.agg (ints .u8 64 (zqa6 x z))) 1).run Tryz.prog w = .ok (.agg (ints .u8 32 z)) w := by kernel_rfl
def zqff (x z : Value) : Sem Next := do pure (.value (<- Instr.build 306 #[(0, x), (1, z)]))
def zqg5 (x : Value) : Sem Next := do pure (.value (<- Instr.build 306 #[(0, x)]))
@[go_sem ↓ high] theorem zrgx (ρ : Operand -> Value) (d : Option Tmp) (x y : Operand) (t : TypeId) (pos : String) (af : Array Edge) (g : Option (Nat × Bool)) :
  execOp ρ ⟨d, .build 306 #[(0, x), (1, y)], t, pos, af, g⟩ = zqff (ρ x) (ρ y) := by simp [execOp, zqff]
@[go_sem high] theorem zrdm (ρ : Operand -> Value) (d : Option Tmp) (x y : Operand) (t : TypeId) (pos : String) (af : Array Edge) (g : Option (Nat × Bool)) :
  execOp ρ ⟨d, .build 306 #[(0, x), (1, y)], t, pos, af, g⟩ = zqff (ρ x) (ρ y) := by simp [execOp, zqff]
@[go_sem ↓ high] theorem zrep (ρ : Operand -> Value) (d : Option Tmp) (x : Operand) (t : TypeId) (pos : String) (af : Array Edge) (g : Option (Nat × Bool)) :
  execOp ρ ⟨d, .build 306 #[(0, x)], t, pos, af, g⟩ = zqg5 (ρ x) := by simp [execOp, zqg5]
@[go_sem high] theorem zrc6 (ρ : Operand -> Value) (d : Option Tmp) (x : Operand) (t : TypeId) (pos : String) (af : Array Edge) (g : Option (Nat × Bool)) :
  execOp ρ ⟨d, .build 306 #[(0, x)], t, pos, af, g⟩ = zqg5 (ρ x) := by simp [execOp, zqg5]
@[go_sem] theorem zrga (x z : Nat -> Int) (w : World) : (zqff (.agg (ints .u8 32 x)) (.agg (ints .u8 32 z))).run Tryz.prog w = .ok (.value (.agg (ints .u8 64 (zqa6 x z)))) w := by kernel_rfl
@[go_sem] theorem zrch (x : Nat -> Int) (w : World) : (zqg5 (.agg (ints .u8 32 x))).run Tryz.prog w = .ok (.value (.agg (ints .u8 64 (zqa6 x zqd)))) w := by kernel_rfl
attribute [irreducible] zqff zqg5
end Go.Proofs.YtfglcifnjaknnaaGreatDoor
