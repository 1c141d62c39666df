/- Nds -/
import Derived.Test.YtnjghcnhcbobhaaGreatDoorOw
import Derived.Test.YtnjghcnhcbobhaaGreatDoorBase
import Derived.Test.YtnjghcnhcbobhaaGreatDoorMem
namespace Go.Proofs.YtnjghcnhcbobhaaGreatDoor
open Go.RowKit Go.Lib
set_option linter.unusedVariables false
set_option linter.unusedSimpArgs false
theorem own_nextS {w W w' : World} {base : Nat} {e : TypeId} {size : Nat} {v : Value} {n : Nat} {xs : List Value} (own : W.ownsRow base e size v n xs) (hg : W.grownBy w' v.ownBlock) (hG : Below w.heap.size w W) (hwb : w.heap.size ≤ base) :
  Below w.heap.size w w' ∧ ∀ m o, m < base → objAt W m = some o → objAt w' m = some o := by
 refine ⟨hG.grown hg hG.size (fun k hk => ?_), fun m o hm hob => ?_⟩
 ·have := (own.lt k hk).1; omega
 ·have hlt := lt_of_objAt hob
  refine (hg.block m hlt fun e => ?_).trans hob
  have := (own.lt m e.symm).1
  omega
section
variable {ops : Array Oper} {o : Oper} {a : Act} {K : Act → World → Prop} {Q : Exit → Act → World → Prop} {E : Prop}
theorem step_part {t e : TypeId} {i : TypeInfo} {z : Value} (size bytes : Nat) (ht : Tryz.prog.underlying t = some (.slice e)) (hi : Tryz.prog.info? e = some i) (hz : i.zero = some z) (hsize : i.size = size) (hby : i.bytes = bytes) (hzs : z.cells.size = size) (hsz : 0 < size) (hb8 : bytes ≤ 4096)
  (hgd : o.guard = none) (s x : Operand) (ho : o.op = .call { callee := .builtin .append, args := #[s, x], argTypes := #[t, t] })
  (w W : World) (base : Nat) (v : Value) (n : Nat) (xs : List Value) (ad : Addr) (m c : Nat) (news : List Value) (hs : a.eval s = v) (hx : a.eval x = .slice (some ad) m c) (own : W.ownsRow base e size v n xs) (hn : n + m ≤ 1073741824) (hm : 0 < m)
  (hl : news.length = m * size) (hnews : ∀ j u, news[j]? = some u → W.cell? (ad.add j) = some u) (h1 : ∀ u ∈ news, u.oneCell' = true) (hG : Below w.heap.size w W) (hwb : w.heap.size ≤ base) (hbW : base ≤ W.heap.size)
  (h : ∀ g cap w', w'.ownsRow base e size (.slice (some ⟨g, 0, none⟩) (n + m) cap) (n + m) (xs ++ news) → Below w.heap.size w w' → (∀ m ob, m < base → objAt W m = some ob → objAt w' m = some ob) → base ≤ g → K (a.put o.dst (.slice (some ⟨g, 0, none⟩) (n + m) cap)) w') :
  if Region.wanted o (yielded ops a.tmps) = true then Oper.wp Tryz.prog o a W K Q else E := by
 have hbn : (n + m) * bytes ≤ 140737488355328 := Nat.le_trans (Nat.mul_le_mul hn hb8) (by decide)
 refine step_append_lies (P := Tryz.prog) (w := W) hgd s x t ho base e i z size bytes ht hi hz hsize hby hzs hsz v n xs hs own ad m c news hx hl hnews h1 hm (by unfold maxLen; omega) hbn hbW W.heap.size rfl (fun g cap w' ho' hg _ _ => ?_)
 obtain ⟨h1, h2⟩ := own_nextS own hg hG hwb
 exact h g cap w' ho' h1 h2 (ho'.lt g rfl).1
theorem step_cells {t e : TypeId} {i : TypeInfo} {z : Value} (size bytes : Nat) (ht : Tryz.prog.underlying t = some (.slice e)) (hi : Tryz.prog.info? e = some i) (hz : i.zero = some z) (hsize : i.size = size) (hby : i.bytes = bytes) (hzs : z.cells.size = size) (hsz : 0 < size) (hb8 : bytes ≤ 4096)
  (hgd : o.guard = none) (s x : Operand) (ho : o.op = .call { callee := .builtin .append, args := #[s, x], argTypes := #[t, t] })
  (w W : World) (base : Nat) (v : Value) (n : Nat) (xs : List Value) (cs : Array Value) (g2 : Nat) (t2 : TypeId) (fr : Nat × Nat) (hs : a.eval s = v) (hx : a.eval x = .slice (some ⟨g2, 0, none⟩) 1 1) (own : W.ownsRow base e size v n xs) (hn : n ≤ 1048576)
  (hg2 : objAt W g2 = some (.cells cs t2 fr)) (hcs : cs.size = size) (h1 : ∀ u ∈ cs.toList, u.oneCell' = true) (hG : Below w.heap.size w W) (hwb : w.heap.size ≤ base) (hbW : base ≤ W.heap.size)
  (h : ∀ g cap w', w'.ownsRow base e size (.slice (some ⟨g, 0, none⟩) (n + 1) cap) (n + 1) (xs ++ cs.toList) → Below w.heap.size w w' → (∀ m ob, m < base → objAt W m = some ob → objAt w' m = some ob) → base ≤ g → K (a.put o.dst (.slice (some ⟨g, 0, none⟩) (n + 1) cap)) w') :
  if Region.wanted o (yielded ops a.tmps) = true then Oper.wp Tryz.prog o a W K Q else E :=
 step_part size bytes ht hi hz hsize hby hzs hsz hb8 hgd s x ho w W base v n xs ⟨g2, 0, none⟩ 1 1 cs.toList hs hx own (by omega) (by decide) (by rw [Array.length_toList, hcs, Nat.one_mul])
  (fun j u hu => by
   unfold objAt at hg2
   have ha : ((⟨g2, 0, none⟩ : Addr).add j) = ⟨g2, j, none⟩ := by unfold Addr.add; split <;> simp_all
   rw [ha, cell_of_row W g2 j _ _ _ hg2]
   simpa using hu) h1 hG hwb hbW h
end
theorem own_cell {w : World} {base g n c size : Nat} {xs : List Value} {t : TypeId} (h : w.ownsRow base t size (.slice (some ⟨g, 0, none⟩) n c) n xs) (i : Nat) (u : Value) (hu : xs[i]? = some u) : g < w.heap.size ∧ ∀ w', Below w.heap.size w w' → w'.cell? ⟨g, i, none⟩ = some u := by
 rcases h.2 with ⟨h0, _⟩ | ⟨g', cap, cur, h0, hb, hg, hnc, hcm, hcs, htake⟩
 ·cases h0
 ·cases h0
  have hlt : g < w.heap.size := lt_of_objAt (show objAt w g = _ from hg)
  refine ⟨hlt, fun w' hb' => ?_⟩
  have h' := keep_below hb' (show objAt w g = _ from hg)
  rw [cell_of_row w' g i _ _ _ h']
  have h2 : i < n * size := by
   rcases Nat.lt_or_ge i (n * size) with h2 | h2
   ·exact h2
   ·rw [← htake, List.getElem?_take, if_neg (by omega)] at hu; cases hu
  rw [← htake, List.getElem?_take, if_pos h2] at hu
  simpa using hu
end Go.Proofs.YtnjghcnhcbobhaaGreatDoor
namespace Go.Proofs.YtnjghcnhcbobhaaGreatDoor
set_option linter.unusedVariables false
set_option linter.unusedSimpArgs false
def leftN (n : Nat) : Nat := if n < 2 then 0 else 2 ^ Nat.log2 (n - 1)
theorem left_bd {n : Nat} (h : 2 ≤ n) : 0 < leftN n ∧ leftN n < n ∧ n ≤ 2 * leftN n := by
 unfold leftN
 rw [if_neg (by omega)]
 have h1 : 2 ^ Nat.log2 (n - 1) ≤ n - 1 := Nat.log2_self_le (by omega)
 have h2 : n - 1 < 2 ^ (Nat.log2 (n - 1) + 1) := Nat.lt_log2_self
 rw [Nat.pow_succ] at h2
 exact ⟨Nat.two_pow_pos _, by omega, by omega⟩
theorem left_half {n d : Nat} (h : 2 ≤ n) (hd : n ≤ 2 ^ (d + 1)) : leftN n ≤ 2 ^ d ∧ n - leftN n ≤ 2 ^ d := by
 have hb := left_bd h
 have e : leftN n = 2 ^ Nat.log2 (n - 1) := by unfold leftN; rw [if_neg (by omega)]
 have h1 : Nat.log2 (n - 1) ≤ d := by
  have h3 : 2 ^ Nat.log2 (n - 1) < 2 ^ (d + 1) := by omega
  have := (Nat.pow_lt_pow_iff_right (a := 2) (by decide)).1 h3
  omega
 have h4 : leftN n ≤ 2 ^ d := by rw [e]; exact Nat.pow_le_pow_right (by decide) h1
 omega
structure Nd where
 f : Nat
 s : Nat
def Nd.has (v : Nd) (j : Nat) : Prop := v.f ≤ j ∧ j < v.f + v.s
instance (v : Nd) (j : Nat) : Decidable (v.has j) := by unfold Nd.has; infer_instance
theorem has_iff (v : Nd) (j : Nat) : decide (v.has j) = true ↔ v.f ≤ j ∧ j < v.f + v.s := by rw [decide_eq_true_eq]; exact Iff.rfl
theorem has_mk (f s j : Nat) : decide ((⟨f, s⟩ : Nd).has j) = true ↔ f ≤ j ∧ j < f + s := has_iff _ _
theorem filt_pos {f s j : Nat} {l : List Nd} (h : f ≤ j ∧ j < f + s) : (⟨f, s⟩ :: l : List Nd).filter (fun v => decide (v.has j)) = ⟨f, s⟩ :: l.filter (fun v => decide (v.has j)) := List.filter_cons_of_pos (p := fun v : Nd => decide (v.has j)) ((has_mk _ _ _).2 h)
theorem filt_neg {f s j : Nat} {l : List Nd} (h : ¬ (f ≤ j ∧ j < f + s)) : (⟨f, s⟩ :: l : List Nd).filter (fun v => decide (v.has j)) = l.filter (fun v => decide (v.has j)) := List.filter_cons_of_neg (p := fun v : Nd => decide (v.has j)) (fun hh => h ((has_mk _ _ _).1 hh))
def belowN (f s : Nat) : List Nd := if h : s < 2 then [⟨f, s⟩] else
 have := left_bd (n := s) (by omega)
 ⟨f, s⟩ :: (belowN f (leftN s) ++ belowN (f + leftN s) (s - leftN s))
termination_by s
def downN (f s j : Nat) : List Nd := if h : s < 2 then [⟨f, s⟩] else
 have := left_bd (n := s) (by omega)
 ⟨f, s⟩ :: (if j < f + leftN s then downN f (leftN s) j else downN (f + leftN s) (s - leftN s) j)
termination_by s
def asideN (f s j : Nat) : List Nd := if h : s < 2 then [] else
 have := left_bd (n := s) (by omega)
 if j < f + leftN s then ⟨f + leftN s, s - leftN s⟩ :: asideN f (leftN s) j else ⟨f, leftN s⟩ :: asideN (f + leftN s) (s - leftN s) j
termination_by s
theorem belowN_one {f s : Nat} (h : s < 2) : belowN f s = [⟨f, s⟩] := by rw [belowN, dif_pos h]
theorem belowN_more {f s : Nat} (h : 2 ≤ s) : belowN f s = ⟨f, s⟩ :: (belowN f (leftN s) ++ belowN (f + leftN s) (s - leftN s)) := by rw [belowN, dif_neg (by omega)]
theorem down_one {f s j : Nat} (h : s < 2) : downN f s j = [⟨f, s⟩] := by rw [downN, dif_pos h]
theorem down_left {f s j : Nat} (h : 2 ≤ s) (hj : j < f + leftN s) : downN f s j = ⟨f, s⟩ :: downN f (leftN s) j := by rw [downN, dif_neg (by omega)]; simp only [hj, if_true]
theorem down_right {f s j : Nat} (h : 2 ≤ s) (hj : ¬ j < f + leftN s) : downN f s j = ⟨f, s⟩ :: downN (f + leftN s) (s - leftN s) j := by rw [downN, dif_neg (by omega)]; simp only [hj, if_false]
theorem aside_one {f s j : Nat} (h : s < 2) : asideN f s j = [] := by rw [asideN, dif_pos h]
theorem aside_left {f s j : Nat} (h : 2 ≤ s) (hj : j < f + leftN s) : asideN f s j = ⟨f + leftN s, s - leftN s⟩ :: asideN f (leftN s) j := by rw [asideN, dif_neg (by omega)]; simp only [hj, if_true]
theorem aside_right {f s j : Nat} (h : 2 ≤ s) (hj : ¬ j < f + leftN s) : asideN f s j = ⟨f, leftN s⟩ :: asideN (f + leftN s) (s - leftN s) j := by rw [asideN, dif_neg (by omega)]; simp only [hj, if_false]
theorem byHalves {P : Nat → Nat → Prop} (h1 : ∀ f s, s < 2 → P f s) (h2 : ∀ f s, 2 ≤ s → P f (leftN s) → P (f + leftN s) (s - leftN s) → P f s) (f s : Nat) : P f s := by
 induction s using Nat.strongRecOn generalizing f with
 | _ s ih =>
  by_cases h : s < 2
  ·exact h1 f s h
  ·have hb := left_bd (n := s) (by omega)
   exact h2 f s (by omega) (ih _ (by omega) f) (ih _ (by omega) _)
theorem below_length (f s : Nat) : 1 ≤ s → (belowN f s).length = 2 * s - 1 := by
 refine byHalves (P := fun f s => 1 ≤ s → (belowN f s).length = 2 * s - 1) (fun f s h h0 => ?_) (fun f s h i1 i2 h0 => ?_) f s
 ·rw [belowN_one h]; simp; omega
 ·have hb := left_bd h
  rw [belowN_more h, List.length_cons, List.length_append, i1 (by omega), i2 (by omega)]
  omega
theorem below_in (f s : Nat) : ∀ v ∈ belowN f s, f ≤ v.f ∧ v.f + v.s ≤ f + s ∧ v.s ≤ s ∧ (1 ≤ s → 1 ≤ v.s) := by
 refine byHalves (P := fun f s => ∀ v ∈ belowN f s, f ≤ v.f ∧ v.f + v.s ≤ f + s ∧ v.s ≤ s ∧ (1 ≤ s → 1 ≤ v.s)) (fun f s h v hv => ?_) (fun f s h i1 i2 v hv => ?_) f s
 ·rw [belowN_one h, List.mem_singleton] at hv
  subst hv; simp
 ·have hb := left_bd h
  rw [belowN_more h, List.mem_cons, List.mem_append] at hv
  rcases hv with rfl | hv | hv
  ·simp
  ·have := i1 v hv; omega
  ·have := i2 v hv; omega
theorem below_nodup (f s : Nat) : 1 ≤ s → (belowN f s).Nodup := by
 refine byHalves (P := fun f s => 1 ≤ s → (belowN f s).Nodup) (fun f s h h0 => ?_) (fun f s h i1 i2 h0 => ?_) f s
 ·rw [belowN_one h]; simp
 ·have hb := left_bd h
  rw [belowN_more h, List.nodup_cons, List.nodup_append]
  refine ⟨fun hm => ?_, i1 (by omega), i2 (by omega), fun a ha b hb' e => ?_⟩
  ·rcases List.mem_append.1 hm with hm | hm
   ·have := below_in _ _ _ hm; simp at this; omega
   ·have := below_in _ _ _ hm; simp at this; omega
  ·subst e
   have h1 := below_in _ _ _ ha
   have h2 := below_in _ _ _ hb'
   have h3 := h1.2.2.2 (by omega)
   omega
theorem below_none (f s j : Nat) (h : ¬ (f ≤ j ∧ j < f + s)) : (belowN f s).filter (fun v => decide (v.has j)) = [] := by
 rw [List.filter_eq_nil_iff]
 intro v hv
 have := below_in f s v hv
 intro hh
 have := (has_iff _ _).1 hh
 omega
theorem below_down (j : Nat) (f s : Nat) : 1 ≤ s → f ≤ j → j < f + s → (belowN f s).filter (fun v => decide (v.has j)) = downN f s j := by
 refine byHalves (P := fun f s => 1 ≤ s → f ≤ j → j < f + s → (belowN f s).filter (fun v => decide (v.has j)) = downN f s j) (fun f s h h0 h1 h2 => ?_) (fun f s h i1 i2 h0 h1 h2 => ?_) f s
 ·rw [belowN_one h, down_one h, filt_pos ⟨h1, h2⟩, List.filter_nil]
 ·have hb := left_bd h
  rw [belowN_more h, filt_pos (by omega), List.filter_append]
  by_cases hj : j < f + leftN s
  ·rw [down_left h hj, i1 (by omega) h1 hj, below_none _ _ _ (by omega), List.append_nil]
  ·rw [down_right h hj, i2 (by omega) (by omega) (by omega), below_none _ _ _ (by omega), List.nil_append]
theorem down_length (j f s : Nat) : (downN f s j).length = (asideN f s j).length + 1 := by
 refine byHalves (P := fun f s => (downN f s j).length = (asideN f s j).length + 1) (fun f s h => ?_) (fun f s h i1 i2 => ?_) f s
 ·rw [down_one h, aside_one h]; rfl
 ·by_cases hj : j < f + leftN s
  ·rw [down_left h hj, aside_left h hj, List.length_cons, List.length_cons, i1]
  ·rw [down_right h hj, aside_right h hj, List.length_cons, List.length_cons, i2]
theorem aside_depth (j : Nat) : ∀ d f s, s ≤ 2 ^ d → (asideN f s j).length ≤ d
 | 0, f, s, h => by rw [aside_one (by omega)]; simp
 | d + 1, f, s, h => by
  by_cases h2 : s < 2
  ·rw [aside_one h2]; simp
  ·have hb := left_half (n := s) (by omega) h
   by_cases hj : j < f + leftN s
   ·rw [aside_left (by omega) hj, List.length_cons]; have := aside_depth j d f _ hb.1; omega
   ·rw [aside_right (by omega) hj, List.length_cons]; have := aside_depth j d (f + leftN s) _ hb.2; omega
theorem down_head (j f s : Nat) : ∃ l, downN f s j = ⟨f, s⟩ :: l := by
 by_cases h : s < 2
 ·exact ⟨[], down_one h⟩
 ·by_cases hj : j < f + leftN s
  ·exact ⟨_, down_left (by omega) hj⟩
  ·exact ⟨_, down_right (by omega) hj⟩
theorem down_last (j f s : Nat) : 1 ≤ s → f ≤ j → j < f + s → (downN f s j).getLast? = some ⟨j, 1⟩ := by
 refine byHalves (P := fun f s => 1 ≤ s → f ≤ j → j < f + s → (downN f s j).getLast? = some ⟨j, 1⟩) (fun f s h h0 h1 h2 => ?_) (fun f s h i1 i2 h0 h1 h2 => ?_) f s
 ·rw [down_one h]
  obtain rfl : s = 1 := by omega
  obtain rfl : f = j := by omega
  rfl
 ·have hb := left_bd h
  by_cases hj : j < f + leftN s
  ·rw [down_left h hj]
   obtain ⟨l, e⟩ := down_head j f (leftN s)
   have := i1 (by omega) h1 hj
   rw [e] at this ⊢
   exact this
  ·rw [down_right h hj]
   obtain ⟨l, e⟩ := down_head j (f + leftN s) (s - leftN s)
   have := i2 (by omega) (by omega) (by omega)
   rw [e] at this ⊢
   exact this
theorem down_steps (j f s : Nat) : 1 ≤ s → f ≤ j → j < f + s → ∀ i v, (asideN f s j)[i]? = some v → ∃ a b, (downN f s j)[i]? = some a ∧ (downN f s j)[i + 1]? = some b ∧ a.s = b.s + v.s ∧ a.f = min b.f v.f ∧ a.has j ∧ ¬ v.has j ∧ 1 ≤ v.s ∧ ((b.f = a.f ∧ b.s = leftN a.s ∧ v.f = a.f + leftN a.s) ∨ (v.f = a.f ∧ v.s = leftN a.s ∧ b.f = a.f + leftN a.s)) ∧ 2 ≤ a.s := by
 refine byHalves (P := fun f s => 1 ≤ s → f ≤ j → j < f + s → ∀ i v, (asideN f s j)[i]? = some v → ∃ a b, (downN f s j)[i]? = some a ∧ (downN f s j)[i + 1]? = some b ∧ a.s = b.s + v.s ∧ a.f = min b.f v.f ∧ a.has j ∧ ¬ v.has j ∧ 1 ≤ v.s ∧ ((b.f = a.f ∧ b.s = leftN a.s ∧ v.f = a.f + leftN a.s) ∨ (v.f = a.f ∧ v.s = leftN a.s ∧ b.f = a.f + leftN a.s)) ∧ 2 ≤ a.s) (fun f s h h0 h1 h2 i v hv => ?_) (fun f s h i1 i2 h0 h1 h2 i v hv => ?_) f s
 ·rw [aside_one h] at hv; cases hv
 ·have hb := left_bd h
  by_cases hj : j < f + leftN s
  ·rw [aside_left h hj] at hv
   rw [down_left h hj]
   cases i with
   | zero =>
    obtain ⟨l, e⟩ := down_head j f (leftN s)
    rw [e]
    simp only [List.getElem?_cons_zero, Option.some.injEq] at hv
    subst hv
    exact ⟨⟨f, s⟩, ⟨f, leftN s⟩, rfl, rfl, by simp; omega, by simp; try omega, ⟨h1, h2⟩, fun hh => by have := (has_mk _ _ _).1 (decide_eq_true hh); omega, by simp; omega, .inl ⟨rfl, rfl, rfl⟩, h⟩
   | succ i =>
    rw [List.getElem?_cons_succ] at hv
    exact i1 (by omega) h1 hj i v hv
  ·rw [aside_right h hj] at hv
   rw [down_right h hj]
   cases i with
   | zero =>
    obtain ⟨l, e⟩ := down_head j (f + leftN s) (s - leftN s)
    rw [e]
    simp only [List.getElem?_cons_zero, Option.some.injEq] at hv
    subst hv
    exact ⟨⟨f, s⟩, ⟨f + leftN s, s - leftN s⟩, rfl, rfl, by simp; omega, by simp; try omega, ⟨h1, h2⟩, fun hh => by have := (has_mk _ _ _).1 (decide_eq_true hh); omega, by simp; omega, .inr ⟨rfl, rfl, rfl⟩, h⟩
   | succ i =>
    rw [List.getElem?_cons_succ] at hv
    exact i2 (by omega) (by omega) (by omega) i v hv
def hitsN (l : List Nd) (k : Nat) : Nat := (l.filter fun v => decide (v.has k)).length
theorem aside_cover (j k f s : Nat) : 1 ≤ s → f ≤ j → j < f + s → f ≤ k → k < f + s → hitsN (asideN f s j) k + (if k = j then 1 else 0) = 1 := by
 refine byHalves (P := fun f s => 1 ≤ s → f ≤ j → j < f + s → f ≤ k → k < f + s → hitsN (asideN f s j) k + (if k = j then 1 else 0) = 1) (fun f s h h0 h1 h2 h3 h4 => ?_) (fun f s h i1 i2 h0 h1 h2 h3 h4 => ?_) f s
 ·rw [aside_one h, if_pos (by omega)]; rfl
 ·have hb := left_bd h
  have none : ∀ f s : Nat, ¬ (f ≤ k ∧ k < f + s) → f ≤ j → j < f + s → hitsN (asideN f s j) k = 0 := fun f s hk hj1 hj2 => by
   unfold hitsN
   rw [List.length_eq_zero_iff, List.filter_eq_nil_iff]
   intro v hv
   have hin : ∀ f s : Nat, ∀ v ∈ asideN f s j, f ≤ v.f ∧ v.f + v.s ≤ f + s := fun f s => by
    refine byHalves (P := fun f s => ∀ v ∈ asideN f s j, f ≤ v.f ∧ v.f + v.s ≤ f + s) (fun f s h v hv => ?_) (fun f s h i1 i2 v hv => ?_) f s
    ·rw [aside_one h] at hv; cases hv
    ·have hb := left_bd h
     by_cases hj : j < f + leftN s
     ·rw [aside_left h hj, List.mem_cons] at hv
      rcases hv with rfl | hv
      ·simp; omega
      ·have := i1 v hv; omega
     ·rw [aside_right h hj, List.mem_cons] at hv
      rcases hv with rfl | hv
      ·simp; omega
      ·have := i2 v hv; omega
   have := hin f s v hv
   intro hh
   have := (has_iff _ _).1 hh
   omega
  by_cases hj : j < f + leftN s
  ·rw [aside_left h hj]
   by_cases hk : k < f + leftN s
   ·have := i1 (by omega) h1 hj h3 hk
    unfold hitsN at this ⊢
    rw [filt_neg (by omega)]
    exact this
   ·have := none f (leftN s) (by omega) h1 hj
    unfold hitsN at this ⊢
    rw [filt_pos (by omega), List.length_cons, this, if_neg (by omega)]
  ·rw [aside_right h hj]
   by_cases hk : k < f + leftN s
   ·have := none (f + leftN s) (s - leftN s) (by omega) (by omega) (by omega)
    unfold hitsN at this ⊢
    rw [filt_pos (by omega), List.length_cons, this, if_neg (by omega)]
   ·have := i2 (by omega) (by omega) (by omega) (by omega) (by omega)
    unfold hitsN at this ⊢
    rw [filt_neg (by omega)]
    exact this
section
variable {K : Type} (up : K → K → K) (pub : K → K)
def secN (L : Nat → K) (f s : Nat) : K := if h : s < 2 then L f else
 have := left_bd (n := s) (by omega)
 up (secN L f (leftN s)) (pub (secN L (f + leftN s) (s - leftN s)))
termination_by s
theorem sec_one {L : Nat → K} {f s : Nat} (h : s < 2) : secN up pub L f s = L f := by rw [secN, dif_pos h]
theorem sec_more {L : Nat → K} {f s : Nat} (h : 2 ≤ s) : secN up pub L f s = up (secN up pub L f (leftN s)) (pub (secN up pub L (f + leftN s) (s - leftN s))) := by rw [secN, dif_neg (by omega)]
variable (hc : ∀ a b, up a (pub b) = up b (pub a))
include hc
end
theorem left_uniq {n j : Nat} (h1 : 2 ^ j < n) (h2 : n ≤ 2 * 2 ^ j) : leftN n = 2 ^ j := by
 have hp := Nat.two_pow_pos j
 unfold leftN
 rw [if_neg (by omega)]
 congr 1
 rw [Nat.log2_eq_iff (by omega)]
 rw [Nat.pow_succ]
 omega
theorem left_less {n : Nat} (h : n < 2) : leftN n = 0 := by unfold leftN; rw [if_pos h]
def pathN (n j : Nat) : List Nd := (downN 0 n j).reverse
def copathN (n j : Nat) : List Nd := (asideN 0 n j).reverse
theorem path_length (n j : Nat) : (pathN n j).length = (copathN n j).length + 1 := by
 unfold pathN copathN
 rw [List.length_reverse, List.length_reverse, down_length]
theorem path_filter (n j : Nat) (h0 : 1 ≤ n) (h : j < n) : (belowN 0 n).reverse.filter (fun v => decide (v.has j)) = pathN n j := by
 rw [List.filter_reverse, below_down j 0 n h0 (Nat.zero_le _) (by omega)]; rfl
theorem copath_depth (n j : Nat) (h : n ≤ 1024) : (copathN n j).length ≤ 10 := by
 unfold copathN
 rw [List.length_reverse]
 exact aside_depth j 10 0 n h
theorem path_step (n j : Nat) (h0 : 1 ≤ n) (h : j < n) (i : Nat) (hi : i < (copathN n j).length) :
  ∃ up b v, (pathN n j)[i + 1]? = some up ∧ (pathN n j)[i]? = some b ∧ (copathN n j)[i]? = some v ∧ 2 ≤ up.s ∧ b.s + v.s = up.s ∧ up.has j ∧ ¬ v.has j ∧ up.f = min b.f v.f ∧ 1 ≤ v.s ∧
   ((b = ⟨up.f, leftN up.s⟩ ∧ v = ⟨up.f + leftN up.s, up.s - leftN up.s⟩) ∨ (b = ⟨up.f + leftN up.s, up.s - leftN up.s⟩ ∧ v = ⟨up.f, leftN up.s⟩)) := by
 have hl := path_length n j
 unfold copathN at hi
 rw [List.length_reverse] at hi
 have hl2 : (downN 0 n j).length = (asideN 0 n j).length + 1 := down_length j 0 n
 obtain ⟨v, hv⟩ : ∃ v, (asideN 0 n j)[(asideN 0 n j).length - 1 - i]? = some v := ⟨_, List.getElem?_eq_getElem (by omega)⟩
 obtain ⟨a, b, e1, e2, e3, e4, e5, e6, e7, hk, ha⟩ := down_steps j 0 n h0 (Nat.zero_le _) (by omega) _ v hv
 refine ⟨a, b, v, ?_, ?_, ?_, ha, e3.symm, e5, e6, e4, e7, ?_⟩
 ·unfold pathN
  rw [List.getElem?_reverse (by omega), ← e1]
  congr 1; omega
 ·unfold pathN
  rw [List.getElem?_reverse (by omega), ← e2]
  congr 1; omega
 ·unfold copathN
  rw [List.getElem?_reverse (by omega), ← hv]
 ·cases a; cases b; cases v
  simp only [Nd.mk.injEq] at *
  rcases hk with ⟨k1, k2, k3⟩ | ⟨k1, k2, k3⟩
  ·left; omega
  ·right; omega
theorem path_first (n j : Nat) (h0 : 1 ≤ n) (h : j < n) : (pathN n j)[0]? = some ⟨j, 1⟩ := by
 unfold pathN
 have := down_last j 0 n h0 (Nat.zero_le _) (by omega)
 rw [List.getLast?_eq_getElem?] at this
 have hl := down_length j 0 n
 rw [List.getElem?_reverse (by omega), ← this]
 rfl
theorem path_last (n j : Nat) : (pathN n j)[(copathN n j).length]? = some ⟨0, n⟩ := by
 obtain ⟨l, e⟩ := down_head j 0 n
 have hl := down_length j 0 n
 unfold pathN copathN
 rw [List.length_reverse, List.getElem?_reverse (by omega), e]
 have : (downN 0 n j).length - 1 - (asideN 0 n j).length = 0 := by omega
 rw [e] at this
 rw [this]; rfl
theorem copath_cover (n j k : Nat) (h0 : 1 ≤ n) (h : j < n) (hk : k < n) : hitsN (copathN n j) k + (if k = j then 1 else 0) = 1 := by
 have := aside_cover j k 0 n h0 (Nat.zero_le _) (by omega) (Nat.zero_le _) (by omega)
 unfold hitsN copathN at *
 rw [List.filter_reverse, List.length_reverse]
 exact this
end Go.Proofs.YtnjghcnhcbobhaaGreatDoor
namespace Go.Proofs.YtnjghcnhcbobhaaGreatDoor
open Go.RowKit Go.Lib
set_option linter.unusedVariables false
set_option linter.unusedSimpArgs false
def ndsL (l : List Nd) : List Value := l.flatMap fun v => [.int .i64 v.f, .int .i64 v.s]
theorem ndsL_append (l m : List Nd) : ndsL (l ++ m) = ndsL l ++ ndsL m := by simp [ndsL]
theorem ndsL_one (v : Nd) : ndsL [v] = [.int .i64 v.f, .int .i64 v.s] := by simp [ndsL]
theorem ndsL_cons (v : Nd) (l : List Nd) : ndsL (v :: l) = .int .i64 v.f :: .int .i64 v.s :: ndsL l := by simp [ndsL]
theorem ndsL_get : ∀ (l : List Nd) (i : Nat) (v : Nd), l[i]? = some v → (ndsL l)[2 * i]? = some (.int .i64 v.f) ∧ (ndsL l)[2 * i + 1]? = some (.int .i64 v.s)
 | [], i, v, h => by simp at h
 | u :: l, 0, v, h => by
  simp at h; subst h
  rw [ndsL_cons]; exact ⟨rfl, rfl⟩
 | u :: l, i + 1, v, h => by
  rw [ndsL_cons, show 2 * (i + 1) = 2 * i + 1 + 1 by omega]
  exact ndsL_get l i v (by simpa using h)
def NdsAt (w : World) (oa : Option Addr) (l : List Nd) : Prop :=
 l = [] ∨ ∃ g o, oa = some ⟨g, o, none⟩ ∧ g < w.heap.size ∧ ∀ i v, l[i]? = some v → cellOf (objAt w g) (o + 2 * i) = some (.int .i64 v.f) ∧ cellOf (objAt w g) (o + 2 * i + 1) = some (.int .i64 v.s)
theorem NdsAt.later {w w' : World} {oa : Option Addr} {l : List Nd} (h : NdsAt w oa l) (hb : Below w.heap.size w w') : NdsAt w' oa l := by
 rcases h with h | ⟨g, o, e, hg, hl⟩
 ·exact .inl h
 ·refine .inr ⟨g, o, e, Nat.lt_of_lt_of_le hg hb.size, fun i v hv => ?_⟩
  rw [show objAt w' g = objAt w g from hb.block g hg]
  exact hl i v hv
end Go.Proofs.YtnjghcnhcbobhaaGreatDoor
namespace Go.Proofs.YtnjghcnhcbobhaaGreatDoor
open Go.RowKit
set_option linter.unusedVariables false
set_option linter.unusedSimpArgs false
def keysF (x z : Nat → Int) : Nat → Int := fun i => if i < 32 then x i else z (i - 32)
theorem keysF_all (f : Nat → Int) : keysF f (fun i => f (i + 32)) = f := by
 funext i
 unfold keysF
 split
 ·rfl
 ·show f (i - 32 + 32) = f i
  rw [show i - 32 + 32 = i by omega]
@[go_sem ↓ high] theorem load_kpair (ρ : Operand → Value) (d : Option Tmp) (x : Operand) (t : TypeId) (pos : String) (af : Array Edge) (g : Option (Nat × Bool)) :
  execOp ρ ⟨d, .load 276 x, t, pos, af, g⟩ = loadNext 276 (ρ x) := op_load _ ρ d x t pos af g
@[go_sem high] theorem load_kpair' (ρ : Operand → Value) (d : Option Tmp) (x : Operand) (t : TypeId) (pos : String) (af : Array Edge) (g : Option (Nat × Bool)) :
  execOp ρ ⟨d, .load 276 x, t, pos, af, g⟩ = loadNext 276 (ρ x) := op_load _ ρ d x t pos af g
@[go_sem] theorem load_kpair_at (g : Nat) (w : World) : (loadNext 276 (.pointer (some ⟨g, 0, none⟩))).run Tryz.prog w = (loadOf Tryz.prog 276 g 64 w (objAt w g)).andThen fun v w' => .ok (.value v) w' := by
 rw [run_loadNext, loadRow_eq Tryz.underlying276 rfl (by kernel_rfl) g w]
@[go_sem] theorem load_kpair_of (g : Nat) (w : World) (cs : Array Value) (t' : TypeId) (fr : Nat × Nat) (h : cs.size = 64) : loadOf Tryz.prog 276 g 64 w (some (.cells cs t' fr)) = .ok (.agg cs) w := loadOf_cells cs t' fr h
@[go_sem ↓ high] theorem store_kpair (ρ : Operand → Value) (d : Option Tmp) (x y : Operand) (t : TypeId) (pos : String) (af : Array Edge) (g : Option (Nat × Bool)) :
  execOp ρ ⟨d, .store 276 x y, t, pos, af, g⟩ = storeNext 276 (ρ x) (ρ y) := op_store _ ρ d x y t pos af g
@[go_sem high] theorem store_kpair' (ρ : Operand → Value) (d : Option Tmp) (x y : Operand) (t : TypeId) (pos : String) (af : Array Edge) (g : Option (Nat × Bool)) :
  execOp ρ ⟨d, .store 276 x y, t, pos, af, g⟩ = storeNext 276 (ρ x) (ρ y) := op_store _ ρ d x y t pos af g
@[go_sem] theorem store_kpair_at (g : Nat) (cs : Array Value) (w : World) : (storeNext 276 (.pointer (some ⟨g, 0, none⟩)) (.agg cs)).run Tryz.prog w = (storeOf Tryz.prog 276 g 64 (.agg cs) w (objAt w g)).andThen fun _ w' => .ok .skip w' := by
 rw [run_storeNext, storeRow_eq (by kernel_rfl) g cs w]
@[go_sem] theorem store_kpair_of (g : Nat) (w : World) (old cs : Array Value) (t' : TypeId) (h1 : old.size = 64) (h2 : cs.size = 64) (h3 : oneCells cs = true) :
  storeOf Tryz.prog 276 g 64 (.agg cs) w (some (.cells old t' (0, 0))) = .ok () (w.setRow g cs) := storeOf_cells old cs t' h1 h2 h3
@[go_sem high] theorem zero_kpair' (w : World) : (zeroValue 276).run Tryz.prog w = .ok (.agg (ints .u8 64 (keysF nought nought))) w := by kernel_rfl
@[go_sem ↓ high] theorem zero_kpair (w : World) : (zeroValue 276).run Tryz.prog w = .ok (.agg (ints .u8 64 (keysF nought nought))) w := by kernel_rfl
theorem kextract_0 (x z : Nat → Int) : (ints .u8 64 (keysF x z)).extract 0 32 = ints .u8 32 x := by kernel_rfl
theorem kextract_1 (x z : Nat → Int) : (ints .u8 64 (keysF x z)).extract 32 (32 + 32) = ints .u8 32 z := by kernel_rfl
theorem kput_0 (x z a : Nat → Int) : putAll (ints .u8 64 (keysF x z)) 0 (ints .u8 32 a).toList = ints .u8 64 (keysF a z) := by kernel_rfl
theorem kput_1 (x z a : Nat → Int) : putAll (ints .u8 64 (keysF x z)) 32 (ints .u8 32 a).toList = ints .u8 64 (keysF x a) := by kernel_rfl
@[go_sem] theorem load_kpart0 (g : Nat) (w : World) (x z : Nat → Int) (t' : TypeId) (fr : Nat × Nat) : loadOf Tryz.prog 44 g 32 w (some (.cells (ints .u8 64 (keysF x z)) t' fr)) = .ok (.agg (ints .u8 32 x)) w := by
 unfold loadOf
 simp only [ints_size]
 rw [if_neg (by decide), if_pos (by decide), kextract_0]
@[go_sem] theorem store_kpart0 (g : Nat) (w : World) (x z a : Nat → Int) (t' : TypeId) : storeOf Tryz.prog 44 g 32 (.agg (ints .u8 32 a)) w (some (.cells (ints .u8 64 (keysF x z)) t' (0, 0))) = .ok () (w.setRow g (ints .u8 64 (keysF a z))) := by
 unfold storeOf
 simp only [ints_size]
 rw [if_neg (fun h => absurd h.1 (by decide)), if_pos ⟨by decide, by trivial, ints_one _ _ _⟩, kput_0]
@[go_sem] theorem load_key_mid (g : Nat) (w : World) : (loadNext 44 (.pointer (some ⟨g, 32, none⟩))).run Tryz.prog w = (loadMid Tryz.prog 44 g 32 32 w (objAt w g)).andThen fun v w' => .ok (.value v) w' := by
 rw [run_loadNext, loadMid_eq Tryz.underlying44 rfl (by kernel_rfl) g 32 w]
@[go_sem] theorem load_kpart1 (g : Nat) (w : World) (x z : Nat → Int) (t' : TypeId) (fr : Nat × Nat) : loadMid Tryz.prog 44 g 32 32 w (some (.cells (ints .u8 64 (keysF x z)) t' fr)) = .ok (.agg (ints .u8 32 z)) w := by
 unfold loadMid
 simp only [ints_size]
 rw [if_pos (by decide), kextract_1]
@[go_sem] theorem store_key_mid (g : Nat) (cs : Array Value) (w : World) : (storeNext 44 (.pointer (some ⟨g, 32, none⟩)) (.agg cs)).run Tryz.prog w = (storeMid Tryz.prog 44 g 32 32 (.agg cs) w (objAt w g)).andThen fun _ w' => .ok .skip w' := by
 rw [run_storeNext, storeMid_eq (by kernel_rfl) g 32 cs w]
@[go_sem] theorem store_kpart1 (g : Nat) (w : World) (x z a : Nat → Int) (t' : TypeId) : storeMid Tryz.prog 44 g 32 32 (.agg (ints .u8 32 a)) w (some (.cells (ints .u8 64 (keysF x z)) t' (0, 0))) = .ok () (w.setRow g (ints .u8 64 (keysF x a))) := by
 unfold storeMid
 simp only [ints_size]
 rw [if_pos ⟨by decide, by trivial, ints_one _ _ _⟩, kput_1]
@[go_sem] theorem field_kpair0 (x z : Nat → Int) (w : World) : (Instr.field 276 (.agg (ints .u8 64 (keysF x z))) 0).run Tryz.prog w = .ok (.agg (ints .u8 32 x)) w := by kernel_rfl
@[go_sem] theorem field_kpair1 (x z : Nat → Int) (w : World) : (Instr.field 276 (.agg (ints .u8 64 (keysF x z))) 1).run Tryz.prog w = .ok (.agg (ints .u8 32 z)) w := by kernel_rfl
def kpairNext (x z : Value) : Sem Next := do pure (.value (← Instr.build 276 #[(0, x), (1, z)]))
def kpairOne (x : Value) : Sem Next := do pure (.value (← Instr.build 276 #[(0, x)]))
@[go_sem ↓ high] theorem op_kpair (ρ : Operand → Value) (d : Option Tmp) (x y : Operand) (t : TypeId) (pos : String) (af : Array Edge) (g : Option (Nat × Bool)) :
  execOp ρ ⟨d, .build 276 #[(0, x), (1, y)], t, pos, af, g⟩ = kpairNext (ρ x) (ρ y) := by simp [execOp, kpairNext]
@[go_sem high] theorem op_kpair' (ρ : Operand → Value) (d : Option Tmp) (x y : Operand) (t : TypeId) (pos : String) (af : Array Edge) (g : Option (Nat × Bool)) :
  execOp ρ ⟨d, .build 276 #[(0, x), (1, y)], t, pos, af, g⟩ = kpairNext (ρ x) (ρ y) := by simp [execOp, kpairNext]
@[go_sem ↓ high] theorem op_kpair1 (ρ : Operand → Value) (d : Option Tmp) (x : Operand) (t : TypeId) (pos : String) (af : Array Edge) (g : Option (Nat × Bool)) :
  execOp ρ ⟨d, .build 276 #[(0, x)], t, pos, af, g⟩ = kpairOne (ρ x) := by simp [execOp, kpairOne]
@[go_sem high] theorem op_kpair1' (ρ : Operand → Value) (d : Option Tmp) (x : Operand) (t : TypeId) (pos : String) (af : Array Edge) (g : Option (Nat × Bool)) :
  execOp ρ ⟨d, .build 276 #[(0, x)], t, pos, af, g⟩ = kpairOne (ρ x) := by simp [execOp, kpairOne]
@[go_sem] theorem run_kpair (x z : Nat → Int) (w : World) : (kpairNext (.agg (ints .u8 32 x)) (.agg (ints .u8 32 z))).run Tryz.prog w = .ok (.value (.agg (ints .u8 64 (keysF x z)))) w := by kernel_rfl
@[go_sem] theorem run_kpair1 (x : Nat → Int) (w : World) : (kpairOne (.agg (ints .u8 32 x))).run Tryz.prog w = .ok (.value (.agg (ints .u8 64 (keysF x nought)))) w := by kernel_rfl
attribute [irreducible] kpairNext kpairOne
end Go.Proofs.YtnjghcnhcbobhaaGreatDoor
