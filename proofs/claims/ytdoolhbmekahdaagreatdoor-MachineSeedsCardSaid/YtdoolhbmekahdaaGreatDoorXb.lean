/- Xb -/
import Derived.Test.YtdoolhbmekahdaaGreatDoorBase
import Derived.Maps.OwnSet
import Derived.Test.YtdoolhbmekahdaaGreatDoorMem
import Derived.Test.YtdoolhbmekahdaaGreatDoorRel
import Derived.Laws.CopyRow
import Derived.Deep.AppendLies
namespace Go.Proofs.YtdoolhbmekahdaaGreatDoor
namespace Mc
open Go.RowKit
set_option linter.unusedVariables false
set_option linter.unusedSimpArgs false
inductive Tr (α : Type) : Type
 | l
 | n (v : Option α) (a b : Tr α)
noncomputable def Tr.get {α : Type} (t : Tr α) : Nat → Option α := Tr.rec (fun _ => none) (fun v _ _ iha ihb k => Nat.rec v (fun k _ => Nat.rec (iha (Nat.div k 2)) (fun _ _ => ihb (Nat.div k 2)) (Nat.mod k 2)) k) t
theorem Tr.get_ln {α : Type} (k : Nat) : (Tr.l : Tr α).get k = none := rfl
theorem Tr.get_n0 {α : Type} (v : Option α) (a b : Tr α) : (Tr.n v a b).get 0 = v := rfl
theorem Tr.get_ns {α : Type} (v : Option α) (a b : Tr α) (k : Nat) : (Tr.n v a b).get (k + 1) = match k % 2 with
  | 0 => a.get (k / 2)
  | _ => b.get (k / 2) := by
 show (Nat.rec (motive := fun _ => Option α) (a.get (k / 2)) (fun _ _ => b.get (k / 2)) (k % 2)) = _
 cases k % 2 <;> rfl
noncomputable def Tr.sub {α : Type} : Tr α → Option α × Tr α × Tr α
 | .l => (none, .l, .l)
 | .n v a b => (v, a, b)
noncomputable def Tr.set {α : Type} (f : Nat) : Tr α → Nat → Option α → Tr α := Nat.rec (fun t _ _ => t) (fun _ ih t k x => Tr.rec
 (Nat.rec (.n x .l .l) (fun k _ => Nat.rec (.n none (ih .l (Nat.div k 2) x) .l) (fun _ _ => .n none .l (ih .l (Nat.div k 2) x)) (Nat.mod k 2)) k)
 (fun v a b _ _ => Nat.rec (.n x a b) (fun k _ => Nat.rec (.n v (ih a (Nat.div k 2) x) b) (fun _ _ => .n v a (ih b (Nat.div k 2) x)) (Nat.mod k 2)) k) t) f
theorem Tr.set_s {α : Type} (f : Nat) (t : Tr α) (k : Nat) (x : Option α) : Tr.set (f + 1) t k x = match t.sub with
 | (v, a, b) => match k with
  | 0 => .n x a b
  | k + 1 => match k % 2 with
   | 0 => .n v (Tr.set f a (k / 2) x) b
   | _ => .n v a (Tr.set f b (k / 2) x) := by
 cases t with
 | l =>
  cases k with
  | zero => rfl
  | succ k =>
   show Nat.rec (motive := fun _ => Tr α) (.n none (Tr.set f .l (k / 2) x) .l) (fun _ _ => .n none .l (Tr.set f .l (k / 2) x)) (k % 2) = match k % 2 with
    | 0 => .n none (Tr.set f .l (k / 2) x) .l
    | _ => .n none .l (Tr.set f .l (k / 2) x)
   cases k % 2 <;> rfl
 | n v a b =>
  cases k with
  | zero => rfl
  | succ k =>
   show Nat.rec (motive := fun _ => Tr α) (.n v (Tr.set f a (k / 2) x) b) (fun _ _ => .n v a (Tr.set f b (k / 2) x)) (k % 2) = match k % 2 with
    | 0 => .n v (Tr.set f a (k / 2) x) b
    | _ => .n v a (Tr.set f b (k / 2) x)
   cases k % 2 <;> rfl
theorem Tr.get_l {α : Type} (j : Nat) : (Tr.l : Tr α).get j = none := by cases j <;> rfl
theorem Tr.get_sub {α : Type} (t : Tr α) (j : Nat) : t.get j = (Tr.n t.sub.1 t.sub.2.1 t.sub.2.2).get j := by
 cases t with
 | l =>
  cases j with
  | zero => rfl
  | succ j => rcases Nat.mod_two_eq_zero_or_one j with h | h <;> simp only [Tr.get_ln, Tr.get_n0, Tr.get_ns, Tr.sub, h, Tr.get_l]
 | n v a b => rfl
theorem Tr.get_set {α : Type} : ∀ (f : Nat) (t : Tr α) (k : Nat) (x : Option α) (j : Nat), k + 1 < 2 ^ f → (t.set f k x).get j = if j = k then x else t.get j
 | 0, t, k, x, j, h => absurd h (by simp)
 | f + 1, t, k, x, j, h => by
  have ih := fun (t : Tr α) (k j : Nat) (h : k + 1 < 2 ^ f) => Tr.get_set f t k x j h
  have h2 : 2 ^ (f + 1) = 2 * 2 ^ f := by rw [Nat.pow_succ]; omega
  rw [Tr.get_sub t j]
  obtain ⟨v, a, b, hs⟩ : ∃ v a b, t.sub = (v, a, b) := ⟨t.sub.1, t.sub.2.1, t.sub.2.2, rfl⟩
  rw [Tr.set_s]
  rw [hs]
  cases k with
  | zero => cases j <;> simp [Tr.get_ln, Tr.get_n0, Tr.get_ns]
  | succ k =>
   have hk : k / 2 + 1 < 2 ^ f := by omega
   have e1 : ∀ j, (j + 1 = k + 1) = (j = k) := by simp
   cases j with
   | zero => rcases Nat.mod_two_eq_zero_or_one k with hm | hm <;> simp [Tr.get_ln, Tr.get_n0, Tr.get_ns, hm]
   | succ j => rcases Nat.mod_two_eq_zero_or_one k with hm | hm <;> rcases Nat.mod_two_eq_zero_or_one j with hn | hn <;> simp only [Tr.get_ln, Tr.get_n0, Tr.get_ns, hm, hn, ih _ _ _ hk, e1] <;> (repeat' split) <;> first | rfl | omega
inductive A where
 | V (x : Value)
 | P (n o : Nat)
 | C (n o l k : Nat)
 | D (n o e l : Nat)
 | M (n : Nat)
 | F (fn : Fn) (cs : List A)
 | I (t : TypeId) (a : A)
 | G (cs : List A)
 | T (vs : List A)
 | Y (n : Nat)
 | Z (n o p e : Nat)
structure Sg where
 a : Nat → Nat
 k : Nat → Nat
noncomputable def A.den (s : Sg) : A → Value
 | .V x => x
 | .P n o => .pointer (some ⟨s.a n, o, none⟩)
 | .C n o l k => .slice (some ⟨s.a n, o, none⟩) l k
 | .D n o e l => .slice (some ⟨s.a n, o, none⟩) l (s.k n - e)
 | .M n => .map (some (s.a n))
 | .F fn cs => .func fn #[] (cs.map (A.den s)).toArray
 | .I t a => .iface t (a.den s)
 | .G cs => .agg (cs.map (A.den s)).toArray
 | .T vs => .tuple (vs.map (A.den s)).toArray
 | .Y n => .func (.yield (s.a n)) #[] #[]
 | .Z n o p e => .slice (some ⟨s.a n, (match Nat.ble (s.k n) e with | true => o | false => p), none⟩) 0 (s.k n - e)
structure Nm where
 c : Nat
 h : Nat → Bool
noncomputable def Nm.has (n : Nm) (k : Nat) : Bool := match Nat.blt k n.c with
 | true => not (n.h k)
 | false => false
noncomputable def Nm.nx (n : Nm) : Nm := match n with
 | ⟨c, h⟩ => ⟨c + 1, h⟩
theorem Nm.has_iff (n : Nm) (k : Nat) : n.has k = true ↔ k < n.c ∧ n.h k = false := by
 unfold Nm.has
 cases h : Nat.blt k n.c with
 | true => rw [Nat.blt_eq] at h; simp [h]
 | false => simp only [Bool.false_eq_true, false_iff]; intro h1; rw [← Nat.blt_eq, h] at h1; cases h1.1
theorem Nm.has_lt {n : Nm} {k : Nat} (h : n.has k = true) : k < n.c := ((n.has_iff k).1 h).1
theorem Nm.has_nx (n : Nm) {k : Nat} (h : n.has k = true) : n.nx.has k = true := by
 rw [Nm.has_iff] at h ⊢
 exact ⟨Nat.lt_succ_of_lt h.1, h.2⟩
theorem Nm.back_nx (n : Nm) (k : Nat) (h : n.nx.has k = true) : n.has k = true ∨ n.c ≤ k := by
 rw [Nm.has_iff] at h ⊢
 by_cases hk : n.c ≤ k
 ·exact .inr hk
 ·exact .inl ⟨by omega, h.2⟩
noncomputable def A.lt (n : Nm) : Nat → A → Bool
 | 0, _ => false
 | d + 1, a => match a with
  | .V _ => true
  | .P k _ => n.has k
  | .C k _ _ _ => n.has k
  | .D k _ _ _ => n.has k
  | .M k => n.has k
  | .F _ cs => cs.all (A.lt n d)
  | .I _ a => A.lt n d a
  | .G cs => cs.all (A.lt n d)
  | .T cs => cs.all (A.lt n d)
  | .Y k => n.has k
  | .Z k _ _ _ => n.has k
theorem A.den_ext {s s' : Sg} {n : Nm} (h : ∀ k, n.has k = true → s'.a k = s.a k ∧ s'.k k = s.k k) : ∀ (d : Nat) (a : A), A.lt n d a = true → a.den s' = a.den s
 | 0, _, h => by cases h
 | d + 1, a, hl => by
  have ih := fun (cs : List A) (hc : cs.all (A.lt n d) = true) => List.map_congr_left (f := A.den s') (g := A.den s) fun a ha => A.den_ext h d a (List.all_eq_true.1 hc a ha)
  cases a <;> simp only [A.lt] at hl <;> simp only [A.den]
  ·rw [(h _ hl).1]
  ·rw [(h _ hl).1]
  ·rw [(h _ hl).1, (h _ hl).2]
  ·rw [(h _ hl).1]
  ·rw [ih _ hl]
  ·rw [A.den_ext h d _ hl]
  ·rw [ih _ hl]
  ·rw [ih _ hl]
  ·rw [(h _ hl).1]
  ·rw [(h _ hl).1, (h _ hl).2]
theorem A.lt_mono {n n' : Nm} (h : ∀ k, n.has k = true → n'.has k = true) : ∀ (d : Nat) (a : A), A.lt n d a = true → A.lt n' d a = true
 | 0, _, hl => by cases hl
 | d + 1, a, hl => by
  have ih := fun (cs : List A) (hc : cs.all (A.lt n d) = true) => List.all_eq_true.2 fun a ha => A.lt_mono h d a (List.all_eq_true.1 hc a ha)
  cases a <;> simp only [A.lt] at hl ⊢
  ·exact h _ hl
  ·exact h _ hl
  ·exact h _ hl
  ·exact h _ hl
  ·exact ih _ hl
  ·exact A.lt_mono h d _ hl
  ·exact ih _ hl
  ·exact ih _ hl
  ·exact h _ hl
  ·exact h _ hl
noncomputable def dp : Nat := 4
inductive O where
 | R (cs : List A) (t : TypeId) (z : Nat × Nat)
 | U (cs : List A) (t : TypeId) (sz l : Nat)
 | M (es : List (Int × A)) (k : TypeId) (q : IntKind)
 | B (cs : List A) (t : TypeId)
 | X (cs : List A)
 | E (e : Option (Int × A × Nat)) (c : Nat) (k : TypeId) (q : IntKind)
 | N (m a : Nat) (b : Option Nat) (c : Nat)
 | J (l : List Nat) (i : Nat)
noncomputable def O.lt (n : Nm) : O → Bool
 | .R cs _ _ => cs.all (A.lt n dp)
 | .U cs _ _ _ => cs.all (A.lt n dp)
 | .M es _ _ => es.all fun e => A.lt n dp e.2
 | .B cs _ => cs.all (A.lt n dp)
 | .X cs => cs.all (A.lt n dp)
 | .E e _ _ _ => match e with
  | none => true
  | some x => A.lt n dp x.2.1
 | .N m _ _ _ => n.has m
 | .J _ _ => true
noncomputable def hV (v : Value) : Option (DataW Value × List MemPlace) := some (.held v, [])
noncomputable def entM (s : Sg) (q : IntKind) : Option (Int × A × Nat) → Array MapEntry
 | none => #[]
 | some (z, a, b) => #[⟨.int q z, a.den s, b⟩]
noncomputable def O.ok (P : Program) (s : Sg) (w : World) (n : Nat) : O → Prop
 | .R cs t z => objAt w (s.a n) = some (.cells (cs.map (A.den s)).toArray t z)
 | .U cs t sz l => w.ownsRow 0 t sz (.slice (some ⟨s.a n, 0, none⟩) l (s.k n)) l (cs.map (A.den s))
 | .M es k q => w.ownsMap P k hV (s.a n) es.length (.map (es.map fun e => (Lit.int q e.1, .held (e.2.den s))))
 | .B cs t => ∃ cur z, objAt w (s.a n) = some (.cells cur t z) ∧ cs.length ≤ cur.size ∧ cur.toList.take cs.length = cs.map (A.den s)
 | .X cs => ∃ t z, objAt w (s.a n) = some (.cells (cs.map (A.den s)).toArray t z)
 | .E e c _ q => w.heap[s.a n]? = some (.map (entM s q e) c)
 | .N m a b c => w.heap[s.a n]? = some (.mapIter (some (s.a m)) a b.toArray c)
 | .J l i => ∃ b : ByteArray, w.heap[s.a n]? = some (.stringIter b i) ∧ i ≤ b.size ∧ (b.data.toList.drop i).map UInt8.toNat = l
theorem O.here {P : Program} {s : Sg} {w : World} {n : Nat} {o : O} (h : o.ok P s w n) : s.a n < w.heap.size := by
 cases o with
 | R => exact lt_of_objAt h
 | U => exact (World.ownsRow.lt h _ rfl).2
 | M => exact World.ownsMap.lt h
 | B => obtain ⟨cur, z, h1, -⟩ := h; exact lt_of_objAt h1
 | X => obtain ⟨t, z, h1⟩ := h; exact lt_of_objAt h1
 | E => exact (Array.getElem?_eq_some_iff.1 h).1
 | N => exact (Array.getElem?_eq_some_iff.1 h).1
 | J => obtain ⟨b, h1, -⟩ := h; exact (Array.getElem?_eq_some_iff.1 h1).1
theorem O.ok_world {P : Program} {s : Sg} {w w' : World} {n : Nat} {o : O} (h : o.ok P s w n) (hb : w'.heap[s.a n]? = w.heap[s.a n]?) : o.ok P s w' n := by
 cases o with
 | R => exact hb.trans h
 | U =>
  obtain ⟨h1, h2⟩ := h
  refine ⟨h1, ?_⟩
  rcases h2 with h2 | ⟨g, cap, cur, e, h3, h4, h5⟩
  ·exact .inl h2
  ·have e2 : s.a n = g := by injection e with e; injection e with e; injection e
   subst e2
   exact .inr ⟨_, cap, cur, e, h3, hb.trans h4, h5⟩
 | M =>
  obtain ⟨es, c, h1, h2⟩ := h
  exact ⟨es, c, hb.trans h1, h2⟩
 | B =>
  obtain ⟨cur, z, h1, h2⟩ := h
  exact ⟨cur, z, hb.trans h1, h2⟩
 | X =>
  obtain ⟨t, z, h1⟩ := h
  exact ⟨t, z, hb.trans h1⟩
 | E => exact hb.trans h
 | N => exact hb.trans h
 | J =>
  obtain ⟨b, h1, h2⟩ := h
  exact ⟨b, hb.trans h1, h2⟩
theorem O.ok_names {P : Program} {s s' : Sg} {w : World} {n : Nat} {m : Nm} {o : O} (h : o.ok P s w n) (hn : m.has n = true) (hs : ∀ k, m.has k = true → s'.a k = s.a k ∧ s'.k k = s.k k) (hl : o.lt m = true) : o.ok P s' w n := by
 have hd := fun (cs : List A) (hc : cs.all (A.lt m dp) = true) => List.map_congr_left (f := A.den s') (g := A.den s) fun a ha => A.den_ext hs dp a (List.all_eq_true.1 hc a ha)
 cases o with
 | R cs t z =>
  show objAt w (s'.a n) = _
  rw [(hs n hn).1, hd _ hl]
  exact h
 | U cs t sz l =>
  show World.ownsRow _ _ _ _ (.slice (some ⟨s'.a n, 0, none⟩) l (s'.k n)) _ _
  rw [(hs n hn).1, (hs n hn).2, hd _ hl]
  exact h
 | M es k q =>
  show World.ownsMap _ _ _ _ (s'.a n) _ _
  rw [(hs n hn).1]
  have : (es.map fun e => (Lit.int q e.1, DataW.held (e.2.den s'))) = es.map fun e => (Lit.int q e.1, .held (e.2.den s)) := List.map_congr_left fun e he => by
   rw [A.den_ext hs dp _ (List.all_eq_true.1 hl e he)]
  rw [this]
  exact h
 | B cs t =>
  show ∃ cur z, objAt w (s'.a n) = _ ∧ _ ∧ _ = _
  rw [(hs n hn).1, hd _ hl]
  exact h
 | X cs =>
  show ∃ t z, objAt w (s'.a n) = _
  rw [(hs n hn).1, hd _ hl]
  exact h
 | E e c k q =>
  have he : entM s' q e = entM s q e := by
   cases e with
   | none => rfl
   | some x =>
    have : x.2.1.den s' = x.2.1.den s := A.den_ext hs dp _ hl
    obtain ⟨z, a, b⟩ := x
    simp only [entM]
    rw [this]
  show w.heap[s'.a n]? = some (.map (entM s' q e) c)
  rw [(hs n hn).1, he]
  exact h
 | N k a b c =>
  show w.heap[s'.a n]? = some (.mapIter (some (s'.a k)) a b.toArray c)
  rw [(hs n hn).1, (hs k hl).1]
  exact h
 | J l i =>
  obtain ⟨b, h1, h2⟩ := h
  exact ⟨b, by rw [(hs n hn).1]; exact h1, h2⟩
structure InvF (P : Program) (s : Sg) (w : World) (G : Nat → Option O) (n : Nm) : Prop where
 ok : ∀ k o, G k = some o → o.ok P s w k
 lt : ∀ k o, G k = some o → n.has k = true ∧ o.lt n = true
 inj : ∀ j k o o', G j = some o → G k = some o' → s.a j = s.a k → j = k
 fresh : ∀ k, n.c ≤ k → n.h k = false
abbrev Inv (P : Program) (s : Sg) (w : World) (H : Tr O) (n : Nm) : Prop := InvF P s w H.get n
structure AdvF (P : Program) (s : Sg) (w : World) (G : Nat → Option O) (n : Nm) (s' : Sg) (w' : World) (G' : Nat → Option O) (n' : Nm) : Prop where
 ext : ∀ k, n.has k = true → s'.a k = s.a k ∧ s'.k k = s.k k
 inv : InvF P s' w' G' n'
 le : n.c ≤ n'.c
 mono : ∀ k, n.has k = true → n'.has k = true
 back : ∀ k, n'.has k = true → n.has k = true ∨ n.c ≤ k
 news : ∀ k, n'.has k = true → n.has k = true ∨ w.heap.size ≤ s'.a k ∨ ∃ j, n.has j = true ∧ s.a j = s'.a k
 dom : ∀ k o, G' k = some o → n.c ≤ k ∨ ∃ o', G k = some o'
 os : w'.os = w.os
 tape : w'.tape = w.tape
 output : w'.output = w.output
 size : w.heap.size ≤ w'.heap.size
 fr : ∀ b, b < w.heap.size → (∀ k o, G k = some o → s.a k ≠ b) → w'.heap[b]? = w.heap[b]?
 own : ∀ k o, G' k = some o → w.heap.size ≤ s'.a k ∨ ∃ j o', G j = some o' ∧ s.a j = s'.a k
abbrev Adv (P : Program) (s : Sg) (w : World) (H : Tr O) (n : Nm) (s' : Sg) (w' : World) (H' : Tr O) (n' : Nm) : Prop := AdvF P s w H.get n s' w' H'.get n'
theorem AdvF.refl {P : Program} {s : Sg} {w : World} {G : Nat → Option O} {n : Nm} (h : InvF P s w G n) : AdvF P s w G n s w G n :=
 ⟨fun _ _ => ⟨rfl, rfl⟩, h, Nat.le_refl _, fun _ h => h, fun _ h => .inl h, fun _ h => .inl h, fun k o hk => .inr ⟨o, hk⟩, rfl, rfl, rfl, Nat.le_refl _, fun _ _ _ => rfl, fun k o hk => .inr ⟨k, o, hk, rfl⟩⟩
theorem AdvF.trans {P : Program} {s s1 s2 : Sg} {w w1 w2 : World} {G G1 G2 : Nat → Option O} {n n1 n2 : Nm} (h : AdvF P s w G n s1 w1 G1 n1) (k : AdvF P s1 w1 G1 n1 s2 w2 G2 n2) : AdvF P s w G n s2 w2 G2 n2 := by
 have hle := h.le
 have hsz := h.size
 refine ⟨fun i hi => ⟨((k.ext i (h.mono i hi)).1).trans (h.ext i hi).1, ((k.ext i (h.mono i hi)).2).trans (h.ext i hi).2⟩, k.inv, Nat.le_trans h.le k.le, fun i hi => k.mono i (h.mono i hi), fun i hi => ?_, fun i hi => ?_, fun i o hi => ?_, k.os.trans h.os, k.tape.trans h.tape, k.output.trans h.output, Nat.le_trans h.size k.size, fun b hb hn => ?_, fun i o hi => ?_⟩
 ·rcases k.back i hi with h1 | h1
  ·exact h.back i h1
  ·exact .inr (Nat.le_trans hle h1)
 ·rcases k.news i hi with h1 | h1 | ⟨j, h1, h2⟩
  ·rcases h.news i h1 with h2 | h2 | ⟨j, h2, h3⟩
   ·exact .inl h2
   ·exact .inr (.inl (by rw [(k.ext i h1).1]; exact h2))
   ·exact .inr (.inr ⟨j, h2, by rw [(k.ext i h1).1]; exact h3⟩)
  ·exact .inr (.inl (Nat.le_trans hsz h1))
  ·rcases h.news j h1 with h3 | h3 | ⟨i', h3, h4⟩
   ·exact .inr (.inr ⟨j, h3, by rw [← h2, (h.ext j h3).1]⟩)
   ·exact .inr (.inl (by rw [← h2]; exact h3))
   ·exact .inr (.inr ⟨i', h3, h4.trans h2⟩)
 ·rcases k.dom i o hi with h1 | ⟨o', h1⟩
  ·exact .inl (Nat.le_trans hle h1)
  ·exact h.dom i o' h1
 ·refine (k.fr b (by omega) fun i o hi e => ?_).trans (h.fr b hb hn)
  rcases h.own i o hi with h1 | ⟨j, o', h1, h2⟩
  ·omega
  ·exact hn j o' h1 (h2.trans e)
 ·rcases k.own i o hi with h1 | ⟨j, o', h1, h2⟩
  ·exact .inl (by omega)
  ·rcases h.own j o' h1 with h3 | ⟨j', o'', h3, h4⟩
   ·exact .inl (by omega)
   ·exact .inr ⟨j', o'', h3, h4.trans h2⟩
theorem Adv.refl {P : Program} {s : Sg} {w : World} {H : Tr O} {n : Nm} (h : Inv P s w H n) : Adv P s w H n s w H n := AdvF.refl h
theorem Adv.trans {P : Program} {s s1 s2 : Sg} {w w1 w2 : World} {H H1 H2 : Tr O} {n n1 n2 : Nm} (h : Adv P s w H n s1 w1 H1 n1) (k : Adv P s1 w1 H1 n1 s2 w2 H2 n2) : Adv P s w H n s2 w2 H2 n2 := AdvF.trans h k
theorem Adv.below {P : Program} {s s1 : Sg} {w w1 : World} {H H1 : Tr O} {n n1 : Nm} (h : Adv P s w H n s1 w1 H1 n1) {B : Nat} (hB : B ≤ w.heap.size) (hH : ∀ k o, H.get k = some o → B ≤ s.a k) : Below B w w1 :=
 ⟨h.os, h.tape, h.output, h.size, fun b hb => h.fr b (by omega) fun k o hk e => by have := hH k o hk; omega⟩
theorem O.lt_mono {n n' : Nm} (h : ∀ k, n.has k = true → n'.has k = true) {o : O} (hl : o.lt n = true) : o.lt n' = true := by
 cases o with
 | E e c k q =>
  cases e with
  | none => rfl
  | some x => exact A.lt_mono h dp _ hl
 | N k a b c => exact h _ hl
 | J => rfl
 | _ => simp only [O.lt] at hl ⊢; exact List.all_eq_true.2 fun a ha => A.lt_mono h dp _ (List.all_eq_true.1 hl a ha)
noncomputable def Sg.add (s : Sg) (n : Nm) (a k : Nat) : Sg := ⟨fun j => if j = n.c then a else s.a j, fun j => if j = n.c then k else s.k j⟩
theorem Sg.add_old (s : Sg) (n : Nm) (a k : Nat) (j : Nat) (h : n.has j = true) : (s.add n a k).a j = s.a j ∧ (s.add n a k).k j = s.k j := by
 have := Nm.has_lt h
 unfold Sg.add
 simp only [if_neg (show ¬ j = n.c by omega), and_self]
theorem Sg.add_new (s : Sg) (n : Nm) (a k : Nat) : (s.add n a k).a n.c = a ∧ (s.add n a k).k n.c = k := by simp [Sg.add]
theorem Nm.has_new {n : Nm} (h : ∀ k, n.c ≤ k → n.h k = false) : n.nx.has n.c = true := by
 rw [Nm.has_iff]
 exact ⟨Nat.lt_succ_self _, h _ (Nat.le_refl _)⟩
noncomputable def mx : Nat := 20
theorem Adv.new {P : Program} {s : Sg} {w w' : World} {H : Tr O} {n : Nm} {a c : Nat} {o : O} (h : Inv P s w H n) (hn : n.c + 1 < 2 ^ mx) (hl : o.lt n = true) (hok : o.ok P (s.add n a c) w' n.c) (ha : w.heap.size ≤ a)
  (hos : w'.os = w.os) (ht : w'.tape = w.tape) (hout : w'.output = w.output) (hsz : w.heap.size ≤ w'.heap.size) (hfr : ∀ b, b < w.heap.size → w'.heap[b]? = w.heap[b]?) : Adv P s w H n (s.add n a c) w' (H.set mx n.c (some o)) n.nx := by
 have hg := fun j => Tr.get_set mx H n.c (some o) j hn
 have hext := s.add_old n a c
 have hnew := s.add_new n a c
 have hold : ∀ k o', H.get k = some o' → o'.ok P (s.add n a c) w' k ∧ (s.add n a c).a k < w.heap.size := fun k o' hk => by
  have h1 := h.lt k o' hk
  have h2 := h.ok k o' hk
  have h3 := O.here h2
  refine ⟨O.ok_names (O.ok_world h2 (hfr _ h3)) h1.1 (fun j hj => hext j hj) h1.2, ?_⟩
  rw [(hext k h1.1).1]
  exact h3
 refine ⟨hext, ⟨fun k o' hk => ?_, fun k o' hk => ?_, fun j k o1 o2 hj hk e => ?_, fun k hk => h.fresh k (Nat.le_of_succ_le hk)⟩, Nat.le_succ _, fun _ => n.has_nx, n.back_nx, fun k hk => ?_, fun k o' hk => ?_, hos, ht, hout, hsz, fun b hb _ => hfr b hb, fun k o' hk => ?_⟩
 ·rw [hg] at hk
  split at hk
  ·subst k; cases hk; exact hok
  ·exact (hold k o' hk).1
 ·rw [hg] at hk
  split at hk
  ·subst k; cases hk; exact ⟨Nm.has_new h.fresh, O.lt_mono (fun _ => n.has_nx) hl⟩
  ·have := h.lt k o' hk; exact ⟨n.has_nx this.1, O.lt_mono (fun _ => n.has_nx) this.2⟩
 ·rw [hg] at hj hk
  split at hj <;> split at hk
  ·omega
  ·subst j; have := (hold k o2 hk).2; rw [hnew.1] at e; omega
  ·subst k; have := (hold j o1 hj).2; rw [hnew.1] at e; omega
  ·have h1 := h.lt j o1 hj; have h2 := h.lt k o2 hk
   rw [(hext j h1.1).1, (hext k h2.1).1] at e
   exact h.inj j k o1 o2 hj hk e
 ·rcases n.back_nx k hk with h1 | h1
  ·exact .inl h1
  ·have := Nm.has_lt hk
   obtain rfl : k = n.c := Nat.le_antisymm (Nat.le_of_lt_succ this) h1
   exact .inr (.inl (by rw [hnew.1]; exact ha))
 ·rw [hg] at hk
  split at hk
  ·subst k; exact .inl (Nat.le_refl _)
  ·exact .inr ⟨o', hk⟩
 ·rw [hg] at hk
  split at hk
  ·subst k; left; rw [hnew.1]; exact ha
  ·right; have h1 := h.lt k o' hk; exact ⟨k, o', hk, ((hext k h1.1).1).symm⟩
theorem Adv.put {P : Program} {s : Sg} {w w' : World} {H : Tr O} {n : Nm} {k : Nat} {o o' : O} (h : Inv P s w H n) (hn : n.c < 2 ^ mx) (hk : H.get k = some o) (hl : o'.lt n = true) (hok : o'.ok P s w' k)
  (hos : w'.os = w.os) (ht : w'.tape = w.tape) (hout : w'.output = w.output) (hsz : w.heap.size ≤ w'.heap.size) (hfr : ∀ b, b < w.heap.size → b ≠ s.a k → w'.heap[b]? = w.heap[b]?) : Adv P s w H n s w' (H.set mx k (some o')) n := by
 have hkn := (h.lt k o hk).1
 have hg := fun j => Tr.get_set mx H k (some o') j (by have := Nm.has_lt hkn; omega)
 refine ⟨fun _ _ => ⟨rfl, rfl⟩, ⟨fun j o1 hj => ?_, fun j o1 hj => ?_, fun j i o1 o2 hj hi e => ?_, h.fresh⟩, Nat.le_refl _, fun _ h => h, fun _ h => .inl h, fun _ h => .inl h, fun j o1 hj => ?_, hos, ht, hout, hsz, fun b hb hb2 => hfr b hb (fun e => hb2 k o hk e.symm), fun j o1 hj => ?_⟩
 ·rw [hg] at hj
  split at hj
  ·subst j; cases hj; exact hok
  ·rename_i hne
   have h2 := h.ok j o1 hj
   exact O.ok_world h2 (hfr _ (O.here h2) fun e => hne (h.inj j k o1 o hj hk e))
 ·rw [hg] at hj
  split at hj
  ·subst j; cases hj; exact ⟨hkn, hl⟩
  ·exact h.lt j o1 hj
 ·rw [hg] at hj hi
  split at hj <;> split at hi
  ·omega
  ·subst j; exact h.inj k i o o2 hk hi e
  ·subst i; exact h.inj j k o1 o hj hk e
  ·exact h.inj j i o1 o2 hj hi e
 ·rw [hg] at hj
  split at hj
  ·subst j; exact .inr ⟨o, hk⟩
  ·exact .inr ⟨o1, hj⟩
 ·rw [hg] at hj
  split at hj
  ·subst j; exact .inr ⟨k, o, hk, rfl⟩
  ·exact .inr ⟨j, o1, hj, rfl⟩
end Mc
end Go.Proofs.YtdoolhbmekahdaaGreatDoor
namespace Go.Proofs.YtdoolhbmekahdaaGreatDoor
namespace Mc
open Go.RowKit
set_option linter.unusedVariables false
set_option linter.unusedSimpArgs false
noncomputable def pu (P : Program) {α : Type} : Sem α → Option α
 | .pure a => some a
 | .program k => pu P (k P)
 | .mark _ k => pu P k
 | _ => none
theorem pu_run {P : Program} {α : Type} : ∀ (m : Sem α) (a : α), pu P m = some a → ∀ w, m.run P w = .ok a w
 | .pure x, a, h, w => by cases h; rfl
 | .program k, a, h, w => pu_run (k P) a h w
 | .mark x k, a, h, w => pu_run k a h w
 | .load .., _, h, _ | .store .., _, h, _ | .new .., _, h, _ | .shape .., _, h, _ | .freeze .., _, h, _ | .frozen .., _, h, _ | .getObj .., _, h, _ | .setObj .., _, h, _ | .choose .., _, h, _ | .sys .., _, h, _ | .halt .., _, h, _ => by cases h
noncomputable def A.p1 : A → Option Value
 | .V x => some x
 | _ => none
noncomputable def A.p2 : A → Option Value
 | .V x => some x
 | .G cs => (cs.mapM A.p1).map fun l => .agg l.toArray
 | _ => none
noncomputable def A.pl : A → Option Value
 | .V x => some x
 | .G cs => (cs.mapM A.p1).map fun l => .agg l.toArray
 | .T vs => (vs.mapM A.p2).map fun l => .tuple l.toArray
 | .I t a => a.p2.map fun v => .iface t v
 | _ => none
theorem mapM_den {s : Sg} {f : A → Option Value} (hf : ∀ a v, f a = some v → a.den s = v) : ∀ (cs : List A) (l : List Value), cs.mapM f = some l → cs.map (A.den s) = l
 | [], l, h => by simp at h; subst h; rfl
 | c :: cs, l, h => by
  simp only [List.mapM_cons, Option.pure_def, Option.bind_eq_bind, Option.bind_eq_some_iff] at h
  obtain ⟨v, h1, l2, h2, h3⟩ := h
  cases h3
  rw [List.map_cons, hf c v h1, mapM_den hf cs l2 h2]
theorem A.p1_den {s : Sg} (a : A) (v : Value) (h : a.p1 = some v) : a.den s = v := by
 cases a <;> simp only [A.p1] at h <;> first | (cases h; simp only [A.den]) | cases h
theorem A.p2_den {s : Sg} (a : A) (v : Value) (h : a.p2 = some v) : a.den s = v := by
 cases a <;> simp only [A.p2, Option.map_eq_some_iff] at h
 case V => cases h; simp only [A.den]
 case G cs => obtain ⟨l, h1, rfl⟩ := h; simp only [A.den]; rw [mapM_den A.p1_den cs l h1]
 all_goals cases h
theorem A.pl_den {s : Sg} (a : A) (v : Value) (h : a.pl = some v) : a.den s = v := by
 cases a <;> simp only [A.pl, Option.map_eq_some_iff] at h
 case V => cases h; simp only [A.den]
 case G cs => obtain ⟨l, h1, rfl⟩ := h; simp only [A.den]; rw [mapM_den A.p1_den cs l h1]
 case T cs => obtain ⟨l, h1, rfl⟩ := h; simp only [A.den]; rw [mapM_den A.p2_den cs l h1]
 case I t a => obtain ⟨l, h1, rfl⟩ := h; simp only [A.den]; rw [A.p2_den a l h1]
 all_goals cases h
noncomputable def toA1 : Value → A
 | .agg cs => .G (cs.toList.map A.V)
 | v => .V v
noncomputable def toA : Value → A
 | .agg cs => .G (cs.toList.map A.V)
 | .tuple vs => .T (vs.toList.map toA1)
 | .iface t v => .I t (toA1 v)
 | v => .V v
theorem V_den (s : Sg) (cs : List Value) : (cs.map A.V).map (A.den s) = cs := by
 rw [List.map_map]
 conv => rhs; rw [← List.map_id cs]
 exact List.map_congr_left fun a _ => by simp only [Function.comp, A.den, id]
theorem toA1_den (s : Sg) (v : Value) : (toA1 v).den s = v := by
 cases v <;> simp only [toA1, A.den, V_den]
theorem toA_den (s : Sg) (v : Value) : (toA v).den s = v := by
 cases v <;> simp only [toA, A.den, V_den, toA1_den]
 rename_i vs
 congr 1
 rw [List.map_map]
 have : (vs.toList.map (A.den s ∘ toA1)) = vs.toList := by
  conv => rhs; rw [← List.map_id vs.toList]
  exact List.map_congr_left fun a _ => toA1_den s a
 rw [this]
noncomputable def A.cells : A → Option (List A)
 | .G cs => some cs
 | .V (.agg _) => none
 | .T _ => none
 | a => some [a]
theorem A.cells_den {s : Sg} (a : A) (cs : List A) (h : a.cells = some cs) : (a.den s).cells = (cs.map (A.den s)).toArray := by
 cases a <;> simp only [A.cells] at h
 case V x => cases x <;> simp only [A.cells] at h <;> first | (cases h; simp [A.den, Value.cells]) | cases h
 case T => cases h
 all_goals (cases h; simp [A.den, Value.cells])
noncomputable def A.one : A → Bool
 | .V (.agg _) | .V (.tuple _) | .G _ | .T _ => false
 | _ => true
theorem A.one_den {s : Sg} (a : A) (h : a.one = true) : (a.den s).oneCell' = true := by
 cases a <;> simp only [A.den] <;> first | (cases h; done) | rfl | skip
 rename_i x
 cases x <;> first | (cases h; done) | rfl
abbrev Q3 := A × Tr O × Nm
noncomputable def Snd (P : Program) (m : Sem Value) (s : Sg) (w : World) (H : Tr O) (n : Nm) (r : Q3) : Prop := ∃ s' w', m.run P w = .ok (r.1.den s') w' ∧ Adv P s w H n s' w' r.2.1 r.2.2
theorem Snd.pure {P : Program} {m : Sem Value} {s : Sg} {w : World} {H : Tr O} {n : Nm} {a : A} (hI : Inv P s w H n) (h : m.run P w = .ok (a.den s) w) : Snd P m s w H n (a, H, n) := ⟨s, w, h, Adv.refl hI⟩
noncomputable def newR (H : Tr O) (n : Nm) (cs : List A) (t : TypeId) : Option Q3 :=
 match Nat.blt (n.c + 1) (2 ^ mx) && cs.all (A.lt n dp) with
 | true => some (.P n.c 0, H.set mx n.c (some (.R cs t (0, 0))), n.nx)
 | false => none
theorem newR_ok {P : Program} {s : Sg} {w : World} {H : Tr O} {n : Nm} {cs : List A} {t : TypeId} {r : Q3} (hI : Inv P s w H n) (h : newR H n cs t = some r) (k : Nat) :
  Adv P s w H n (s.add n w.heap.size k) (w.alloc (.cells (cs.map (A.den s)).toArray t)) r.2.1 r.2.2 ∧ r.1 = .P n.c 0 ∧ r.2.2 = n.nx ∧ cs.all (A.lt n dp) = true := by
 unfold newR at h
 split at h
 ·rename_i hc
  cases h
  simp only [Bool.and_eq_true, Nat.blt_eq] at hc
  refine ⟨Adv.new hI hc.1 hc.2 ?_ (Nat.le_refl _) rfl rfl rfl (by simp) fun b hb => Below.heap_alloc _ _ _ hb, rfl, rfl, hc.2⟩
  show objAt _ _ = _
  rw [(s.add_new n _ k).1, List.map_congr_left fun a ha => A.den_ext (s.add_old n w.heap.size k) dp a (List.all_eq_true.1 hc.2 a ha)]
  exact objAt_alloc_at _ _ _ rfl
 ·cases h
noncomputable def opBox (H : Tr O) (n : Nm) (t : TypeId) (x : A) : Option Q3 := match x.cells with
 | some cs => newR H n cs t
 | none => none
theorem run_newRow (P : Program) (t : TypeId) (cs : Array Value) (w : World) : (newRow t cs).run P w = .ok ⟨w.heap.size, 0, none⟩ (w.alloc (.cells cs t)) := rfl
theorem opBox_ok {P : Program} {s : Sg} {w : World} {H : Tr O} {n : Nm} {t : TypeId} {x : A} {r : Q3} (hI : Inv P s w H n) (h : opBox H n t x = some r) : Snd P (Instr.box t (x.den s)) s w H n r := by
 unfold opBox at h
 split at h
 ·rename_i cs hc
  obtain ⟨h1, h2, h3, h4⟩ := newR_ok hI h 0
  refine ⟨_, _, ?_, h1⟩
  unfold Instr.box newVar
  rw [A.cells_den x cs hc, h2]
  simp only [Sem.run_bind, run_newRow, Result.andThen, Sem.run_pure, A.den, (s.add_new n w.heap.size 0).1]
 ·cases h
noncomputable def zer (P : Program) (t : TypeId) : Option Value := match P.info? t with
 | some i => i.zero
 | none => none
theorem run_zer {P : Program} {t : TypeId} {z : Value} (h : zer P t = some z) (w : World) : (zeroValue t).run P w = .ok z w := by
 unfold zer at h
 split at h
 ·rename_i i hi
  simp [zeroValue, run_typeInfo w hi, h, Result.andThen]
 ·cases h
noncomputable def siz (P : Program) (t : TypeId) : Option Nat := match P.info? t with
 | some i => some i.size
 | none => none
theorem run_siz {P : Program} {t : TypeId} {z : Nat} (h : siz P t = some z) (w : World) : (sizeOf t).run P w = .ok z w := by
 unfold siz at h
 split at h
 ·rename_i i hi
  cases h
  simp [sizeOf, run_typeInfo w hi, Result.andThen]
 ·cases h
noncomputable def ag (P : Program) (t : TypeId) : Option Bool := match P.underlying t with
 | some (.struct _) => some true
 | some (.array _ _) => some true
 | some _ => some false
 | none => none
theorem run_ag {P : Program} {t : TypeId} {b : Bool} (h : ag P t = some b) (w : World) : (isAgg t).run P w = .ok b w := by
 unfold ag at h
 split at h <;> first | cases h | skip
 all_goals
  rename_i hu
  unfold isAgg
  simp only [Sem.run_bind, run_underlying hu, Result.andThen]
  try rfl
noncomputable def opAlloc (P : Program) (H : Tr O) (n : Nm) (t : TypeId) : Option Q3 := match zer P t with
 | some z => newR H n (z.cells.toList.map A.V) t
 | none => none
theorem opAlloc_ok {P : Program} {s : Sg} {w : World} {H : Tr O} {n : Nm} {t : TypeId} {r : Q3} (hI : Inv P s w H n) (h : opAlloc P H n t = some r) : Snd P (Instr.alloc t true (.tuple #[])) s w H n r := by
 unfold opAlloc at h
 split at h
 ·rename_i z hz
  obtain ⟨h1, h2, h3, h4⟩ := newR_ok hI h 0
  refine ⟨_, _, ?_, h1⟩
  rw [V_den, Array.toArray_toList, h2]
  unfold Instr.alloc newVar
  simp only [Sem.run_bind, run_zer hz, run_newRow, Result.andThen, Sem.run_pure, A.den, (s.add_new n w.heap.size 0).1]
 ·cases h
noncomputable def rowOf (H : Tr O) (n : Nat) : Option (List A) := match H.get n with
 | some (.R cs _ _) => some cs
 | some (.U cs _ _ _) => some cs
 | some (.B cs _) => some cs
 | _ => none
theorem rowOf_ok {P : Program} {s : Sg} {w : World} {H : Tr O} {n : Nm} {k : Nat} {cs : List A} (hI : Inv P s w H n) (h : rowOf H k = some cs) (j : Nat) (a : A) (hj : cs[j]? = some a) : w.cell? ⟨s.a k, j, none⟩ = some (a.den s) := by
 unfold rowOf at h
 split at h
 ·rename_i cs' t z hk
  cases h
  have h1 : w.heap[s.a k]? = _ := hI.ok _ _ hk
  simp [World.cell?, h1, hj]
 ·rename_i cs' t sz l hk
  cases h
  obtain ⟨h1, h2⟩ := hI.ok _ _ hk
  rcases h2 with ⟨h2, -⟩ | ⟨g, cap, cur, e, -, h4, h5, h6, h7, h8⟩
  ·cases h2
  ·have e2 : s.a k = g := by injection e with e; injection e with e; injection e
   subst e2
   have h9 : (cs.map (A.den s))[j]? = some (a.den s) := by rw [List.getElem?_map, hj]; rfl
   rw [← h8, List.getElem?_take] at h9
   split at h9
   ·simp [World.cell?, h4]
    simpa using h9
   ·cases h9
 ·rename_i cs' t hk
  cases h
  obtain ⟨cur, z, h1, h2, h3⟩ := hI.ok _ _ hk
  have h9 : (cs.map (A.den s))[j]? = some (a.den s) := by rw [List.getElem?_map, hj]; rfl
  rw [← h3, List.getElem?_take] at h9
  have h4 : w.heap[s.a k]? = _ := h1
  split at h9
  ·simp [World.cell?, h4]
   simpa using h9
  ·cases h9
 ·cases h
noncomputable def opLoad (P : Program) (H : Tr O) (n : Nm) (t : TypeId) (a : A) : Option Q3 := match a, ag P t with
 | .P k o, some true => match siz P t, rowOf H k with
  | some z, some cs => match Nat.ble (o + z) cs.length with
   | true => some (.G ((cs.drop o).take z), H, n)
   | false => none
  | _, _ => none
 | .P k o, some false => match rowOf H k with
  | some cs => match cs[o]? with
   | some x => some (x, H, n)
   | none => none
  | none => none
 | _, _ => none
theorem addr_add (b o j : Nat) : (⟨b, o, none⟩ : Addr).add j = ⟨b, o + j, none⟩ := by
 unfold Addr.add
 split
 ·subst j; rfl
 ·rfl
theorem opLoad_run {P : Program} {s : Sg} {w : World} {H : Tr O} {n : Nm} {t : TypeId} {a : A} {r : Q3} (hI : Inv P s w H n) (h : opLoad P H n t a = some r) : r.2 = (H, n) ∧ (∃ k o, a = .P k o) ∧ (Instr.loadAt t (a.den s)).run P w = .ok (r.1.den s) w := by
 unfold opLoad at h
 split at h
 ·rename_i k o hag
  split at h
  ·rename_i z cs hz hr
   split at h
   ·rename_i hle
    cases h
    rw [Nat.ble_eq] at hle
    refine ⟨rfl, ⟨_, _, rfl⟩, ?_⟩
    have hl := run_loadCells_list (P := P) w ⟨s.a k, o, none⟩ ((((cs.drop o).take z)).map (A.den s)) fun j v hj => by
     rw [addr_add]
     rw [List.getElem?_map, Option.map_eq_some_iff] at hj
     obtain ⟨x, hx, rfl⟩ := hj
     rw [List.getElem?_take] at hx
     split at hx
     ·rw [List.getElem?_drop] at hx
      exact rowOf_ok hI hr _ _ hx
     ·cases hx
    rw [List.length_map, List.length_take, List.length_drop, Nat.min_eq_left (by omega)] at hl
    unfold Instr.loadAt loadVar
    simp only [A.den, Instr.sureAddr, Sem.run_bind, Sem.run_pure, Result.andThen, run_ag hag, if_true, run_siz hz, hl]
   ·cases h
  ·cases h
 ·rename_i k o hag
  split at h
  ·rename_i cs hr
   split at h
   ·rename_i x hx
    cases h
    refine ⟨rfl, ⟨_, _, rfl⟩, ?_⟩
    have hc := rowOf_ok hI hr _ _ hx
    unfold Instr.loadAt loadVar
    simp only [A.den, Instr.sureAddr, Sem.run_bind, Sem.run_pure, Result.andThen, run_ag hag]
    simp [load, Sem.run, hc]
   ·cases h
  ·cases h
 ·cases h
theorem opLoad_ok {P : Program} {s : Sg} {w : World} {H : Tr O} {n : Nm} {t : TypeId} {a : A} {r : Q3} (hI : Inv P s w H n) (h : opLoad P H n t a = some r) : Snd P (Instr.loadAt t (a.den s)) s w H n r := by
 obtain ⟨h1, h2, h3⟩ := opLoad_run hI h
 obtain ⟨b, H', n'⟩ := r
 cases h1
 exact Snd.pure hI h3
noncomputable def spl (o : Nat) (xs cs : List A) : List A := cs.take o ++ xs ++ cs.drop (o + xs.length)
noncomputable def opStore (P : Program) (H : Tr O) (n : Nm) (t : TypeId) (a x : A) : Option (Tr O) := match a, x.cells, siz P t with
 | .P k o, some xs, some z => match H.get k with
  | some (.R cs te (0, 0)) => match Nat.beq xs.length z && Nat.ble (o + z) cs.length && xs.all A.one && Nat.blt n.c (2 ^ mx) && (spl o xs cs).all (A.lt n dp) with
   | true => some (H.set mx k (some (.R (spl o xs cs) te (0, 0))))
   | false => none
  | some (.U cs te sz l) => match Nat.beq xs.length z && Nat.ble (o + z) cs.length && xs.all A.one && Nat.blt n.c (2 ^ mx) && (spl o xs cs).all (A.lt n dp) with
   | true => some (H.set mx k (some (.U (spl o xs cs) te sz l)))
   | false => none
  | _ => none
 | _, _, _ => none
theorem take_spl {α : Type} (l x : List α) (o L : Nat) (h1 : o + x.length ≤ L) (h2 : L ≤ l.length) : (l.take o ++ x ++ l.drop (o + x.length)).take L = (l.take L).take o ++ x ++ (l.take L).drop (o + x.length) := by
 have e1 : (l.take o ++ x).length = o + x.length := by rw [List.length_append, List.length_take]; omega
 rw [List.take_append, List.take_of_length_le (by omega), e1, List.take_take, Nat.min_eq_left (by omega), List.drop_take]
theorem opStore_ok {P : Program} {s : Sg} {w : World} {H H' : Tr O} {n : Nm} {t : TypeId} {a x : A} (hI : Inv P s w H n) (h : opStore P H n t a x = some H') : ∃ w', (Instr.storeAt t (a.den s) (x.den s)).run P w = .ok () w' ∧ Adv P s w H n s w' H' n := by
 unfold opStore at h
 split at h
 ·rename_i k o xs z hx hz
  split at h
  ·rename_i cs te hk
   split at h
   ·rename_i hc
    cases h
    simp only [Bool.and_eq_true, Nat.beq_eq_true_eq, Nat.ble_eq, Nat.blt_eq] at hc
    obtain ⟨⟨⟨⟨h1, h2⟩, h3⟩, h4⟩, h5⟩ := hc
    replace h1 := Nat.eq_of_beq_eq_true h1
    have hg : w.heap[s.a k]? = some (.cells (cs.map (A.den s)).toArray te (0, 0)) := hI.ok _ _ hk
    have hst := run_storeCells_at (P := P) (s.a k) o te (xs.map (A.den s)) 0 _ w hg (by simp; omega) (fun v hv => by
     obtain ⟨y, hy, rfl⟩ := List.mem_map.1 hv
     exact A.one_den y (List.all_eq_true.1 h3 y hy))
    have e : ((cs.map (A.den s)).toArray.toList.take (o + 0) ++ xs.map (A.den s) ++ (cs.map (A.den s)).toArray.toList.drop (o + 0 + (xs.map (A.den s)).length)) = (spl o xs cs).map (A.den s) := by
     simp [spl, List.map_append, List.map_take, List.map_drop]
    rw [e] at hst
    refine ⟨w.setRow (s.a k) ((spl o xs cs).map (A.den s)).toArray, ?_, Adv.put hI h4 hk h5 (keep_row _ hg) rfl rfl rfl (by rw [size_setRow']; exact Nat.le_refl _) fun b hb hne => objAt_setRow_ne w _ _ _ hne⟩
    unfold Instr.storeAt storeVar
    have hcs : ((x.den s).cells).size = z := by rw [A.cells_den x xs hx]; simp [h1]
    have hcl : ((x.den s).cells).toList = xs.map (A.den s) := by rw [A.cells_den x xs hx]
    simp only [A.den, Instr.sureAddr, Sem.run_bind, Sem.run_pure, Result.andThen, run_siz hz, hcs, ne_eq, not_true_eq_false, if_false, hcl, hst]
   ·cases h
  ·rename_i cs te sz l hk
   split at h
   ·rename_i hc
    cases h
    simp only [Bool.and_eq_true, Nat.beq_eq_true_eq, Nat.ble_eq, Nat.blt_eq] at hc
    obtain ⟨⟨⟨⟨h1, h2⟩, h3⟩, h4⟩, h5⟩ := hc
    replace h1 := Nat.eq_of_beq_eq_true h1
    obtain ⟨q1, q2⟩ := hI.ok _ _ hk
    rcases q2 with ⟨q2, -⟩ | ⟨g, cap, cur, e1, q3, q4, q5, q6, q7, q8⟩
    ·cases q2
    ·injection e1 with e1 _ e2
     injection e1 with e1
     have e3 : s.a k = g := by injection e1
     subst e3
     subst e2
     have q1' : cs.length = l * sz := by simpa using q1
     have hLe : l * sz ≤ cur.size := by rw [q7]; exact Nat.mul_le_mul_right _ q5
     have hst := run_storeCells_at (P := P) (s.a k) o te (xs.map (A.den s)) 0 _ w q4 (by simp; omega) (fun v hv => by
      obtain ⟨y, hy, rfl⟩ := List.mem_map.1 hv
      exact A.one_den y (List.all_eq_true.1 h3 y hy))
     rw [Nat.add_zero] at hst
     refine ⟨w.setRow (s.a k) (cur.toList.take o ++ xs.map (A.den s) ++ cur.toList.drop (o + (xs.map (A.den s)).length)).toArray, ?_, Adv.put hI h4 hk h5 ⟨by simp [spl]; omega, .inr ⟨s.a k, s.k k, _, rfl, q3, keep_row _ q4, by omega, by omega, ?_, ?_⟩⟩ rfl rfl rfl (by rw [size_setRow']; exact Nat.le_refl _) fun b hb hne => objAt_setRow_ne w _ _ _ hne⟩
     ·unfold Instr.storeAt storeVar
      have hcs : ((x.den s).cells).size = z := by rw [A.cells_den x xs hx]; simp [h1]
      have hcl : ((x.den s).cells).toList = xs.map (A.den s) := by rw [A.cells_den x xs hx]
      simp only [A.den, Instr.sureAddr, Sem.run_bind, Sem.run_pure, Result.andThen, run_siz hz, hcs, ne_eq, not_true_eq_false, if_false, hcl, hst]
     ·simp [List.length_take]
      omega
     ·show List.take (l * sz) _ = _
      rw [List.toList_toArray, take_spl _ _ _ _ (by simp; omega) (by simpa using hLe), q8]
      simp [spl, List.map_append, List.map_take, List.map_drop]
   ·cases h
  ·cases h
 ·cases h
end Mc
end Go.Proofs.YtdoolhbmekahdaaGreatDoor
namespace Go.Proofs.YtdoolhbmekahdaaGreatDoor
namespace Mc
open Go.RowKit
set_option linter.unusedVariables false
set_option linter.unusedSimpArgs false
noncomputable def opFld (P : Program) (st : TypeId) (a : A) (f : Nat) : Option A := match a, P.underlying st with
 | .P k o, some (.struct fs) => match fs[f]? with
  | some fl => match siz P fl.type with
   | some (_ + 1) => some (.P k (o + fl.offset))
   | _ => none
  | none => none
 | _, _ => none
theorem opFld_ok {P : Program} {st : TypeId} {a b : A} {f : Nat} (h : opFld P st a f = some b) (s : Sg) (w : World) : (Instr.fieldAt st (a.den s) f).run P w = .ok (b.den s) w := by
 unfold opFld at h
 split at h
 ·rename_i k o fs hu
  split at h
  ·rename_i fl hf
   split at h
   ·rename_i z hz
    cases h
    simp [Instr.fieldAt, run_underlying hu, hf, A.den, Instr.sureAddr, fieldPlace, run_siz hz, addr_add, Result.andThen]
   ·cases h
  ·cases h
 ·cases h
noncomputable def opIdx (P : Program) (t : TypeId) (x i : A) : Option A := match P.underlying t, i with
 | some (.slice e), .V (.int _ j) => match siz P e with
  | some z => match x with
   | .C k o l _ => match decide (0 ≤ j ∧ j < l) with
    | true => some (.P k (o + j.toNat * z))
    | false => none
   | .D k o _ l => match decide (0 ≤ j ∧ j < l) with
    | true => some (.P k (o + j.toNat * z))
    | false => none
   | _ => none
  | none => none
 | some (.array l e), .V (.int _ j) => match siz P e, x with
  | some z, .P k o => match decide (0 ≤ j ∧ j < l) with
   | true => some (.P k (o + j.toNat * z))
   | false => none
  | _, _ => none
 | _, _ => none
theorem opIdx_ok {P : Program} {t : TypeId} {x i b : A} (h : opIdx P t x i = some b) (s : Sg) (w : World) : (Instr.indexAt t (x.den s) (i.den s)).run P w = .ok (b.den s) w := by
 unfold opIdx at h
 split at h
 ·rename_i e kd j hu
  split at h
  ·rename_i z hz
   split at h <;> (try split at h) <;> first | cases h | skip
   all_goals
    rename_i hd
    simp only [decide_eq_true_eq] at hd
    simp [Instr.indexAt, run_underlying hu, asIntOf, A.den, hd, run_siz hz, addr_add, Result.andThen]
  ·cases h
 ·rename_i l e kd j hu
  split at h
  ·split at h
   ·rename_i z k o hz _ hd
    cases h
    simp only [decide_eq_true_eq] at hd
    simp [Instr.indexAt, run_underlying hu, asIntOf, A.den, hd, run_siz hz, addr_add, Result.andThen, Instr.sureAddr]
   ·cases h
  ·cases h
 ·cases h
noncomputable def fillA (place : Nat → Option (Nat × Nat)) (cells : List A) : List (Nat × A) → Option (List A)
 | [] => some cells
 | (i, v) :: rest => match place i, v.cells with
  | some (off, z), some vc => match Nat.beq vc.length z && Nat.ble (off + vc.length) cells.length with
   | true => fillA place (spl off vc cells) rest
   | false => none
  | _, _ => none
theorem spl_cons (o : Nat) (c : A) (vc cells : List A) (h : o + (vc.length + 1) ≤ cells.length) : spl (o + 1) vc (cells.set o c) = spl o (c :: vc) cells := by
 unfold spl
 apply List.ext_getElem?
 intro i
 have e1 : (cells.set o c).take (o + 1) = cells.take o ++ [c] := by
  rw [List.take_add_one, List.take_set_of_le (Nat.le_refl _)]
  congr 1
  rw [List.getElem?_set_self (by omega)]
  rfl
 have e2 : (cells.set o c).drop (o + 1 + vc.length) = cells.drop (o + (vc.length + 1)) := by
  rw [List.drop_set_of_lt (by omega)]
  congr 1
  omega
 rw [e1, e2]
 simp
theorem fold_spl (s : Sg) (off : Nat) : ∀ (vc : List A) (j : Nat) (cells : List A), off + j + vc.length ≤ cells.length →
  ((vc.map (A.den s)).zipIdx j).foldl (fun (cs : Array Value) (p : Value × Nat) => cs.setIfInBounds (off + p.2) p.1) (cells.map (A.den s)).toArray = ((spl (off + j) vc cells).map (A.den s)).toArray
 | [], j, cells, _ => by simp [spl]
 | c :: vc, j, cells, h => by
  simp only [List.length_cons] at h
  have e : ((cells.map (A.den s)).toArray).setIfInBounds (off + j) (c.den s) = ((cells.set (off + j) c).map (A.den s)).toArray := by
   simp [List.map_set]
  simp only [List.map_cons, List.zipIdx_cons, List.foldl_cons]
  rw [e, fold_spl s off vc (j + 1) (cells.set (off + j) c) (by rw [List.length_set]; omega), ← Nat.add_assoc, spl_cons _ _ _ _ (by omega)]
theorem fillA_ok (s : Sg) (place : Nat → Option (Nat × Nat)) : ∀ (parts : List (Nat × A)) (cells out : List A), fillA place cells parts = some out →
  Instr.fill place (cells.map (A.den s)).toArray (parts.map fun p => (p.1, p.2.den s)) = some (out.map (A.den s)).toArray
 | [], cells, out, h => by cases h; rfl
 | (i, v) :: rest, cells, out, h => by
  simp only [fillA] at h
  split at h
  ·rename_i off z vc hp hc
   split at h
   ·rename_i hb
    simp only [Bool.and_eq_true, Nat.ble_eq] at hb
    obtain ⟨h1, h2⟩ := hb
    replace h1 := Nat.eq_of_beq_eq_true h1
    have hv := A.cells_den (s := s) v vc hc
    have hs : (v.den s).cells.size = z := by rw [hv]; simp [h1]
    have hf := fold_spl s off vc 0 cells (by omega)
    simp only [List.map_cons, Instr.fill, hp]
    rw [if_neg (by rw [hs]; simp; omega)]
    have e : ((v.den s).cells.zipIdx.foldl (fun (cs : Array Value) (p : Value × Nat) => cs.setIfInBounds (off + p.2) p.1) (cells.map (A.den s)).toArray) = ((spl off vc cells).map (A.den s)).toArray := by
     rw [hv]
     simpa using hf
    rw [e]
    exact fillA_ok s place rest _ _ h
   ·cases h
  ·cases h
noncomputable def placesOf (P : Program) (t : TypeId) : Option (Nat → Option (Nat × Nat)) := match P.underlying t with
 | some (.struct fs) => match pu P (fs.mapM fun f => do pure (f.offset, ← sizeOf f.type)) with
  | some ps => some fun i => ps[i]?
  | none => none
 | some (.array _ e) => match siz P e with
  | some z => some fun i => some (i * z, z)
  | none => none
 | _ => none
noncomputable def opBuild (P : Program) (t : TypeId) (parts : List (Nat × A)) : Option A := match zer P t, placesOf P t with
 | some z, some pl => match fillA pl (z.cells.toList.map A.V) parts with
  | some cs => some (.G cs)
  | none => none
 | _, _ => none
theorem opBuild_ok {P : Program} {t : TypeId} {parts : List (Nat × A)} {b : A} (h : opBuild P t parts = some b) (s : Sg) (w : World) : (Instr.build t (parts.map fun p => (p.1, p.2.den s)).toArray).run P w = .ok (b.den s) w := by
 unfold opBuild at h
 split at h
 ·rename_i z pl hz hp
  split at h
  ·rename_i cs hf
   cases h
   have hf2 := fillA_ok s pl parts _ _ hf
   rw [V_den, Array.toArray_toList] at hf2
   unfold placesOf at hp
   split at hp
   ·rename_i fs hu
    split at hp
    ·rename_i ps hps
     cases hp
     have hq := pu_run _ _ hps w
     simp only [Instr.build, Sem.run_bind, run_zer hz, run_underlying hu, Result.andThen]
     rw [hq]
     simp only [Result.andThen, hf2, Sem.run_pure, A.den]
    ·cases hp
   ·rename_i n e hu
    split at hp
    ·rename_i zz hzz
     cases hp
     simp only [Instr.build, Sem.run_bind, run_zer hz, run_underlying hu, Result.andThen, run_siz hzz, hf2, Sem.run_pure, A.den]
    ·cases hp
   ·cases hp
  ·cases h
 ·cases h
noncomputable def zeros (z : List A) : Nat → List A
 | 0 => []
 | n + 1 => z ++ zeros z n
theorem zeros_den (s : Sg) (z : Array Value) (m : Nat) (hz : z.size = m) (hm : 0 < m) : ∀ n, (Array.range (n * m)).map (fun i => z[i % z.size]!) = ((zeros (z.toList.map A.V) n).map (A.den s)).toArray
 | 0 => by simp [zeros]
 | n + 1 => by
  have ih := zeros_den s z m hz hm n
  simp only [zeros, List.map_append, V_den]
  apply Array.ext_getElem?
  intro i
  have e : ((zeros (z.toList.map A.V) n).map (A.den s)) = ((Array.range (n * m)).map (fun i => z[i % z.size]!)).toList := by rw [ih]
  rw [e]
  have hmul : (n + 1) * m = n * m + m := by rw [Nat.add_mul, Nat.one_mul]
  simp only [Array.getElem?_map, Array.getElem?_range, List.getElem?_toArray, List.getElem?_append, Array.length_toList, hz, Array.getElem?_toList]
  by_cases h1 : i < m
  ·simp [h1, show i < (n + 1) * m by omega, Nat.mod_eq_of_lt h1, hz]
  ·by_cases h2 : i < (n + 1) * m
   ·have h3 : i - m < n * m := by omega
    have h4 : i % m = (i - m) % m := by
     conv => lhs; rw [show i = (i - m) + m by omega, Nat.add_mod_right]
    simp [h1, h2, h3, h4]
   ·simp [h1, h2, show ¬ (i - m < n * m) by omega]
noncomputable def opBSlice (P : Program) (H : Tr O) (n : Nm) (t : TypeId) (len : Nat) (parts : List (Nat × A)) : Option Q3 := match P.underlying t, len with
 | some (.slice e), len + 1 => match siz P e, zer P e with
  | some (z + 1), some zv => match Nat.beq zv.cells.size (z + 1) && Nat.ble ((len + 1) * (z + 1)) (2 ^ 24), fillA (fun i => some (i * (z + 1), z + 1)) (zeros (zv.cells.toList.map A.V) (len + 1)) parts with
   | true, some cs => match newR H n cs e with
    | some (_, H', n') => some (.C n.c 0 (len + 1) (len + 1), H', n')
    | none => none
   | _, _ => none
  | _, _ => none
 | some (.slice e), 0 => match parts, siz P e, newR H n [] e with
  | [], some _, some (_, H', n') => some (.C n.c 0 0 0, H', n')
  | _, _, _ => none
 | _, _ => none
theorem opBSlice_ok {P : Program} {s : Sg} {w : World} {H : Tr O} {n : Nm} {t : TypeId} {len : Nat} {parts : List (Nat × A)} {r : Q3} (hI : Inv P s w H n) (h : opBSlice P H n t len parts = some r) : Snd P (Instr.buildSlice t len (parts.map fun p => (p.1, p.2.den s)).toArray) s w H n r := by
 unfold opBSlice at h
 split at h
 ·rename_i e len hu
  split at h
  ·rename_i z zv hz hzv
   split at h
   ·rename_i cs hb hf
    split at h
    ·rename_i a' H' n' hn
     cases h
     simp only [Bool.and_eq_true, Nat.ble_eq] at hb
     obtain ⟨hb1, hb2⟩ := hb
     replace hb1 := Nat.eq_of_beq_eq_true hb1
     obtain ⟨h1, h2, h3, h4⟩ := newR_ok hI hn 0
     refine ⟨_, _, ?_, h1⟩
     have hf2 := fillA_ok s _ parts _ _ hf
     rw [← zeros_den s zv.cells (z + 1) hb1 (by omega) (len + 1)] at hf2
     have hne : ¬ ((len + 1) * (z + 1) = 0) := by simp
     simp only [Instr.buildSlice, Sem.run_bind, run_underlying hu, Result.andThen, run_siz hz, if_neg (show ¬ ((len + 1) * (z + 1) > 2 ^ 24) by omega), if_neg hne, run_zer hzv, Sem.run_pure, hf2, run_newRow, A.den, (s.add_new n w.heap.size 0).1]
    ·cases h
   ·cases h
  ·cases h
 ·rename_i e hu
  split at h
  ·rename_i z a' H' n' hz hn
   cases h
   obtain ⟨h1, h2, h3, h4⟩ := newR_ok hI hn 0
   refine ⟨_, _, ?_, h1⟩
   simp only [Instr.buildSlice, Sem.run_bind, run_underlying hu, Result.andThen, run_siz hz, Nat.zero_mul, A.den, (s.add_new n w.heap.size 0).1]
   simp [Instr.fill, Result.andThen, run_newRow, show Array.range 0 = #[] from rfl]
  ·cases h
 ·cases h
end Mc
end Go.Proofs.YtdoolhbmekahdaaGreatDoor
namespace Go.Proofs.YtdoolhbmekahdaaGreatDoor
namespace Mc
open Go.RowKit
set_option linter.unusedVariables false
set_option linter.unusedSimpArgs false
noncomputable def bnd : Option A → Option (Option Value)
 | none => some none
 | some a => match a.pl with
  | some v => some (some v)
  | none => none
theorem bnd_ok {x : Option A} {v : Option Value} (h : bnd x = some v) (s : Sg) : x.map (A.den s) = v := by
 cases x with
 | none => cases h; rfl
 | some a =>
  simp only [bnd] at h
  split at h
  ·rename_i v' hv
   cases h
   rw [Option.map_some, A.pl_den a v' hv]
  ·cases h
noncomputable def opSlice (P : Program) (t : TypeId) (x : A) (lo hi mx : Option A) : Option A := match P.underlying t, bnd lo, bnd hi, bnd mx with
 | some (.slice e), some lo, some hi, some mx => match x, siz P e with
  | .C k o l c, some z => match pu P (Instr.sliceBounds true l c lo hi mx) with
   | some (a, b, m) => some (.C k (match Nat.beq m a with | true => o | false => o + a * z) (b - a) (m - a))
   | none => none
  | _, _ => none
 | some (.array n e), some lo, some hi, some mx => match x, siz P e with
  | .P k o, some z => match pu P (Instr.sliceBounds false n n lo hi mx) with
   | some (a, b, m) => some (.C k (match Nat.beq m a with | true => o | false => o + a * z) (b - a) (m - a))
   | none => none
  | _, _ => none
 | _, _, _, _ => none
theorem beq_if {α : Type} (m a : Nat) (x y : α) : (match Nat.beq m a with | true => x | false => y) = if m = a then x else y := by
 by_cases h : m = a
 ·subst h; rw [if_pos rfl, show Nat.beq m m = true from Nat.beq_refl m]
 ·rw [if_neg h]
  cases hb : Nat.beq m a with
  | true => exact absurd (Nat.eq_of_beq_eq_true hb) h
  | false => rfl
theorem opSlice_ok {P : Program} {t : TypeId} {x b : A} {lo hi mx : Option A} (h : opSlice P t x lo hi mx = some b) (s : Sg) (w : World) : (Instr.sliceAt t (x.den s) (lo.map (A.den s)) (hi.map (A.den s)) (mx.map (A.den s))).run P w = .ok (b.den s) w := by
 unfold opSlice at h
 split at h
 ·rename_i e lo' hi' mx' hu h1 h2 h3
  rw [bnd_ok h1, bnd_ok h2, bnd_ok h3]
  split at h
  ·rename_i k o l c z hz
   split at h
   ·rename_i a b m hp
    cases h
    have hq := pu_run _ _ hp w
    rw [beq_if]
    simp only [Instr.sliceAt, Sem.run_bind, run_underlying hu, Result.andThen, Instr.slice, A.den, hq, run_siz hz, Sem.run_pure]
    split <;> simp [addr_add, Option.map]
   ·cases h
  ·cases h
 ·rename_i n e lo' hi' mx' hu h1 h2 h3
  rw [bnd_ok h1, bnd_ok h2, bnd_ok h3]
  split at h
  ·rename_i k o z hz
   split at h
   ·rename_i a b m hp
    cases h
    have hq := pu_run _ _ hp w
    rw [beq_if]
    simp only [Instr.sliceAt, Sem.run_bind, run_underlying hu, Result.andThen, A.den, Instr.sureAddr, hq, run_siz hz, Sem.run_pure]
    split <;> simp [addr_add]
   ·cases h
  ·cases h
 ·cases h
noncomputable def intA : Option A → Nat → Option Nat
 | none, d => some d
 | some (.V (.int _ (.ofNat v))), _ => some v
 | _, _ => none
theorem intA_bound {P : Program} {x : Option A} {d v y : Nat} {w : World} {s : Sg} {code : BoundsCode} (h : intA x d = some v) (hv : v ≤ y) : (match x.map (A.den s) with
  | some u => Instr.sliceBound u y code
  | none => pure d).run P w = .ok v w := by
 unfold intA at h
 split at h
 ·cases h; rfl
 ·cases h
  simp [Option.map, A.den, Instr.sliceBound, asIntOf, Result.andThen]
  omega
 ·cases h
noncomputable def opSliceD (P : Program) (H : Tr O) (t : TypeId) (x : A) (lo hi mx : Option A) : Option A := match P.underlying t, x, mx with
 | some (.slice e), .D k o e0 l, none => match siz P e, H.get k, intA lo 0, intA hi l with
  | some z, some (.U cs te sz l'), some a, some b => match Nat.ble (e0 + l) l' && Nat.ble a b && Nat.ble (e0 + b) l' with
   | true => match Nat.beq a 0 || Nat.blt (e0 + a) l' with
    | true => some (.D k (o + a * z) (e0 + a) (b - a))
    | false => some (.Z k o (o + a * z) (e0 + a))
   | false => none
  | _, _, _, _ => none
 | _, _, _ => none
theorem opSliceD_ok {P : Program} {H : Tr O} {n : Nm} {t : TypeId} {x b : A} {lo hi mx : Option A} {s : Sg} {w : World} (hI : Inv P s w H n) (h : opSliceD P H t x lo hi mx = some b) : (Instr.sliceAt t (x.den s) (lo.map (A.den s)) (hi.map (A.den s)) (mx.map (A.den s))).run P w = .ok (b.den s) w := by
 unfold opSliceD at h
 split at h
 ·rename_i e k o e0 l hu
  split at h
  ·rename_i z cs te sz l' a b hz hk ha hb
   split at h
   ·rename_i hc
    simp only [Bool.and_eq_true, Nat.ble_eq] at hc
    obtain ⟨⟨c1, c2⟩, c3⟩ := hc
    obtain ⟨-, h2⟩ := hI.ok _ _ hk
    rcases h2 with ⟨h2, -⟩ | ⟨g, cap, cur, e1, -, -, h5, -⟩
    ·cases h2
    ·injection e1 with _ _ e2
     have hcap : l ≤ s.k k - e0 := by omega
     have hq : (Instr.sliceBounds true l (s.k k - e0) (lo.map (A.den s)) (hi.map (A.den s)) none).run P w = .ok (a, b, s.k k - e0) w := by
      have h1 := intA_bound (P := P) (w := w) (s := s) (y := s.k k - e0) (code := .sliceAcap) hb (by omega)
      have h3 := intA_bound (P := P) (w := w) (s := s) (y := b) (code := .sliceB) ha c2
      unfold Instr.sliceBounds
      cases hi with
      | none =>
       cases hb
       cases lo with
       | none => cases ha; simp [Result.andThen]
       | some lo => simp only [Option.map_some] at h3; simp [Result.andThen, h3]
      | some hi =>
       simp only [Option.map_some] at h1
       cases lo with
       | none => cases ha; simp [Result.andThen, h1]
       | some lo => simp only [Option.map_some] at h3; simp [Result.andThen, h1, h3]
     have e3 : s.k k - e0 - a = s.k k - (e0 + a) := by omega
     cases c4 : Nat.beq a 0 || Nat.blt (e0 + a) l' with
     | true =>
      rw [c4] at h
      cases h
      simp only [Bool.or_eq_true, Nat.blt_eq] at c4
      simp only [Instr.sliceAt, Sem.run_bind, run_underlying hu, Result.andThen, Instr.slice, A.den, Option.map_none, hq, run_siz hz, Sem.run_pure]
      rw [e3]
      split
      ·rename_i h6
       have : a = 0 := by
        rcases c4 with c4 | c4
        ·exact Nat.eq_of_beq_eq_true c4
        ·omega
       subst this
       simp
      ·simp [addr_add]
     | false =>
      rw [c4] at h
      cases h
      have h7 : ¬ e0 + a < l' := fun h7 => by
       have : Nat.blt (e0 + a) l' = true := by rw [Nat.blt_eq]; exact h7
       simp [this] at c4
      have h8 : b - a = 0 := by omega
      simp only [Instr.sliceAt, Sem.run_bind, run_underlying hu, Result.andThen, Instr.slice, A.den, Option.map_none, hq, run_siz hz, Sem.run_pure]
      rw [e3, h8]
      by_cases h6 : s.k k - e0 = a
      ·have h9 : Nat.ble (s.k k) (e0 + a) = true := by rw [Nat.ble_eq]; omega
       simp [h6, h9]
      ·have h9 : Nat.ble (s.k k) (e0 + a) = false := by
        cases hx : Nat.ble (s.k k) (e0 + a) with
        | false => rfl
        | true => rw [Nat.ble_eq] at hx; omega
       simp [h6, h9, addr_add]
   ·cases h
  ·cases h
 ·cases h
noncomputable def opSlice3 (P : Program) (H : Tr O) (t : TypeId) (x : A) (lo hi mx : Option A) : Option A := match P.underlying t, x, hi, mx with
 | some (.slice e), .D k o e0 l, some hi, some mx => match siz P e, H.get k, intA lo 0, intA (some hi) 0, intA (some mx) 0 with
  | some z, some (.U cs te sz l'), some a, some b, some m => match Nat.ble a b && Nat.ble b m && Nat.ble (e0 + m) l' with
   | true => some (.C k (match Nat.beq m a with | true => o | false => o + a * z) (b - a) (m - a))
   | false => none
  | _, _, _, _, _ => none
 | _, _, _, _ => none
theorem opSlice3_ok {P : Program} {H : Tr O} {n : Nm} {t : TypeId} {x b : A} {lo hi mx : Option A} {s : Sg} {w : World} (hI : Inv P s w H n) (h : opSlice3 P H t x lo hi mx = some b) : (Instr.sliceAt t (x.den s) (lo.map (A.den s)) (hi.map (A.den s)) (mx.map (A.den s))).run P w = .ok (b.den s) w := by
 unfold opSlice3 at h
 split at h
 ·rename_i e k o e0 l hi mx hu
  split at h
  ·rename_i z cs te sz l' a b m hz hk ha hb hm
   split at h
   ·rename_i hc
    cases h
    simp only [Bool.and_eq_true, Nat.ble_eq] at hc
    obtain ⟨⟨c1, c2⟩, c3⟩ := hc
    obtain ⟨-, h2⟩ := hI.ok _ _ hk
    rcases h2 with ⟨h2, -⟩ | ⟨g, cap, cur, e1, -, -, h5, -⟩
    ·cases h2
    ·injection e1 with _ _ e2
     have hq : (Instr.sliceBounds true l (s.k k - e0) (lo.map (A.den s)) (some (hi.den s)) (some (mx.den s))).run P w = .ok (a, b, m) w := by
      have h1 := intA_bound (P := P) (w := w) (s := s) (y := s.k k - e0) (code := .slice3Acap) hm (by omega)
      have h3 := intA_bound (P := P) (w := w) (s := s) (y := m) (code := .slice3B) hb c2
      have h4 := intA_bound (P := P) (w := w) (s := s) (y := b) (code := .slice3C) ha c1
      simp only [Option.map_some] at h1 h3
      unfold Instr.sliceBounds
      cases lo with
      | none => cases ha; simp [Result.andThen, h1, h3]
      | some lo => simp only [Option.map_some] at h4; simp [Result.andThen, h1, h3, h4]
     rw [beq_if]
     simp only [Instr.sliceAt, Sem.run_bind, run_underlying hu, Result.andThen, Instr.slice, A.den, Option.map_some, hq, run_siz hz, Sem.run_pure]
     split <;> simp [addr_add]
   ·cases h
  ·cases h
 ·cases h
noncomputable def frcB {α β : Type} (l : List β) : (List β → α) → α := match l with
 | [] => fun f => f []
 | a :: l => fun f => frcB l fun r => f (a :: r)
theorem frcB_eq {α β : Type} : ∀ (l : List β) (f : List β → α), frcB l f = f l
 | [], f => rfl
 | a :: l, f => by
  show frcB l (fun r => f (a :: r)) = _
  rw [frcB_eq l]
noncomputable def opSliS (P : Program) (t : TypeId) (x : A) (lo hi mx : Option A) : Option A := match P.underlying t, x, mx with
 | some .string, .V (.string u), none => match intA lo 0, intA hi u.size with
  | some a, some b => match Nat.ble a b && Nat.ble b u.size with
   | true => frcB ((u.data.toList.take b).drop a) fun r => some (.V (.string ⟨r.toArray⟩))
   | false => none
  | _, _ => none
 | _, _, _ => none
theorem ext_list (u : ByteArray) (a b : Nat) : u.extract a b = ⟨((u.data.toList.take b).drop a).toArray⟩ := by
 have h : (u.extract a b).data = ((u.data.toList.take b).drop a).toArray := by
  rw [ByteArray.data_extract, ← Array.toArray_toList (xs := u.data.extract a b), Array.toList_extract]
  congr 1
  rw [List.extract_eq_take_drop, List.drop_take]
 rw [← h]
theorem opSliS_ok {P : Program} {t : TypeId} {x b : A} {lo hi mx : Option A} (h : opSliS P t x lo hi mx = some b) (s : Sg) (w : World) : (Instr.sliceAt t (x.den s) (lo.map (A.den s)) (hi.map (A.den s)) (mx.map (A.den s))).run P w = .ok (b.den s) w := by
 unfold opSliS at h
 split at h
 ·rename_i u hu
  split at h
  ·rename_i a b ha hb
   split at h
   ·rename_i hc
    rw [frcB_eq] at h
    cases h
    rw [Bool.and_eq_true, Nat.ble_eq, Nat.ble_eq] at hc
    obtain ⟨c1, c2⟩ := hc
    have hq : (Instr.sliceBounds false u.size u.size (lo.map (A.den s)) (hi.map (A.den s)) none).run P w = .ok (a, b, u.size) w := by
     have h1 := intA_bound (P := P) (w := w) (s := s) (y := u.size) (code := .sliceAlen) hb c2
     have h3 := intA_bound (P := P) (w := w) (s := s) (y := b) (code := .sliceB) ha c1
     unfold Instr.sliceBounds
     cases hi with
     | none =>
      cases hb
      cases lo with
      | none => cases ha; simp [Result.andThen]
      | some lo => simp only [Option.map_some] at h3; simp [Result.andThen, h3]
     | some hi =>
      simp only [Option.map_some] at h1
      cases lo with
      | none => cases ha; simp [Result.andThen, h1]
      | some lo => simp only [Option.map_some] at h3; simp [Result.andThen, h1, h3]
    have e := ext_list u a b
    simp only [Instr.sliceAt, Sem.run_bind, run_underlying hu, Result.andThen, Instr.slice, A.den, Option.map_none, Option.isSome_none, hq, Sem.run_pure]
    simp [Result.andThen, hq, e]
   ·cases h
  ·cases h
 ·cases h
noncomputable def knd : IntKind → Nat
 | .i8 => 0 | .i16 => 1 | .i32 => 2 | .i64 => 3 | .u8 => 4 | .u16 => 5 | .u32 => 6 | .u64 => 7
theorem knd_inj {k k' : IntKind} (h : Nat.beq (knd k) (knd k') = true) : k = k' := by
 cases k <;> cases k' <;> first | rfl | (exact absurd (Nat.eq_of_beq_eq_true h) (by decide))
noncomputable def mxN : IntKind → Nat
 | .i8 => 127 | .i16 => 32767 | .i32 => 2147483647 | .i64 => 9223372036854775807 | .u8 => 255 | .u16 => 65535 | .u32 => 4294967295 | .u64 => 18446744073709551615
theorem wrap_small {k : IntKind} {r : Nat} (h : r ≤ mxN k) : k.wrap (r : Int) = r := by
 cases k <;> simp only [mxN] at h <;> simp [IntKind.wrap, IntKind.bits, IntKind.signed] <;> omega
noncomputable def fit (k : IntKind) (r : Nat) : Option A := match Nat.ble r (mxN k) with
 | true => some (.V (.int k (.ofNat r)))
 | false => none
theorem fit_ok {k : IntKind} {r : Nat} {b : A} (h : fit k r = some b) (s : Sg) : b.den s = .int k (k.wrap (r : Int)) := by
 unfold fit at h
 split at h
 ·rename_i hr
  cases h
  rw [Nat.ble_eq] at hr
  rw [wrap_small hr]
  simp only [A.den]
  rfl
 ·cases h
noncomputable def opInt (op : BinOp) (x y : A) : Option A := match x, y with
 | .V (.int k (.ofNat a)), .V (.int k' (.ofNat b)) => match op with
  | .shr => match Nat.ble b k.bits with
   | true => some (.V (.int k (.ofNat (Nat.div a (Nat.pow 2 b)))))
   | false => none
  | .shl => none
  | op => match Nat.beq (knd k) (knd k') with
   | true => match op with
    | .add => fit k (Nat.add a b)
    | .mul => fit k (Nat.mul a b)
    | .sub => match Nat.ble b a with
     | true => fit k (Nat.sub a b)
     | false => none
    | .lss => some (.V (.bool (Nat.blt a b)))
    | .leq => some (.V (.bool (Nat.ble a b)))
    | .gtr => some (.V (.bool (Nat.blt b a)))
    | .geq => some (.V (.bool (Nat.ble b a)))
    | .eql => some (.V (.bool (Nat.beq a b)))
    | .neq => some (.V (.bool (not (Nat.beq a b))))
    | _ => none
   | false => none
 | _, _ => none
theorem bool_eq {p q : Bool} (h : (p = true) ↔ (q = true)) : p = q := by cases p <;> cases q <;> simp_all
theorem opInt_ok {P : Program} {op : BinOp} {t : TypeId} {x y b : A} (xo yo : Operand) (h : opInt op x y = some b) (s : Sg) (w : World) : (do eqGuard op t xo yo (x.den s) (y.den s); binOp op t (x.den s) (y.den s) : Sem Value).run P w = .ok (b.den s) w := by
 unfold opInt at h
 split at h
 ·rename_i k a k' b'
  have g : ∀ op : BinOp, (eqGuard op t xo yo (.int k (a : Int)) (.int k' (b' : Int))).run P w = .ok () w := fun op => by cases op <;> simp [eqGuard]
  have ga := g op
  simp only [Int.ofNat_eq_natCast, A.den, Sem.run_bind, ga, Result.andThen]
  split at h
  ·split at h
   ·rename_i hb
    cases h
    rw [Nat.ble_eq] at hb
    have e1 : ¬ ((b' : Int) < 0) := by omega
    have e2 : min ((b' : Int)).toNat k.bits = b' := by rw [Int.toNat_natCast]; omega
    have e3 : (a : Int).fdiv (2 ^ b') = ((Nat.div a (Nat.pow 2 b') : Nat) : Int) := by
     rw [Int.fdiv_eq_ediv_of_nonneg _ (by exact_mod_cast Nat.zero_le _)]
     show (a : Int) / 2 ^ b' = ((a / 2 ^ b' : Nat) : Int)
     push_cast
     rfl
    simp only [binOp, Op.shift, e1, if_false, e2, e3, Sem.run_pure, A.den, Int.ofNat_eq_natCast]
   ·cases h
  ·cases h
  ·split at h
   ·rename_i hk
    obtain rfl := knd_inj hk
    split at h
    ·have := fit_ok h s
     rw [this]
     simp [binOp, Op.intArith]
    ·have := fit_ok h s
     rw [this]
     simp [binOp, Op.intArith]
    ·split at h
     ·rename_i hb
      rw [Nat.ble_eq] at hb
      have := fit_ok h s
      rw [this]
      have e : ((a - b' : Nat) : Int) = (a : Int) - b' := by omega
      simp [binOp, Op.intArith, e]
     ·cases h
    all_goals first | (cases h; done) | skip
    all_goals
     cases h
     have h1 : decide ((a : Int) < b') = Nat.blt a b' := bool_eq (by rw [decide_eq_true_eq, Nat.blt_eq]; omega)
     have h2 : decide ((a : Int) ≤ b') = Nat.ble a b' := bool_eq (by rw [decide_eq_true_eq, Nat.ble_eq]; omega)
     have h3 : decide ((a : Int) > b') = Nat.blt b' a := bool_eq (by rw [decide_eq_true_eq, Nat.blt_eq]; omega)
     have h4 : decide ((a : Int) ≥ b') = Nat.ble b' a := bool_eq (by rw [decide_eq_true_eq, Nat.ble_eq]; omega)
     have h5 : ((a : Int) == b') = Nat.beq a b' := bool_eq (by rw [beq_iff_eq, Nat.beq_eq]; omega)
     have h6 : ((a : Int) != b') = !Nat.beq a b' := by rw [← h5]; rfl
     simp only [binOp, Op.intCmp, ne_eq, not_true_eq_false, if_false, Sem.run_pure, A.den, h1, h2, h3, h4, h5, h6]
   ·cases h
 ·cases h
noncomputable def opCvt (P : Program) (src dst : TypeId) (x : A) : Option A := match P.underlying src, P.underlying dst, x with
 | some (.int _), some (.int k'), .V (.int k (.ofNat a)) => match Nat.beq (knd k') 4 with
  | true => some (.V (.int .u8 (.ofNat (Nat.mod a 256))))
  | false => fit k' a
 | _, _, _ => none
theorem opCvt_ok {P : Program} {src dst : TypeId} {x b : A} (h : opCvt P src dst x = some b) (s : Sg) (w : World) : (convert src dst (x.den s)).run P w = .ok (b.den s) w := by
 unfold opCvt at h
 split at h
 ·rename_i q k' k a hs hd
  have hr : (convert src dst (.int k (a : Int))).run P w = .ok (.int k' (k'.wrap (a : Int))) w := by
   simp [convert, run_underlying hs, run_underlying hd, Result.andThen, Conv.intToInt]
  simp only [A.den, Int.ofNat_eq_natCast]
  rw [hr]
  split at h
  ·rename_i hk
   cases h
   have : k' = .u8 := knd_inj hk
   subst this
   have e : IntKind.u8.wrap (a : Int) = ((Nat.mod a 256 : Nat) : Int) := by
    show _ = ((a % 256 : Nat) : Int)
    simp [IntKind.wrap, IntKind.bits, IntKind.signed]
   rw [e]
   simp only [A.den]
   rfl
  ·rw [fit_ok h s]
 ·cases h
noncomputable def opExt : A → Nat → Option A
 | .T vs, i => vs[i]?
 | _, _ => none
theorem opExt_ok {P : Program} {x b : A} {i : Nat} (h : opExt x i = some b) (s : Sg) (w : World) : (Instr.extract (x.den s) i).run P w = .ok (b.den s) w := by
 unfold opExt at h
 split at h
 ·simp [Instr.extract, A.den, h]
 ·cases h
noncomputable def partA (P : Program) (t : TypeId) (cs : List A) (o : Nat) : Option A := match ag P t with
 | some true => match siz P t with
  | some z => some (.G ((cs.drop o).take z))
  | none => none
 | some false => cs[o]?
 | none => none
theorem partA_ok {P : Program} {t : TypeId} {cs : List A} {o : Nat} {b : A} (h : partA P t cs o = some b) (s : Sg) (w : World) : (part t (cs.map (A.den s)).toArray o).run P w = .ok (b.den s) w := by
 unfold partA at h
 split at h
 ·rename_i ha
  split at h
  ·rename_i z hz
   cases h
   simp only [part, Sem.run_bind, run_ag ha, Result.andThen, if_true, run_siz hz, Sem.run_pure, A.den]
   congr 2
   simp [List.map_take, List.map_drop]
  ·cases h
 ·rename_i ha
  simp only [part, Sem.run_bind, run_ag ha, Result.andThen]
  simp [h]
 ·cases h
noncomputable def opField (P : Program) (t : TypeId) (x : A) (f : Nat) : Option A := match P.underlying t, x with
 | some (.struct fs), .G cs => match fs[f]? with
  | some fl => partA P fl.type cs fl.offset
  | none => none
 | _, _ => none
theorem opField_ok {P : Program} {t : TypeId} {x b : A} {f : Nat} (h : opField P t x f = some b) (s : Sg) (w : World) : (Instr.field t (x.den s) f).run P w = .ok (b.den s) w := by
 unfold opField at h
 split at h
 ·rename_i fs cs hu
  split at h
  ·rename_i fl hf
   have := partA_ok h s w
   simp [Instr.field, run_underlying hu, hf, A.den, asAgg, this, Result.andThen]
  ·cases h
 ·cases h
noncomputable def opMkI (P : Program) (t : TypeId) (x : A) : Option A := match P.underlying t with
 | some (.interface _) => none
 | some _ => some (.I t x)
 | none => none
theorem opMkI_ok {P : Program} {t : TypeId} {x b : A} (h : opMkI P t x = some b) (s : Sg) (w : World) : (Instr.makeInterface t (x.den s)).run P w = .ok (b.den s) w := by
 unfold opMkI at h
 split at h
 ·cases h
 ·rename_i d hn hu
  cases h
  cases d <;> first | exact (hn _ rfl).elim | simp [Instr.makeInterface, run_underlying hu, A.den, Result.andThen]
 ·cases h
noncomputable def opAssert (P : Program) (x : A) (t : TypeId) : Option A := match P.underlying t, x with
 | some (.interface _), _ => none
 | some _, .I t' a => match Nat.beq t' t with
  | true => some a
  | false => none
 | _, _ => none
theorem opAssert_ok {P : Program} {x b : A} {xt t : TypeId} (h : opAssert P x t = some b) (s : Sg) (w : World) : (Instr.typeAssert (x.den s) xt t false).run P w = .ok (b.den s) w := by
 unfold opAssert at h
 split at h
 ·cases h
 ·rename_i d t' a hn hu
  split at h
  ·rename_i hb
   cases h
   obtain rfl := Nat.eq_of_beq_eq_true hb
   cases d <;> first | exact (hn _ rfl).elim | simp [Instr.typeAssert, run_underlying hu, A.den, Result.andThen]
  ·cases h
 ·cases h
noncomputable def named : A → Bool
 | .P .. | .C .. | .D .. | .M .. | .F .. | .I .. | .Z .. => true
 | _ => false
noncomputable def nilEq (P : Program) (t : TypeId) (x y : A) : Bool := match P.underlying t, x, y with
 | some (.pointer _), .P .., .V (.pointer none) => true
 | some (.slice _), .C .., .V (.slice none _ _) => true
 | some (.slice _), .D .., .V (.slice none _ _) => true
 | some (.slice _), .Z .., .V (.slice none _ _) => true
 | some (.map _ _), .M _, .V (.map none) => true
 | some (.interface _), .I .., .V .nilIface => true
 | some (.func ..), .F .., .V .nilFunc => true
 | _, _, _ => false
theorem nilEq_ok {P : Program} {t : TypeId} {x y : A} (h : nilEq P t x y = true) (s : Sg) (w : World) : (Op.equal t (x.den s) (y.den s)).run P w = .ok false w := by
 have key : ∀ d, (Op.equalIn (d + 1) t (x.den s) (y.den s)).run P w = .ok false w := fun d => by
  unfold nilEq at h
  split at h <;> first | cases h | skip
  all_goals
   rename_i hu
   simp [Op.equalIn, run_underlying hu, A.den, Result.andThen]
 exact key 9999
theorem nilEq_guard {P : Program} {op : BinOp} {t : TypeId} {x y : A} (xo yo : Operand) (h : nilEq P t x y = true) (s : Sg) (w : World) : (eqGuard op t xo yo (x.den s) (y.den s)).run P w = .ok () w := by
 unfold nilEq at h
 split at h <;> first | cases h | skip
 all_goals (cases op <;> simp [eqGuard, A.den])
noncomputable def opNil (P : Program) (op : BinOp) (t : TypeId) (x y : A) : Option A := match op, nilEq P t x y with
 | .eql, true => some (.V (.bool false))
 | .neq, true => some (.V (.bool true))
 | _, _ => none
theorem opNil_ok {P : Program} {op : BinOp} {t : TypeId} {x y b : A} (xo yo : Operand) (h : opNil P op t x y = some b) (s : Sg) (w : World) : (do eqGuard op t xo yo (x.den s) (y.den s); binOp op t (x.den s) (y.den s) : Sem Value).run P w = .ok (b.den s) w := by
 unfold opNil at h
 split at h <;> first | cases h | skip
 all_goals
  rename_i hn
  have h1 := nilEq_ok hn s w
  have h2 := fun op => nilEq_guard (op := op) xo yo hn s w
  simp only [Sem.run_bind, h2, Result.andThen]
  unfold nilEq at hn
  split at hn <;> first | cases hn | skip
  all_goals
   simp only [A.den] at h1 ⊢
   simp [binOp, h1, Result.andThen]
end Mc
end Go.Proofs.YtdoolhbmekahdaaGreatDoor
