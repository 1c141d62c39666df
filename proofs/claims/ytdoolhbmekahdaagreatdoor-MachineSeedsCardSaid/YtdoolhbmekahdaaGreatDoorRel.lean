/- Rel -/
import Derived.Test.YtdoolhbmekahdaaGreatDoorBase
namespace Go.Proofs.YtdoolhbmekahdaaGreatDoor
open Go.RowKit
set_option linter.unusedVariables false
set_option linter.unusedSimpArgs false
def isCall (o : Oper) : Bool := match o.op with | .call _ => true | _ => false
def isNew (o : Oper) : Bool := match o.op with | .alloc _ => true | .box _ _ => true | .buildSlice _ _ _ => true | _ => false
def Eff : Option (Nat × TypeId) → World → World → Prop
 | none, w, w' => Below w.heap.size w w'
 | some (g, t'), w, w' => ∃ old cs t, objAt w g = some (.cells old t) ∧ (cs.size = old.size ∧ t = t') ∧ w' = w.setRow g cs
structure Known where
 i : Nat
 fact : World → Prop
 eff : Option (Nat × TypeId)
def Stab (r : World → Prop) (e : Option (Nat × TypeId)) : Prop := ∀ w w', r w → Eff e w w' → r w'
def effOf : Option Known → Option (Nat × TypeId)
 | none => none
 | some y => y.eff
def addK : Option Known → List Known → List Known
 | none, F => F
 | some y, F => y :: F
def Apart (x y : Known) : Prop := Stab x.fact y.eff ∧ Stab y.fact x.eff
def Fits (y : Option Known) (F : List Known) : Prop :=
 match y with
 | none => True
 | some y => Stab y.fact none ∧ ∀ x ∈ F, Apart x y
structure Vals where
 v : Nat → Value
 vary : Nat → Bool
 sh : Nat → Value → Prop
 fact : Nat → Value → World → Prop
instance : CoeFun Vals (fun _ => Nat → Value) := ⟨Vals.v⟩
def Alike (T : Vals) (fv : Nat → Bool) (V : Vals) : Prop := V.vary = T.vary ∧ V.fact = T.fact ∧ V.sh = T.sh ∧ (∀ i, T.vary i = true → T.sh i (V.v i)) ∧ ∀ i, (T.vary i = false ∨ fv i = true) → V.v i = T.v i
section
variable {P : Program} {md : Region.Mode} {ops : Array Oper} {C : World → Prop} {V : Vals} {γ : Nat → Nat} {Q : Exit → Act → World → Prop} {base : Nat}
def RelUpon (P : Program) (C : World → Prop) (V : Vals) (i : Nat) (o : Oper) (w : World) (v : Value) (y : Option Known) : Result Next → Prop
 | .ok (.value u) w' => (u = v ∧ C w' ∧ Eff (effOf y) w w' ∧ (∀ x ∈ y, x.fact w') ∧ (isNew o = true → w.heap.size < w'.heap.size) ∧ (isCall o = true → V.vary i = false)) ∨
   (isCall o = true ∧ isNew o = false ∧ V.vary i = true ∧ y = some ⟨i, V.fact i v, none⟩ ∧ V.sh i u ∧ V.fact i u w' ∧ Below w.heap.size w w')
 | .ok .skip w' => v = undef ∧ C w' ∧ Eff (effOf y) w w' ∧ (∀ x ∈ y, x.fact w') ∧ (isNew o = true → w.heap.size < w'.heap.size)
 | .ok (.enter f args) w' => w' = w ∧ isCall o = true ∧ isNew o = false ∧ ((V.vary i = false ∧ y = none ∧ Calls P f args w (fun e w'' => e = .returned v ∧ Below w.heap.size w w'')) ∨
   (V.vary i = true ∧ y = some ⟨i, V.fact i v, none⟩ ∧ Calls P f args w (fun e w'' => ∃ u, e = .returned u ∧ V.sh i u ∧ V.fact i u w'' ∧ Below w.heap.size w w'')))
 | _ => False
def Spec (P : Program) (md : Region.Mode) (ops : Array Oper) (C : World → Prop) (V : Vals) (γ : Nat → Nat) (i : Nat) (o : Oper) (a : Act) (F : List Known) (v : Value) (y : Option Known) : Prop :=
 (isCall o = true → v = V i) ∧ (∀ x ∈ y, x.i = i) ∧ Fits y F ∧
 ∀ w, C w → (∀ x ∈ F, waitsT md ops 3 i x.i = true → x.fact w) → (isNew o = true → w.heap.size = γ i) → RelUpon P C V i o w v y ((execOp a.eval o).run P w)
def rOp (P : Program) (md : Region.Mode) (ops : Array Oper) (C : World → Prop) (V : Vals) (γ : Nat → Nat) (i : Nat) (F : List Known) (K : List Known → Act → Prop) (a : Act) : Prop :=
 match ops[i]? with
 | none => K F a
 | some o => if Region.wanted o (yielded ops a.tmps) = true then ∃ v y, Spec P md ops C V γ i o a F v y ∧ K (addK y F) (a.put o.dst v) else K F (a.put o.dst undef)
def wpAnyR (P : Program) (md : Region.Mode) (ops : Array Oper) (C : World → Prop) (V : Vals) (γ : Nat → Nat) (Q : Exit → Act → World → Prop) : Nat → Array Bool → List Known → Act → Prop
 | 0, listed, F, a => Region.ready md ops listed = [] ∧ ∀ w, C w → (∀ x ∈ F, x.fact w) → Q .normal a w
 | fuel + 1, listed, F, a => (Region.ready md ops listed = [] → ∀ w, C w → (∀ x ∈ F, x.fact w) → Q .normal a w) ∧
  ∀ i ∈ Region.ready md ops listed, rOp P md ops C V γ i F (fun F' a' => wpAnyR P md ops C V γ Q fuel (listed.setIfInBounds i true) F' a') a
theorem mem_addK {x : Known} {y : Option Known} {F : List Known} : x ∈ addK y F ↔ x ∈ y ∨ x ∈ F := by
 cases y with
 | none => simp [addK]
 | some y => simp [addK, eq_comm]
theorem fits_congr {y : Option Known} {F F' : List Known} (h : ∀ x, x ∈ F' → x ∈ F) (hf : Fits y F) : Fits y F' := by
 cases y with
 | none => trivial
 | some y => exact ⟨hf.1, fun x hx => hf.2 x (h x hx)⟩
theorem spec_congr {i : Nat} {o : Oper} {a : Act} {F F' : List Known} {v : Value} {y : Option Known} (h : ∀ x, x ∈ F ↔ x ∈ F') (hs : Spec P md ops C V γ i o a F v y) : Spec P md ops C V γ i o a F' v y :=
 ⟨hs.1, hs.2.1, fits_congr (fun x hx => (h x).2 hx) hs.2.2.1, fun w hw hF => hs.2.2.2 w hw fun x hx => hF x ((h x).1 hx)⟩
theorem wpAnyR_congr : ∀ (fuel : Nat) (listed : Array Bool) (F F' : List Known) (a : Act), (∀ x, x ∈ F ↔ x ∈ F') → wpAnyR P md ops C V γ Q fuel listed F a → wpAnyR P md ops C V γ Q fuel listed F' a
 | 0, listed, F, F', a, h, H => ⟨H.1, fun w hw hF => H.2 w hw fun x hx => hF x ((h x).1 hx)⟩
 | fuel + 1, listed, F, F', a, h, H => ⟨fun h0 w hw hF => H.1 h0 w hw fun x hx => hF x ((h x).1 hx), fun i hi => by
  have h1 := H.2 i hi
  unfold rOp at h1 ⊢
  split
  ·rename_i ho; simp only [ho] at h1; exact wpAnyR_congr fuel _ F F' a h h1
  ·rename_i o ho
   simp only [ho] at h1
   split
   ·rename_i hw
    rw [if_pos hw] at h1
    obtain ⟨v, y, hs, hk⟩ := h1
    exact ⟨v, y, spec_congr h hs, wpAnyR_congr fuel _ _ _ _ (fun x => by rw [mem_addK, mem_addK, h x]) hk⟩
   ·rename_i hw
    rw [if_neg hw] at h1
    exact wpAnyR_congr fuel _ F F' _ h h1⟩
def Yields (P : Program) (md : Region.Mode) (ops : Array Oper) (C : World → Prop) (V : Vals) (γ : Nat → Nat) (i : Nat) (o : Oper) (a : Act) (F : List Known) (v : Value) (y : Option Known) : Prop :=
 (Region.wanted o (yielded ops a.tmps) = true ∧ Spec P md ops C V γ i o a F v y) ∨ (Region.wanted o (yielded ops a.tmps) = false ∧ v = undef ∧ y = none)
theorem yields_of_rOp {i : Nat} {o : Oper} {a : Act} {F : List Known} {K : List Known → Act → Prop} (hi : ops[i]? = some o) (h : rOp P md ops C V γ i F K a) :
  ∃ v y, Yields P md ops C V γ i o a F v y ∧ K (addK y F) (a.put o.dst v) := by
 unfold rOp at h
 simp only [hi] at h
 by_cases hw : Region.wanted o (yielded ops a.tmps) = true
 ·rw [if_pos hw] at h
  obtain ⟨v, y, hs, hk⟩ := h
  exact ⟨v, y, .inl ⟨hw, hs⟩, hk⟩
 ·rw [if_neg hw] at h
  exact ⟨undef, none, .inr ⟨by simpa using hw, rfl, rfl⟩, h⟩
theorem rOp_of_yields {i : Nat} {o : Oper} {a : Act} {F : List Known} {K : List Known → Act → Prop} {v : Value} {y : Option Known} (hi : ops[i]? = some o) (h : Yields P md ops C V γ i o a F v y)
  (hk : K (addK y F) (a.put o.dst v)) : rOp P md ops C V γ i F K a := by
 unfold rOp
 simp only [hi]
 rcases h with ⟨hw, hs⟩ | ⟨hw, rfl, rfl⟩
 ·rw [if_pos hw]; exact ⟨v, y, hs, hk⟩
 ·rw [if_neg (by simp [hw])]; exact hk
theorem yields_same {i : Nat} {o : Oper} {a a' : Act} {F : List Known} {v : Value} {y : Option Known} (he : execOp a'.eval o = execOp a.eval o)
  (hw : Region.wanted o (yielded ops a'.tmps) = Region.wanted o (yielded ops a.tmps)) (h : Yields P md ops C V γ i o a F v y) : Yields P md ops C V γ i o a' F v y := by
 unfold Yields Spec at *
 rw [he, hw]
 exact h
theorem yields_behind {i j : Nat} {oi oj : Oper} {a : Act} {F : List Known} {v u : Value} {y z : Option Known} (hij : waitsT md ops 3 i j = false)
  (hF : ∀ x ∈ F, Stab x.fact none) (hz : ∀ x ∈ z, x.i = j) (hyz : Fits y (addK z F)) (h : Yields P md ops C V γ i oi a F v y) : Yields P md ops C V γ i oi a (addK z F) v y := by
 rcases h with ⟨hw, h1, h2, h3, h4⟩ | h
 ·refine .inl ⟨hw, h1, h2, hyz, fun w hC hk => h4 w hC fun x hx => hk x (mem_addK.2 (.inr hx))⟩
 ·exact .inr h
theorem yields_ahead {i j : Nat} {oi oj : Oper} {a : Act} {F : List Known} {v u : Value} {y z : Option Known} (hij : waitsT md ops 3 i j = false)
  (hz : ∀ x ∈ z, x.i = j) (h : Yields P md ops C V γ i oi a (addK z F) v y) : Yields P md ops C V γ i oi a F v y := by
 rcases h with ⟨hw, h1, h2, h3, h4⟩ | h
 ·refine .inl ⟨hw, h1, h2, fits_congr (fun x hx => mem_addK.2 (.inr hx)) h3, fun w hC hk => h4 w hC fun x hx hwt => ?_⟩
  rcases mem_addK.1 hx with hx | hx
  ·rw [hz x hx, hij] at hwt; cases hwt
  ·exact hk x hx hwt
 ·exact .inr h
def Keeps (F : List Known) : Prop := ∀ x ∈ F, Stab x.fact none
theorem stab_none {x : Known} {y : Option Known} {F : List Known} (hF : Keeps F) (h : Fits y F) (hx : x ∈ F) : Stab x.fact (effOf y) := by
 cases y with
 | none => exact hF x hx
 | some y => exact (h.2 x hx).1
theorem keeps_add {y : Option Known} {F : List Known} (h : Fits y F) (hF : Keeps F) : Keeps (addK y F) := by
 intro x hx
 rcases mem_addK.1 hx with hx | hx
 ·cases y with
  | none => cases hx
  | some y => cases hx; exact h.1
 ·exact hF x hx
theorem fits_of_yields {i : Nat} {o : Oper} {a : Act} {F : List Known} {v : Value} {y : Option Known} (hF : Keeps F) (h : Yields P md ops C V γ i o a F v y) : Fits y F := by
 rcases h with ⟨_, h⟩ | ⟨_, _, rfl⟩
 ·exact h.2.2.1
 ·trivial
theorem at_of_yields {i : Nat} {o : Oper} {a : Act} {F : List Known} {v : Value} {y : Option Known} (h : Yields P md ops C V γ i o a F v y) : ∀ x ∈ y, x.i = i := by
 rcases h with ⟨_, h⟩ | ⟨_, _, rfl⟩
 ·exact h.2.1
 ·intro x hx; cases hx
theorem fits_swap {y z : Option Known} {F : List Known} (hF : Keeps F) (hy : Fits y F) (hz : Fits z (addK y F)) : Fits y (addK z F) := by
 cases y with
 | none => trivial
 | some y =>
  refine ⟨hy.1, fun x hx => ?_⟩
  rcases mem_addK.1 hx with hx | hx
  ·cases z with
   | none => cases hx
   | some z =>
    cases hx
    have := hz.2 y (List.mem_cons_self ..)
    exact ⟨this.2, this.1⟩
  ·exact hy.2 x hx
theorem wpAnyR_first {i : Nat} {oi : Oper} {v : Value} {y : Option Known} (hi : ops[i]? = some oi) (hsel : ∀ (j : Nat) (o : Oper) cs b, ops[j]? = some o → o.op ≠ .select cs b) :
  ∀ (fuel : Nat) (listed : Array Bool) (F : List Known) (a : Act), Closed md ops listed → Keeps F →
   (∀ j oj, ops[j]? = some oj → j ≠ i → listed.getD j true = false → (∀ e ∈ oj.after, Region.binds md e = true → e.on ≠ i) → oi.apart ops oj = true) →
   i ∈ Region.ready md ops listed → Yields P md ops C V γ i oi a F v y →
   wpAnyR P md ops C V γ Q fuel (listed.setIfInBounds i true) (addK y F) (a.put oi.dst v) → wpAnyR P md ops C V γ Q (fuel + 1) listed F a := by
 intro fuel
 induction fuel with
 | zero =>
  intro listed F a _ _ _ hr hy H
  refine ⟨fun h => (by rw [h] at hr; cases hr), fun j hj => ?_⟩
  by_cases hji : j = i
  ·subst hji; exact rOp_of_yields hi hy H
  ·have := ready_mono hj hji
   rw [H.1] at this
   cases this
 | succ fuel ih =>
  intro listed F a hcl hkp hfree hr hy H
  refine ⟨fun h => (by rw [h] at hr; cases hr), fun j hj => ?_⟩
  have hiun := (mem_ready.1 hr).1
  by_cases hji : j = i
  ·subst hji; exact rOp_of_yields hi hy H
  ·obtain ⟨hjun, oj, hoj, hall⟩ := mem_ready.1 hj
   have nodep : ∀ k l : Nat, l ∈ Region.ready md ops listed → listed.getD k true = false → waitsT md ops 3 l k = false := fun k l hl hk => by
    cases hh : waitsT md ops 3 l k with
    | false => rfl
    | true =>
     have h1 := listed_of_waitsT hcl 3 l hh (.inl hl)
     exfalso
     rcases Nat.lt_or_ge k listed.size with h' | h'
     ·simp [h'] at hk h1; rw [hk] at h1; cases h1
     ·simp [Array.getElem?_eq_none h'] at h1
   have hji' := nodep i j hj hiun
   have hij' := nodep j i hr hjun
   have hnot : ∀ e ∈ oj.after, Region.binds md e = true → e.on ≠ i := fun e he hb heq => by
    have h1 := hall e he hb
    rw [heq] at h1
    rcases Nat.lt_or_ge i listed.size with h' | h'
    ·simp [h'] at hiun h1; rw [hiun] at h1; cases h1
    ·simp [Array.getElem?_eq_none h'] at h1
   obtain ⟨h1, h2, h3⟩ := Oper.apart_spec (hfree j oj hoj hji hjun hnot)
   obtain ⟨u, z, hz, hK⟩ := yields_of_rOp hoj (H.2 j (ready_mono hj hji))
   have hz1 : Yields P md ops C V γ j oj a (addK y F) u z := yields_same (execOp_put oj (fun cs b => hsel j oj cs b hoj) a oi.dst v h1).symm (wanted_put oj a oi.dst v h1).symm hz
   have hz2 : Yields P md ops C V γ j oj a F u z := yields_ahead (oi := oj) (oj := oi) (u := v) hji' (at_of_yields hy) hz1
   refine rOp_of_yields hoj hz2 ?_
   have hfz : Fits z F := fits_of_yields hkp hz2
   have hfy : Fits y F := fits_of_yields hkp hy
   have hfz' : Fits z (addK y F) := fits_of_yields (keeps_add hfy hkp) hz1
   have hyz : Fits y (addK z F) := fits_swap hkp hfy hfz'
   have hy1 : Yields P md ops C V γ i oi a (addK z F) v y := yields_behind (oi := oi) (oj := oj) (u := u) hij' hkp (at_of_yields hz) hyz hy
   have hy2 : Yields P md ops C V γ i oi (a.put oj.dst u) (addK z F) v y := yields_same (execOp_put oi (fun cs b => hsel i oi cs b hi) a oj.dst u h3) (wanted_put oi a oj.dst u h3) hy1
   refine ih (listed.setIfInBounds j true) (addK z F) (a.put oj.dst u) (hcl.set hj) (keeps_add hfz hkp) (fun k ok hk hki hun hno => hfree k ok hk hki (by
    by_cases hjk : j = k
    ·subst hjk; exact hjun
    ·rw [getD_set_ne true hjk] at hun; exact hun) hno) (ready_mono hr (Ne.symm hji)) hy2 ?_
   rw [Array.setIfInBounds_comm _ _ hji]
   have hput : (a.put oi.dst v).put oj.dst u = (a.put oj.dst u).put oi.dst v := Act.put_comm a v u h2
   rw [← hput]
   exact wpAnyR_congr _ _ _ _ _ (fun x => by simp only [mem_addK]; constructor <;> (rintro (h | h | h) <;> simp [h])) hK
def wpRel (P : Program) (md : Region.Mode) (ops : Array Oper) (C : World → Prop) (V : Vals) (γ : Nat → Nat) (Q : Exit → Act → World → Prop) : Nat → List Oper → List Known → Act → Prop
 | _, [], F, a => ∀ w, C w → (∀ x ∈ F, x.fact w) → Q .normal a w
 | k, o :: rest, F, a => ∃ v y, Yields P md ops C V γ k o a F v y ∧ wpRel P md ops C V γ Q (k + 1) rest (addK y F) (a.put o.dst v)
theorem wpAnyR_lex (hs : Region.noSelect ops = true) : ∀ (l : List Oper) (k : Nat) (listed : Array Bool) (F : List Known) (a : Act), Closed md ops listed → Keeps F → (∀ j, l[j]? = ops[k + j]?) →
  Region.lexFrom md ops l.length k listed = true → wpRel P md ops C V γ Q k l F a → wpAnyR P md ops C V γ Q l.length listed F a
 | [], _, _, _, _, _, _, _, hB, h => ⟨by simpa [Region.lexFrom] using hB, h⟩
 | o :: l, k, listed, F, a, hcl, hkp, hl, hB, h => by
  have h0 : ops[k]? = some o := by simpa using (hl 0).symm
  simp only [List.length_cons, Region.lexFrom, Bool.and_eq_true] at hB
  obtain ⟨⟨hr, hf⟩, hB'⟩ := hB
  obtain ⟨v, y, hy, hK⟩ := h
  have hr' : k ∈ Region.ready md ops listed := by simpa using hr
  exact wpAnyR_first h0 (Region.noSelect_spec hs) l.length listed F a hcl hkp (Region.free_spec h0 hf) hr' hy
   (wpAnyR_lex hs l (k + 1) _ _ _ (hcl.set hr') (keeps_add (fits_of_yields hkp hy) hkp) (fun j => by have := hl (j + 1); simpa [Nat.add_assoc, Nat.add_comm 1 j] using this) hB' hK)
def Good (base : Nat) (fx : Nat → Bool) (γ0 : Nat → Nat) (s : Nat) (γ : Nat → Nat) : Prop :=
 (∀ i j, i ≠ j → γ i ≠ γ j) ∧ (∀ i, base ≤ γ i) ∧ (∀ i, fx i = true → γ i = γ0 i) ∧ (∀ i, fx i = false → s ≤ γ i)
theorem good_exists {fx : Nat → Bool} {γ0 : Nat → Nat} {s : Nat} (hb : base ≤ s) (h1 : ∀ i j, fx i = true → fx j = true → i ≠ j → γ0 i ≠ γ0 j) (h2 : ∀ i, fx i = true → base ≤ γ0 i ∧ γ0 i < s) : ∃ γ, Good base fx γ0 s γ := by
 refine ⟨fun i => if fx i = true then γ0 i else s + i, fun i j hij => ?_, fun i => ?_, fun i hi => ?_, fun i hi => ?_⟩
 ·cases hi : fx i <;> cases hj : fx j <;> simp [hi, hj]
  ·omega
  ·have := h2 j hj; omega
  ·have := h2 i hi; omega
  ·exact h1 i j hi hj hij
 ·cases hi : fx i <;> simp [hi]
  ·omega
  ·exact (h2 i hi).1
 ·simp [hi]
 ·simp [hi]
theorem Good.less {fx : Nat → Bool} {γ0 γ : Nat → Nat} {s s' : Nat} (h : Good base fx γ0 s' γ) (hs : s ≤ s') : Good base fx γ0 s γ :=
 ⟨h.1, h.2.1, h.2.2.1, fun i hi => Nat.le_trans hs (h.2.2.2 i hi)⟩
theorem eff_size {e : Option (Nat × TypeId)} {w w' : World} (h : Eff e w w') : w.heap.size ≤ w'.heap.size := by
 cases e with
 | none => exact h.size
 | some g =>
  obtain ⟨old, cs, t, _, _, rfl⟩ := h
  simp [World.setRow]
theorem wpAny_of_R (hC : ∀ w w', C w → Below w.heap.size w w' → C w') (hbase : ∀ w, C w → base ≤ w.heap.size) : ∀ (fuel : Nat) (listed : Array Bool) (a : Act) (w : World) (fx : Nat → Bool) (γ0 : Nat → Nat) (fv : Nat → Bool) (T : Vals), C w → (∀ i, T.vary i = true → T.sh i (T.v i)) → (∀ i, fv i = true → listed.getD i true = true) →
  (∀ i, fx i = true → listed.getD i true = true) → (∀ i j, fx i = true → fx j = true → i ≠ j → γ0 i ≠ γ0 j) → (∀ i, fx i = true → base ≤ γ0 i ∧ γ0 i < w.heap.size) →
  (∀ γ V, Good base fx γ0 w.heap.size γ → Alike T fv V → ∃ F, Keeps F ∧ wpAnyR P md ops C V γ Q fuel listed F a ∧ ∀ x ∈ F, x.fact w) → wpAny P md ops Q fuel listed a w := by
 intro fuel
 induction fuel with
 | zero =>
  intro listed a w fx γ0 fv T hw hsh hfv hfx h1 h2 H
  obtain ⟨γ, hγ⟩ := good_exists (hbase w hw) h1 h2
  obtain ⟨F, _, hF, hk⟩ := H γ T hγ ⟨rfl, rfl, rfl, hsh, fun _ _ => rfl⟩
  exact ⟨hF.1, hF.2 w hw hk⟩
 | succ fuel ih =>
  intro listed a w fx γ0 fv T hw hsh hfv hfx h1 h2 H
  have hT : Alike T fv T := ⟨rfl, rfl, rfl, hsh, fun _ _ => rfl⟩
  have hgood := good_exists (hbase w hw) h1 h2
  refine ⟨fun h0 => ?_, fun i hi => ?_⟩
  ·obtain ⟨γ, hγ⟩ := hgood
   obtain ⟨F, _, hF, hk⟩ := H γ T hγ hT
   exact hF.1 h0 w hw hk
  ·have hiun := (mem_ready.1 hi).1
   have hfxi : fx i = false := by
    cases hh : fx i with
    | false => rfl
    | true => have := hfx i hh; rw [hiun] at this; cases this
   obtain ⟨_, o, ho, _⟩ := mem_ready.1 hi
   have hfx' : ∀ j, fx j = true → (listed.setIfInBounds i true).getD j true = true := fun j hj => by
    have hji : i ≠ j := fun e => by subst e; rw [hfxi] at hj; cases hj
    rw [getD_set_ne true hji]; exact hfx j hj
   have hfv' : ∀ j, fv j = true → (listed.setIfInBounds i true).getD j true = true := fun j hj => by
    have hji : i ≠ j := fun e => by subst e; have := hfv _ hj; rw [hiun] at this; cases this
    rw [getD_set_ne true hji]; exact hfv j hj
   have hlistedi : (listed.setIfInBounds i true).getD i true = true := by
    rcases Nat.lt_or_ge i listed.size with h' | h'
    ·simp [h']
    ·simp [h', Array.getElem?_eq_none]
   unfold wpOp
   simp only [ho]
   by_cases hwt : Region.wanted o (yielded ops a.tmps) = true
   ·rw [if_pos hwt]
    refine .inl ?_
    have each : ∀ γ V, Good base fx γ0 w.heap.size γ → Alike T fv V → (isNew o = true → w.heap.size = γ i) → ∃ F v y, Keeps F ∧ (∀ x ∈ F, x.fact w) ∧ Spec P md ops C V γ i o a F v y ∧
      RelUpon P C V i o w v y ((execOp a.eval o).run P w) ∧ wpAnyR P md ops C V γ Q fuel (listed.setIfInBounds i true) (addK y F) (a.put o.dst v) := fun γ V hγ hV hn => by
     obtain ⟨F, hkp, hF, hk⟩ := H γ V hγ hV
     have h3 := hF.2 i hi
     unfold rOp at h3
     simp only [ho] at h3
     rw [if_pos hwt] at h3
     obtain ⟨v, y, hs, hK⟩ := h3
     exact ⟨F, v, y, hkp, hk, hs, hs.2.2.2 w hw (fun x hx _ => hk x hx) hn, hK⟩
    let fx' : Nat → Bool := fun j => fx j || (isNew o && j == i)
    let γ1 : Nat → Nat := fun j => if j = i then w.heap.size else γ0 j
    have hfx1 : ∀ j, fx j = true → j ≠ i := fun j hj e => by subst e; rw [hfxi] at hj; cases hj
    have hfxcase : ∀ j, fx' j = true → fx j = true ∨ (isNew o = true ∧ j = i) := fun j hj => by
     simp only [fx', Bool.or_eq_true, Bool.and_eq_true, beq_iff_eq] at hj; exact hj
    have k1 : ∀ p q, fx' p = true → fx' q = true → p ≠ q → γ1 p ≠ γ1 q := fun p q hp hq hpq => by
     rcases hfxcase p hp with hp | ⟨hn, ep⟩ <;> rcases hfxcase q hq with hq | ⟨hn', eq⟩
     ·simp only [γ1, if_neg (hfx1 p hp), if_neg (hfx1 q hq)]; exact h1 p q hp hq hpq
     ·simp only [γ1, if_neg (hfx1 p hp), if_pos eq]; have := h2 p hp; omega
     ·simp only [γ1, if_neg (hfx1 q hq), if_pos ep]; have := h2 q hq; omega
     ·exact absurd (ep.trans eq.symm) hpq
    have k2 : ∀ s, w.heap.size ≤ s → (isNew o = true → w.heap.size < s) → ∀ p, fx' p = true → base ≤ γ1 p ∧ γ1 p < s := fun s hs hns p hp => by
     rcases hfxcase p hp with hp | ⟨hn, rfl⟩
     ·simp only [γ1, if_neg (hfx1 p hp)]; have := h2 p hp; omega
     ·simp only [γ1, if_pos]; exact ⟨hbase w hw, hns hn⟩
    have good1 : ∀ s γ, w.heap.size ≤ s → Good base fx' γ1 s γ → Good base fx γ0 w.heap.size γ ∧ (isNew o = true → w.heap.size = γ i) := fun s γ hs hγ => by
     refine ⟨⟨hγ.1, hγ.2.1, fun j hj => ?_, fun j hj => ?_⟩, fun hn => ?_⟩
     ·have := hγ.2.2.1 j (by simp [fx', hj])
      rw [this]; simp [γ1, hfx1 j hj]
     ·cases hh : fx' j with
      | false => exact Nat.le_trans hs (hγ.2.2.2 j hh)
      | true =>
       rcases hfxcase j hh with h' | ⟨_, rfl⟩
       ·rw [hj] at h'; cases h'
       ·rw [hγ.2.2.1 j hh]; simp [γ1]
     ·have := hγ.2.2.1 i (by simp [fx', hn])
      rw [this]; simp [γ1]
    have hfx2 : ∀ j, fx' j = true → (listed.setIfInBounds i true).getD j true = true := fun j hj => by
     rcases hfxcase j hj with hj | ⟨_, rfl⟩
     ·exact hfx' j hj
     ·exact hlistedi
    obtain ⟨γs, hγs⟩ := good_exists (base := base) (fx := fx') (γ0 := γ1) (s := w.heap.size + 1) (by have := hbase w hw; omega) k1 (k2 _ (by omega) (by omega))
    obtain ⟨g1, g2⟩ := good1 _ γs (by omega) hγs
    obtain ⟨F0, v0, y0, hkp0, hf0, hs0, hr0, hk0⟩ := each γs T g1 hT g2
    unfold Oper.wp
    have done : ∀ (fv' : Nat → Bool) (T' : Vals) (u : Value) (w' : World), (∀ i, T'.vary i = true → T'.sh i (T'.v i)) → (∀ j, fv' j = true → (listed.setIfInBounds i true).getD j true = true) → C w' → w.heap.size ≤ w'.heap.size → (isNew o = true → w.heap.size < w'.heap.size) →
      (∀ γ V, Good base fx' γ1 w'.heap.size γ → Alike T' fv' V → ∃ F y, Keeps F ∧ Fits y F ∧ wpAnyR P md ops C V γ Q fuel (listed.setIfInBounds i true) (addK y F) (a.put o.dst u) ∧ ∀ x ∈ addK y F, x.fact w') →
      wpAny P md ops Q fuel (listed.setIfInBounds i true) (a.put o.dst u) w' := fun fv' T' u w' hsh' hfv2 hC' hsz hnsz hall =>
     ih _ _ w' fx' γ1 fv' T' hC' hsh' hfv2 hfx2 k1 (k2 _ hsz hnsz) fun γ V hγ hV => by
      obtain ⟨F, y, hkp, hfit, hk, hx⟩ := hall γ V hγ hV
      exact ⟨addK y F, keeps_add hfit hkp, hk, hx⟩
    cases hrun : (execOp a.eval o).run P w with
    | ok n w' =>
     rw [hrun] at hr0
     cases n with
     | value u =>
      simp only [RelUpon] at hr0
      rcases hr0 with ⟨rfl, hC', he, hy, hn, hcv⟩ | ⟨hcall, hnew, hvy, rfl, hsu, hfu, hb⟩
      ·simp only [Oper.upon]
       refine done fv T _ w' hsh hfv' hC' (eff_size he) hn fun γ V hγ hV => ?_
       obtain ⟨p1, p2⟩ := good1 _ γ (eff_size he) hγ
       obtain ⟨F, v, y, hkp, hf, hs, hr, hk⟩ := each γ V p1 hV p2
       rw [hrun] at hr
       simp only [RelUpon] at hr
       rcases hr with ⟨rfl, _, he', hy', _, _⟩ | ⟨hcall, _, hvy, _⟩
       rotate_left
       ·rw [hV.1, hcv hcall] at hvy; cases hvy
       refine ⟨F, y, hkp, hs.2.2.1, hk, fun x hx => ?_⟩
       rcases mem_addK.1 hx with hx | hx
       ·exact hy' x hx
       ·exact stab_none hkp hs.2.2.1 hx w w' (hf x hx) he'
      ·simp only [Oper.upon]
       refine done (fun j => fv j || j == i) ⟨fun j => if j = i then u else T.v j, T.vary, T.sh, T.fact⟩ _ w' (fun j hj => ?_) (fun j hj => ?_) (hC _ _ hw hb) hb.size (fun h => by rw [hnew] at h; cases h) fun γ V hγ hV => ?_
       ·by_cases e : j = i
        ·subst e; simp only [if_true]; exact hsu
        ·simp only [if_neg e]; exact hsh j hj
       ·simp only [Bool.or_eq_true, beq_iff_eq] at hj
        rcases hj with hj | rfl
        ·exact hfv' j hj
        ·exact hlistedi
       ·obtain ⟨p1, p2⟩ := good1 _ γ hb.size hγ
        have hfvi : fv i = false := by
         cases hh : fv i with
         | false => rfl
         | true => have := hfv i hh; rw [hiun] at this; cases this
        have hV2 : Alike T fv V := ⟨hV.1, hV.2.1, hV.2.2.1, hV.2.2.2.1, fun j hj => by
         have h := hV.2.2.2.2 j (hj.imp id fun h => by simp only [h, Bool.true_or])
         have hji : j ≠ i := fun e => by
          subst e
          rcases hj with hj | hj
          ·rw [hvy] at hj; cases hj
          ·rw [hfvi] at hj; cases hj
         simp only [if_neg hji] at h
         exact h⟩
        have hVi : V.v i = u := by
         have h := hV.2.2.2.2 i (.inr (by simp))
         simp only [if_true] at h
         exact h
        obtain ⟨F, v, y, hkp, hf, hs, hr, hk⟩ := each γ V p1 hV2 p2
        rw [hrun] at hr
        simp only [RelUpon] at hr
        have hvV : V.vary i = true := by rw [hV.1]; exact hvy
        rcases hr with ⟨_, _, _, _, _, h⟩ | ⟨_, _, _, rfl, _⟩
        ·have h := h hcall; rw [hvV] at h; cases h
        ·have hvu : v = u := (hs.1 hcall).trans hVi
         subst hvu
         refine ⟨F, _, hkp, hs.2.2.1, hk, fun x hx => ?_⟩
         rcases mem_addK.1 hx with hx | hx
         ·cases hx
          show V.fact i v w'
          rw [hV.2.1]
          exact hfu
         ·exact hkp x hx _ _ (hf x hx) hb
     | skip =>
      simp only [RelUpon] at hr0
      obtain ⟨rfl, hC', he, hy, hn⟩ := hr0
      simp only [Oper.upon]
      refine done fv T _ w' hsh hfv' hC' (eff_size he) hn fun γ V hγ hV => ?_
      obtain ⟨p1, p2⟩ := good1 _ γ (eff_size he) hγ
      obtain ⟨F, v, y, hkp, hf, hs, hr, hk⟩ := each γ V p1 hV p2
      rw [hrun] at hr
      simp only [RelUpon] at hr
      obtain ⟨rfl, _, he', hy', _⟩ := hr
      refine ⟨F, y, hkp, hs.2.2.1, hk, fun x hx => ?_⟩
      rcases mem_addK.1 hx with hx | hx
      ·exact hy' x hx
      ·exact stab_none hkp hs.2.2.1 hx w w' (hf x hx) he'
     | enter f args =>
      simp only [RelUpon] at hr0
      obtain ⟨rfl, hcall, hnew, hr0⟩ := hr0
      simp only [Oper.upon]
      rcases hr0 with ⟨hvy, rfl, hcl⟩ | ⟨hvy, rfl, hcl⟩
      ·refine hcl.mono fun e w'' ⟨he, hb⟩ => ?_
       subst he
       simp only []
       refine done fv T _ w'' hsh hfv' (hC _ _ hw hb) hb.size (fun h => by rw [hnew] at h; cases h) fun γ V hγ hV => ?_
       obtain ⟨p1, p2⟩ := good1 _ γ hb.size hγ
       obtain ⟨F, v, y, hkp, hf, hs, hr, hk⟩ := each γ V p1 hV p2
       rw [hrun] at hr
       simp only [RelUpon] at hr
       obtain ⟨_, _, _, hr⟩ := hr
       have hvV : V.vary i = false := by rw [hV.1]; exact hvy
       rcases hr with ⟨_, rfl, _⟩ | ⟨h, _⟩
       ·rw [hs0.1 hcall, ← hV.2.2.2.2 i (.inl hvy)]
        rw [hs.1 hcall] at hk
        exact ⟨F, none, hkp, hs.2.2.1, hk, fun x hx => hkp x hx _ _ (hf x hx) hb⟩
       ·rw [hvV] at h; cases h
      ·refine hcl.mono fun e w'' ⟨u, he, hsu, hfu, hb⟩ => ?_
       subst he
       simp only []
       refine done (fun j => fv j || j == i) ⟨fun j => if j = i then u else T.v j, T.vary, T.sh, T.fact⟩ _ w'' (fun j hj => ?_) (fun j hj => ?_) (hC _ _ hw hb) hb.size (fun h => by rw [hnew] at h; cases h) fun γ V hγ hV => ?_
       ·by_cases e : j = i
        ·subst e; simp only [if_true]; exact hsu
        ·simp only [if_neg e]; exact hsh j hj
       ·simp only [Bool.or_eq_true, beq_iff_eq] at hj
        rcases hj with hj | rfl
        ·exact hfv' j hj
        ·exact hlistedi
       ·obtain ⟨p1, p2⟩ := good1 _ γ hb.size hγ
        have hfvi : fv i = false := by
         cases hh : fv i with
         | false => rfl
         | true => have := hfv i hh; rw [hiun] at this; cases this
        have hV2 : Alike T fv V := ⟨hV.1, hV.2.1, hV.2.2.1, hV.2.2.2.1, fun j hj => by
         have h := hV.2.2.2.2 j (hj.imp id fun h => by simp only [h, Bool.true_or])
         have hji : j ≠ i := fun e => by
          subst e
          rcases hj with hj | hj
          ·rw [hvy] at hj; cases hj
          ·rw [hfvi] at hj; cases hj
         simp only [if_neg hji] at h
         exact h⟩
        have hVi : V.v i = u := by
         have h := hV.2.2.2.2 i (.inr (by simp))
         simp only [if_true] at h
         exact h
        obtain ⟨F, v, y, hkp, hf, hs, hr, hk⟩ := each γ V p1 hV2 p2
        rw [hrun] at hr
        simp only [RelUpon] at hr
        obtain ⟨_, _, _, hr⟩ := hr
        have hvV : V.vary i = true := by rw [hV.1]; exact hvy
        rcases hr with ⟨h, _⟩ | ⟨_, rfl, _⟩
        ·rw [hvV] at h; cases h
        ·have hvu : v = u := (hs.1 hcall).trans hVi
         subst hvu
         refine ⟨F, _, hkp, hs.2.2.1, hk, fun x hx => ?_⟩
         rcases mem_addK.1 hx with hx | hx
         ·cases hx
          show V.fact i v w''
          rw [hV.2.1]
          exact hfu
         ·exact hkp x hx _ _ (hf x hx) hb
     | _ => simp only [RelUpon] at hr0
    | halt x w' => rw [hrun] at hr0; simp only [RelUpon] at hr0
   ·rw [if_neg hwt]
    refine ih _ _ w fx γ0 fv T hw hsh hfv' hfx' h1 h2 fun γ V hγ hV => ?_
    obtain ⟨F, hkp, hF, hk⟩ := H γ V hγ hV
    have h3 := hF.2 i hi
    unfold rOp at h3
    simp only [ho] at h3
    rw [if_neg hwt] at h3
    exact ⟨F, hkp, h3, hk⟩
theorem wp_region_rel {id : Nat} {a : Act} {w : World} {l : List Oper} (C : World → Prop) (base : Nat) (hm : P.follows .mixedOrders = true) (hB : Region.lexB .any l.toArray = true)
  (hC : ∀ w w', C w → Below w.heap.size w w' → C w') (hbase : ∀ w, C w → base ≤ w.heap.size) (hw : C { w with drawn := w.drawn + 1 })
  (hsh : ∀ i, V.vary i = true → V.sh i (V.v i)) (h : ∀ (γ : Nat → Nat) (g : Nat → Value), (∀ i, V.vary i = false → g i = V.v i) → (∀ i, V.vary i = true → V.sh i (g i)) → (∀ i j, i ≠ j → γ i ≠ γ j) → (∀ i, base ≤ γ i) → wpRel P .any l.toArray C ⟨g, V.vary, V.sh, V.fact⟩ γ Q 0 l [] a) : (Code.region id l.toArray true).wp P Q a w := by
 simp only [Region.lexB, Bool.and_eq_true] at hB
 refine wp_region_any hm ?_
 refine wpAny_of_R hC hbase _ _ _ _ (fun _ => false) (fun j => j) (fun _ => false) V hw hsh (fun i hi => by cases hi) (fun i hi => by cases hi) (fun i j hi => by cases hi) (fun i hi => by cases hi) fun γ V' hγ hV => ?_
 refine ⟨[], (fun x hx => by cases hx), ?_, fun x hx => by cases hx⟩
 have hr := h γ V'.v (fun i hi => hV.2.2.2.2 i (.inl hi)) hV.2.2.2.1 hγ.1 hγ.2.1
 rw [← hV.1, ← hV.2.1, ← hV.2.2.1] at hr
 have := wpAnyR_lex (C := C) (V := V') (γ := γ) (Q := Q) (md := .any) hB.1 l 0 (Array.replicate l.length false) [] a (Closed.none _) (fun x hx => by cases hx) (by simp) (by simpa using hB.2) hr
 simpa using this
def plain (o : Oper) : Bool := match o.op with
 | .move _ | .assign _ | .pick .. | .build .. | .load .. | .ready _ | .waits _ | .binOp .. | .unOp .. | .convert .. | .sliceToArrayPointer .. | .makeInterface .. | .slice .. | .fieldAddr .. | .field .. | .indexAddr .. | .index .. | .lookup .. | .typeAssert .. | .extract .. => true
 | _ => false
theorem plain_run {o : Oper} (h : plain o = true) (ρ : Operand → Value) (w : World) : (∃ v w', (execOp ρ o).run P w = .ok (.value v) w') ∨ (∃ w', (execOp ρ o).run P w = .ok .skip w') ∨ ∃ x w', (execOp ρ o).run P w = .halt x w' := by
 have key : ∀ s : Sem Value, (∃ v w', (do pure (.value (← s)) : Sem Next).run P w = .ok (.value v) w') ∨ (∃ w', (do pure (.value (← s)) : Sem Next).run P w = .ok .skip w') ∨ ∃ x w', (do pure (.value (← s)) : Sem Next).run P w = .halt x w' := fun s => by
  rw [Sem.run_bind]
  cases s.run P w with
  | ok v w' => exact .inl ⟨v, w', rfl⟩
  | halt x w' => exact .inr (.inr ⟨x, w', rfl⟩)
 have key2 : ∀ s : Sem Unit, (∃ v w', (do s; pure .skip : Sem Next).run P w = .ok (.value v) w') ∨ (∃ w', (do s; pure .skip : Sem Next).run P w = .ok .skip w') ∨ ∃ x w', (do s; pure .skip : Sem Next).run P w = .halt x w' := fun s => by
  rw [Sem.run_bind]
  cases s.run P w with
  | ok v w' => exact .inr (.inl ⟨w', rfl⟩)
  | halt x w' => exact .inr (.inr ⟨x, w', rfl⟩)
 unfold plain at h
 unfold execOp
 obtain ⟨d, op, t, pos, af, g⟩ := o
 cases op <;> first | (cases h; done) | exact key _ | exact key2 _ | exact .inl ⟨_, _, rfl⟩ | skip
 case pick c a b =>
  simp only [Sem.run_bind]
  cases (asBool (ρ c)).run P w with
  | ok v w' => exact .inl ⟨_, w', rfl⟩
  | halt x w' => exact .inr (.inr ⟨x, w', rfl⟩)
theorem quiet_yields {k : Nat} {o : Oper} {a : Act} {F : List Known} {v : Value} (hp : plain o = true) (hq : ∀ w, C w → (∀ x ∈ F, waitsT md ops 3 k x.i = true → x.fact w) → ∃ C', o.quietAt P a C' w v) : Spec P md ops C V γ k o a F v none := by
 have hnc : isCall o = false := by unfold plain at hp; unfold isCall; revert hp; cases o.op <;> simp
 have hnn : isNew o = false := by unfold plain at hp; unfold isNew; revert hp; cases o.op <;> simp
 refine ⟨fun h => (by rw [hnc] at h; cases h), (fun x hx => by cases hx), trivial, fun w hC hF _ => ?_⟩
 obtain ⟨C', h1⟩ := hq w hC hF
 unfold Oper.quietAt at h1
 rcases plain_run (P := P) hp a.eval w with ⟨u, w', e⟩ | ⟨w', e⟩ | ⟨x, w', e⟩
 ·rw [e] at h1 ⊢
  obtain ⟨rfl, rfl⟩ := h1
  exact .inl ⟨rfl, hC, Below.refl _ _, (fun x hx => by cases hx), (fun h => by rw [hnn] at h; cases h), fun h => by rw [hnc] at h; cases h⟩
 ·rw [e] at h1 ⊢
  obtain ⟨rfl, rfl⟩ := h1
  exact ⟨rfl, hC, Below.refl _ _, (fun x hx => by cases hx), fun h => by rw [hnn] at h; cases h⟩
 ·rw [e] at h1; exact h1.elim
theorem rel_quiet {k : Nat} {o : Oper} {rest : List Oper} {F : List Known} {a : Act} (hp : plain o = true)
  (h : wpQuiet P ops C (fun a' => wpRel P md ops C V γ Q (k + 1) rest F a') [o] a) : wpRel P md ops C V γ Q k (o :: rest) F a := by
 simp only [wpQuiet] at h
 by_cases hw : Region.wanted o (yielded ops a.tmps) = true
 ·rw [if_pos hw] at h
  obtain ⟨v, h1, h2⟩ := h
  exact ⟨v, none, .inl ⟨hw, quiet_yields hp fun w hC _ => ⟨C, h1 w hC⟩⟩, h2⟩
 ·rw [if_neg hw] at h
  exact ⟨undef, none, .inr ⟨by simpa using hw, rfl, rfl⟩, h⟩
theorem rel_skip {k : Nat} {o : Oper} {rest : List Oper} {F : List Known} {a : Act} (hw : Region.wanted o (yielded ops a.tmps) = false)
  (hV : isCall o = true → V k = undef) (h : wpRel P md ops C V γ Q (k + 1) rest F (a.put o.dst undef)) : wpRel P md ops C V γ Q k (o :: rest) F a :=
 ⟨undef, none, .inr ⟨hw, rfl, rfl⟩, h⟩
theorem rel_skip_none {k : Nat} {op : Op} {t : TypeId} {pos : String} {af : Array Edge} {g : Option (Nat × Bool)} {rest : List Oper} {F : List Known} {a : Act} (hw : Region.wanted ⟨none, op, t, pos, af, g⟩ (yielded ops a.tmps) = false)
  (hV : isCall ⟨none, op, t, pos, af, g⟩ = true → V k = undef) (h : wpRel P md ops C V γ Q (k + 1) rest F a) : wpRel P md ops C V γ Q k (⟨none, op, t, pos, af, g⟩ :: rest) F a :=
 rel_skip hw hV h
theorem wpRel_put {k : Nat} {rest : List Oper} {F : List Known} {a : Act} {d : Tmp} {v : Value}
  (h : wpQuiet P ops (fun _ => True) (fun a' => wpRel P md ops C V γ Q k rest F a') [⟨some d, .move (.const v), 0, "", #[], none⟩] a) : wpRel P md ops C V γ Q k rest F (a.put (some d) v) := by
 have h' : ∃ u, (∀ w, True → Oper.quietAt P ⟨some d, .move (.const v), 0, "", #[], none⟩ a (fun _ => True) w u) ∧ wpRel P md ops C V γ Q k rest F (a.put (some d) u) := by
  simpa [wpQuiet, Region.wanted, Oper.quiet] using h
 obtain ⟨u, h1, h2⟩ := h'
 have h3 : (default : World) = default ∧ v = u := h1 default trivial
 rw [h3.2]; exact h2
theorem rel_skip_some {k : Nat} {d : Tmp} {op : Op} {t : TypeId} {pos : String} {af : Array Edge} {g : Option (Nat × Bool)} {rest : List Oper} {F : List Known} {a : Act} (hw : Region.wanted ⟨some d, op, t, pos, af, g⟩ (yielded ops a.tmps) = false)
  (hV : isCall ⟨some d, op, t, pos, af, g⟩ = true → V k = undef) (next : wpQuiet P ops (fun _ => True) (fun a' => wpRel P md ops C V γ Q (k + 1) rest F a') [⟨some d, .move (.const undef), 0, "", #[], none⟩] a) :
  wpRel P md ops C V γ Q k (⟨some d, op, t, pos, af, g⟩ :: rest) F a :=
 rel_skip hw hV (wpRel_put next)
theorem rel_fact {k : Nat} {d : Tmp} {op : Op} {t : TypeId} {pos : String} {af : Array Edge} {g : Option (Nat × Bool)} {rest : List Oper} {F : List Known} {a : Act} {v : Value}
  (hk : (plain ⟨some d, op, t, pos, af, g⟩ || (isCall ⟨some d, op, t, pos, af, g⟩ && !isNew ⟨some d, op, t, pos, af, g⟩)) = true) (hw : Region.wanted ⟨some d, op, t, pos, af, g⟩ (yielded ops a.tmps) = true) (hd : decide (d < a.tmps.size) = true)
  (h1 : ∀ W, C W → (∀ x ∈ F, waitsT md ops 3 k x.i = true → x.fact W) → wpQuiet P ops (fun w' => ∃ m, w' = more W m) (fun a' => a'.tmps.toList[d]? = some v) [⟨some d, op, t, pos, af, g⟩] a)
  (hV : isCall ⟨some d, op, t, pos, af, g⟩ = true → V.vary k = false ∧ V k = v)
  (next : wpQuiet P ops (fun _ => True) (fun a' => wpRel P md ops C V γ Q (k + 1) rest F a') [⟨some d, .move (.const v), 0, "", #[], none⟩] a) : wpRel P md ops C V γ Q k (⟨some d, op, t, pos, af, g⟩ :: rest) F a := by
 have hd' : d < a.tmps.size := of_decide_eq_true hd
 have h2 : ∀ W, C W → (∀ x ∈ F, waitsT md ops 3 k x.i = true → x.fact W) → Oper.quietAt P ⟨some d, op, t, pos, af, g⟩ a (fun w' => ∃ m, w' = more W m) W v := fun W hC hF => by
  have h3 := h1 W hC hF
  simp only [wpQuiet] at h3
  rw [if_pos hw] at h3
  obtain ⟨u, hu, he⟩ := h3
  have e : u = v := by
   have : ((a.put (some d) u).tmps.toList[d]?) = some u := by simp [Act.put, hd']
   exact Option.some.inj (this.symm.trans he)
  subst e
  exact hu W ⟨⟨W.drawn, #[]⟩, (more_self W).symm⟩
 refine ⟨v, none, .inl ⟨hw, ?_⟩, wpRel_put next⟩
 cases hp : plain ⟨some d, op, t, pos, af, g⟩ with
 | true => exact quiet_yields hp fun w hC hF => ⟨_, h2 w hC hF⟩
 | false =>
  rw [hp] at hk
  simp only [Bool.false_or, Bool.and_eq_true, Bool.not_eq_true'] at hk
  refine ⟨fun _ => (hV hk.1).2.symm, (fun x hx => by cases hx), trivial, fun w hC hF _ => ?_⟩
  have h3 := h2 w hC hF
  unfold Oper.quietAt at h3
  generalize (execOp a.eval ⟨some d, op, t, pos, af, g⟩).run P w = r at *
  cases r with
  | ok n w' =>
   cases n <;> simp only [Oper.quietUpon] at h3
   case value u => obtain ⟨rfl, rfl⟩ := h3; exact .inl ⟨rfl, hC, Below.refl _ _, (fun x hx => by cases hx), (fun h => by rw [hk.2] at h; cases h), fun h => (hV h).1⟩
   case skip => obtain ⟨rfl, rfl⟩ := h3; exact ⟨rfl, hC, Below.refl _ _, (fun x hx => by cases hx), fun h => by rw [hk.2] at h; cases h⟩
   case enter f args =>
    obtain ⟨rfl, hc⟩ := h3
    exact ⟨rfl, hk.1, hk.2, .inl ⟨(hV hk.1).1, rfl, hc.mono fun e w'' ⟨he, m, hm⟩ => ⟨he, hm ▸ below_more _ m⟩⟩⟩
  | halt x w' => simp only [Oper.quietUpon] at h3
def Full (g : Nat) (cs : Array Value) (t : TypeId) (w : World) : Prop := objAt w g = some (.cells cs t)
def Hdr (g n : Nat) (t : TypeId) (w : World) : Prop := ∃ old, objAt w g = some (.cells old t) ∧ old.size = n
theorem stab_full (g : Nat) (cs : Array Value) (t : TypeId) : Stab (Full g cs t) none := fun w w' h e => keep_below e h
theorem stab_hdr (g n : Nat) (t : TypeId) : Stab (Hdr g n t) none := fun w w' ⟨old, h, hs⟩ e => ⟨old, keep_below e h, hs⟩
theorem objAt_setRow_ne (w : World) (g n : Nat) (cs : Array Value) (h : n ≠ g) : objAt (w.setRow g cs) n = objAt w n := by
 unfold objAt World.setRow
 simp only [Array.getElem?_modify]
 rw [if_neg (fun e => h e.symm)]
theorem objAt_setRow_eq {w : World} {g : Nat} {old : Array Value} {t : TypeId} (cs : Array Value) (h : objAt w g = some (.cells old t)) : objAt (w.setRow g cs) g = some (.cells cs t) := by
 unfold objAt World.setRow at *
 simp [Array.getElem?_modify, h]
theorem stab_full_at {t1 : TypeId} (g g' : Nat) (cs : Array Value) (t : TypeId) (h : g ≠ g') : Stab (Full g cs t) (some (g', t1)) := fun w w' hf ⟨old, cs', t', _, _, e⟩ => by
 subst e; exact (objAt_setRow_ne w g' g cs' h).trans hf
theorem stab_hdr_at {t1 : TypeId} (g g' n : Nat) (t : TypeId) : Stab (Hdr g n t) (some (g', t1)) := fun w w' ⟨old, hf, hs⟩ ⟨old', cs', t', h1, h2, e⟩ => by
 subst e
 by_cases hg : g = g'
 ·subst hg
  rw [hf] at h1
  cases h1
  exact ⟨cs', objAt_setRow_eq cs' hf, by omega⟩
 ·exact ⟨old, (objAt_setRow_ne w g' g cs' hg).trans hf, hs⟩
theorem fits_nil {y : Known} (h : Stab y.fact none) : Fits (some y) [] := ⟨h, fun x hx => by cases hx⟩
theorem fits_cons {x y : Known} {F : List Known} (h : Apart x y) (hF : Fits (some y) F) : Fits (some y) (x :: F) :=
 ⟨hF.1, fun z hz => by cases hz with | head => exact h | tail _ hz => exact hF.2 z hz⟩
theorem by_fits {P : Prop} (h : P := by ((repeat (refine fits_cons ⟨by (first | exact stab_full _ _ _ | exact stab_hdr _ _ _ | exact stab_hdr_at _ _ _ _ | exact stab_full_at _ _ _ _ (hinj _ _ (by decide))), by (first | exact stab_full _ _ _ | exact stab_hdr _ _ _ | exact stab_hdr_at _ _ _ _ | exact stab_full_at _ _ _ _ (hinj _ _ (by decide)))⟩ ?_)); exact fits_nil (by (first | exact stab_full _ _ _ | exact stab_hdr _ _ _ | exact stab_hdr_at _ _ _ _ | exact stab_full_at _ _ _ _ (hinj _ _ (by decide)))))) : P := h
theorem by_mem {P : Prop} (h : P := by (first | exact List.mem_cons_self .. | exact List.mem_cons_of_mem _ (List.mem_cons_self ..) | exact List.mem_cons_of_mem _ (List.mem_cons_of_mem _ (List.mem_cons_self ..)) | exact List.mem_cons_of_mem _ (List.mem_cons_of_mem _ (List.mem_cons_of_mem _ (List.mem_cons_self ..))) | exact List.mem_cons_of_mem _ (List.mem_cons_of_mem _ (List.mem_cons_of_mem _ (List.mem_cons_of_mem _ (List.mem_cons_self ..)))))) : P := h
theorem cells_agg (c : Array Value) : (Value.agg c).cells = c := rfl
theorem cells_ints (k : IntKind) (n : Nat) (f : Nat → Int) : (Value.agg (ints k n f)).cells.size = n := ints_size k n f
theorem cells_int (k : IntKind) (i : Int) : (Value.int k i).cells = #[.int k i] := rfl
theorem cells_bool (b : Bool) : (Value.bool b).cells = #[.bool b] := rfl
theorem ints_ones (k : IntKind) (n : Nat) (f : Nat → Int) : (ints k n f).all (·.oneCell') = true := by
 rw [Array.all_eq_true]; intro i hi; simp [ints, Value.oneCell']
theorem rel_box {k : Nat} {d : Tmp} {te : TypeId} {x : Operand} {t : TypeId} {pos : String} {af : Array Edge} {g : Option (Nat × Bool)} {rest : List Oper} {F : List Known} {a : Act} {cs : Array Value}
  (hCa : ∀ W o, C W → C (W.alloc o)) (hw : Region.wanted ⟨some d, .box te x, t, pos, af, g⟩ (yielded ops a.tmps) = true) (hcs : (a.eval x).cells = cs)
  (hf : Fits (some ⟨k, Full (γ k) cs te, none⟩) F)
  (next : wpQuiet P ops (fun _ => True) (fun a' => wpRel P md ops C V γ Q (k + 1) rest (⟨k, Full (γ k) cs te, none⟩ :: F) a') [⟨some d, .move (.const (.pointer (some ⟨γ k, 0, none⟩))), 0, "", #[], none⟩] a) :
  wpRel P md ops C V γ Q k (⟨some d, .box te x, t, pos, af, g⟩ :: rest) F a := by
 refine ⟨_, some ⟨k, Full (γ k) cs te, none⟩, .inl ⟨hw, (fun h => by cases h), (fun x hx => by cases hx; rfl), hf, fun w hC _ hn => ?_⟩, wpRel_put next⟩
 have hrun : (execOp a.eval ⟨some d, .box te x, t, pos, af, g⟩).run P w = .ok (.value (.pointer (some ⟨w.heap.size, 0, none⟩))) (w.alloc (.cells cs te)) := by
  subst hcs; rfl
 rw [hrun, ← hn rfl]
 refine .inl ⟨rfl, hCa _ _ hC, (Below.refl _ _).alloc (Nat.le_refl _) _, fun x hx => ?_, (fun _ => by simp), fun h => by cases h⟩
 cases hx
 exact objAt_alloc_at w _ _ rfl
theorem rel_alloc {k : Nat} {d : Tmp} {te : TypeId} {t : TypeId} {pos : String} {af : Array Edge} {g : Option (Nat × Bool)} {rest : List Oper} {F : List Known} {a : Act} (z : Value) (n : Nat)
  (hCa : ∀ W o, C W → C (W.alloc o)) (hw : Region.wanted ⟨some d, .alloc te, t, pos, af, g⟩ (yielded ops a.tmps) = true) (hz : ∀ W, (zeroValue te).run P W = .ok z W) (hn : z.cells.size = n)
  (hf : Fits (some ⟨k, Hdr (γ k) n te, none⟩) F)
  (next : wpQuiet P ops (fun _ => True) (fun a' => wpRel P md ops C V γ Q (k + 1) rest (⟨k, Hdr (γ k) n te, none⟩ :: F) a') [⟨some d, .move (.const (.pointer (some ⟨γ k, 0, none⟩))), 0, "", #[], none⟩] a) :
  wpRel P md ops C V γ Q k (⟨some d, .alloc te, t, pos, af, g⟩ :: rest) F a := by
 refine ⟨_, some ⟨k, Hdr (γ k) n te, none⟩, .inl ⟨hw, (fun h => by cases h), (fun x hx => by cases hx; rfl), hf, fun w hC _ hn' => ?_⟩, wpRel_put next⟩
 have hrun : (execOp a.eval ⟨some d, .alloc te, t, pos, af, g⟩).run P w = .ok (.value (.pointer (some ⟨w.heap.size, 0, none⟩))) (w.alloc (.cells z.cells te)) := by
  unfold execOp Instr.alloc newVar newRow
  simp only [Sem.run_bind, hz w, Result.andThen_ok, run_newObj_alloc, Sem.run_pure]
 rw [hrun, ← hn' rfl]
 refine .inl ⟨rfl, hCa _ _ hC, (Below.refl _ _).alloc (Nat.le_refl _) _, fun x hx => ?_, (fun _ => by simp), fun h => by cases h⟩
 cases hx
 exact ⟨_, objAt_alloc_at w _ _ rfl, hn⟩
theorem rel_slice {k : Nat} {d : Tmp} {te te' : TypeId} {len : Nat} {parts : Array (Nat × Operand)} {t : TypeId} {pos : String} {af : Array Edge} {g : Option (Nat × Bool)} {rest : List Oper} {F : List Known} {a : Act} {cs : Array Value}
  (hCa : ∀ W o, C W → C (W.alloc o)) (hw : Region.wanted ⟨some d, .buildSlice te len parts, t, pos, af, g⟩ (yielded ops a.tmps) = true)
  (hrun : ∀ W, (Instr.buildSlice te len (parts.map fun (i, x) => (i, a.eval x))).run P W = .ok (.slice (some ⟨W.heap.size, 0, none⟩) len len) (W.alloc (.cells cs te')))
  (hf : Fits (some ⟨k, Full (γ k) cs te', none⟩) F)
  (next : wpQuiet P ops (fun _ => True) (fun a' => wpRel P md ops C V γ Q (k + 1) rest (⟨k, Full (γ k) cs te', none⟩ :: F) a') [⟨some d, .move (.const (.slice (some ⟨γ k, 0, none⟩) len len)), 0, "", #[], none⟩] a) :
  wpRel P md ops C V γ Q k (⟨some d, .buildSlice te len parts, t, pos, af, g⟩ :: rest) F a := by
 refine ⟨_, some ⟨k, Full (γ k) cs te', none⟩, .inl ⟨hw, (fun h => by cases h), (fun x hx => by cases hx; rfl), hf, fun w hC _ hn => ?_⟩, wpRel_put next⟩
 have hrun' : (execOp a.eval ⟨some d, .buildSlice te len parts, t, pos, af, g⟩).run P w = .ok (.value (.slice (some ⟨w.heap.size, 0, none⟩) len len)) (w.alloc (.cells cs te')) := by
  unfold execOp
  simp only [Sem.run_bind, hrun w, Result.andThen_ok, Sem.run_pure]
 rw [hrun', ← hn rfl]
 refine .inl ⟨rfl, hCa _ _ hC, (Below.refl _ _).alloc (Nat.le_refl _) _, fun x hx => ?_, (fun _ => by simp), fun h => by cases h⟩
 cases hx
 exact objAt_alloc_at w _ _ rfl
theorem run_storeVar_all {P : Program} (w : World) (g : Nat) (t ty : TypeId) (old : Array Value) (v : Value) (hg : objAt w g = some (.cells old t)) (hi : (P.info? ty).map (·.size) = some v.cells.size)
  (ho : old.size = v.cells.size) (h1 : v.cells.all (·.oneCell') = true) : (storeVar ty ⟨g, 0, none⟩ v).run P w = .ok () (w.setRow g v.cells) := by
 unfold objAt at hg
 have := run_storeCells_from (P := P) g t v.cells.toList 0 old w hg (by simp; omega) (fun v hv => (Array.all_eq_true_iff_forall_mem.1 h1) v (by simpa using hv))
 cases hq : P.info? ty with
 | none => simp [hq] at hi
 | some i =>
  have hs : v.cells.size = i.size := by simp [hq] at hi; omega
  simp [storeVar, sizeOf, typeInfo, hq, hs, this]
theorem rel_store {k : Nat} {ty : TypeId} {x y : Operand} {t : TypeId} {pos : String} {af : Array Edge} {gd : Option (Nat × Bool)} {rest : List Oper} {F : List Known} {a : Act} {g n j : Nat} {te : TypeId} {v : Value} {cs : Array Value}
  (hCs : ∀ W cs, C W → C (W.setRow g cs)) (hw : Region.wanted ⟨none, .store ty x y, t, pos, af, gd⟩ (yielded ops a.tmps) = true)
  (hx : a.eval x = .pointer (some ⟨g, 0, none⟩)) (hy : a.eval y = v) (hcs : v.cells = cs) (hi : (P.info? ty).map (·.size) = some n) (hn : cs.size = n) (h1 : cs.all (·.oneCell') = true)
  (hin : ⟨j, Hdr g n te, none⟩ ∈ F) (hwt : waitsT md ops 3 k j = true)
  (hf : Fits (some ⟨k, Full g cs te, some (g, te)⟩) F)
  (next : wpRel P md ops C V γ Q (k + 1) rest (⟨k, Full g cs te, some (g, te)⟩ :: F) a) :
  wpRel P md ops C V γ Q k (⟨none, .store ty x y, t, pos, af, gd⟩ :: rest) F a := by
 refine ⟨undef, some ⟨k, Full g cs te, some (g, te)⟩, .inl ⟨hw, (fun h => by cases h), (fun x hx => by cases hx; rfl), hf, fun w hC hF _ => ?_⟩, next⟩
 obtain ⟨old, ho, hs⟩ := hF _ hin hwt
 have hrun : (execOp a.eval ⟨none, .store ty x y, t, pos, af, gd⟩).run P w = .ok .skip (w.setRow g cs) := by
  unfold execOp
  subst hcs
  subst hy
  simp only [hx, Instr.storeAt, Instr.sureAddr, Sem.run_bind, Sem.run_pure, Result.andThen_ok, run_storeVar_all w g te ty old _ ho (by rw [hi, hn]) (by omega) h1]
 rw [hrun]
 refine ⟨rfl, hCs _ _ hC, ⟨old, cs, te, ho, ⟨by omega, rfl⟩, rfl⟩, fun x hx => ?_, fun h => by cases h⟩
 cases hx
 exact objAt_setRow_eq cs ho
theorem known {md : Region.Mode} {ops : Array Oper} {F : List Known} {W : World} {k i : Nat} {fact : World → Prop} {eff : Option (Nat × TypeId)} (hF : ∀ x ∈ F, waitsT md ops 3 k x.i = true → x.fact W) (hm : (⟨i, fact, eff⟩ : Known) ∈ F) (hw : waitsT md ops 3 k i = true) : fact W := hF _ hm hw
theorem rel_nil {k : Nat} {F : List Known} {a : Act} (h : ∀ w, C w → (∀ x ∈ F, x.fact w) → Q .normal a w) : wpRel P md ops C V γ Q k [] F a := h
theorem alloc_cls {w : World} : ∀ (W : World) (o : Obj), (∃ m, W = more w m) → ∃ m, W.alloc o = more w m := fun W o ⟨m, hm⟩ => by subst hm; exact ⟨_, more_alloc w m o⟩
theorem setRow_cls {w : World} {g : Nat} (hg : w.heap.size ≤ g) : ∀ (W : World) (cs : Array Value), (∃ m, W = more w m) → ∃ m, W.setRow g cs = more w m := fun W cs ⟨m, hm⟩ => by
 subst hm
 refine more_of_below ((below_more w m).trans ⟨rfl, rfl, rfl, by simp [World.setRow], fun k hk => ?_⟩)
 unfold World.setRow
 simp only [Array.getElem?_modify]
 rw [if_neg (by omega)]
def exV : List Oper → (List Value → Prop) → Prop
 | [], k => k []
 | o :: l, k => if isCall o = true then ∃ v, exV l fun r => k (v :: r) else exV l fun r => k (undef :: r)
theorem exv_call {o : Oper} {l : List Oper} {k : List Value → Prop} (h : isCall o = true) (hx : ∃ v, exV l fun r => k (v :: r)) : exV (o :: l) k := by unfold exV; rw [if_pos h]; exact hx
theorem exv_skip {o : Oper} {l : List Oper} {k : List Value → Prop} (h : isCall o = false) (hx : exV l fun r => k (undef :: r)) : exV (o :: l) k := by unfold exV; rw [if_neg (by simp [h])]; exact hx
theorem exv_nil {k : List Value → Prop} (hx : k []) : exV [] k := hx
theorem exV_some : ∀ {l : List Oper} {k : List Value → Prop}, exV l k → ∃ r, k r
 | [], k, h => ⟨[], h⟩
 | o :: l, k, h => by
  unfold exV at h
  split at h
  ·obtain ⟨v, h⟩ := h
   obtain ⟨r, hr⟩ := exV_some h
   exact ⟨_, hr⟩
  ·obtain ⟨r, hr⟩ := exV_some h
   exact ⟨_, hr⟩
theorem wp_rel {id : Nat} {a : Act} {w : World} {l : List Oper} (hm : P.follows .mixedOrders = true) (hB : Region.lexB .any l.toArray = true)
  (h : exV l fun r => ∀ γ : Nat → Nat, (∀ i j, i ≠ j → γ i ≠ γ j) → (∀ i, w.heap.size ≤ γ i) → wpRel P .any l.toArray (fun w' => ∃ m, w' = more w m) ⟨fun k => r.getD k undef, fun _ => false, fun _ _ => True, fun _ _ _ => True⟩ γ Q 0 l [] a) : (Code.region id l.toArray true).wp P Q a w := by
 obtain ⟨r, hr⟩ := exV_some h
 refine wp_region_rel (V := ⟨fun k => r.getD k undef, fun _ => false, fun _ _ => True, fun _ _ _ => True⟩) (fun w' => ∃ m, w' = more w m) w.heap.size hm hB (fun W W' ⟨m, hm⟩ hb => by subst hm; exact more_on hb) (fun W ⟨m, hm⟩ => by subst hm; exact size_more w m) ⟨⟨w.drawn + 1, #[]⟩, by simp [more]⟩ (fun i hi => by cases hi) fun γ g hg _ h1 h2 => ?_
 rw [show g = fun k => r.getD k undef from funext fun i => hg i rfl]
 exact hr γ h1 h2
end
end Go.Proofs.YtdoolhbmekahdaaGreatDoor
namespace Go.Proofs.YtdoolhbmekahdaaGreatDoor
open Go.RowKit
set_option linter.unusedVariables false
set_option linter.unusedSimpArgs false
section
variable {P : Program} {ops : Array Oper} {md : Region.Mode} {C : World → Prop} {Q : Exit → Act → World → Prop} {n : Nat}
end
end Go.Proofs.YtdoolhbmekahdaaGreatDoor
namespace Go.Proofs.YtdoolhbmekahdaaGreatDoor
open Go.RowKit
set_option linter.unusedVariables false
set_option linter.unusedSimpArgs false
section
variable {P : Program} {md : Region.Mode} {ops : Array Oper} {C : World → Prop} {V : Vals} {γ : Nat → Nat} {Q : Exit → Act → World → Prop} {base n : Nat}
def directs (md : Region.Mode) (ops : Array Oper) (k : Nat) : List Nat := match ops[k]? with
 | some o => (o.after.toList.filter fun e => Region.binds md e).map (·.on)
 | none => []
inductive WaitsP (md : Region.Mode) (ops : Array Oper) (j : Nat) : Nat → Prop
 | self : WaitsP md ops j j
 | step {k i : Nat} : WaitsP md ops j k → waits md ops k i = true → WaitsP md ops j i
def reachGo (md : Region.Mode) (ops : Array Oper) : Nat → List Nat → List Nat
 | 0, S => S
 | k + 1, S => reachGo md ops k (if S.contains k then directs md ops k ++ S else S)
def tailR (md : Region.Mode) (ops : Array Oper) (n : Nat) : Bool :=
 (List.range ops.size).all fun j => decide (j < n) || (List.range n).all fun i => (reachGo md ops (j + 1) [j]).contains i
theorem waits_of_directs {k i : Nat} (h : i ∈ directs md ops k) : waits md ops k i = true := by
 unfold directs at h
 unfold waits
 split at h
 ·rename_i o ho
  simp only [ho]
  obtain ⟨e, he, rfl⟩ := List.mem_map.1 h
  rw [List.mem_filter] at he
  rw [Array.any_eq_true']
  exact ⟨e, by simpa using he.1, by simp [he.2]⟩
 ·cases h
theorem reach_sound {j : Nat} : ∀ (k : Nat) (S : List Nat), (∀ x ∈ S, WaitsP md ops j x) → ∀ x ∈ reachGo md ops k S, WaitsP md ops j x
 | 0, S, h => h
 | k + 1, S, h => by
  unfold reachGo
  refine reach_sound k _ ?_
  split
  ·rename_i hk
   intro x hx
   rcases List.mem_append.1 hx with hx | hx
   ·exact .step (h k (by simpa using hk)) (waits_of_directs hx)
   ·exact h x hx
  ·exact h
theorem tailR_spec (h : tailR md ops n = true) (j : Nat) (hj : ¬ j < n) (hjs : j < ops.size) (i : Nat) (hi : i < n) : WaitsP md ops j i := by
 have h1 := List.all_eq_true.1 h j (List.mem_range.2 hjs)
 simp only [hj, decide_false, Bool.false_or] at h1
 have h2 := List.all_eq_true.1 h1 i (List.mem_range.2 hi)
 exact reach_sound (j + 1) [j] (fun x hx => by
  obtain rfl : x = j := by simpa using hx
  exact .self) i (by simpa using h2)
theorem listed_of_WaitsP {i j : Nat} {listed : Array Bool} (hc : Closed md ops listed) (h : WaitsP md ops j i) (hj : j ∈ Region.ready md ops listed ∨ listed.getD j false = true) : i = j ∨ listed.getD i false = true := by
 induction h with
 | self => exact .inl rfl
 | step _ hw ih =>
  rcases ih with rfl | ih
  ·exact .inr (listed_of_waits hc hw hj)
  ·exact .inr (listed_of_waits hc hw (.inr ih))
theorem not_ready_T {i j : Nat} {listed : Array Bool} (hc : Closed md ops listed) (hw : WaitsP md ops j i) (hij : i ≠ j) (hi : listed.getD i true = false) : j ∉ Region.ready md ops listed := by
 intro hj
 rcases listed_of_WaitsP hc hw (.inl hj) with h1 | h1
 ·exact hij h1
 rcases Nat.lt_or_ge i listed.size with h' | h'
 ·simp [h'] at hi h1; rw [hi] at h1; cases h1
 ·simp [Array.getElem?_eq_none h'] at h1
def wpAnyRT (P : Program) (md : Region.Mode) (ops : Array Oper) (C : World → Prop) (V : Vals) (γ : Nat → Nat) (Q : Exit → Act → World → Prop) (n : Nat) : Nat → Array Bool → List Known → Act → Prop
 | 0, listed, F, a => Region.ready md ops listed = [] ∧ ∀ w, C w → (∀ x ∈ F, x.fact w) → Q .normal a w
 | fuel + 1, listed, F, a => (Region.ready md ops listed = [] → ∀ w, C w → (∀ x ∈ F, x.fact w) → Q .normal a w) ∧
  ∀ i ∈ Region.ready md ops listed, (i < n → rOp P md ops C V γ i F (fun F' a' => wpAnyRT P md ops C V γ Q n fuel (listed.setIfInBounds i true) F' a') a) ∧
   (¬ i < n → ∀ w, C w → (∀ x ∈ F, x.fact w) → wpOp P ops Q i (wpAny P md ops Q fuel (listed.setIfInBounds i true)) a w)
theorem wpAnyRT_congr : ∀ (fuel : Nat) (listed : Array Bool) (F F' : List Known) (a : Act), (∀ x, x ∈ F ↔ x ∈ F') → wpAnyRT P md ops C V γ Q n fuel listed F a → wpAnyRT P md ops C V γ Q n fuel listed F' a
 | 0, listed, F, F', a, h, H => ⟨H.1, fun w hw hF => H.2 w hw fun x hx => hF x ((h x).1 hx)⟩
 | fuel + 1, listed, F, F', a, h, H => ⟨fun h0 w hw hF => H.1 h0 w hw fun x hx => hF x ((h x).1 hx), fun i hi => ⟨fun hin => by
  have h1 := (H.2 i hi).1 hin
  unfold rOp at h1 ⊢
  split
  ·rename_i ho; simp only [ho] at h1; exact wpAnyRT_congr fuel _ F F' a h h1
  ·rename_i o ho
   simp only [ho] at h1
   split
   ·rename_i hw
    rw [if_pos hw] at h1
    obtain ⟨v, y, hs, hk⟩ := h1
    exact ⟨v, y, spec_congr h hs, wpAnyRT_congr fuel _ _ _ _ (fun x => by rw [mem_addK, mem_addK, h x]) hk⟩
   ·rename_i hw
    rw [if_neg hw] at h1
    exact wpAnyRT_congr fuel _ F F' _ h h1, fun hin w hw hF => (H.2 i hi).2 hin w hw fun x hx => hF x ((h x).1 hx)⟩⟩
theorem wpAnyRT_first (hTT : ∀ j, ¬ j < n → j < ops.size → ∀ i, i < n → WaitsP md ops j i) {i : Nat} (hin : i < n) {oi : Oper} {v : Value} {y : Option Known} (hi : ops[i]? = some oi) (hsel : ∀ (j : Nat) (o : Oper) cs b, ops[j]? = some o → o.op ≠ .select cs b) :
  ∀ (fuel : Nat) (listed : Array Bool) (F : List Known) (a : Act), Closed md ops listed → Keeps F →
   (∀ j oj, ops[j]? = some oj → j ≠ i → listed.getD j true = false → (∀ e ∈ oj.after, Region.binds md e = true → e.on ≠ i) → oi.apart ops oj = true) →
   i ∈ Region.ready md ops listed → Yields P md ops C V γ i oi a F v y →
   wpAnyRT P md ops C V γ Q n fuel (listed.setIfInBounds i true) (addK y F) (a.put oi.dst v) → wpAnyRT P md ops C V γ Q n (fuel + 1) listed F a := by
 intro fuel
 induction fuel with
 | zero =>
  intro listed F a _ _ _ hr hy H
  refine ⟨fun h => (by rw [h] at hr; cases hr), fun j hj => ?_⟩
  by_cases hji : j = i
  ·subst hji; exact ⟨fun _ => rOp_of_yields hi hy H, fun h => absurd hin h⟩
  ·have := ready_mono hj hji
   rw [H.1] at this
   cases this
 | succ fuel ih =>
  intro listed F a hcl hkp hfree hr hy H
  refine ⟨fun h => (by rw [h] at hr; cases hr), fun j hj => ?_⟩
  have hiun := (mem_ready.1 hr).1
  by_cases hji : j = i
  ·subst hji; exact ⟨fun _ => rOp_of_yields hi hy H, fun h => absurd hin h⟩
  ·obtain ⟨hjun, oj, hoj, hall⟩ := mem_ready.1 hj
   refine ⟨fun hjn => ?_, fun hjn => absurd hj (not_ready_T hcl (hTT j hjn (Array.getElem?_eq_some_iff.1 hoj).1 i hin) (Ne.symm hji) hiun)⟩
   have nodep : ∀ k l : Nat, l ∈ Region.ready md ops listed → listed.getD k true = false → waitsT md ops 3 l k = false := fun k l hl hk => by
    cases hh : waitsT md ops 3 l k with
    | false => rfl
    | true =>
     have h1 := listed_of_waitsT hcl 3 l hh (.inl hl)
     exfalso
     rcases Nat.lt_or_ge k listed.size with h' | h'
     ·simp [h'] at hk h1; rw [hk] at h1; cases h1
     ·simp [Array.getElem?_eq_none h'] at h1
   have hji' := nodep i j hj hiun
   have hij' := nodep j i hr hjun
   have hnot : ∀ e ∈ oj.after, Region.binds md e = true → e.on ≠ i := fun e he hb heq => by
    have h1 := hall e he hb
    rw [heq] at h1
    rcases Nat.lt_or_ge i listed.size with h' | h'
    ·simp [h'] at hiun h1; rw [hiun] at h1; cases h1
    ·simp [Array.getElem?_eq_none h'] at h1
   obtain ⟨h1, h2, h3⟩ := Oper.apart_spec (hfree j oj hoj hji hjun hnot)
   obtain ⟨u, z, hz, hK⟩ := yields_of_rOp hoj ((H.2 j (ready_mono hj hji)).1 hjn)
   have hz1 : Yields P md ops C V γ j oj a (addK y F) u z := yields_same (execOp_put oj (fun cs b => hsel j oj cs b hoj) a oi.dst v h1).symm (wanted_put oj a oi.dst v h1).symm hz
   have hz2 : Yields P md ops C V γ j oj a F u z := yields_ahead (oi := oj) (oj := oi) (u := v) hji' (at_of_yields hy) hz1
   refine rOp_of_yields hoj hz2 ?_
   have hfz : Fits z F := fits_of_yields hkp hz2
   have hfy : Fits y F := fits_of_yields hkp hy
   have hfz' : Fits z (addK y F) := fits_of_yields (keeps_add hfy hkp) hz1
   have hyz : Fits y (addK z F) := fits_swap hkp hfy hfz'
   have hy1 : Yields P md ops C V γ i oi a (addK z F) v y := yields_behind (oi := oi) (oj := oj) (u := u) hij' hkp (at_of_yields hz) hyz hy
   have hy2 : Yields P md ops C V γ i oi (a.put oj.dst u) (addK z F) v y := yields_same (execOp_put oi (fun cs b => hsel i oi cs b hi) a oj.dst u h3) (wanted_put oi a oj.dst u h3) hy1
   refine ih (listed.setIfInBounds j true) (addK z F) (a.put oj.dst u) (hcl.set hj) (keeps_add hfz hkp) (fun k ok hk hki hun hno => hfree k ok hk hki (by
    by_cases hjk : j = k
    ·subst hjk; exact hjun
    ·rw [getD_set_ne true hjk] at hun; exact hun) hno) (ready_mono hr (Ne.symm hji)) hy2 ?_
   rw [Array.setIfInBounds_comm _ _ hji]
   have hput : (a.put oi.dst v).put oj.dst u = (a.put oj.dst u).put oi.dst v := Act.put_comm a v u h2
   rw [← hput]
   exact wpAnyRT_congr _ _ _ _ _ (fun x => by simp only [mem_addK]; constructor <;> (rintro (h | h | h) <;> simp [h])) hK
theorem wpAnyRT_lex (hs : Region.noSelect ops = true) (hTT : ∀ j, ¬ j < n → j < ops.size → ∀ i, i < n → WaitsP md ops j i) (t : Nat) (ht : 0 < t) : ∀ (l : List Oper) (k : Nat) (listed : Array Bool) (F : List Known) (a : Act), Closed md ops listed → Keeps F → k + l.length = n → (∀ j, j < l.length → l[j]? = ops[k + j]?) →
  headB md ops l.length k listed = true → wpRel P md ops C V γ (fun _ a w => wpAny P md ops Q t (marks l.length k listed) a w) k l F a → wpAnyRT P md ops C V γ Q n (l.length + t) listed F a
 | [], k, listed, F, a, hcl, hkp, hk, _, hB, h => by
  have h' : ∀ w, C w → (∀ x ∈ F, x.fact w) → wpAny P md ops Q t listed a w := h
  have hk' : k = n := by simpa using hk
  subst hk'
  have hge : ∀ i ∈ Region.ready md ops listed, ¬ i < k := fun i hi hlt => by
   have := (mem_ready.1 hi).1
   rw [headB_nil hB i hlt] at this
   cases this
  cases t with
  | zero => omega
  | succ t =>
   show wpAnyRT P md ops C V γ Q k (0 + (t + 1)) listed F a
   rw [Nat.zero_add]
   exact ⟨fun h0 w hw hF => (h' w hw hF).1 h0, fun i hi => ⟨fun hlt => absurd hlt (hge i hi), fun _ w hw hF => (h' w hw hF).2 i hi⟩⟩
 | o :: l, k, listed, F, a, hcl, hkp, hk, hl, hB, h => by
  have h0 : ops[k]? = some o := by simpa using (hl 0 (by simp)).symm
  simp only [List.length_cons, headB, Bool.and_eq_true] at hB
  obtain ⟨⟨hr, hf⟩, hB'⟩ := hB
  have hkn : k < n := by simp at hk; omega
  obtain ⟨v, y, hy, hK⟩ := h
  have hr' : k ∈ Region.ready md ops listed := by simpa using hr
  show wpAnyRT P md ops C V γ Q n (l.length + 1 + t) listed F a
  rw [show l.length + 1 + t = (l.length + t) + 1 by omega]
  exact wpAnyRT_first hTT hkn h0 (Region.noSelect_spec hs) (l.length + t) listed F a hcl hkp (Region.free_spec h0 hf) hr' hy
   (wpAnyRT_lex hs hTT t ht l (k + 1) _ _ _ (hcl.set hr') (keeps_add (fits_of_yields hkp hy) hkp) (by simp at hk; omega) (fun j hj => by have := hl (j + 1) (by simp; omega); simpa [Nat.add_assoc, Nat.add_comm 1 j] using this) hB' hK)
theorem wpAny_of_RT (hC : ∀ w w', C w → Below w.heap.size w w' → C w') (hbase : ∀ w, C w → base ≤ w.heap.size) : ∀ (fuel : Nat) (listed : Array Bool) (a : Act) (w : World) (fx : Nat → Bool) (γ0 : Nat → Nat) (fv : Nat → Bool) (T : Vals), C w → (∀ i, T.vary i = true → T.sh i (T.v i)) → (∀ i, fv i = true → listed.getD i true = true) →
  (∀ i, fx i = true → listed.getD i true = true) → (∀ i j, fx i = true → fx j = true → i ≠ j → γ0 i ≠ γ0 j) → (∀ i, fx i = true → base ≤ γ0 i ∧ γ0 i < w.heap.size) →
  (∀ γ V, Good base fx γ0 w.heap.size γ → Alike T fv V → ∃ F, Keeps F ∧ wpAnyRT P md ops C V γ Q n fuel listed F a ∧ ∀ x ∈ F, x.fact w) → wpAny P md ops Q fuel listed a w := by
 intro fuel
 induction fuel with
 | zero =>
  intro listed a w fx γ0 fv T hw hsh hfv hfx h1 h2 H
  obtain ⟨γ, hγ⟩ := good_exists (hbase w hw) h1 h2
  obtain ⟨F, _, hF, hk⟩ := H γ T hγ ⟨rfl, rfl, rfl, hsh, fun _ _ => rfl⟩
  exact ⟨hF.1, hF.2 w hw hk⟩
 | succ fuel ih =>
  intro listed a w fx γ0 fv T hw hsh hfv hfx h1 h2 H
  have hT : Alike T fv T := ⟨rfl, rfl, rfl, hsh, fun _ _ => rfl⟩
  have hgood := good_exists (hbase w hw) h1 h2
  refine ⟨fun h0 => ?_, fun i hi => ?_⟩
  ·obtain ⟨γ, hγ⟩ := hgood
   obtain ⟨F, _, hF, hk⟩ := H γ T hγ hT
   exact hF.1 h0 w hw hk
  ·have hiun := (mem_ready.1 hi).1
   by_cases hin : i < n
   case neg =>
    obtain ⟨γ, hγ⟩ := hgood
    obtain ⟨F, _, hF, hk⟩ := H γ T hγ hT
    exact (hF.2 i hi).2 hin w hw hk
   have hfxi : fx i = false := by
    cases hh : fx i with
    | false => rfl
    | true => have := hfx i hh; rw [hiun] at this; cases this
   obtain ⟨_, o, ho, _⟩ := mem_ready.1 hi
   have hfx' : ∀ j, fx j = true → (listed.setIfInBounds i true).getD j true = true := fun j hj => by
    have hji : i ≠ j := fun e => by subst e; rw [hfxi] at hj; cases hj
    rw [getD_set_ne true hji]; exact hfx j hj
   have hfv' : ∀ j, fv j = true → (listed.setIfInBounds i true).getD j true = true := fun j hj => by
    have hji : i ≠ j := fun e => by subst e; have := hfv _ hj; rw [hiun] at this; cases this
    rw [getD_set_ne true hji]; exact hfv j hj
   have hlistedi : (listed.setIfInBounds i true).getD i true = true := by
    rcases Nat.lt_or_ge i listed.size with h' | h'
    ·simp [h']
    ·simp [h', Array.getElem?_eq_none]
   unfold wpOp
   simp only [ho]
   by_cases hwt : Region.wanted o (yielded ops a.tmps) = true
   ·rw [if_pos hwt]
    refine .inl ?_
    have each : ∀ γ V, Good base fx γ0 w.heap.size γ → Alike T fv V → (isNew o = true → w.heap.size = γ i) → ∃ F v y, Keeps F ∧ (∀ x ∈ F, x.fact w) ∧ Spec P md ops C V γ i o a F v y ∧
      RelUpon P C V i o w v y ((execOp a.eval o).run P w) ∧ wpAnyRT P md ops C V γ Q n fuel (listed.setIfInBounds i true) (addK y F) (a.put o.dst v) := fun γ V hγ hV hn => by
     obtain ⟨F, hkp, hF, hk⟩ := H γ V hγ hV
     have h3 := (hF.2 i hi).1 hin
     unfold rOp at h3
     simp only [ho] at h3
     rw [if_pos hwt] at h3
     obtain ⟨v, y, hs, hK⟩ := h3
     exact ⟨F, v, y, hkp, hk, hs, hs.2.2.2 w hw (fun x hx _ => hk x hx) hn, hK⟩
    let fx' : Nat → Bool := fun j => fx j || (isNew o && j == i)
    let γ1 : Nat → Nat := fun j => if j = i then w.heap.size else γ0 j
    have hfx1 : ∀ j, fx j = true → j ≠ i := fun j hj e => by subst e; rw [hfxi] at hj; cases hj
    have hfxcase : ∀ j, fx' j = true → fx j = true ∨ (isNew o = true ∧ j = i) := fun j hj => by
     simp only [fx', Bool.or_eq_true, Bool.and_eq_true, beq_iff_eq] at hj; exact hj
    have k1 : ∀ p q, fx' p = true → fx' q = true → p ≠ q → γ1 p ≠ γ1 q := fun p q hp hq hpq => by
     rcases hfxcase p hp with hp | ⟨hn, ep⟩ <;> rcases hfxcase q hq with hq | ⟨hn', eq⟩
     ·simp only [γ1, if_neg (hfx1 p hp), if_neg (hfx1 q hq)]; exact h1 p q hp hq hpq
     ·simp only [γ1, if_neg (hfx1 p hp), if_pos eq]; have := h2 p hp; omega
     ·simp only [γ1, if_neg (hfx1 q hq), if_pos ep]; have := h2 q hq; omega
     ·exact absurd (ep.trans eq.symm) hpq
    have k2 : ∀ s, w.heap.size ≤ s → (isNew o = true → w.heap.size < s) → ∀ p, fx' p = true → base ≤ γ1 p ∧ γ1 p < s := fun s hs hns p hp => by
     rcases hfxcase p hp with hp | ⟨hn, rfl⟩
     ·simp only [γ1, if_neg (hfx1 p hp)]; have := h2 p hp; omega
     ·simp only [γ1, if_pos]; exact ⟨hbase w hw, hns hn⟩
    have good1 : ∀ s γ, w.heap.size ≤ s → Good base fx' γ1 s γ → Good base fx γ0 w.heap.size γ ∧ (isNew o = true → w.heap.size = γ i) := fun s γ hs hγ => by
     refine ⟨⟨hγ.1, hγ.2.1, fun j hj => ?_, fun j hj => ?_⟩, fun hn => ?_⟩
     ·have := hγ.2.2.1 j (by simp [fx', hj])
      rw [this]; simp [γ1, hfx1 j hj]
     ·cases hh : fx' j with
      | false => exact Nat.le_trans hs (hγ.2.2.2 j hh)
      | true =>
       rcases hfxcase j hh with h' | ⟨_, rfl⟩
       ·rw [hj] at h'; cases h'
       ·rw [hγ.2.2.1 j hh]; simp [γ1]
     ·have := hγ.2.2.1 i (by simp [fx', hn])
      rw [this]; simp [γ1]
    have hfx2 : ∀ j, fx' j = true → (listed.setIfInBounds i true).getD j true = true := fun j hj => by
     rcases hfxcase j hj with hj | ⟨_, rfl⟩
     ·exact hfx' j hj
     ·exact hlistedi
    obtain ⟨γs, hγs⟩ := good_exists (base := base) (fx := fx') (γ0 := γ1) (s := w.heap.size + 1) (by have := hbase w hw; omega) k1 (k2 _ (by omega) (by omega))
    obtain ⟨g1, g2⟩ := good1 _ γs (by omega) hγs
    obtain ⟨F0, v0, y0, hkp0, hf0, hs0, hr0, hk0⟩ := each γs T g1 hT g2
    unfold Oper.wp
    have done : ∀ (fv' : Nat → Bool) (T' : Vals) (u : Value) (w' : World), (∀ i, T'.vary i = true → T'.sh i (T'.v i)) → (∀ j, fv' j = true → (listed.setIfInBounds i true).getD j true = true) → C w' → w.heap.size ≤ w'.heap.size → (isNew o = true → w.heap.size < w'.heap.size) →
      (∀ γ V, Good base fx' γ1 w'.heap.size γ → Alike T' fv' V → ∃ F y, Keeps F ∧ Fits y F ∧ wpAnyRT P md ops C V γ Q n fuel (listed.setIfInBounds i true) (addK y F) (a.put o.dst u) ∧ ∀ x ∈ addK y F, x.fact w') →
      wpAny P md ops Q fuel (listed.setIfInBounds i true) (a.put o.dst u) w' := fun fv' T' u w' hsh' hfv2 hC' hsz hnsz hall =>
     ih _ _ w' fx' γ1 fv' T' hC' hsh' hfv2 hfx2 k1 (k2 _ hsz hnsz) fun γ V hγ hV => by
      obtain ⟨F, y, hkp, hfit, hk, hx⟩ := hall γ V hγ hV
      exact ⟨addK y F, keeps_add hfit hkp, hk, hx⟩
    cases hrun : (execOp a.eval o).run P w with
    | ok n w' =>
     rw [hrun] at hr0
     cases n with
     | value u =>
      simp only [RelUpon] at hr0
      rcases hr0 with ⟨rfl, hC', he, hy, hn, hcv⟩ | ⟨hcall, hnew, hvy, rfl, hsu, hfu, hb⟩
      ·simp only [Oper.upon]
       refine done fv T _ w' hsh hfv' hC' (eff_size he) hn fun γ V hγ hV => ?_
       obtain ⟨p1, p2⟩ := good1 _ γ (eff_size he) hγ
       obtain ⟨F, v, y, hkp, hf, hs, hr, hk⟩ := each γ V p1 hV p2
       rw [hrun] at hr
       simp only [RelUpon] at hr
       rcases hr with ⟨rfl, _, he', hy', _, _⟩ | ⟨hcall, _, hvy, _⟩
       rotate_left
       ·rw [hV.1, hcv hcall] at hvy; cases hvy
       refine ⟨F, y, hkp, hs.2.2.1, hk, fun x hx => ?_⟩
       rcases mem_addK.1 hx with hx | hx
       ·exact hy' x hx
       ·exact stab_none hkp hs.2.2.1 hx w w' (hf x hx) he'
      ·simp only [Oper.upon]
       refine done (fun j => fv j || j == i) ⟨fun j => if j = i then u else T.v j, T.vary, T.sh, T.fact⟩ _ w' (fun j hj => ?_) (fun j hj => ?_) (hC _ _ hw hb) hb.size (fun h => by rw [hnew] at h; cases h) fun γ V hγ hV => ?_
       ·by_cases e : j = i
        ·subst e; simp only [if_true]; exact hsu
        ·simp only [if_neg e]; exact hsh j hj
       ·simp only [Bool.or_eq_true, beq_iff_eq] at hj
        rcases hj with hj | rfl
        ·exact hfv' j hj
        ·exact hlistedi
       ·obtain ⟨p1, p2⟩ := good1 _ γ hb.size hγ
        have hfvi : fv i = false := by
         cases hh : fv i with
         | false => rfl
         | true => have := hfv i hh; rw [hiun] at this; cases this
        have hV2 : Alike T fv V := ⟨hV.1, hV.2.1, hV.2.2.1, hV.2.2.2.1, fun j hj => by
         have h := hV.2.2.2.2 j (hj.imp id fun h => by simp only [h, Bool.true_or])
         have hji : j ≠ i := fun e => by
          subst e
          rcases hj with hj | hj
          ·rw [hvy] at hj; cases hj
          ·rw [hfvi] at hj; cases hj
         simp only [if_neg hji] at h
         exact h⟩
        have hVi : V.v i = u := by
         have h := hV.2.2.2.2 i (.inr (by simp))
         simp only [if_true] at h
         exact h
        obtain ⟨F, v, y, hkp, hf, hs, hr, hk⟩ := each γ V p1 hV2 p2
        rw [hrun] at hr
        simp only [RelUpon] at hr
        have hvV : V.vary i = true := by rw [hV.1]; exact hvy
        rcases hr with ⟨_, _, _, _, _, h⟩ | ⟨_, _, _, rfl, _⟩
        ·have h := h hcall; rw [hvV] at h; cases h
        ·have hvu : v = u := (hs.1 hcall).trans hVi
         subst hvu
         refine ⟨F, _, hkp, hs.2.2.1, hk, fun x hx => ?_⟩
         rcases mem_addK.1 hx with hx | hx
         ·cases hx
          show V.fact i v w'
          rw [hV.2.1]
          exact hfu
         ·exact hkp x hx _ _ (hf x hx) hb
     | skip =>
      simp only [RelUpon] at hr0
      obtain ⟨rfl, hC', he, hy, hn⟩ := hr0
      simp only [Oper.upon]
      refine done fv T _ w' hsh hfv' hC' (eff_size he) hn fun γ V hγ hV => ?_
      obtain ⟨p1, p2⟩ := good1 _ γ (eff_size he) hγ
      obtain ⟨F, v, y, hkp, hf, hs, hr, hk⟩ := each γ V p1 hV p2
      rw [hrun] at hr
      simp only [RelUpon] at hr
      obtain ⟨rfl, _, he', hy', _⟩ := hr
      refine ⟨F, y, hkp, hs.2.2.1, hk, fun x hx => ?_⟩
      rcases mem_addK.1 hx with hx | hx
      ·exact hy' x hx
      ·exact stab_none hkp hs.2.2.1 hx w w' (hf x hx) he'
     | enter f args =>
      simp only [RelUpon] at hr0
      obtain ⟨rfl, hcall, hnew, hr0⟩ := hr0
      simp only [Oper.upon]
      rcases hr0 with ⟨hvy, rfl, hcl⟩ | ⟨hvy, rfl, hcl⟩
      ·refine hcl.mono fun e w'' ⟨he, hb⟩ => ?_
       subst he
       simp only []
       refine done fv T _ w'' hsh hfv' (hC _ _ hw hb) hb.size (fun h => by rw [hnew] at h; cases h) fun γ V hγ hV => ?_
       obtain ⟨p1, p2⟩ := good1 _ γ hb.size hγ
       obtain ⟨F, v, y, hkp, hf, hs, hr, hk⟩ := each γ V p1 hV p2
       rw [hrun] at hr
       simp only [RelUpon] at hr
       obtain ⟨_, _, _, hr⟩ := hr
       have hvV : V.vary i = false := by rw [hV.1]; exact hvy
       rcases hr with ⟨_, rfl, _⟩ | ⟨h, _⟩
       ·rw [hs0.1 hcall, ← hV.2.2.2.2 i (.inl hvy)]
        rw [hs.1 hcall] at hk
        exact ⟨F, none, hkp, hs.2.2.1, hk, fun x hx => hkp x hx _ _ (hf x hx) hb⟩
       ·rw [hvV] at h; cases h
      ·refine hcl.mono fun e w'' ⟨u, he, hsu, hfu, hb⟩ => ?_
       subst he
       simp only []
       refine done (fun j => fv j || j == i) ⟨fun j => if j = i then u else T.v j, T.vary, T.sh, T.fact⟩ _ w'' (fun j hj => ?_) (fun j hj => ?_) (hC _ _ hw hb) hb.size (fun h => by rw [hnew] at h; cases h) fun γ V hγ hV => ?_
       ·by_cases e : j = i
        ·subst e; simp only [if_true]; exact hsu
        ·simp only [if_neg e]; exact hsh j hj
       ·simp only [Bool.or_eq_true, beq_iff_eq] at hj
        rcases hj with hj | rfl
        ·exact hfv' j hj
        ·exact hlistedi
       ·obtain ⟨p1, p2⟩ := good1 _ γ hb.size hγ
        have hfvi : fv i = false := by
         cases hh : fv i with
         | false => rfl
         | true => have := hfv i hh; rw [hiun] at this; cases this
        have hV2 : Alike T fv V := ⟨hV.1, hV.2.1, hV.2.2.1, hV.2.2.2.1, fun j hj => by
         have h := hV.2.2.2.2 j (hj.imp id fun h => by simp only [h, Bool.true_or])
         have hji : j ≠ i := fun e => by
          subst e
          rcases hj with hj | hj
          ·rw [hvy] at hj; cases hj
          ·rw [hfvi] at hj; cases hj
         simp only [if_neg hji] at h
         exact h⟩
        have hVi : V.v i = u := by
         have h := hV.2.2.2.2 i (.inr (by simp))
         simp only [if_true] at h
         exact h
        obtain ⟨F, v, y, hkp, hf, hs, hr, hk⟩ := each γ V p1 hV2 p2
        rw [hrun] at hr
        simp only [RelUpon] at hr
        obtain ⟨_, _, _, hr⟩ := hr
        have hvV : V.vary i = true := by rw [hV.1]; exact hvy
        rcases hr with ⟨h, _⟩ | ⟨_, rfl, _⟩
        ·rw [hvV] at h; cases h
        ·have hvu : v = u := (hs.1 hcall).trans hVi
         subst hvu
         refine ⟨F, _, hkp, hs.2.2.1, hk, fun x hx => ?_⟩
         rcases mem_addK.1 hx with hx | hx
         ·cases hx
          show V.fact i v w''
          rw [hV.2.1]
          exact hfu
         ·exact hkp x hx _ _ (hf x hx) hb
     | _ => simp only [RelUpon] at hr0
    | halt x w' => rw [hrun] at hr0; simp only [RelUpon] at hr0
   ·rw [if_neg hwt]
    refine ih _ _ w fx γ0 fv T hw hsh hfv' hfx' h1 h2 fun γ V hγ hV => ?_
    obtain ⟨F, hkp, hF, hk⟩ := H γ V hγ hV
    have h3 := (hF.2 i hi).1 hin
    unfold rOp at h3
    simp only [ho] at h3
    rw [if_neg hwt] at h3
    exact ⟨F, hkp, h3, hk⟩
theorem wp_relT {id : Nat} {a : Act} {w : World} {l : List Oper} (n : Nat) (hm : P.follows .mixedOrders = true) (hs : Region.noSelect l.toArray = true) (hn : decide (n < l.length) = true)
  (hB : headB .any l.toArray n 0 (Array.replicate l.length false) = true) (hT : tailR .any l.toArray n = true)
  (h : exV (l.take n) fun r => ∀ γ : Nat → Nat, (∀ i j, i ≠ j → γ i ≠ γ j) → (∀ i, w.heap.size ≤ γ i) →
   wpRel P .any l.toArray (fun w' => ∃ m, w' = more w m) ⟨fun k => r.getD k undef, fun _ => false, fun _ _ => True, fun _ _ _ => True⟩ γ (fun _ a' w' => wpAny P .any l.toArray Q (l.length - n) (marks n 0 (Array.replicate l.length false)) a' w') 0 (l.take n) [] a) :
  (Code.region id l.toArray true).wp P Q a w := by
 obtain ⟨r, hr⟩ := exV_some h
 have hn' : n < l.length := of_decide_eq_true hn
 have hlen : (l.take n).length = n := by simp; omega
 refine wp_region_any hm ?_
 refine wpAny_of_RT (C := fun w' => ∃ m, w' = more w m) (base := w.heap.size) (n := n) (fun W W' ⟨m, hm⟩ hb => by subst hm; exact more_on hb) (fun W ⟨m, hm⟩ => by subst hm; exact size_more w m) _ _ _ _ (fun _ => false) (fun j => j) (fun _ => false) ⟨fun k => r.getD k undef, fun _ => false, fun _ _ => True, fun _ _ _ => True⟩ ⟨⟨w.drawn + 1, #[]⟩, by simp [more]⟩ (fun i hi => by cases hi) (fun i hi => by cases hi)
  (fun i hi => by cases hi) (fun i j hi => by cases hi) (fun i hi => by cases hi) fun γ V hγ hV => ?_
 have eV : V = ⟨fun k => r.getD k undef, fun _ => false, fun _ _ => True, fun _ _ _ => True⟩ := by
  obtain ⟨v, a, s, b⟩ := V
  obtain ⟨e1, e2, e4, e5, e3⟩ := hV
  simp only at e1 e2 e4
  subst e1 e2 e4
  congr 1
  exact funext fun i => e3 i (.inl rfl)
 subst eV
 refine ⟨[], (fun x hx => by cases hx), ?_, fun x hx => by cases hx⟩
 have := wpAnyRT_lex (C := fun w' => ∃ m, w' = more w m) (V := ⟨fun k => r.getD k undef, fun _ => false, fun _ _ => True, fun _ _ _ => True⟩) (γ := γ) (Q := Q) (md := .any) (n := n) hs (fun j hj hjs i hi => tailR_spec hT j hj hjs i hi) (l.length - n) (by omega) (l.take n) 0 (Array.replicate l.length false) [] a (Closed.none _) (fun x hx => by cases hx) (by rw [hlen]; omega)
  (fun j hj => by rw [hlen] at hj; simp [List.getElem?_take, hj]) (by rw [hlen]; exact hB) (by rw [hlen]; exact hr γ hγ.1 hγ.2.1)
 rw [hlen, show n + (l.length - n) = l.length by omega] at this
 simpa using this
theorem relT_nil {k : Nat} {F : List Known} {a : Act} {E : Act → World → Prop} (h : ∀ w, C w → (∀ x ∈ F, x.fact w) → E a w) : wpRel P md ops C V γ (fun _ a' w' => E a' w') k [] F a := h
end
end Go.Proofs.YtdoolhbmekahdaaGreatDoor
