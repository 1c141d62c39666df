/- A region that draws its order: first operations that leave all that was there (in whatever order they come up), then a few that wait for all of these. -/
import Derived.Deep.Quiet
import Derived.Deep.QuietTactic
import Derived.BigQuiet
import Derived.WalkKit
import Derived.Test.YtfapmpnkemogkaaBase
namespace Go.Proofs.Ytfapmpnkemogkaa
set_option linter.unusedVariables false
set_option linter.unusedSimpArgs false

section
variable {P : Program} {ops : Array Oper} {md : Region.Mode} {C : World → Prop} {Q : Exit → Act → World → Prop} {n : Nat}

/-- Does operation j wait for operation i? -/
def waits (md : Region.Mode) (ops : Array Oper) (j i : Nat) : Bool :=
  match ops[j]? with
  | some oj => oj.after.any fun e => Region.binds md e && e.on == i
  | none => false
/-- .. by itself, or for one that does. -/
def waitsT (md : Region.Mode) (ops : Array Oper) : Nat → Nat → Nat → Bool
  | 0, j, i => waits md ops j i
  | m + 1, j, i => waits md ops j i || (List.range ops.size).any fun k => waits md ops j k && waitsT md ops m k i
/-- Each behind the first n waits for all of these. -/
def tailB (md : Region.Mode) (ops : Array Oper) (n : Nat) : Bool :=
  (List.range ops.size).all fun j => decide (j < n) || (List.range n).all fun i => waitsT md ops 3 j i
/-- What an operation that has come up waited for has come up. -/
def Closed (md : Region.Mode) (ops : Array Oper) (listed : Array Bool) : Prop :=
  ∀ j oj, ops[j]? = some oj → listed.getD j false = true → ∀ e ∈ oj.after, Region.binds md e = true → listed.getD e.on false = true
/-- The first ones may be taken in the text's order. -/
def headB (md : Region.Mode) (ops : Array Oper) : Nat → Nat → Array Bool → Bool
  | 0, k, listed => (List.range k).all fun i => listed.getD i true
  | m + 1, k, listed => (Region.ready md ops listed).contains k && Region.free md ops listed k && headB md ops m (k + 1) (listed.setIfInBounds k true)
/-- The list when they have come up. -/
def marks : Nat → Nat → Array Bool → Array Bool
  | 0, _, listed => listed
  | m + 1, k, listed => marks m (k + 1) (listed.setIfInBounds k true)

theorem waits_spec {j i : Nat} (h : waits md ops j i = true) : ∃ oj, ops[j]? = some oj ∧ ∃ e ∈ oj.after, Region.binds md e = true ∧ e.on = i := by
  unfold waits at h
  split at h
  · rename_i oj hj
    obtain ⟨e, he, hb⟩ := Array.any_eq_true'.1 h
    simp only [Bool.and_eq_true, beq_iff_eq] at hb
    exact ⟨oj, hj, e, he, hb.1, hb.2⟩
  · cases h

/-- Whatever order is picked: what is of the first n is the same in every world of the class; what is behind them is run from every one. -/
def wpAnyC (P : Program) (md : Region.Mode) (ops : Array Oper) (C : World → Prop) (Q : Exit → Act → World → Prop) (n : Nat) : Nat → Array Bool → Act → Prop
  | 0, listed, a => Region.ready md ops listed = [] ∧ ∀ w, C w → Q .normal a w
  | fuel + 1, listed, a => (Region.ready md ops listed = [] → ∀ w, C w → Q .normal a w) ∧
    ∀ i ∈ Region.ready md ops listed, (i < n → qOp P ops C i (wpAnyC P md ops C Q n fuel (listed.setIfInBounds i true)) a) ∧
      (¬ i < n → ∀ w, C w → wpOp P ops Q i (wpAny P md ops Q fuel (listed.setIfInBounds i true)) a w)

theorem wpAny_of_C : ∀ (fuel : Nat) (listed : Array Bool) (a : Act) (w : World), C w → wpAnyC P md ops C Q n fuel listed a → wpAny P md ops Q fuel listed a w
  | 0, _, _, _, hw, h => ⟨h.1, h.2 _ hw⟩
  | fuel + 1, _, _, _, hw, h => ⟨fun h0 => h.1 h0 _ hw, fun i hi => by
      by_cases hin : i < n
      · exact wpOp_of_qOp hw (fun a' w' hw' => wpAny_of_C fuel _ a' w' hw') ((h.2 i hi).1 hin)
      · exact (h.2 i hi).2 hin _ hw⟩

theorem Closed.set {i : Nat} {listed : Array Bool} (h : Closed md ops listed) (hi : i ∈ Region.ready md ops listed) : Closed md ops (listed.setIfInBounds i true) := by
  intro j oj hj hl e he hb
  by_cases hij : i = j
  · subst hij
    obtain ⟨_, oi, hoi, hall⟩ := mem_ready.1 hi
    have : oj = oi := Option.some.inj (hj.symm.trans hoi)
    subst this
    exact getD_set_true (hall e he hb)
  · rw [getD_set_ne false hij] at hl
    exact getD_set_true (h j oj hj hl e he hb)
theorem Closed.none (m : Nat) : Closed md ops (Array.replicate m false) := by
  intro j oj _ hl
  exfalso
  rcases Nat.lt_or_ge j m with h | h
  · simp [h] at hl
  · simp [h] at hl
theorem listed_of_waits {i j : Nat} {listed : Array Bool} (hc : Closed md ops listed) (hw : waits md ops j i = true) (hj : j ∈ Region.ready md ops listed ∨ listed.getD j false = true) : listed.getD i false = true := by
  obtain ⟨oj', hoj', e, he, hb, hon⟩ := waits_spec hw
  rcases hj with hj | hj
  · obtain ⟨_, oj, hoj, hall⟩ := mem_ready.1 hj
    have : oj' = oj := Option.some.inj (hoj'.symm.trans hoj)
    subst this
    rw [← hon]; exact hall e he hb
  · rw [← hon]; exact hc j oj' hoj' hj e he hb
theorem listed_of_waitsT {i : Nat} {listed : Array Bool} (hc : Closed md ops listed) : ∀ (m j : Nat), waitsT md ops m j i = true → (j ∈ Region.ready md ops listed ∨ listed.getD j false = true) → listed.getD i false = true
  | 0, _, hw, hj => listed_of_waits hc hw hj
  | m + 1, j, hw, hj => by
    simp only [waitsT, Bool.or_eq_true, List.any_eq_true, Bool.and_eq_true] at hw
    rcases hw with hw | ⟨k, _, h1, h2⟩
    · exact listed_of_waits hc hw hj
    · exact listed_of_waitsT hc m k h2 (.inr (listed_of_waits hc h1 hj))
theorem not_ready_of_waits {i j : Nat} {listed : Array Bool} (hc : Closed md ops listed) (hw : waitsT md ops 3 j i = true) (hi : listed.getD i true = false) : j ∉ Region.ready md ops listed := by
  intro hj
  have h1 := listed_of_waitsT hc 3 j hw (.inl hj)
  rcases Nat.lt_or_ge i listed.size with h' | h'
  · simp [h'] at hi h1; rw [hi] at h1; cases h1
  · simp [Array.getElem?_eq_none h'] at h1

theorem wpAnyC_first {i : Nat} {oi : Oper} {v : Value} (hin : i < n) (hT : ∀ j, ¬ j < n → j < ops.size → waitsT md ops 3 j i = true) (hi : ops[i]? = some oi) (hsel : ∀ (j : Nat) (o : Oper) cs b, ops[j]? = some o → o.op ≠ .select cs b) :
    ∀ (fuel : Nat) (listed : Array Bool) (a : Act), Closed md ops listed →
      (∀ j oj, ops[j]? = some oj → j ≠ i → listed.getD j true = false → (∀ e ∈ oj.after, Region.binds md e = true → e.on ≠ i) → oi.apart ops oj = true) →
      i ∈ Region.ready md ops listed → YieldsIn P ops C oi v a →
      wpAnyC P md ops C Q n fuel (listed.setIfInBounds i true) (a.put oi.dst v) → wpAnyC P md ops C Q n (fuel + 1) listed a := by
  intro fuel
  induction fuel with
  | zero =>
    intro listed a _ _ hr hy H
    refine ⟨fun h => (by rw [h] at hr; cases hr), fun j hj => ?_⟩
    by_cases hji : j = i
    · subst hji; exact ⟨fun _ => hy.qOp hi H, fun h => absurd hin h⟩
    · have := ready_mono hj hji
      rw [H.1] at this
      cases this
  | succ fuel ih =>
    intro listed a hcl hfree hr hy H
    refine ⟨fun h => (by rw [h] at hr; cases hr), fun j hj => ?_⟩
    have hiun := (mem_ready.1 hr).1
    by_cases hji : j = i
    · subst hji; exact ⟨fun _ => hy.qOp hi H, fun h => absurd hin h⟩
    · obtain ⟨hjun, oj, hoj, hall⟩ := mem_ready.1 hj
      refine ⟨fun hjn => ?_, fun hjn => absurd hj (not_ready_of_waits hcl (hT j hjn (Array.getElem?_eq_some_iff.1 hoj).1) hiun)⟩
      have h1 := (H.2 j (ready_mono hj hji)).1 hjn
      have hnot : ∀ e ∈ oj.after, Region.binds md e = true → e.on ≠ i := fun e he hb heq => by
        have h1 := hall e he hb
        rw [heq] at h1
        rcases Nat.lt_or_ge i listed.size with h' | h'
        · simp [h'] at hiun h1; rw [hiun] at h1; cases h1
        · simp [Array.getElem?_eq_none h'] at h1
      have h2 := qOp_put hoj (hfree j oj hoj hji hjun hnot) (fun cs b => hsel i oi cs b hi) (fun cs b => hsel j oj cs b hoj) hy h1
      have hfree' : ∀ k ok, ops[k]? = some ok → k ≠ i → (listed.setIfInBounds j true).getD k true = false →
          (∀ e ∈ ok.after, Region.binds md e = true → e.on ≠ i) → oi.apart ops ok = true := fun k ok hk hki hun hno => by
        refine hfree k ok hk hki ?_ hno
        by_cases hjk : j = k
        · subst hjk; exact hjun
        · rw [getD_set_ne true hjk] at hun; exact hun
      refine qOp_mono (fun a' h3 => ih (listed.setIfInBounds j true) a' (hcl.set hj) hfree' (ready_mono hr (Ne.symm hji)) h3.1 ?_) h2
      rw [Array.setIfInBounds_comm _ _ hji]
      exact h3.2

theorem headB_nil {k : Nat} {listed : Array Bool} (h : headB md ops 0 k listed = true) (i : Nat) (hi : i < k) : listed.getD i true = true :=
  List.all_eq_true.1 h i (List.mem_range.2 hi)

theorem wpAnyC_lex (hs : Region.noSelect ops = true) (hT : tailB md ops n = true) (hC : ∃ w, C w) (t : Nat) : ∀ (l : List Oper) (k : Nat) (listed : Array Bool) (a : Act), Closed md ops listed → k + l.length = n → (∀ j, j < l.length → l[j]? = ops[k + j]?) →
    headB md ops l.length k listed = true → wpQuiet P ops C (fun a' => ∀ w', C w' → wpAny P md ops Q t (marks l.length k listed) a' w') l a → wpAnyC P md ops C Q n (l.length + t) listed a
  | [], k, listed, a, _, hk, _, hB, h => by
    have h' : ∀ w', C w' → wpAny P md ops Q t listed a w' := h
    have hk' : k = n := by simpa using hk
    subst hk'
    have hge : ∀ i ∈ Region.ready md ops listed, ¬ i < k := fun i hi hlt => by
      have := (mem_ready.1 hi).1
      rw [headB_nil hB i hlt] at this
      cases this
    obtain ⟨w0, hw0⟩ := hC
    cases t with
    | zero => exact ⟨(h' w0 hw0).1, fun w hw => (h' w hw).2⟩
    | succ t =>
      show wpAnyC P md ops C Q k (0 + (t + 1)) listed a
      rw [Nat.zero_add]
      exact ⟨fun h0 w hw => (h' w hw).1 h0, fun i hi => ⟨fun hlt => absurd hlt (hge i hi), fun _ w hw => (h' w hw).2 i hi⟩⟩
  | o :: l, k, listed, a, hcl, hk, hl, hB, h => by
    have h0 : ops[k]? = some o := by simpa using (hl 0 (by simp)).symm
    simp only [List.length_cons, headB, Bool.and_eq_true] at hB
    obtain ⟨⟨hr, hf⟩, hB'⟩ := hB
    have hkn : k < n := by simp at hk; omega
    have hst : qOp P ops C k (wpQuiet P ops C (fun a' => ∀ w', C w' → wpAny P md ops Q t (marks (o :: l).length k listed) a' w') l) a := by unfold qOp; simp only [h0]; exact h
    obtain ⟨v, hy, hK⟩ := yieldsIn_of_qOp h0 hst
    have hT' : ∀ j, ¬ j < n → j < ops.size → waitsT md ops 3 j k = true := fun j hj hjs => by
      have h1 := List.all_eq_true.1 hT j (List.mem_range.2 hjs)
      simp only [hj, decide_false, Bool.false_or] at h1
      exact List.all_eq_true.1 h1 k (List.mem_range.2 hkn)
    show wpAnyC P md ops C Q n (l.length + 1 + t) listed a
    rw [show l.length + 1 + t = (l.length + t) + 1 by omega]
    exact wpAnyC_first hkn hT' h0 (Region.noSelect_spec hs) (l.length + t) listed a hcl (Region.free_spec h0 hf) (by simpa using hr) hy
      (wpAnyC_lex hs hT hC t l (k + 1) _ _ (hcl.set (by simpa using hr)) (by simp at hk; omega) (fun j hj => by have := hl (j + 1) (by simp; omega); simpa [Nat.add_assoc, Nat.add_comm 1 j] using this) hB' hK)

theorem at_of_drop {l rest : List Oper} {i : Nat} {o : Oper} (h : l.drop i = o :: rest) : l.toArray[i]? = some o := by
  have : (l.drop i)[0]? = some o := by rw [h]; rfl
  simpa using this
/-- One operation, in whatever order: the only one that may come up. -/
theorem tail_one {l rest : List Oper} {i fuel : Nat} {o : Oper} {listed : Array Bool} {a : Act} {w : World} (hr : Region.ready md l.toArray listed = [i]) (ho : l.drop i = o :: rest)
    (h : ∀ K : Act → World → Prop, (∀ a w, wpAny P md l.toArray Q fuel (listed.setIfInBounds i true) a w → K a w) → if Region.wanted o (yielded l.toArray a.tmps) = true then o.wp P a w K Q else K (a.put o.dst undef) w) : wpAny P md l.toArray Q (fuel + 1) listed a w := by
  refine wpAny_all hr (by simp) fun j hj => ?_
  obtain rfl : j = i := by simpa using hj
  have h' := h _ (fun _ _ h => h)
  unfold wpOp
  simp only [at_of_drop ho]
  by_cases hw : Region.wanted o (yielded l.toArray a.tmps) = true
  · rw [if_pos hw] at h' ⊢; exact .inl h'
  · rw [if_neg hw] at h' ⊢; exact h'
/-- Two that may come up, either first. -/
theorem tail_two {l rest rest' : List Oper} {i j fuel : Nat} {o o' : Oper} {listed : Array Bool} {a : Act} {w : World} (hr : Region.ready md l.toArray listed = [i, j]) (ho : l.drop i = o :: rest) (ho' : l.drop j = o' :: rest')
    (h : ∀ K : Act → World → Prop, (∀ a w, wpAny P md l.toArray Q fuel (listed.setIfInBounds i true) a w → K a w) → if Region.wanted o (yielded l.toArray a.tmps) = true then o.wp P a w K Q else K (a.put o.dst undef) w)
    (h' : ∀ K : Act → World → Prop, (∀ a w, wpAny P md l.toArray Q fuel (listed.setIfInBounds j true) a w → K a w) → if Region.wanted o' (yielded l.toArray a.tmps) = true then o'.wp P a w K Q else K (a.put o'.dst undef) w) : wpAny P md l.toArray Q (fuel + 1) listed a w := by
  refine wpAny_all hr (by simp) fun k hk => ?_
  rcases (by simpa using hk : k = i ∨ k = j) with rfl | rfl
  · have h' := h _ (fun _ _ h => h)
    unfold wpOp
    simp only [at_of_drop ho]
    by_cases hw : Region.wanted o (yielded l.toArray a.tmps) = true
    · rw [if_pos hw] at h' ⊢; exact .inl h'
    · rw [if_neg hw] at h' ⊢; exact h'
  · have h' := h' _ (fun _ _ h => h)
    unfold wpOp
    simp only [at_of_drop ho']
    by_cases hw : Region.wanted o' (yielded l.toArray a.tmps) = true
    · rw [if_pos hw] at h' ⊢; exact .inl h'
    · rw [if_neg hw] at h' ⊢; exact h'

/-- The region, its first n operations in the text's order, what is behind them from every world of the class. -/
theorem wp_region_tail {id : Nat} {l : List Oper} {a : Act} {w : World} (n : Nat) (C : World → Prop) (hm : P.follows .mixedOrders = true) (hs : Region.noSelect l.toArray = true) (hn : (decide (n ≤ l.length)) = true)
    (hB : headB .any l.toArray n 0 (Array.replicate l.length false) = true) (hT : tailB .any l.toArray n = true) (hC : C { w with drawn := w.drawn + 1 })
    (h : wpQuiet P l.toArray C (fun a' => ∀ w', C w' → wpAny P .any l.toArray Q (l.length - n) (marks n 0 (Array.replicate l.length false)) a' w') (l.take n) a) : (Code.region id l.toArray true).wp P Q a w := by
  have hn' : n ≤ l.length := of_decide_eq_true hn
  have hlen : (l.take n).length = n := by simp [hn']
  refine wp_region_any hm ?_
  have := wpAny_of_C (n := n) _ _ _ _ hC (wpAnyC_lex (md := .any) (Q := Q) hs hT ⟨_, hC⟩ (l.length - n) (l.take n) 0 (Array.replicate l.length false) a (Closed.none _) (by simp [hn']) (fun j hj => by
    rw [hlen] at hj
    simp [List.getElem?_take, hj]) (by rw [hlen]; exact hB) (by rw [hlen]; exact h))
  rw [hlen, show n + (l.length - n) = l.length by omega] at this
  simpa using this
/-- .. the class: what there was, and more. -/
theorem wp_region_tail_more {id : Nat} {l : List Oper} {a : Act} {w : World} (n : Nat) (hm : P.follows .mixedOrders = true) (hs : Region.noSelect l.toArray = true) (hn : (decide (n ≤ l.length)) = true)
    (hB : headB .any l.toArray n 0 (Array.replicate l.length false) = true) (hT : tailB .any l.toArray n = true)
    (h : wpQuiet P l.toArray (fun w' => ∃ m, w' = more w m) (fun a' => ∀ w', (∃ m, w' = more w m) → wpAny P .any l.toArray Q (l.length - n) (marks n 0 (Array.replicate l.length false)) a' w') (l.take n) a) : (Code.region id l.toArray true).wp P Q a w :=
  wp_region_tail n (fun w' => ∃ m, w' = more w m) hm hs hn hB hT ⟨⟨w.drawn + 1, #[]⟩, by simp [more]⟩ h
theorem wp_region_tail_on {id : Nat} {l : List Oper} {a : Act} {w : World} {m0 : More} (n : Nat) (hm : P.follows .mixedOrders = true) (hs : Region.noSelect l.toArray = true) (hn : (decide (n ≤ l.length)) = true)
    (hB : headB .any l.toArray n 0 (Array.replicate l.length false) = true) (hT : tailB .any l.toArray n = true)
    (h : wpQuiet P l.toArray (fun w' => ∃ m, w' = more w m) (fun a' => ∀ w', (∃ m, w' = more w m) → wpAny P .any l.toArray Q (l.length - n) (marks n 0 (Array.replicate l.length false)) a' w') (l.take n) a) : (Code.region id l.toArray true).wp P Q a (more w m0) :=
  wp_region_tail n (fun w' => ∃ m, w' = more w m) hm hs hn hB hT ⟨⟨m0.d + 1, m0.os⟩, rfl⟩ h
end
end Go.Proofs.Ytfapmpnkemogkaa
