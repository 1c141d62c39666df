/- The same law of a region's tail, where an operation waits over more than three others. -/
import Derived.Test.YtfapmpnkemogkaaTail
namespace Go.Proofs.Ytfapmpnkemogkaa
open Go.RowKit
set_option linter.unusedVariables false
set_option linter.unusedSimpArgs false

section
variable {P : Program} {ops : Array Oper} {md : Region.Mode} {C : World → Prop} {Q : Exit → Act → World → Prop} {n : Nat}
def tailB9 (md : Region.Mode) (ops : Array Oper) (n : Nat) : Bool :=
  (List.range ops.size).all fun j => decide (j < n) || (List.range n).all fun i => waitsT md ops 9 j i
theorem not_ready_of_waits9 {i j : Nat} {listed : Array Bool} (hc : Closed md ops listed) (hw : waitsT md ops 9 j i = true) (hi : listed.getD i true = false) : j ∉ Region.ready md ops listed := by
  intro hj
  have h1 := listed_of_waitsT hc 9 j hw (.inl hj)
  rcases Nat.lt_or_ge i listed.size with h' | h'
  · simp [h'] at hi h1; rw [hi] at h1; cases h1
  · simp [Array.getElem?_eq_none h'] at h1

theorem wpAnyC_first9 {i : Nat} {oi : Oper} {v : Value} (hin : i < n) (hT : ∀ j, ¬ j < n → j < ops.size → waitsT md ops 9 j i = true) (hi : ops[i]? = some oi) (hsel : ∀ (j : Nat) (o : Oper) cs b, ops[j]? = some o → o.op ≠ .select cs b) :
    ∀ (fuel : Nat) (listed : Array Bool) (a : Act), Closed md ops listed →
      (∀ j oj, ops[j]? = some oj → j ≠ i → listed.getD j true = false → (∀ e ∈ oj.after, Region.binds md e = true → e.on ≠ i) → oi.apart ops oj = true) →
      i ∈ Region.ready md ops listed → YieldsIn P ops C oi v a →
      wpAnyC P md ops C Q n fuel (listed.setIfInBounds i true) (a.put oi.dst v) → wpAnyC P md ops C Q n (fuel + 1) listed a := by
  intro fuel
  induction fuel with
  | zero =>
    intro listed a _ _ hr hy H
    refine ⟨fun h => (by rw [h] at hr; cases hr), fun j hj => ?_⟩
    by_cases hji : j = i
    · subst hji; exact ⟨fun _ => hy.qOp hi H, fun h => absurd hin h⟩
    · have := ready_mono hj hji
      rw [H.1] at this
      cases this
  | succ fuel ih =>
    intro listed a hcl hfree hr hy H
    refine ⟨fun h => (by rw [h] at hr; cases hr), fun j hj => ?_⟩
    have hiun := (mem_ready.1 hr).1
    by_cases hji : j = i
    · subst hji; exact ⟨fun _ => hy.qOp hi H, fun h => absurd hin h⟩
    · obtain ⟨hjun, oj, hoj, hall⟩ := mem_ready.1 hj
      refine ⟨fun hjn => ?_, fun hjn => absurd hj (not_ready_of_waits9 hcl (hT j hjn (Array.getElem?_eq_some_iff.1 hoj).1) hiun)⟩
      have h1 := (H.2 j (ready_mono hj hji)).1 hjn
      have hnot : ∀ e ∈ oj.after, Region.binds md e = true → e.on ≠ i := fun e he hb heq => by
        have h1 := hall e he hb
        rw [heq] at h1
        rcases Nat.lt_or_ge i listed.size with h' | h'
        · simp [h'] at hiun h1; rw [hiun] at h1; cases h1
        · simp [Array.getElem?_eq_none h'] at h1
      have h2 := qOp_put hoj (hfree j oj hoj hji hjun hnot) (fun cs b => hsel i oi cs b hi) (fun cs b => hsel j oj cs b hoj) hy h1
      have hfree' : ∀ k ok, ops[k]? = some ok → k ≠ i → (listed.setIfInBounds j true).getD k true = false →
          (∀ e ∈ ok.after, Region.binds md e = true → e.on ≠ i) → oi.apart ops ok = true := fun k ok hk hki hun hno => by
        refine hfree k ok hk hki ?_ hno
        by_cases hjk : j = k
        · subst hjk; exact hjun
        · rw [getD_set_ne true hjk] at hun; exact hun
      refine qOp_mono (fun a' h3 => ih (listed.setIfInBounds j true) a' (hcl.set hj) hfree' (ready_mono hr (Ne.symm hji)) h3.1 ?_) h2
      rw [Array.setIfInBounds_comm _ _ hji]
      exact h3.2

theorem wpAnyC_lex9 (hs : Region.noSelect ops = true) (hT : tailB9 md ops n = true) (hC : ∃ w, C w) (t : Nat) : ∀ (l : List Oper) (k : Nat) (listed : Array Bool) (a : Act), Closed md ops listed → k + l.length = n → (∀ j, j < l.length → l[j]? = ops[k + j]?) →
    headB md ops l.length k listed = true → wpQuiet P ops C (fun a' => ∀ w', C w' → wpAny P md ops Q t (marks l.length k listed) a' w') l a → wpAnyC P md ops C Q n (l.length + t) listed a
  | [], k, listed, a, _, hk, _, hB, h => by
    have h' : ∀ w', C w' → wpAny P md ops Q t listed a w' := h
    have hk' : k = n := by simpa using hk
    subst hk'
    have hge : ∀ i ∈ Region.ready md ops listed, ¬ i < k := fun i hi hlt => by
      have := (mem_ready.1 hi).1
      rw [headB_nil hB i hlt] at this
      cases this
    obtain ⟨w0, hw0⟩ := hC
    cases t with
    | zero => exact ⟨(h' w0 hw0).1, fun w hw => (h' w hw).2⟩
    | succ t =>
      show wpAnyC P md ops C Q k (0 + (t + 1)) listed a
      rw [Nat.zero_add]
      exact ⟨fun h0 w hw => (h' w hw).1 h0, fun i hi => ⟨fun hlt => absurd hlt (hge i hi), fun _ w hw => (h' w hw).2 i hi⟩⟩
  | o :: l, k, listed, a, hcl, hk, hl, hB, h => by
    have h0 : ops[k]? = some o := by simpa using (hl 0 (by simp)).symm
    simp only [List.length_cons, headB, Bool.and_eq_true] at hB
    obtain ⟨⟨hr, hf⟩, hB'⟩ := hB
    have hkn : k < n := by simp at hk; omega
    have hst : qOp P ops C k (wpQuiet P ops C (fun a' => ∀ w', C w' → wpAny P md ops Q t (marks (o :: l).length k listed) a' w') l) a := by unfold qOp; simp only [h0]; exact h
    obtain ⟨v, hy, hK⟩ := yieldsIn_of_qOp h0 hst
    have hT' : ∀ j, ¬ j < n → j < ops.size → waitsT md ops 9 j k = true := fun j hj hjs => by
      have h1 := List.all_eq_true.1 hT j (List.mem_range.2 hjs)
      simp only [hj, decide_false, Bool.false_or] at h1
      exact List.all_eq_true.1 h1 k (List.mem_range.2 hkn)
    show wpAnyC P md ops C Q n (l.length + 1 + t) listed a
    rw [show l.length + 1 + t = (l.length + t) + 1 by omega]
    exact wpAnyC_first9 hkn hT' h0 (Region.noSelect_spec hs) (l.length + t) listed a hcl (Region.free_spec h0 hf) (by simpa using hr) hy
      (wpAnyC_lex9 hs hT hC t l (k + 1) _ _ (hcl.set (by simpa using hr)) (by simp at hk; omega) (fun j hj => by have := hl (j + 1) (by simp; omega); simpa [Nat.add_assoc, Nat.add_comm 1 j] using this) hB' hK)

theorem wp_region_tail9 {id : Nat} {l : List Oper} {a : Act} {w : World} (n : Nat) (C : World → Prop) (hm : P.follows .mixedOrders = true) (hs : Region.noSelect l.toArray = true) (hn : (decide (n ≤ l.length)) = true)
    (hB : headB .any l.toArray n 0 (Array.replicate l.length false) = true) (hT : tailB9 .any l.toArray n = true) (hC : C { w with drawn := w.drawn + 1 })
    (h : wpQuiet P l.toArray C (fun a' => ∀ w', C w' → wpAny P .any l.toArray Q (l.length - n) (marks n 0 (Array.replicate l.length false)) a' w') (l.take n) a) : (Code.region id l.toArray true).wp P Q a w := by
  have hn' : n ≤ l.length := of_decide_eq_true hn
  have hlen : (l.take n).length = n := by simp [hn']
  refine wp_region_any hm ?_
  have := wpAny_of_C (n := n) _ _ _ _ hC (wpAnyC_lex9 (md := .any) (Q := Q) hs hT ⟨_, hC⟩ (l.length - n) (l.take n) 0 (Array.replicate l.length false) a (Closed.none _) (by simp [hn']) (fun j hj => by
    rw [hlen] at hj
    simp [List.getElem?_take, hj]) (by rw [hlen]; exact hB) (by rw [hlen]; exact h))
  rw [hlen, show n + (l.length - n) = l.length by omega] at this
  simpa using this
theorem wp_region_tail_more9 {id : Nat} {l : List Oper} {a : Act} {w : World} (n : Nat) (hm : P.follows .mixedOrders = true) (hs : Region.noSelect l.toArray = true) (hn : (decide (n ≤ l.length)) = true)
    (hB : headB .any l.toArray n 0 (Array.replicate l.length false) = true) (hT : tailB9 .any l.toArray n = true)
    (h : wpQuiet P l.toArray (fun w' => ∃ m, w' = more w m) (fun a' => ∀ w', (∃ m, w' = more w m) → wpAny P .any l.toArray Q (l.length - n) (marks n 0 (Array.replicate l.length false)) a' w') (l.take n) a) : (Code.region id l.toArray true).wp P Q a w :=
  wp_region_tail9 n (fun w' => ∃ m, w' = more w m) hm hs hn hB hT ⟨⟨w.drawn + 1, #[]⟩, by simp [more]⟩ h
theorem wp_region_tail_on9 {id : Nat} {l : List Oper} {a : Act} {w : World} {m0 : More} (n : Nat) (hm : P.follows .mixedOrders = true) (hs : Region.noSelect l.toArray = true) (hn : (decide (n ≤ l.length)) = true)
    (hB : headB .any l.toArray n 0 (Array.replicate l.length false) = true) (hT : tailB9 .any l.toArray n = true)
    (h : wpQuiet P l.toArray (fun w' => ∃ m, w' = more w m) (fun a' => ∀ w', (∃ m, w' = more w m) → wpAny P .any l.toArray Q (l.length - n) (marks n 0 (Array.replicate l.length false)) a' w') (l.take n) a) : (Code.region id l.toArray true).wp P Q a (more w m0) :=
  wp_region_tail9 n (fun w' => ∃ m, w' = more w m) hm hs hn hB hT ⟨⟨m0.d + 1, m0.os⟩, rfl⟩ h
end
end Go.Proofs.Ytfapmpnkemogkaa
