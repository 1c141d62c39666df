/- A region that draws its order: the first n operations by one walk of the text's order, what is behind them (each waits for all of these) from every world that this leads to. -/
import Derived.Test.YtdihaffopfbnnaaDoorRel
namespace Go.Proofs.YtdihaffopfbnnaaDoor
open Go.RowKit
set_option linter.unusedVariables false
set_option linter.unusedSimpArgs false

section
variable {P : Program} {md : Region.Mode} {ops : Array Oper} {C : World → Prop} {V : Nat → Value} {γ : Nat → Nat} {Q : Exit → Act → World → Prop} {base n : Nat}

/-- what an operation waits for, by itself -/
def directs (md : Region.Mode) (ops : Array Oper) (k : Nat) : List Nat := match ops[k]? with
  | some o => (o.after.toList.filter fun e => Region.binds md e).map (·.on)
  | none => []
inductive WaitsP (md : Region.Mode) (ops : Array Oper) (j : Nat) : Nat → Prop
  | self : WaitsP md ops j j
  | step {k i : Nat} : WaitsP md ops j k → waits md ops k i = true → WaitsP md ops j i
def reachGo (md : Region.Mode) (ops : Array Oper) : Nat → List Nat → List Nat
  | 0, S => S
  | k + 1, S => reachGo md ops k (if S.contains k then directs md ops k ++ S else S)
def tailR (md : Region.Mode) (ops : Array Oper) (n : Nat) : Bool :=
  (List.range ops.size).all fun j => decide (j < n) || (List.range n).all fun i => (reachGo md ops (j + 1) [j]).contains i
theorem waits_of_directs {k i : Nat} (h : i ∈ directs md ops k) : waits md ops k i = true := by
  unfold directs at h
  unfold waits
  split at h
  · rename_i o ho
    simp only [ho]
    obtain ⟨e, he, rfl⟩ := List.mem_map.1 h
    rw [List.mem_filter] at he
    rw [Array.any_eq_true']
    exact ⟨e, by simpa using he.1, by simp [he.2]⟩
  · cases h
theorem reach_sound {j : Nat} : ∀ (k : Nat) (S : List Nat), (∀ x ∈ S, WaitsP md ops j x) → ∀ x ∈ reachGo md ops k S, WaitsP md ops j x
  | 0, S, h => h
  | k + 1, S, h => by
    unfold reachGo
    refine reach_sound k _ ?_
    split
    · rename_i hk
      intro x hx
      rcases List.mem_append.1 hx with hx | hx
      · exact .step (h k (by simpa using hk)) (waits_of_directs hx)
      · exact h x hx
    · exact h
theorem tailR_spec (h : tailR md ops n = true) (j : Nat) (hj : ¬ j < n) (hjs : j < ops.size) (i : Nat) (hi : i < n) : WaitsP md ops j i := by
  have h1 := List.all_eq_true.1 h j (List.mem_range.2 hjs)
  simp only [hj, decide_false, Bool.false_or] at h1
  have h2 := List.all_eq_true.1 h1 i (List.mem_range.2 hi)
  exact reach_sound (j + 1) [j] (fun x hx => by obtain rfl : x = j := by simpa using hx
                                                exact .self) i (by simpa using h2)
theorem listed_of_WaitsP {i j : Nat} {listed : Array Bool} (hc : Closed md ops listed) (h : WaitsP md ops j i) (hj : j ∈ Region.ready md ops listed ∨ listed.getD j false = true) : i = j ∨ listed.getD i false = true := by
  induction h with
  | self => exact .inl rfl
  | step _ hw ih =>
    rcases ih with rfl | ih
    · exact .inr (listed_of_waits hc hw hj)
    · exact .inr (listed_of_waits hc hw (.inr ih))
theorem not_ready_T {i j : Nat} {listed : Array Bool} (hc : Closed md ops listed) (hw : WaitsP md ops j i) (hij : i ≠ j) (hi : listed.getD i true = false) : j ∉ Region.ready md ops listed := by
  intro hj
  rcases listed_of_WaitsP hc hw (.inl hj) with h1 | h1
  · exact hij h1
  rcases Nat.lt_or_ge i listed.size with h' | h'
  · simp [h'] at hi h1; rw [hi] at h1; cases h1
  · simp [Array.getElem?_eq_none h'] at h1

def wpAnyRT (P : Program) (md : Region.Mode) (ops : Array Oper) (C : World → Prop) (V : Nat → Value) (γ : Nat → Nat) (Q : Exit → Act → World → Prop) (n : Nat) : Nat → Array Bool → List Known → Act → Prop
  | 0, listed, F, a => Region.ready md ops listed = [] ∧ ∀ w, C w → (∀ x ∈ F, x.fact w) → Q .normal a w
  | fuel + 1, listed, F, a => (Region.ready md ops listed = [] → ∀ w, C w → (∀ x ∈ F, x.fact w) → Q .normal a w) ∧
    ∀ i ∈ Region.ready md ops listed, (i < n → rOp P md ops C V γ i F (fun F' a' => wpAnyRT P md ops C V γ Q n fuel (listed.setIfInBounds i true) F' a') a) ∧
      (¬ i < n → ∀ w, C w → (∀ x ∈ F, x.fact w) → wpOp P ops Q i (wpAny P md ops Q fuel (listed.setIfInBounds i true)) a w)

theorem wpAnyRT_congr : ∀ (fuel : Nat) (listed : Array Bool) (F F' : List Known) (a : Act), (∀ x, x ∈ F ↔ x ∈ F') → wpAnyRT P md ops C V γ Q n fuel listed F a → wpAnyRT P md ops C V γ Q n fuel listed F' a
  | 0, listed, F, F', a, h, H => ⟨H.1, fun w hw hF => H.2 w hw fun x hx => hF x ((h x).1 hx)⟩
  | fuel + 1, listed, F, F', a, h, H => ⟨fun h0 w hw hF => H.1 h0 w hw fun x hx => hF x ((h x).1 hx), fun i hi => ⟨fun hin => by
    have h1 := (H.2 i hi).1 hin
    unfold rOp at h1 ⊢
    split
    · rename_i ho; simp only [ho] at h1; exact wpAnyRT_congr fuel _ F F' a h h1
    · rename_i o ho
      simp only [ho] at h1
      split
      · rename_i hw
        rw [if_pos hw] at h1
        obtain ⟨v, y, hs, hk⟩ := h1
        exact ⟨v, y, spec_congr h hs, wpAnyRT_congr fuel _ _ _ _ (fun x => by rw [mem_addK, mem_addK, h x]) hk⟩
      · rename_i hw
        rw [if_neg hw] at h1
        exact wpAnyRT_congr fuel _ F F' _ h h1, fun hin w hw hF => (H.2 i hi).2 hin w hw fun x hx => hF x ((h x).1 hx)⟩⟩

/-- **An operation that may come up now may be taken first.** -/
theorem wpAnyRT_first (hTT : ∀ j, ¬ j < n → j < ops.size → ∀ i, i < n → WaitsP md ops j i) {i : Nat} (hin : i < n) {oi : Oper} {v : Value} {y : Option Known} (hi : ops[i]? = some oi) (hsel : ∀ (j : Nat) (o : Oper) cs b, ops[j]? = some o → o.op ≠ .select cs b) :
    ∀ (fuel : Nat) (listed : Array Bool) (F : List Known) (a : Act), Closed md ops listed → Keeps F →
      (∀ j oj, ops[j]? = some oj → j ≠ i → listed.getD j true = false → (∀ e ∈ oj.after, Region.binds md e = true → e.on ≠ i) → oi.apart ops oj = true) →
      i ∈ Region.ready md ops listed → Yields P md ops C V γ i oi a F v y →
      wpAnyRT P md ops C V γ Q n fuel (listed.setIfInBounds i true) (addK y F) (a.put oi.dst v) → wpAnyRT P md ops C V γ Q n (fuel + 1) listed F a := by
  intro fuel
  induction fuel with
  | zero =>
    intro listed F a _ _ _ hr hy H
    refine ⟨fun h => (by rw [h] at hr; cases hr), fun j hj => ?_⟩
    by_cases hji : j = i
    · subst hji; exact ⟨fun _ => rOp_of_yields hi hy H, fun h => absurd hin h⟩
    · have := ready_mono hj hji
      rw [H.1] at this
      cases this
  | succ fuel ih =>
    intro listed F a hcl hkp hfree hr hy H
    refine ⟨fun h => (by rw [h] at hr; cases hr), fun j hj => ?_⟩
    have hiun := (mem_ready.1 hr).1
    by_cases hji : j = i
    · subst hji; exact ⟨fun _ => rOp_of_yields hi hy H, fun h => absurd hin h⟩
    · obtain ⟨hjun, oj, hoj, hall⟩ := mem_ready.1 hj
      refine ⟨fun hjn => ?_, fun hjn => absurd hj (not_ready_T hcl (hTT j hjn (Array.getElem?_eq_some_iff.1 hoj).1 i hin) (Ne.symm hji) hiun)⟩
      have nodep : ∀ k l : Nat, l ∈ Region.ready md ops listed → listed.getD k true = false → waitsT md ops 3 l k = false := fun k l hl hk => by
        cases hh : waitsT md ops 3 l k with
        | false => rfl
        | true =>
          have h1 := listed_of_waitsT hcl 3 l hh (.inl hl)
          exfalso
          rcases Nat.lt_or_ge k listed.size with h' | h'
          · simp [h'] at hk h1; rw [hk] at h1; cases h1
          · simp [Array.getElem?_eq_none h'] at h1
      have hji' := nodep i j hj hiun
      have hij' := nodep j i hr hjun
      have hnot : ∀ e ∈ oj.after, Region.binds md e = true → e.on ≠ i := fun e he hb heq => by
        have h1 := hall e he hb
        rw [heq] at h1
        rcases Nat.lt_or_ge i listed.size with h' | h'
        · simp [h'] at hiun h1; rw [hiun] at h1; cases h1
        · simp [Array.getElem?_eq_none h'] at h1
      obtain ⟨h1, h2, h3⟩ := Oper.apart_spec (hfree j oj hoj hji hjun hnot)
      obtain ⟨u, z, hz, hK⟩ := yields_of_rOp hoj ((H.2 j (ready_mono hj hji)).1 hjn)
      have hz1 : Yields P md ops C V γ j oj a (addK y F) u z := yields_same (execOp_put oj (fun cs b => hsel j oj cs b hoj) a oi.dst v h1).symm (wanted_put oj a oi.dst v h1).symm hz
      have hz2 : Yields P md ops C V γ j oj a F u z := yields_ahead (oi := oj) (oj := oi) (u := v) hji' (at_of_yields hy) hz1
      refine rOp_of_yields hoj hz2 ?_
      have hfz : Fits z F := fits_of_yields hkp hz2
      have hfy : Fits y F := fits_of_yields hkp hy
      have hfz' : Fits z (addK y F) := fits_of_yields (keeps_add hfy hkp) hz1
      have hyz : Fits y (addK z F) := fits_swap hkp hfy hfz'
      have hy1 : Yields P md ops C V γ i oi a (addK z F) v y := yields_behind (oi := oi) (oj := oj) (u := u) hij' hkp (at_of_yields hz) hyz hy
      have hy2 : Yields P md ops C V γ i oi (a.put oj.dst u) (addK z F) v y := yields_same (execOp_put oi (fun cs b => hsel i oi cs b hi) a oj.dst u h3) (wanted_put oi a oj.dst u h3) hy1
      refine ih (listed.setIfInBounds j true) (addK z F) (a.put oj.dst u) (hcl.set hj) (keeps_add hfz hkp) (fun k ok hk hki hun hno => hfree k ok hk hki (by
        by_cases hjk : j = k
        · subst hjk; exact hjun
        · rw [getD_set_ne true hjk] at hun; exact hun) hno) (ready_mono hr (Ne.symm hji)) hy2 ?_
      rw [Array.setIfInBounds_comm _ _ hji]
      have hput : (a.put oi.dst v).put oj.dst u = (a.put oj.dst u).put oi.dst v := Act.put_comm a v u h2
      rw [← hput]
      exact wpAnyRT_congr _ _ _ _ _ (fun x => by simp only [mem_addK]; constructor <;> (rintro (h | h | h) <;> simp [h])) hK

theorem wpAnyRT_lex (hs : Region.noSelect ops = true) (hTT : ∀ j, ¬ j < n → j < ops.size → ∀ i, i < n → WaitsP md ops j i) (t : Nat) (ht : 0 < t) : ∀ (l : List Oper) (k : Nat) (listed : Array Bool) (F : List Known) (a : Act), Closed md ops listed → Keeps F → k + l.length = n → (∀ j, j < l.length → l[j]? = ops[k + j]?) →
    headB md ops l.length k listed = true → wpRel P md ops C V γ (fun _ a w => wpAny P md ops Q t (marks l.length k listed) a w) k l F a → wpAnyRT P md ops C V γ Q n (l.length + t) listed F a
  | [], k, listed, F, a, hcl, hkp, hk, _, hB, h => by
    have h' : ∀ w, C w → (∀ x ∈ F, x.fact w) → wpAny P md ops Q t listed a w := h
    have hk' : k = n := by simpa using hk
    subst hk'
    have hge : ∀ i ∈ Region.ready md ops listed, ¬ i < k := fun i hi hlt => by
      have := (mem_ready.1 hi).1
      rw [headB_nil hB i hlt] at this
      cases this
    cases t with
    | zero => omega
    | succ t =>
      show wpAnyRT P md ops C V γ Q k (0 + (t + 1)) listed F a
      rw [Nat.zero_add]
      exact ⟨fun h0 w hw hF => (h' w hw hF).1 h0, fun i hi => ⟨fun hlt => absurd hlt (hge i hi), fun _ w hw hF => (h' w hw hF).2 i hi⟩⟩
  | o :: l, k, listed, F, a, hcl, hkp, hk, hl, hB, h => by
    have h0 : ops[k]? = some o := by simpa using (hl 0 (by simp)).symm
    simp only [List.length_cons, headB, Bool.and_eq_true] at hB
    obtain ⟨⟨hr, hf⟩, hB'⟩ := hB
    have hkn : k < n := by simp at hk; omega
    obtain ⟨v, y, hy, hK⟩ := h
    have hr' : k ∈ Region.ready md ops listed := by simpa using hr
    show wpAnyRT P md ops C V γ Q n (l.length + 1 + t) listed F a
    rw [show l.length + 1 + t = (l.length + t) + 1 by omega]
    exact wpAnyRT_first hTT hkn h0 (Region.noSelect_spec hs) (l.length + t) listed F a hcl hkp (Region.free_spec h0 hf) hr' hy
      (wpAnyRT_lex hs hTT t ht l (k + 1) _ _ _ (hcl.set hr') (keeps_add (fits_of_yields hkp hy) hkp) (by simp at hk; omega) (fun j hj => by have := hl (j + 1) (by simp; omega); simpa [Nat.add_assoc, Nat.add_comm 1 j] using this) hB' hK)
theorem wpAny_of_RT (hC : ∀ w w', C w → Below w.heap.size w w' → C w') (hbase : ∀ w, C w → base ≤ w.heap.size) : ∀ (fuel : Nat) (listed : Array Bool) (a : Act) (w : World) (fx : Nat → Bool) (γ0 : Nat → Nat), C w →
    (∀ i, fx i = true → listed.getD i true = true) → (∀ i j, fx i = true → fx j = true → i ≠ j → γ0 i ≠ γ0 j) → (∀ i, fx i = true → base ≤ γ0 i ∧ γ0 i < w.heap.size) →
    (∀ γ, Good base fx γ0 w.heap.size γ → ∃ F, Keeps F ∧ wpAnyRT P md ops C V γ Q n fuel listed F a ∧ ∀ x ∈ F, x.fact w) → wpAny P md ops Q fuel listed a w := by
  intro fuel
  induction fuel with
  | zero =>
    intro listed a w fx γ0 hw hfx h1 h2 H
    obtain ⟨γ, hγ⟩ := good_exists (hbase w hw) h1 h2
    obtain ⟨F, _, hF, hk⟩ := H γ hγ
    exact ⟨hF.1, hF.2 w hw hk⟩
  | succ fuel ih =>
    intro listed a w fx γ0 hw hfx h1 h2 H
    have hgood := good_exists (hbase w hw) h1 h2
    refine ⟨fun h0 => ?_, fun i hi => ?_⟩
    · obtain ⟨γ, hγ⟩ := hgood
      obtain ⟨F, _, hF, hk⟩ := H γ hγ
      exact hF.1 h0 w hw hk
    · have hiun := (mem_ready.1 hi).1
      by_cases hin : i < n
      case neg =>
        obtain ⟨γ, hγ⟩ := hgood
        obtain ⟨F, _, hF, hk⟩ := H γ hγ
        exact (hF.2 i hi).2 hin w hw hk
      have hfxi : fx i = false := by
        cases hh : fx i with
        | false => rfl
        | true => have := hfx i hh; rw [hiun] at this; cases this
      obtain ⟨_, o, ho, _⟩ := mem_ready.1 hi
      have hfx' : ∀ j, fx j = true → (listed.setIfInBounds i true).getD j true = true := fun j hj => by
        have hji : i ≠ j := fun e => by subst e; rw [hfxi] at hj; cases hj
        rw [getD_set_ne true hji]; exact hfx j hj
      have hlistedi : (listed.setIfInBounds i true).getD i true = true := by
        rcases Nat.lt_or_ge i listed.size with h' | h'
        · simp [h']
        · simp [h', Array.getElem?_eq_none]
      unfold wpOp
      simp only [ho]
      by_cases hwt : Region.wanted o (yielded ops a.tmps) = true
      · rw [if_pos hwt]
        refine .inl ?_
        have each : ∀ γ, Good base fx γ0 w.heap.size γ → (isNew o = true → w.heap.size = γ i) → ∃ F v y, Keeps F ∧ (∀ x ∈ F, x.fact w) ∧ Spec P md ops C V γ i o a F v y ∧
            RelUpon P C o w v y ((execOp a.eval o).run P w) ∧ wpAnyRT P md ops C V γ Q n fuel (listed.setIfInBounds i true) (addK y F) (a.put o.dst v) := fun γ hγ hn => by
          obtain ⟨F, hkp, hF, hk⟩ := H γ hγ
          have h3 := (hF.2 i hi).1 hin
          unfold rOp at h3
          simp only [ho] at h3
          rw [if_pos hwt] at h3
          obtain ⟨v, y, hs, hK⟩ := h3
          exact ⟨F, v, y, hkp, hk, hs, hs.2.2.2 w hw (fun x hx _ => hk x hx) hn, hK⟩
        let fx' : Nat → Bool := fun j => fx j || (isNew o && j == i)
        let γ1 : Nat → Nat := fun j => if j = i then w.heap.size else γ0 j
        have hfx1 : ∀ j, fx j = true → j ≠ i := fun j hj e => by subst e; rw [hfxi] at hj; cases hj
        have hfxcase : ∀ j, fx' j = true → fx j = true ∨ (isNew o = true ∧ j = i) := fun j hj => by
          simp only [fx', Bool.or_eq_true, Bool.and_eq_true, beq_iff_eq] at hj; exact hj
        have k1 : ∀ p q, fx' p = true → fx' q = true → p ≠ q → γ1 p ≠ γ1 q := fun p q hp hq hpq => by
          rcases hfxcase p hp with hp | ⟨hn, ep⟩ <;> rcases hfxcase q hq with hq | ⟨hn', eq⟩
          · simp only [γ1, if_neg (hfx1 p hp), if_neg (hfx1 q hq)]; exact h1 p q hp hq hpq
          · simp only [γ1, if_neg (hfx1 p hp), if_pos eq]; have := h2 p hp; omega
          · simp only [γ1, if_neg (hfx1 q hq), if_pos ep]; have := h2 q hq; omega
          · exact absurd (ep.trans eq.symm) hpq
        have k2 : ∀ s, w.heap.size ≤ s → (isNew o = true → w.heap.size < s) → ∀ p, fx' p = true → base ≤ γ1 p ∧ γ1 p < s := fun s hs hns p hp => by
          rcases hfxcase p hp with hp | ⟨hn, rfl⟩
          · simp only [γ1, if_neg (hfx1 p hp)]; have := h2 p hp; omega
          · simp only [γ1, if_pos]; exact ⟨hbase w hw, hns hn⟩
        have good1 : ∀ s γ, w.heap.size ≤ s → Good base fx' γ1 s γ → Good base fx γ0 w.heap.size γ ∧ (isNew o = true → w.heap.size = γ i) := fun s γ hs hγ => by
          refine ⟨⟨hγ.1, hγ.2.1, fun j hj => ?_, fun j hj => ?_⟩, fun hn => ?_⟩
          · have := hγ.2.2.1 j (by simp [fx', hj])
            rw [this]; simp [γ1, hfx1 j hj]
          · cases hh : fx' j with
            | false => exact Nat.le_trans hs (hγ.2.2.2 j hh)
            | true =>
              rcases hfxcase j hh with h' | ⟨_, rfl⟩
              · rw [hj] at h'; cases h'
              · rw [hγ.2.2.1 j hh]; simp [γ1]
          · have := hγ.2.2.1 i (by simp [fx', hn])
            rw [this]; simp [γ1]
        have hfx2 : ∀ j, fx' j = true → (listed.setIfInBounds i true).getD j true = true := fun j hj => by
          rcases hfxcase j hj with hj | ⟨_, rfl⟩
          · exact hfx' j hj
          · exact hlistedi
        obtain ⟨γs, hγs⟩ := good_exists (base := base) (fx := fx') (γ0 := γ1) (s := w.heap.size + 1) (by have := hbase w hw; omega) k1 (k2 _ (by omega) (by omega))
        obtain ⟨g1, g2⟩ := good1 _ γs (by omega) hγs
        obtain ⟨F0, v0, y0, hkp0, hf0, hs0, hr0, hk0⟩ := each γs g1 g2
        unfold Oper.wp
        have done : ∀ (u : Value) (w' : World), C w' → w.heap.size ≤ w'.heap.size → (isNew o = true → w.heap.size < w'.heap.size) →
            (∀ γ, Good base fx' γ1 w'.heap.size γ → ∃ F y, Keeps F ∧ Fits y F ∧ wpAnyRT P md ops C V γ Q n fuel (listed.setIfInBounds i true) (addK y F) (a.put o.dst u) ∧ ∀ x ∈ addK y F, x.fact w') →
            wpAny P md ops Q fuel (listed.setIfInBounds i true) (a.put o.dst u) w' := fun u w' hC' hsz hnsz hall =>
          ih _ _ w' fx' γ1 hC' hfx2 k1 (k2 _ hsz hnsz) fun γ hγ => by
            obtain ⟨F, y, hkp, hfit, hk, hx⟩ := hall γ hγ
            exact ⟨addK y F, keeps_add hfit hkp, hk, hx⟩
        cases hrun : (execOp a.eval o).run P w with
        | ok n w' =>
          rw [hrun] at hr0
          cases n with
          | value u =>
            simp only [RelUpon] at hr0
            obtain ⟨rfl, hC', he, hy, hn⟩ := hr0
            simp only [Oper.upon]
            refine done _ w' hC' (eff_size he) hn fun γ hγ => ?_
            obtain ⟨p1, p2⟩ := good1 _ γ (eff_size he) hγ
            obtain ⟨F, v, y, hkp, hf, hs, hr, hk⟩ := each γ p1 p2
            rw [hrun] at hr
            simp only [RelUpon] at hr
            obtain ⟨rfl, _, he', hy', _⟩ := hr
            refine ⟨F, y, hkp, hs.2.2.1, hk, fun x hx => ?_⟩
            rcases mem_addK.1 hx with hx | hx
            · exact hy' x hx
            · exact stab_none hkp hs.2.2.1 hx w w' (hf x hx) he'
          | skip =>
            simp only [RelUpon] at hr0
            obtain ⟨rfl, hC', he, hy, hn⟩ := hr0
            simp only [Oper.upon]
            refine done _ w' hC' (eff_size he) hn fun γ hγ => ?_
            obtain ⟨p1, p2⟩ := good1 _ γ (eff_size he) hγ
            obtain ⟨F, v, y, hkp, hf, hs, hr, hk⟩ := each γ p1 p2
            rw [hrun] at hr
            simp only [RelUpon] at hr
            obtain ⟨rfl, _, he', hy', _⟩ := hr
            refine ⟨F, y, hkp, hs.2.2.1, hk, fun x hx => ?_⟩
            rcases mem_addK.1 hx with hx | hx
            · exact hy' x hx
            · exact stab_none hkp hs.2.2.1 hx w w' (hf x hx) he'
          | enter f args =>
            simp only [RelUpon] at hr0
            obtain ⟨rfl, hcall, hnew, rfl, hcl⟩ := hr0
            simp only [Oper.upon]
            refine hcl.mono fun e w'' ⟨he, hb⟩ => ?_
            subst he
            simp only []
            refine done _ w'' (hC _ _ hw hb) hb.size (fun h => by rw [hnew] at h; cases h) fun γ hγ => ?_
            obtain ⟨p1, p2⟩ := good1 _ γ hb.size hγ
            obtain ⟨F, v, y, hkp, hf, hs, hr, hk⟩ := each γ p1 p2
            rw [hrun] at hr
            simp only [RelUpon] at hr
            obtain ⟨_, _, _, rfl, _⟩ := hr
            rw [hs0.1 hcall]
            rw [hs.1 hcall] at hk
            exact ⟨F, none, hkp, hs.2.2.1, hk, fun x hx => hkp x hx _ _ (hf x hx) hb⟩
          | _ => simp only [RelUpon] at hr0
        | halt x w' => rw [hrun] at hr0; simp only [RelUpon] at hr0
      · rw [if_neg hwt]
        refine ih _ _ w fx γ0 hw hfx' h1 h2 fun γ hγ => ?_
        obtain ⟨F, hkp, hF, hk⟩ := H γ hγ
        have h3 := (hF.2 i hi).1 hin
        unfold rOp at h3
        simp only [ho] at h3
        rw [if_neg hwt] at h3
        exact ⟨F, hkp, h3, hk⟩

/-- The region: its first n operations in one walk of the text's order, over whatever was there and more; what is behind them from every world that this leads to. -/
theorem wp_relT {id : Nat} {a : Act} {w : World} {l : List Oper} (n : Nat) (hm : P.follows .mixedOrders = true) (hs : Region.noSelect l.toArray = true) (hn : decide (n < l.length) = true)
    (hB : headB .any l.toArray n 0 (Array.replicate l.length false) = true) (hT : tailR .any l.toArray n = true)
    (h : exV (l.take n) fun r => ∀ γ : Nat → Nat, (∀ i j, i ≠ j → γ i ≠ γ j) → (∀ i, w.heap.size ≤ γ i) →
      wpRel P .any l.toArray (fun w' => ∃ m, w' = more w m) (fun k => r.getD k undef) γ (fun _ a' w' => wpAny P .any l.toArray Q (l.length - n) (marks n 0 (Array.replicate l.length false)) a' w') 0 (l.take n) [] a) :
    (Code.region id l.toArray true).wp P Q a w := by
  obtain ⟨r, hr⟩ := exV_some h
  have hn' : n < l.length := of_decide_eq_true hn
  have hlen : (l.take n).length = n := by simp; omega
  refine wp_region_any hm ?_
  refine wpAny_of_RT (V := fun k => r.getD k undef) (C := fun w' => ∃ m, w' = more w m) (base := w.heap.size) (n := n) (fun W W' ⟨m, hm⟩ hb => by subst hm; exact more_on hb) (fun W ⟨m, hm⟩ => by subst hm; exact size_more w m) _ _ _ _ (fun _ => false) (fun j => j) ⟨⟨w.drawn + 1, #[]⟩, by simp [more]⟩
    (fun i hi => by cases hi) (fun i j hi => by cases hi) (fun i hi => by cases hi) fun γ hγ => ?_
  refine ⟨[], (fun x hx => by cases hx), ?_, fun x hx => by cases hx⟩
  have := wpAnyRT_lex (C := fun w' => ∃ m, w' = more w m) (V := fun k => r.getD k undef) (γ := γ) (Q := Q) (md := .any) (n := n) hs (fun j hj hjs i hi => tailR_spec hT j hj hjs i hi) (l.length - n) (by omega) (l.take n) 0 (Array.replicate l.length false) [] a (Closed.none _) (fun x hx => by cases hx) (by rw [hlen]; omega)
    (fun j hj => by rw [hlen] at hj; simp [List.getElem?_take, hj]) (by rw [hlen]; exact hB) (by rw [hlen]; exact hr γ hγ.1 hγ.2.1)
  rw [hlen, show n + (l.length - n) = l.length by omega] at this
  simpa using this
/-- the end of the walk -/
theorem relT_nil {k : Nat} {F : List Known} {a : Act} {E : Act → World → Prop} (h : ∀ w, C w → (∀ x ∈ F, x.fact w) → E a w) : wpRel P md ops C V γ (fun _ a' w' => E a' w') k [] F a := h
end
end Go.Proofs.YtdihaffopfbnnaaDoor
