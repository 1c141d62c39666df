/- What the statements ask of the whole program, told once: the text of its start, read as signs; that no function comes back to itself. -/
import Derived.Test.YtfapmpnkemogkaaFrame
namespace Go.Proofs.Ytfapmpnkemogkaa
set_option linter.unusedVariables false
set_option linter.unusedSimpArgs false

def initL : List Char := [104, 97, 114, 110, 101, 115, 115, 32, 51, 101, 56, 49, 55, 101, 100, 102, 53, 54, 48, 49, 53, 53, 51, 55, 100, 57, 56, 99, 50, 99, 100, 56, 49, 97, 56, 57, 52, 55, 102, 49, 99, 97, 48, 49, 55, 98, 100, 53, 55, 101, 100, 56, 101, 55, 99, 48, 97, 54, 51, 54, 52, 48, 97, 97, 54, 49, 55, 100, 99, 100, 52, 99, 32, 99, 117, 116, 32, 97, 116, 32, 115, 97, 112, 119, 111, 111, 100, 47, 115, 97, 112, 119, 111, 111, 100, 108, 97, 119, 48, 49, 46, 67, 116, 67, 111, 109, 112, 97, 114, 101, 115, 32, 115, 97, 112, 119, 111, 111, 100, 47, 115, 97, 112, 119, 111, 111, 100, 108, 97, 119, 48, 49, 46, 67, 116, 80, 105, 99, 107, 115, 32, 115, 97, 112, 119, 111, 111, 100, 47, 115, 97, 112, 119, 111, 111, 100, 108, 97, 119, 48, 49, 46, 67, 116, 79, 110, 99, 101, 32, 115, 97, 112, 119, 111, 111, 100, 47, 115, 97, 112, 119, 111, 111, 100, 108, 97, 119, 48, 50, 46, 76, 105, 109, 98, 82, 101, 97, 100, 115, 32, 115, 97, 112, 119, 111, 111, 100, 47, 115, 97, 112, 119, 111, 111, 100, 108, 97, 119, 48, 50, 46, 76, 105, 109, 98, 65, 100, 100, 115, 32, 115, 97, 112, 119, 111, 111, 100, 47, 115, 97, 112, 119, 111, 111, 100, 108, 97, 119, 48, 50, 46, 76, 105, 109, 98, 76, 97, 119, 115, 32, 115, 97, 112, 119, 111, 111, 100, 47, 115, 97, 112, 119, 111, 111, 100, 108, 97, 119, 48, 50, 46, 76, 105, 109, 98, 77, 111, 100, 117, 108, 117, 115, 32, 115, 97, 112, 119, 111, 111, 100, 47, 115, 97, 112, 119, 111, 111, 100, 108, 97, 119, 48, 51, 46, 77, 117, 108, 102, 77, 97, 107, 101, 115, 32, 115, 97, 112, 119, 111, 111, 100, 47, 115, 97, 112, 119, 111, 111, 100, 108, 97, 119, 48, 51, 46, 77, 117, 108, 102, 76, 97, 119, 115, 32, 115, 97, 112, 119, 111, 111, 100, 47, 115, 97, 112, 119, 111, 111, 100, 108, 97, 119, 48, 51, 46, 77, 117, 108, 102, 65, 108, 105, 107, 101, 32, 115, 97, 112, 119, 111, 111, 100, 47, 115, 97, 112, 119, 111, 111, 100, 108, 97, 119, 48, 51, 46, 77, 117, 108, 102, 70, 97, 99, 116, 111, 114, 115, 32, 115, 97, 112, 119, 111, 111, 100, 47, 115, 97, 112, 119, 111, 111, 100, 108, 97, 119, 48, 52, 46, 73, 110, 118, 77, 97, 107, 101, 115, 32, 115, 97, 112, 119, 111, 111, 100, 47, 115, 97, 112, 119, 111, 111, 100, 108, 97, 119, 48, 52, 46, 73, 110, 118, 85, 110, 100, 111, 101, 115, 32, 115, 97, 112, 119, 111, 111, 100, 47, 115, 97, 112, 119, 111, 111, 100, 108, 97, 119, 48, 52, 46, 73, 110, 118, 80, 111, 119, 101, 114, 115, 32, 115, 97, 112, 119, 111, 111, 100, 47, 115, 97, 112, 119, 111, 111, 100, 108, 97, 119, 48, 52, 46, 73, 110, 118, 83, 119, 97, 112, 115, 32, 115, 97, 112, 119, 111, 111, 100, 47, 115, 97, 112, 119, 111, 111, 100, 108, 97, 119, 48, 53, 46, 76, 97, 100, 100, 101, 114, 84, 105, 109, 101, 115, 32, 115, 97, 112, 119, 111, 111, 100, 47, 115, 97, 112, 119, 111, 111, 100, 108, 97, 119, 48, 53, 46, 76, 97, 100, 100, 101, 114, 83, 116, 101, 112, 115, 32, 115, 97, 112, 119, 111, 111, 100, 47, 115, 97, 112, 119, 111, 111, 100, 108, 97, 119, 48, 53, 46, 76, 97, 100, 100, 101, 114, 79, 114, 100, 101, 114, 32, 115, 97, 112, 119, 111, 111, 100, 47, 115, 97, 112, 119, 111, 111, 100, 108, 97, 119, 48, 53, 46, 76, 97, 100, 100, 101, 114, 84, 119, 105, 99, 101, 32, 115, 97, 112, 119, 111, 111, 100, 47, 115, 97, 112, 119, 111, 111, 100, 108, 97, 119, 48, 54, 46, 68, 104, 77, 97, 107, 101, 115, 32, 115, 97, 112, 119, 111, 111, 100, 47, 115, 97, 112, 119, 111, 111, 100, 108, 97, 119, 48, 54, 46, 68, 104, 65, 103, 114, 101, 101, 115, 32, 115, 97, 112, 119, 111, 111, 100, 47, 115, 97, 112, 119, 111, 111, 100, 108, 97, 119, 48, 54, 46, 68, 104, 67, 104, 97, 105, 110, 115, 32, 115, 97, 112, 119, 111, 111, 100, 47, 115, 97, 112, 119, 111, 111, 100, 108, 97, 119, 48, 54, 46, 68, 104, 90, 101, 114, 111, 32, 115, 97, 112, 119, 111, 111, 100, 47, 115, 97, 112, 119, 111, 111, 100, 108, 97, 119, 48, 54, 46, 68, 104, 84, 104, 114, 101, 101].map Char.ofNat
theorem init_is : Try.prog.initOrder = String.ofList initL := by kernel_rfl
theorem init_signs : Try.prog.initOrder.toList = initL := by rw [init_is]; exact String.toList_ofList
theorem init_words : behindMainWord (wordsSigns Try.prog.initOrder.toList) = "cut".toList :: (behindMainWord (wordsSigns initL)).tail := by rw [init_signs]; kernel_rfl
theorem make_of (P : Program) (r : List (List Char)) (h : behindMainWord (wordsSigns P.initOrder.toList) = "cut".toList :: r) : P.make = some .cut := by
  unfold Program.make
  rw [h]
  rfl
theorem enter_of (P : Program) (r : List (List Char)) (h : behindMainWord (wordsSigns P.initOrder.toList) = "cut".toList :: r) (h1 : stripLifts liftWords ("cut".toList :: r) = ([], "cut".toList :: r)) (hl : P.laysLater = false) (hb : P.bearsReflect = false) (hd : P.doorFits [] = true) : P.mayEnter = true := by
  unfold Program.mayEnter
  rw [h]
  simp only [h1, hl, hb, hd]
  rfl
theorem may_enter : Try.prog.mayEnter = true := enter_of _ _ init_words (by kernel_rfl) (by kernel_rfl) (by kernel_rfl) (by kernel_rfl)
theorem make_is : Try.prog.make = some .cut := make_of _ _ init_words
theorem lifts_is : Try.prog.liftsFinal = false := by unfold Program.liftsFinal Program.headLifts; rw [init_signs]; kernel_rfl
/-! no function comes back to itself: each leads to such of lower rank -/
theorem via_all (P : Program) (q : FuncId → Prop) (hq : ∀ g, q g → ∀ h, h ∈ ((P.funcs[g]?).elim [] P.leadsTo) → q h) : ∀ (n : Nat) (todo seen : List FuncId), (∀ x, x ∈ todo → q x) → (∀ x, x ∈ seen → q x) → ∀ x, x ∈ P.closureVia n todo seen → q x
  | 0, todo, seen, ht, hs, x, hx => by
    unfold Program.closureVia at hx
    exact hs x (List.mem_reverse.1 hx)
  | n + 1, [], seen, ht, hs, x, hx => by
    unfold Program.closureVia at hx
    exact hs x (List.mem_reverse.1 hx)
  | n + 1, f :: todo, seen, ht, hs, x, hx => by
    unfold Program.closureVia at hx
    have hf := ht f (List.mem_cons_self ..)
    have ht' : ∀ x, x ∈ todo → q x := fun x hx => ht x (List.mem_cons_of_mem _ hx)
    split at hx
    · exact via_all P q hq n todo seen ht' hs x hx
    · refine via_all P q hq n _ (f :: seen) ?_ ?_ x hx
      · intro y hy
        rcases List.mem_append.1 hy with hy | hy
        · exact hq f hf y hy
        · exact ht' y hy
      · intro y hy
        rcases List.mem_cons.1 hy with rfl | hy
        · exact hf
        · exact hs y hy
theorem closure_all (P : Program) (q : FuncId → Prop) (hq : ∀ g, q g → ∀ h, h ∈ ((P.funcs[g]?).elim [] P.leadsTo) → q h) (f : FuncId) (hf : q f) : ∀ x, x ∈ P.closure f → q x := by
  unfold Program.closure
  exact via_all P q hq _ [f] [] (fun x hx => by rw [List.mem_singleton.1 hx]; exact hf) (fun x hx => absurd hx (List.not_mem_nil))
theorem norec_of (P : Program) (R : Nat → Nat) (hR : ((List.range P.funcs.size).all fun g => R g == 0 || ((P.funcs[g]?).elim [] P.leadsTo).all fun h => decide (R h ≠ 0) && decide (R h < R g)) = true) (f : FuncId) (hf : R f ≠ 0) : P.recurses f = P.unfollowed f := by
  have hR' : ∀ g : Nat, R g ≠ 0 → ∀ h, h ∈ ((P.funcs[g]?).elim [] P.leadsTo) → R h ≠ 0 ∧ R h < R g := fun g hg h hh => by
    by_cases hs : g < P.funcs.size
    · have h1 := List.all_eq_true.1 hR g (List.mem_range.2 hs)
      rw [Bool.or_eq_true] at h1
      rcases h1 with h1 | h1
      · exact absurd (beq_iff_eq.1 h1) hg
      · have h2 := List.all_eq_true.1 h1 h hh
        rw [Bool.and_eq_true] at h2
        exact ⟨of_decide_eq_true h2.1, of_decide_eq_true h2.2⟩
    · rw [Array.getElem?_eq_none (by omega)] at hh
      exact absurd hh (List.not_mem_nil)
  unfold Program.recurses
  have e : ((P.closure f).any fun g => ((P.funcs[g]?).elim [] P.leadsTo).any fun h => (P.closure h).contains g) = false := by
    rw [List.any_eq_false]
    intro g hg hx
    have hg0 := closure_all P (fun x => R x ≠ 0) (fun g hg h hh => (hR' g hg h hh).1) f hf g hg
    obtain ⟨h, hh, hc⟩ := List.any_eq_true.1 hx
    obtain ⟨h0, h1⟩ := hR' g hg0 h hh
    have h2 := closure_all P (fun x => R x ≠ 0 ∧ R x ≤ R h) (fun g hg k hk => by
      have := hR' g hg.1 k hk
      exact ⟨this.1, by omega⟩) h ⟨h0, Nat.le_refl _⟩ g (List.contains_iff_mem.1 hc)
    omega
  rw [e, Bool.or_false]
def rankL : List Nat := [1, 1, 2, 6, 6, 6, 8, 8, 8, 8, 10, 10, 10, 10, 12, 12, 12, 12, 14, 14, 14, 14, 16, 16, 16, 16, 16, 5, 1, 1, 2, 2, 1, 7, 2, 2, 6, 2, 3, 1, 1, 3, 1, 5, 3, 2, 2, 2, 3, 9, 3, 3, 4, 3, 4, 4, 11, 1, 5, 4, 6, 5, 4, 4, 1, 13, 8, 6, 5, 4, 7, 1, 15, 10, 8, 1, 1, 9, 7, 10, 8, 11, 1, 4, 6, 1, 1, 2, 2, 4, 1, 1, 1, 1, 8, 2, 2, 10, 1, 1, 12, 2, 14, 2, 2, 3, 3, 1, 1, 1, 1, 1, 1, 1, 1, 2, 2, 1, 1, 1, 1, 1, 1, 1, 1, 1, 1, 1, 1, 1, 1, 1, 1, 1, 1, 1]
theorem norec (f : FuncId) (hf : rankL.getD f 0 ≠ 0) : Try.prog.recurses f = Try.prog.unfollowed f := norec_of _ (fun g => rankL.getD g 0) (by kernel_rfl) f hf
end Go.Proofs.Ytfapmpnkemogkaa
