/- Q12 -/
import Derived.Test.YteaillmjldoajaaGreatDoorL11
import Derived.Shelf.Small.Bits
import Derived.Shelf.SlicesQ.Reverse
import Derived.Test.YteaillmjldoajaaGreatDoorQ9
import Derived.Test.YteaillmjldoajaaGreatDoorRel
import Derived.Test.YteaillmjldoajaaGreatDoorR12
namespace Go.Proofs.YteaillmjldoajaaGreatDoor
open Go.RowKit
set_option linter.unusedVariables false
set_option linter.unusedSimpArgs false
end Go.Proofs.YteaillmjldoajaaGreatDoor
namespace Go.Proofs.YteaillmjldoajaaGreatDoor
open Go.RowKit
set_option linter.unusedVariables false
set_option linter.unusedSimpArgs false
attribute [local irreducible] nodeF labelF oneF macF shaF strOf keyV shV
def KeyRow (w : World) (oa : Option Addr) : Prop := ∀ ad, oa = some ad → ∃ cur fr, objAt w ad.block = some (.cells cur 32 fr)
theorem KeyRow.later {w w' : World} {oa : Option Addr} (h : KeyRow w oa) (hb : Below w.heap.size w w') : KeyRow w' oa := fun ad e => by
 obtain ⟨cur, fr, h1⟩ := h ad e
 exact ⟨cur, fr, keep_below hb h1⟩
def SecAt (w : World) (oa : Option Addr) (n : Nat) (F : Nat → Nat → Int) : Prop := K32At w oa n F ∧ KeyRow w oa
theorem SecAt.later {w w' : World} {oa : Option Addr} {n : Nat} {F : Nat → Nat → Int} (h : SecAt w oa n F) (hb : Below w.heap.size w w') : SecAt w' oa n F := ⟨h.1.later hb, h.2.later hb⟩
end Go.Proofs.YteaillmjldoajaaGreatDoor
namespace Go.Proofs.YteaillmjldoajaaGreatDoor
open Go.RowKit
set_option linter.unusedVariables false
set_option linter.unusedSimpArgs false
section
variable {P : Program} {md : Region.Mode} {ops : Array Oper} {C : World → Prop} {V : Vals} {γ : Nat → Nat} {Q : Exit → Act → World → Prop}
theorem run_call_func (ρ : Operand → Value) (d : Option Tmp) (t : TypeId) (pos : String) (af : Array Edge) (g : Option (Nat × Bool)) (f : Nat) (args : Array Operand) (ats : Array TypeId) (W : World)
  (hr : ρ (.func f) = .func (.func f) #[] #[]) (h : ∀ args w, (callFunc f args).run P w = .ok (.enter f args) w) : (execOp ρ ⟨d, .call { callee := .value (.func f), args := args, argTypes := ats }, t, pos, af, g⟩).run P W = .ok (.enter f (args.map ρ)) W := by
 simp [execOp, go_sem, h, hr]
theorem rel_callv {k : Nat} {d : Tmp} {f : Nat} {args : Array Operand} {ats : Array TypeId} {t : TypeId} {pos : String} {af : Array Edge} {g : Option (Nat × Bool)} {rest : List Oper} {F : List Known} {a : Act} {u0 : Value} {Φ : Value → World → Prop} {Sh : Value → Prop} (vals : Array Value)
  (hent : ∀ args w, (callFunc f args).run P w = .ok (.enter f args) w) (hv : V.vary k = true) (hu : V k = u0) (hΦ : V.fact k = Φ) (hsh : V.sh k = Sh) (hw : Region.wanted ⟨some d, .call { callee := .value (.func f), args := args, argTypes := ats }, t, pos, af, g⟩ (yielded ops a.tmps) = true) (hd : decide (d < a.tmps.size) = true)
  (hf : Fits (some ⟨k, Φ u0, none⟩) F) (ha : args.map a.eval = vals)
  (h1 : ∀ W, C W → (∀ x ∈ F, waitsT md ops 3 k x.i = true → x.fact W) → Calls P f vals W (fun e w'' => ∃ u, e = .returned u ∧ Sh u ∧ Φ u w'' ∧ Below W.heap.size W w''))
  (next : wpQuiet P ops (fun _ => True) (fun a' => wpRel P md ops C V γ Q (k + 1) rest (⟨k, Φ u0, none⟩ :: F) a') [⟨some d, .move (.const u0), 0, "", #[], none⟩] a) : wpRel P md ops C V γ Q k (⟨some d, .call { callee := .value (.func f), args := args, argTypes := ats }, t, pos, af, g⟩ :: rest) F a :=
 rel_vary rfl hv hu hΦ hsh hw hd hf (fun W hC hF => ⟨f, args.map a.eval, run_call_func a.eval (some d) t pos af g f args ats W rfl hent, by rw [ha]; exact h1 W hC hF⟩) next
end
def KAt (n : Nat) (F : Nat → Nat → Int) (u : Value) (w : World) : Prop := ∀ oa c, u = .slice oa n c → K32At w oa n F
theorem stab_kat (n : Nat) (F : Nat → Nat → Int) (u : Value) : Stab (KAt n F u) none := fun w w' h e oa c hu => (h oa c hu).later e
theorem fits_one {y x : Known} (h1 : Stab y.fact none) (h2 : Stab x.fact none) (e : y.eff = none) (e' : x.eff = none) {F : List Known} (hF : Fits (some y) F) : Fits (some y) (x :: F) := fits_cons ⟨by rw [e]; exact h2, by rw [e']; exact h1⟩ hF
end Go.Proofs.YteaillmjldoajaaGreatDoor
namespace Go.Proofs.YteaillmjldoajaaGreatDoor
open Go.RowKit
set_option linter.unusedVariables false
set_option linter.unusedSimpArgs false
section
variable {P : Program} {Q : Exit → Act → World → Prop}
theorem wp_relTv {id : Nat} {a : Act} {w : World} {l : List Oper} (vary : Nat → Bool) (sh : Nat → Value → Prop) (fact : Nat → Value → World → Prop) (v0 : Nat → Value) (hsh : ∀ i, vary i = true → sh i (v0 i)) (n : Nat) (hm : P.follows .mixedOrders = true) (hs : Region.noSelect l.toArray = true) (hn : decide (n < l.length) = true)
  (hB : headB .any l.toArray n 0 (Array.replicate l.length false) = true) (hT : tailR .any l.toArray n = true)
  (h : exV (l.take n) fun r => ∀ (γ : Nat → Nat) (g : Nat → Value), (∀ i, vary i = true → sh i (g i)) → (∀ i j, i ≠ j → γ i ≠ γ j) → (∀ i, w.heap.size ≤ γ i) →
   wpRel P .any l.toArray (fun w' => ∃ m, w' = more w m) ⟨fun k => bif vary k then g k else r.getD k undef, vary, sh, fact⟩ γ (fun _ a' w' => wpAny P .any l.toArray Q (l.length - n) (marks n 0 (Array.replicate l.length false)) a' w') 0 (l.take n) [] a) :
  (Code.region id l.toArray true).wp P Q a w := by
 obtain ⟨r, hr⟩ := exV_some h
 have hn' : n < l.length := of_decide_eq_true hn
 have hlen : (l.take n).length = n := by simp; omega
 refine wp_region_any hm ?_
 refine wpAny_of_RT (C := fun w' => ∃ m, w' = more w m) (base := w.heap.size) (n := n) (fun W W' ⟨m, hm⟩ hb => by subst hm; exact more_on hb) (fun W ⟨m, hm⟩ => by subst hm; exact size_more w m) _ _ _ _ (fun _ => false) (fun j => j) (fun _ => false) ⟨fun k => bif vary k then v0 k else r.getD k undef, vary, sh, fact⟩ ⟨⟨w.drawn + 1, #[]⟩, by simp [more]⟩ (fun i hi => by simp only at hi ⊢; rw [hi]; exact hsh i hi) (fun i hi => by cases hi)
  (fun i hi => by cases hi) (fun i j hi => by cases hi) (fun i hi => by cases hi) fun γ V hγ hV => ?_
 obtain ⟨v, va, s, b⟩ := V
 obtain ⟨e1, e2, e4, e5, e3⟩ := hV
 simp only at e1 e2 e4 e5 e3
 subst e1 e2 e4
 have e : v = fun k => bif va k then v k else r.getD k undef := funext fun i => by
  cases hv : va i with
  | true => simp [hv]
  | false =>
   have := e3 i (.inl hv)
   rw [hv] at this
   simpa [hv] using this
 have h9 := hr γ v e5 hγ.1 hγ.2.1
 rw [← e] at h9
 refine ⟨[], (fun x hx => by cases hx), ?_, fun x hx => by cases hx⟩
 have := wpAnyRT_lex (C := fun w' => ∃ m, w' = more w m) (V := ⟨v, va, s, b⟩) (γ := γ) (Q := Q) (md := .any) (n := n) hs (fun j hj hjs i hi => tailR_spec hT j hj hjs i hi) (l.length - n) (by omega) (l.take n) 0 (Array.replicate l.length false) [] a (Closed.none _) (fun x hx => by cases hx) (by rw [hlen]; omega)
  (fun j hj => by rw [hlen] at hj; simp [List.getElem?_take, hj]) (by rw [hlen]; exact hB) (by rw [hlen]; exact h9)
 rw [hlen, show n + (l.length - n) = l.length by omega] at this
 simpa using this
end
end Go.Proofs.YteaillmjldoajaaGreatDoor
namespace Go.Proofs.YteaillmjldoajaaGreatDoor
open Go.RowKit
set_option linter.unusedVariables false
set_option linter.unusedSimpArgs false
@[go_sem] theorem none_kpair (w : World) : (noneNext 222).run Tryz.prog w = .ok (.value (.agg (ints .u8 64 (keysF nought nought)))) w := by kernel_rfl
@[go_sem] theorem none_tree (w : World) : (noneNext 174).run Tryz.prog w = .ok (.value (.agg #[.slice none 0 0])) w := by kernel_rfl
def Row64 (w : World) (g m : Nat) (F : Nat → Nat → Int) : Prop :=
 ∃ cur, objAt w g = some (.cells cur 222 (0, 0)) ∧ m * 64 ≤ cur.size ∧ ∀ j, j < m → ∀ i, i < 64 → cur[j * 64 + i]? = some (.int .u8 (F j i))
theorem Row64.lt {w : World} {g m : Nat} {F : Nat → Nat → Int} (h : Row64 w g m F) : g < w.heap.size := by
 obtain ⟨cur, h, _⟩ := h
 exact lt_of_objAt h
theorem Row64.later {w w' : World} {g m : Nat} {F : Nat → Nat → Int} (h : Row64 w g m F) (hb : Below w.heap.size w w') : Row64 w' g m F := by
 obtain ⟨cur, h, r⟩ := h
 exact ⟨cur, keep_below hb h, r⟩
theorem Row64.congr {w : World} {g m : Nat} {F G : Nat → Nat → Int} (h : Row64 w g m F) (e : ∀ j, j < m → F j = G j) : Row64 w g m G := by
 obtain ⟨cur, h, hs, hc⟩ := h
 exact ⟨cur, h, hs, fun j hj i hi => by rw [← e j hj]; exact hc j hj i hi⟩
theorem Row64.cell {w : World} {g m : Nat} {F : Nat → Nat → Int} (h : Row64 w g m F) {j i : Nat} (hj : j < m) (hi : i < 64) : w.cell? ⟨g, j * 64 + i, none⟩ = some (.int .u8 (F j i)) := by
 obtain ⟨cur, h, hs, hc⟩ := h
 unfold objAt at h
 rw [cell_of_row w g _ _ _ _ h, hc j hj i hi]
theorem add_lit0 (g o j : Nat) : (⟨g, o, none⟩ : Addr).add j = ⟨g, o + j, none⟩ := by unfold Addr.add; split <;> simp_all
end Go.Proofs.YteaillmjldoajaaGreatDoor
namespace Go.Proofs.YteaillmjldoajaaGreatDoor
open Go.RowKit
set_option linter.unusedVariables false
set_option linter.unusedSimpArgs false
def Row32 (T : TypeId) (w : World) (g m : Nat) (F : Nat → Nat → Int) : Prop :=
 ∃ cur, objAt w g = some (.cells cur T (0, 0)) ∧ m * 32 ≤ cur.size ∧ ∀ j, j < m → ∀ i, i < 32 → cur[j * 32 + i]? = some (.int .u8 (F j i))
theorem Row32.lt {T : TypeId} {w : World} {g m : Nat} {F : Nat → Nat → Int} (h : Row32 T w g m F) : g < w.heap.size := by
 obtain ⟨cur, h, _⟩ := h
 exact lt_of_objAt h
theorem Row32.later {T : TypeId} {w w' : World} {g m : Nat} {F : Nat → Nat → Int} (h : Row32 T w g m F) (hb : Below w.heap.size w w') : Row32 T w' g m F := by
 obtain ⟨cur, h, r⟩ := h
 exact ⟨cur, keep_below hb h, r⟩
theorem ints_list_ones {k : IntKind} {n : Nat} {l : List Nat} {F : Nat → Nat → Int} : ∀ u ∈ l.flatMap (fun j => (ints k n (F j)).toList), u.oneCell' = true := fun u hu => by
 obtain ⟨j, _, hj⟩ := List.mem_flatMap.1 hu
 have h1 := ints_ones k n (F j)
 rw [Array.all_eq_true'] at h1
 exact h1 u (by simpa using hj)
theorem flat_at {n sz : Nat} (hsz : 0 < sz) {l : List Value} (hl : l.length = n * sz) {x : Nat} {u : Value} (h : l[x]? = some u) : ∃ j i, x = j * sz + i ∧ j < n ∧ i < sz := by
 have hx := (List.getElem?_eq_some_iff.1 h).1
 rw [hl] at hx
 refine ⟨x / sz, x % sz, (by rw [Nat.mul_comm]; exact (Nat.div_add_mod x sz).symm), (Nat.div_lt_iff_lt_mul hsz).2 hx, Nat.mod_lt _ hsz⟩
@[go_sem ↓ high] theorem append_pairs (ty : TypeId) (cs : Array Bool) (args : Array Value) : builtin .append #[172, 172] ty cs args = appendNext #[172, 172] ty args := by unfold appendNext; rfl
end Go.Proofs.YteaillmjldoajaaGreatDoor
