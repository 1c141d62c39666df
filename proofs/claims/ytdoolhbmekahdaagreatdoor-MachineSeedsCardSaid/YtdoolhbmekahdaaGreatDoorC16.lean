/- C16 -/
import Derived.Test.YtdoolhbmekahdaaGreatDoorE15
import Derived.Test.YtdoolhbmekahdaaGreatDoorFrame
import Derived.ChangeSame
namespace Go.Proofs.YtdoolhbmekahdaaGreatDoor
open Go.RowKit Go.Extern
set_option linter.unusedVariables false
set_option linter.unusedSimpArgs false
end Go.Proofs.YtdoolhbmekahdaaGreatDoor
namespace Go.Proofs.YtdoolhbmekahdaaGreatDoor
open Go.RowKit Go.Extern
set_option linter.unusedVariables false
set_option linter.unusedSimpArgs false
def ErV (w : World) (v : Value) (E : Int) : Prop := (E = 0 ∧ v = .nilIface) ∨ (E ≠ 0 ∧ ∃ t x l, v = .iface t x ∧ Chn w l (.iface 51 (.int .i64 E)) v)
theorem ErV.later {w w' : World} {v : Value} {E : Int} (h : ErV w v E) (hb : Below w.heap.size w w') : ErV w' v E := by
 rcases h with h | ⟨h0, t, x, l, e, hc⟩
 ·exact .inl h
 ·exact .inr ⟨h0, t, x, l, e, hc.later hb⟩
def RdAt (w : World) (g : Nat) (S : ByteArray) (E : Int) : Prop := ∃ v, objAt w g = some (.cells #[.string S, v] 408) ∧ ErV w v E
theorem RdAt.later {w w' : World} {g : Nat} {S : ByteArray} {E : Int} (h : RdAt w g S E) (hb : Below w.heap.size w w') : RdAt w' g S E := by
 obtain ⟨v, hg, he⟩ := h
 exact ⟨v, keep_below hb hg, he.later hb⟩
theorem RdAt.lt {w : World} {g : Nat} {S : ByteArray} {E : Int} (h : RdAt w g S E) : g < w.heap.size := by
 obtain ⟨v, hg, he⟩ := h
 exact lt_of_objAt hg
def Oth (g : Nat) (w w' : World) : Prop := ∃ cs, Below w.heap.size (w.setRow g cs) w'
theorem setRow_same {w : World} {g : Nat} {cs : Array Value} {t : TypeId} {fr : Nat × Nat} (h : objAt w g = some (.cells cs t fr)) : w.setRow g cs = w := by
 unfold objAt at h
 unfold World.setRow
 have e : ∀ (H : Array Obj), H[g]? = some (.cells cs t fr) → (H.modify g fun o => match o with | .cells _ t fr => .cells cs t fr | o => o) = H := fun H hH => by
  apply Array.ext_getElem?
  intro i
  simp only [Array.getElem?_modify]
  by_cases hi : g = i
  ·subst hi
   simp [hH]
  ·simp [hi]
 have := e w.heap h
 cases w
 simp only at this ⊢
 first | (congr 1) | simp_all
theorem Oth.refl {g : Nat} {w : World} {cs : Array Value} {t : TypeId} {fr : Nat × Nat} (h : objAt w g = some (.cells cs t fr)) : Oth g w w := ⟨cs, by rw [setRow_same h]; exact Below.refl _ _⟩
theorem Oth.below {g : Nat} {w0 w w' : World} (h : Oth g w w') (hb : Below w0.heap.size w0 w) (hg : w0.heap.size ≤ g) : Below w0.heap.size w0 w' := by
 obtain ⟨cs, hb2⟩ := h
 have := hb.size
 exact (Grew.setRow hb g cs hg).trans (hb2.mono (by omega))
theorem Oth.size {g : Nat} {w w' : World} (h : Oth g w w') : w.heap.size ≤ w'.heap.size := by
 obtain ⟨cs, hb⟩ := h
 have := hb.size
 rwa [size_setRow'] at this
theorem chn_put {w : World} {k : Nat} {c : Array Value} {tk : TypeId} {fk : Nat × Nat} (hk : objAt w k = some (.cells c tk fk)) (hne : tk ≠ 62) (cs : Array Value) : ∀ {l : List ByteArray} {b v : Value}, Chn w l b v → Chn (w.setRow k cs) l b v
 | [], _, _, h => h
 | s :: l, b, v, ⟨j, u, e, hj, hu⟩ => ⟨j, u, e, keep_setRow k cs hj (fun e => by rw [e, hk] at hj; cases hj; exact hne rfl), chn_put hk hne cs hu⟩
theorem ErV.put {w : World} {k : Nat} {c : Array Value} {tk : TypeId} {fk : Nat × Nat} {v : Value} {E : Int} (h : ErV w v E) (hk : objAt w k = some (.cells c tk fk)) (hne : tk ≠ 62) (cs : Array Value) : ErV (w.setRow k cs) v E := by
 rcases h with h | ⟨h0, t, x, l, e, hc⟩
 ·exact .inl h
 ·exact .inr ⟨h0, t, x, l, e, chn_put hk hne cs hc⟩
theorem RdAt.put {w : World} {g k : Nat} {S : ByteArray} {E : Int} {c : Array Value} {tk : TypeId} {fk : Nat × Nat} (h : RdAt w g S E) (hk : objAt w k = some (.cells c tk fk)) (hne : tk ≠ 62) (hg : g ≠ k) (cs : Array Value) : RdAt (w.setRow k cs) g S E := by
 obtain ⟨v, h1, he⟩ := h
 exact ⟨v, keep_setRow k cs h1 hg, he.put hk hne cs⟩
theorem RdAt.over (w : World) (s : ByteArray) : RdAt (w.alloc (.cells #[.string s, .nilIface] 408)) w.heap.size s 0 := ⟨_, objAt_alloc_at _ _ _ rfl, .inl ⟨rfl, rfl⟩⟩
end Go.Proofs.YtdoolhbmekahdaaGreatDoor
namespace Go.Proofs.YtdoolhbmekahdaaGreatDoor
open Go.ChangeShapes Go.WideShapes Go.ChangeAt Go.RowKit
set_option linter.unusedVariables false
set_option linter.unusedSimpArgs false
def IntsAt (k : IntKind) (w : World) (oa : Option Addr) (n : Nat) (F : Nat → Int) : Prop :=
 n = 0 ∨ ∃ ad : Addr, oa = some ad ∧ ∀ w', Below w.heap.size w w' → ∀ j, j < n → w'.cell? (ad.add j) = some (.int k (F j))
theorem IntsAt.addr {k : IntKind} {w : World} {oa : Option Addr} {n : Nat} {F : Nat → Int} (h : IntsAt k w oa n F) (hn : 0 < n) : ∃ ad, oa = some ad := by
 rcases h with h | ⟨ad, ho, _⟩
 ·omega
 ·exact ⟨ad, ho⟩
theorem IntsAt.cell {k : IntKind} {w : World} {ad : Addr} {n : Nat} {F : Nat → Int} (h : IntsAt k w (some ad) n F) {j : Nat} (hj : j < n) {w' : World} (hb : Below w.heap.size w w') : w'.cell? (ad.add j) = some (.int k (F j)) := by
 rcases h with h | ⟨ad', ho, hl⟩
 ·omega
 ·cases ho
  exact hl w' hb j hj
end Go.Proofs.YtdoolhbmekahdaaGreatDoor
