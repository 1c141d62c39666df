/- Slices of elements of the call's own: what a variadic call is handed. -/
import Derived.Test.YtonmancgalencaaGreatDoorFrame
import Derived.Test.YtonmancgalencaaGreatDoorRel
set_option maxRecDepth 100000
set_option maxHeartbeats 4000000
namespace Go.Proofs.YtonmancgalencaaGreatDoor
open Go.RowKit
set_option linter.unusedVariables false
set_option linter.unusedSimpArgs false
theorem ints5 (k : IntKind) (a : Nat → Int) : ints k 5 a = #[.int k (a 0), .int k (a 1), .int k (a 2), .int k (a 3), .int k (a 4)] := by
 apply Array.ext_getElem?
 intro i
 by_cases h : i < 5
 ·rw [ints_get _ _ _ _ h]
  rcases (by omega : i = 0 ∨ i = 1 ∨ i = 2 ∨ i = 3 ∨ i = 4) with rfl | rfl | rfl | rfl | rfl <;> rfl
 ·rw [Array.getElem?_eq_none (by rw [ints_size]; omega), Array.getElem?_eq_none (by simp; omega)]
def three (a b c : Nat → Int) : Nat → Nat → Int := fun j => if j = 0 then a else if j = 1 then b else c
def rowOf (F : Nat → Nat → Int) : Nat → Int := fun i => F (i / 5) (i % 5)
theorem put5 (k : IntKind) (N off : Nat) (a f : Nat → Int) : (ints k 5 a).zipIdx.foldl (fun cs (x : Value × Nat) => cs.setIfInBounds (off + x.2) x.1) (ints k N f) = ints k N (fun i => if off ≤ i ∧ i < off + 5 then a (i - off) else f i) := by
 rw [ints5]
 have e : (#[Value.int k (a 0), .int k (a 1), .int k (a 2), .int k (a 3), .int k (a 4)] : Array Value).zipIdx = #[(.int k (a 0), 0), (.int k (a 1), 1), (.int k (a 2), 2), (.int k (a 3), 3), (.int k (a 4), 4)] := by rfl
 rw [e]
 have e2 : ∀ (g : Array Value → Value × Nat → Array Value) (z : Array Value) (x0 x1 x2 x3 x4 : Value × Nat), (#[x0, x1, x2, x3, x4] : Array (Value × Nat)).foldl g z = g (g (g (g (g z x0) x1) x2) x3) x4 := fun g z x0 x1 x2 x3 x4 => by simp
 rw [e2]
 simp only [ints_set]
 refine ints_congr fun i _ => ?_
 unfold upd
 by_cases h : off ≤ i ∧ i < off + 5
 ·rw [if_pos h]
  rcases (by omega : i = off ∨ i = off + 1 ∨ i = off + 2 ∨ i = off + 3 ∨ i = off + 4) with rfl | rfl | rfl | rfl | rfl <;> simp
 ·rw [if_neg h, if_neg (by omega), if_neg (by omega), if_neg (by omega), if_neg (by omega), if_neg (by omega)]
theorem put5z (k : IntKind) (N : Nat) (a f : Nat → Int) : (ints k 5 a).zipIdx.foldl (fun cs (x : Value × Nat) => cs.setIfInBounds x.2 x.1) (ints k N f) = ints k N (fun i => if 0 ≤ i ∧ i < 0 + 5 then a (i - 0) else f i) := by
 rw [← put5]
 congr 1
 funext cs x
 rw [Nat.zero_add]
theorem elems_of_row {W : World} {g n N : Nat} {f : Nat → Int} {t : TypeId} {fr : Nat × Nat} {F : Nat → Nat → Int} (h : objAt W g = some (.cells (ints .u64 N f) t fr)) (hN : n * 5 ≤ N) (hf : ∀ j, j < n → ∀ i, i < 5 → f (j * 5 + i) = F j i) : ElemsAt W (some ⟨g, 0, none⟩) n F := by
 refine .inr ⟨_, rfl, fun w' hb j hj => ?_⟩
 refine run_load_row Tryz.underlying191 rfl (by kernel_rfl) w' _ (ints .u64 5 (F j)) (ints_size _ _ _) fun i hi => ?_
 have h' := keep_below hb h
 unfold objAt at h'
 have ha : ((⟨g, 0, none⟩ : Addr).add (j * 5)).add i = ⟨g, j * 5 + i, none⟩ := by
  rw [Go.Deep.add_add]
  unfold Addr.add
  split
  ·simp_all
  ·simp
 rw [ha, cell_of_row w' g _ _ _ _ h', ints_get _ _ _ _ (by omega), ints_get _ _ _ _ hi, hf j hj i hi]
theorem rowOf_at (F : Nat → Nat → Int) (n : Nat) : ∀ j, j < n → ∀ i, i < 5 → rowOf F (j * 5 + i) = F j i := fun j _ i hi => by
 unfold rowOf
 rw [show (j * 5 + i) / 5 = j by omega, show (j * 5 + i) % 5 = i by omega]
end Go.Proofs.YtonmancgalencaaGreatDoor
namespace Go.Proofs.YtonmancgalencaaGreatDoor
open Go.ChangeShapes Go.WideShapes Go.ChangeAt Go.RowKit
set_option linter.unusedVariables false
set_option linter.unusedSimpArgs false
def KeysAt (w : World) (oa : Option Addr) (n : Nat) (F : Nat → Nat → Int) : Prop :=
 n = 0 ∨ ∃ ad : Addr, oa = some ad ∧ ∀ w', Below w.heap.size w w' → ∀ j, j < n → (loadNext 24 (.pointer (some (ad.add (j * 32))))).run Tryz.prog w' = .ok (.value (.agg (ints .u8 32 (F j)))) w'
theorem KeysAt.later {w w' : World} {oa : Option Addr} {n : Nat} {F : Nat → Nat → Int} (h : KeysAt w oa n F) (hb : Below w.heap.size w w') : KeysAt w' oa n F := by
 rcases h with h | ⟨ad, ho, hl⟩
 ·exact .inl h
 ·exact .inr ⟨ad, ho, fun w'' hb' => hl w'' (Grew.trans hb hb')⟩
theorem keys_of_row {W : World} {g n N : Nat} {f : Nat → Int} {t : TypeId} {fr : Nat × Nat} {F : Nat → Nat → Int} (h : objAt W g = some (.cells (ints .u8 N f) t fr)) (hN : n * 32 ≤ N) (hf : ∀ j, j < n → ∀ i, i < 32 → f (j * 32 + i) = F j i) : KeysAt W (some ⟨g, 0, none⟩) n F := by
 refine .inr ⟨_, rfl, fun w' hb j hj => ?_⟩
 refine run_load_row Tryz.underlying24 rfl (by kernel_rfl) w' _ (ints .u8 32 (F j)) (ints_size _ _ _) fun i hi => ?_
 have h' := keep_below hb h
 unfold objAt at h'
 have ha : ((⟨g, 0, none⟩ : Addr).add (j * 32)).add i = ⟨g, j * 32 + i, none⟩ := by
  rw [Go.Deep.add_add]
  unfold Addr.add
  split
  ·simp_all
  ·simp
 rw [ha, cell_of_row w' g _ _ _ _ h', ints_get _ _ _ _ (by omega), ints_get _ _ _ _ hi, hf j hj i hi]
def two (a b : Nat → Int) : Nat → Nat → Int := fun j => if j = 0 then a else b
def rowK (F : Nat → Nat → Int) : Nat → Int := fun i => F (i / 32) (i % 32)
theorem rowK_at (F : Nat → Nat → Int) (n : Nat) : ∀ j, j < n → ∀ i, i < 32 → rowK F (j * 32 + i) = F j i := fun j _ i hi => by
 unfold rowK
 rw [show (j * 32 + i) / 32 = j by omega, show (j * 32 + i) % 32 = i by omega]
theorem build2k (a b : Nat → Int) (W : World) : (Instr.buildSlice 22 2 #[(0, .agg (ints .u8 32 a)), (1, .agg (ints .u8 32 b))]).run Tryz.prog W =
  .ok (.slice (some ⟨W.heap.size, 0, none⟩) 2 2) (W.alloc (.cells (ints .u8 64 (rowK (two a b))) 24)) := by kernel_rfl
theorem open_keys {H : Type} {enc : TypeId × Value → H} {W : World} {base : Nat} {sp : Nat → Bool} {held : Bool} {r : Reach} {b0 : Nat} {v : Value} {d : DataW H} {ps : List MemPlace}
  (hval : Value.okWide Tryz.prog W r b0 22 v) (hd : DataW.Trod enc Tryz.prog W base sp held 22 v d ps) :
  ∃ (oa : Option Addr) (n c : Nat) (F : Nat → Nat → Int), v = .slice oa n c ∧ n ≤ 9223372036854775807 ∧ (∀ i, i < n → Bytes 32 (F i)) ∧ KeysAt W oa n F := by
 obtain ⟨oa, n, c, F, hv, hm, hw, hF⟩ := open_rows (n := 32) (k := .u8) Tryz.underlying22 Tryz.underlying24 Tryz.underlying5 (by kernel_rfl) (by kernel_rfl) (Nat.zero_lt_succ 31) (slice_of_okWide Tryz.underlying22 hval) hd
 refine ⟨oa, n, c, F, hv, by unfold maxLen at hm; omega, fun i hi j hj => bounds_u8 (hw i hi j hj), ?_⟩
 rcases hF with h | ⟨a, ho, hc⟩
 ·exact .inl h
 ·refine .inr ⟨a, ho, fun w' hb j hj => ?_⟩
  refine run_load_row Tryz.underlying24 rfl (by kernel_rfl) w' (a.add (j * 32)) (ints .u8 32 (F j)) (ints_size _ _ _) fun i hi => ?_
  rw [Go.Deep.add_add, ints_get _ _ _ _ hi]
  have h1 := hc j hj i hi
  rw [hb.cell (cell_lt h1)]
  exact h1
def chS (S : Nat → (Nat → Int) → Nat → Int) (Z : Nat → (Nat → Int) → Bool) (p : Nat → Int) : Nat → Option (Nat → Int)
 | 0 => some p
 | j + 1 => match chS S Z p j with
  | none => none
  | some q => if Z j q = true then none else some (S j q)
theorem chS_none (S : Nat → (Nat → Int) → Nat → Int) (Z : Nat → (Nat → Int) → Bool) (p : Nat → Int) {j : Nat} (h : chS S Z p j = none) : ∀ n, j ≤ n → chS S Z p n = none
 | 0, hn => by obtain rfl : j = 0 := by omega
               exact h
 | n + 1, hn => by
  rcases (by omega : j = n + 1 ∨ j ≤ n) with rfl | h'
  ·exact h
  ·simp only [chS, chS_none S Z p h n h']
def outK : Option (Nat → Int) → Nat → Int
 | none => nought
 | some q => q
end Go.Proofs.YtonmancgalencaaGreatDoor
