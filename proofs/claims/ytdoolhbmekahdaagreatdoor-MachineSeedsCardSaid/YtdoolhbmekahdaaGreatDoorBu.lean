/- Bu -/
import Derived.Test.YtdoolhbmekahdaaGreatDoorSm
import Derived.Test.YtdoolhbmekahdaaGreatDoorOw
import Derived.Test.YtdoolhbmekahdaaGreatDoorBw
namespace Go.Proofs.YtdoolhbmekahdaaGreatDoor
open Go.RowKit
set_option linter.unusedVariables false
set_option linter.unusedSimpArgs false
def BldAt (w : World) (b : Nat) (s : ByteArray) : Prop := Lib.IsBuilder 80 5 b b (Lib.strCells s) w
theorem bld_of {w : World} {b : Nat} (h : objAt w b = some (.cells #[.pointer none, .slice none 0 0] 80 (0, 0))) : BldAt w b ByteArray.empty :=
 .inl ⟨Nat.le_refl _, _, h, World.ownsRow_nil _ _ _ _, by simp [Value.ownBlock]⟩
theorem BldAt.later {w w' : World} {b : Nat} {s : ByteArray} (h : BldAt w b s) (hb : Below w.heap.size w w') : BldAt w' b s := by
 have one : ∀ p, Lib.BuilderAt 80 5 b b p (Lib.strCells s) w → Lib.BuilderAt 80 5 b b p (Lib.strCells s) w' := fun p h => by
  have hlt := h.lt
  obtain ⟨h1, v, h2, h3, h4⟩ := h
  exact ⟨h1, v, (hb.block b hlt).trans h2, own_later h3 hb, h4⟩
 exact h.elim (fun x => .inl (one _ x)) (fun x => .inr (one _ x))
theorem BldAt.lt {w : World} {b : Nat} {s : ByteArray} (h : BldAt w b s) : b < w.heap.size := h.elim (fun x => x.lt) (fun x => x.lt)
theorem strCells_size (s : ByteArray) : (Lib.strCells s).length = s.size := by
 rw [Lib.strCells, List.length_map, ← Lib.size_eq]
theorem bld_len {w : World} {b : Nat} {s : ByteArray} (h : BldAt w b s) :
  Calls Tryz.prog 70 #[.pointer (some ⟨b, 0, none⟩)] w fun e w' => e = .returned (.int .i64 s.size) ∧ w' = w := by
 have := Tryz.Builder_Len b b _ w h
 rw [strCells_size] at this
 exact this
theorem bld_write {w : World} {b : Nat} {s : ByteArray} (t : ByteArray) (h : BldAt w b s) (hl : s.size + t.size ≤ 1099511627776) :
  Calls Tryz.prog 33 #[.pointer (some ⟨b, 0, none⟩), .string t] w fun e w' => e = .returned (.tuple #[.int .i64 t.size, .nilIface]) ∧ BldAt w' b (s ++ t) ∧ Below b w w' := by
 refine (bw_write b b _ t w h (by rw [strCells_size]; omega) (Nat.le_of_lt h.lt)).mono ?_
 rintro e w' ⟨rfl, h1, h2⟩
 refine ⟨rfl, .inr ?_, h2⟩
 have e : Lib.strCells (s ++ t) = Lib.strCells s ++ Lib.strCells t := by simp [Lib.strCells, ByteArray.toList_data_append]
 rw [e]
 exact h1
theorem bld_string {w : World} {b : Nat} {s : ByteArray} (h : BldAt w b s) :
  Calls Tryz.prog 34 #[.pointer (some ⟨b, 0, none⟩)] w fun e w' => e = .returned (.string s) ∧ Below b w w' :=
 Tryz.Builder_String_any b b s.data.toList w h (Nat.le_of_lt h.lt)
end Go.Proofs.YtdoolhbmekahdaaGreatDoor
