/- Jn -/
import Derived.Test.YtnjghcnhcbobhaaGreatDoorTb
import Derived.Test.YtnjghcnhcbobhaaGreatDoorSa
import Derived.SliceStrings
import Derived.Deep.DeepHandedRow
set_option maxRecDepth 100000
set_option maxHeartbeats 4000000
namespace Go.Proofs.YtnjghcnhcbobhaaGreatDoor
open Go.ChangeShapes Go.WideShapes Go.ChangeAt Go.RowKit
set_option linter.unusedVariables false
set_option linter.unusedSimpArgs false
theorem cat_list (F : Nat → ByteArray) : ∀ n, (catS F n).data.toList = ((List.range n).map fun j => (F j).data.toList).flatten
 | 0 => rfl
 | n + 1 => by
  show (catS F n ++ F n).data.toList = _
  rw [ByteArray.toList_data_append, cat_list F n, List.range_succ, List.map_append, List.flatten_append]
  simp
theorem join_flat : ∀ l : List (List UInt8), Lib.join l [] = l.flatten
 | [] => rfl
 | [x] => by simp [Lib.join, List.intercalate]
 | x :: y :: r => by
  have ih := join_flat (y :: r)
  unfold Lib.join at ih ⊢
  have e : ([] : List UInt8).intercalate (x :: y :: r) = x ++ ([] : List UInt8).intercalate (y :: r) := by simp [List.intercalate]
  rw [e, ih]
  simp
theorem join_cat (F : Nat → ByteArray) (n : Nat) : Lib.join (((List.range (n + 1)).map F).map (·.data.toList)) [] = (catS F (n + 1)).data.toList := by
 rw [join_flat, cat_list, List.map_map]
 rfl
theorem join_any (oa : Option Addr) (n c : Nat) (F : Nat → ByteArray) (W : World) (hS : StrsAt W oa n F) (hc : n ≤ c) (hl : (catS F n).size + n ≤ 140737488355328) :
  Calls Tryz.prog 91 #[.slice oa n c, .string ⟨#[]⟩] W fun e w' => e = .returned (.string (catS F n)) ∧ Below W.heap.size W w' := by
 cases n with
 | zero =>
  refine (Tryz.strings_Join_none oa c ⟨#[]⟩ W).mono ?_
  rintro e w' ⟨rfl, rfl⟩
  exact ⟨rfl, Grew.refl _⟩
 | succ n =>
  rcases hS with h | ⟨ad, rfl, hcell⟩
  ·omega
  ·have h0 := hcell W (Grew.refl W) 0 (by omega)
   have hspot : ad.spot = none := by
    have e : ad.add 0 = ad := by simp [Addr.add]
    rw [e] at h0
    unfold World.cell? at h0
    split at h0
    ·split at h0
     ·cases h0
     ·rename_i hs
      cases hx : ad.spot with
      | none => rfl
      | some z => rw [hx] at hs; simp at hs
    ·cases h0
   obtain ⟨bk, o, sp⟩ := ad
   simp only at hspot
   subst hspot
   have hlen : ((List.range (n + 1)).map F).length = n + 1 := by simp
   have hj := Tryz.strings_Join bk o c ((List.range (n + 1)).map F) ⟨#[]⟩ W (fun j x hx => by
    rw [List.getElem?_map] at hx
    have hjn : j < n + 1 := by
     rcases Nat.lt_or_ge j (n + 1) with h | h
     ·exact h
     ·rw [List.getElem?_eq_none (by simpa using h)] at hx; cases hx
    rw [List.getElem?_range hjn] at hx
    obtain rfl := Option.some.inj hx
    have := hcell W (Grew.refl W) j hjn
    have e : (⟨bk, o, none⟩ : Addr).add j = ⟨bk, o + j, none⟩ := by unfold Addr.add; split <;> simp_all
    rw [e] at this
    exact this) (by
    have := cell_lt h0
    have e : (⟨bk, o, none⟩ : Addr).add 0 = ⟨bk, o, none⟩ := by simp [Addr.add]
    rw [e] at this
    exact this) (by omega) (by omega) (by
    have e : (Lib.join (((List.range (n + 1)).map F).map (·.data.toList)) []).length = (catS F (n + 1)).size := by rw [join_cat]; exact Array.length_toList
    show (Lib.join (((List.range (n + 1)).map F).map (·.data.toList)) []).length ≤ _
    omega)
   rw [hlen] at hj
   refine hj.mono ?_
   rintro e w' ⟨rfl, hb⟩
   refine ⟨?_, hb⟩
   have e : (Lib.join (((List.range (n + 1)).map F).map (·.data.toList)) (⟨#[]⟩ : ByteArray).data.toList) = (catS F (n + 1)).data.toList := join_cat F n
   rw [e]
end Go.Proofs.YtnjghcnhcbobhaaGreatDoor
