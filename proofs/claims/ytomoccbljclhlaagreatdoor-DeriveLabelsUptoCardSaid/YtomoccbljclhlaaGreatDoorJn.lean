/- Jn: Jn -/
import Derived.Test.YtomoccbljclhlaaGreatDoorTb
import Derived.Test.YtomoccbljclhlaaGreatDoorSa
import Derived.SliceStrings
import Derived.Deep.DeepHandedRow
namespace Go.Proofs.YtomoccbljclhlaaGreatDoor
open Go.ChangeShapes Go.WideShapes Go.ChangeAt Go.RowKit
set_option linter.unusedVariables false
set_option linter.unusedSimpArgs false
theorem bulk_append {H : Type} (l r : List (DataW H)) : Rows.uptoBulkAll (l ++ r) = Rows.uptoBulkAll l + Rows.uptoBulkAll r := by
  induction l with
  | nil => simp [Rows.uptoBulkAll]
  | cons x l ih => simp only [List.cons_append, Rows.uptoBulkAll, ih]; omega
theorem bulk_strs {H : Type} (ss : List ByteArray) : ∀ k, k ≤ ss.length → (catS (fun i => ss.getD i ByteArray.empty) k).size + k ≤ Rows.uptoBulkAll (strs (H := H) (ss.take k))
  | 0, _ => by simp [catS]
  | k + 1, hk => by
    have ih := bulk_strs (H := H) ss k (by omega)
    have e : ss.take (k + 1) = ss.take k ++ [ss[k]'(by omega)] := by rw [List.take_add_one, List.getElem?_eq_getElem (by omega)]; rfl
    have e2 : strs (H := H) (ss.take (k + 1)) = strs (ss.take k) ++ strs [ss[k]'(by omega)] := by rw [e]; unfold strs; rw [List.map_append]
    rw [e2, bulk_append]
    have e3 : Rows.uptoBulkAll (strs (H := H) [ss[k]'(by omega)]) = (ss[k]'(by omega)).size + 1 := by
      simp only [strs, List.map_cons, List.map_nil, Rows.uptoBulkAll, Rows.uptoBulk, Array.length_toList, Nat.add_zero]
      rfl
    have e4 : ss.getD k ByteArray.empty = ss[k]'(by omega) := by rw [List.getD_eq_getElem?_getD, List.getElem?_eq_getElem (by omega)]; rfl
    show (catS (fun i => ss.getD i ByteArray.empty) k ++ ss.getD k ByteArray.empty).size + (k + 1) ≤ _
    rw [ByteArray.size_append, e3, e4]
    omega
set_option maxRecDepth 100000 in
theorem open_strs {H : Type} {enc : TypeId × Value → H} {W : World} {held : Bool} {r : Reach} {b0 : Nat} {v : Value} {d : DataW H} {ps : List MemPlace}
    (hval : Value.okWide Tryz.prog W r b0 32 v) (hd : DataW.Trod enc Tryz.prog W 0 (fun _ => true) held 32 v d ps) :
    ∃ (oa : Option Addr) (n c : Nat) (F : Nat → ByteArray), v = .slice oa n c ∧ (n ≤ c ∧ c ≤ maxLen ∧ (catS F n).size + n ≤ Rows.uptoBulk d) ∧ StrsAt W oa n F := by
  obtain ⟨fuel, hf⟩ := hd
  obtain ⟨oa0, n0, c0, rfl⟩ := slice_of_okWide Tryz.underlying32 hval
  rcases open_strings Tryz.underlying32 Tryz.underlying9 (by kernel_rfl) hf with ⟨hcs, hx⟩ | ⟨a, len, cap, ss, hcs, _, hlc, hcm, hss, hx, hel, _⟩
  · have hv : Value.slice oa0 n0 c0 = .slice none 0 0 := by simpa [Value.cells] using hcs
    cases hv
    exact ⟨none, 0, 0, fun _ => ByteArray.empty, rfl, ⟨Nat.le_refl _, Nat.zero_le _, by simp [catS]⟩, .inl rfl⟩
  · have hv : Value.slice oa0 n0 c0 = .slice (some a) len cap := by simpa [Value.cells] using hcs
    cases hv
    simp only [if_true] at hss
    refine ⟨some a, n0, c0, fun i => ss.getD i ByteArray.empty, rfl, ⟨hlc, hcm, ?_⟩, .inr ⟨a, rfl, fun w' hb j hj => ?_⟩⟩
    · have h1 := bulk_strs (H := H) ss n0 (by omega)
      cases hx
      simp only [Rows.uptoBulk]
      omega
    · have h1 := hel j (by omega)
      rw [hb.cell (cell_lt h1)]
      exact h1
theorem cat_list (F : Nat → ByteArray) : ∀ n, (catS F n).data.toList = ((List.range n).map fun j => (F j).data.toList).flatten
  | 0 => rfl
  | n + 1 => by
    show (catS F n ++ F n).data.toList = _
    rw [ByteArray.toList_data_append, cat_list F n, List.range_succ, List.map_append, List.flatten_append]
    simp
theorem join_flat : ∀ l : List (List UInt8), Lib.join l [] = l.flatten
  | [] => rfl
  | [x] => by simp [Lib.join, List.intercalate]
  | x :: y :: r => by
    have ih := join_flat (y :: r)
    unfold Lib.join at ih ⊢
    have e : ([] : List UInt8).intercalate (x :: y :: r) = x ++ ([] : List UInt8).intercalate (y :: r) := by simp [List.intercalate]
    rw [e, ih]
    simp
theorem join_cat (F : Nat → ByteArray) (n : Nat) : Lib.join (((List.range (n + 1)).map F).map (·.data.toList)) [] = (catS F (n + 1)).data.toList := by
  rw [join_flat, cat_list, List.map_map]
  rfl
set_option maxRecDepth 100000 in
theorem join_any (oa : Option Addr) (n c : Nat) (F : Nat → ByteArray) (W : World) (hS : StrsAt W oa n F) (hc : n ≤ c) (hl : (catS F n).size + n ≤ 140737488355328) :
    Calls Tryz.prog 16 #[.slice oa n c, .string ⟨#[]⟩] W fun e w' => e = .returned (.string (catS F n)) ∧ Below W.heap.size W w' := by
  cases n with
  | zero =>
    refine (Tryz.strings_Join_none oa c ⟨#[]⟩ W).mono ?_
    rintro e w' ⟨rfl, rfl⟩
    exact ⟨rfl, Grew.refl _⟩
  | succ n =>
    rcases hS with h | ⟨ad, rfl, hcell⟩
    · omega
    · have h0 := hcell W (Grew.refl W) 0 (by omega)
      have hspot : ad.spot = none := by
        have e : ad.add 0 = ad := by simp [Addr.add]
        rw [e] at h0
        unfold World.cell? at h0
        split at h0
        · split at h0
          · cases h0
          · rename_i hs
            cases hx : ad.spot with
            | none => rfl
            | some z => rw [hx] at hs; simp at hs
        · cases h0
      obtain ⟨bk, o, sp⟩ := ad
      simp only at hspot
      subst hspot
      have hlen : ((List.range (n + 1)).map F).length = n + 1 := by simp
      have hj := Tryz.strings_Join bk o c ((List.range (n + 1)).map F) ⟨#[]⟩ W (fun j x hx => by
        rw [List.getElem?_map] at hx
        have hjn : j < n + 1 := by
          rcases Nat.lt_or_ge j (n + 1) with h | h
          · exact h
          · rw [List.getElem?_eq_none (by simpa using h)] at hx; cases hx
        rw [List.getElem?_range hjn] at hx
        obtain rfl := Option.some.inj hx
        have := hcell W (Grew.refl W) j hjn
        have e : (⟨bk, o, none⟩ : Addr).add j = ⟨bk, o + j, none⟩ := by unfold Addr.add; split <;> simp_all
        rw [e] at this
        exact this) (by
        have := cell_lt h0
        have e : (⟨bk, o, none⟩ : Addr).add 0 = ⟨bk, o, none⟩ := by simp [Addr.add]
        rw [e] at this
        exact this) (by omega) (by omega) (by
        have e : (Lib.join (((List.range (n + 1)).map F).map (·.data.toList)) []).length = (catS F (n + 1)).size := by rw [join_cat]; exact Array.length_toList
        show (Lib.join (((List.range (n + 1)).map F).map (·.data.toList)) []).length ≤ _
        omega)
      rw [hlen] at hj
      refine hj.mono ?_
      rintro e w' ⟨rfl, hb⟩
      refine ⟨?_, hb⟩
      have e : (Lib.join (((List.range (n + 1)).map F).map (·.data.toList)) (⟨#[]⟩ : ByteArray).data.toList) = (catS F (n + 1)).data.toList := join_cat F n
      rw [e]
end Go.Proofs.YtomoccbljclhlaaGreatDoor
