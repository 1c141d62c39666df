/- M11 -/
import Derived.Test.YtnjghcnhcbobhaaGreatDoorR11
import Derived.Test.YtnjghcnhcbobhaaGreatDoorL11
namespace Go.Proofs.YtnjghcnhcbobhaaGreatDoor
open Go.RowKit
set_option linter.unusedVariables false
set_option linter.unusedSimpArgs false
theorem idx_at (v : Nd) : ∀ (L : List Nd) (i k : Nat), L.Nodup → L[k]? = some v → idxN v.f v.s L i = ((i + k : Nat) : Int)
 | [], i, k, _, h => by simp at h
 | u :: L, i, 0, _, h => by
  simp at h
  subst h
  rw [idxN, if_pos ⟨rfl, rfl⟩]
  simp
 | u :: L, i, k + 1, hn, h => by
  have hn' := List.nodup_cons.1 hn
  have h' : L[k]? = some v := by simpa using h
  have hm : v ∈ L := List.mem_of_getElem? h'
  have hne : ¬ (u.f = v.f ∧ u.s = v.s) := fun e => hn'.1 (by
   have : u = v := by cases u; cases v; simp_all
   rw [this]; exact hm)
  rw [idxN, if_neg hne, idx_at v L (i + 1) k hn'.2 h']
  congr 1
  omega
theorem path_nodup (n j : Nat) (h0 : 1 ≤ n) (h : j < n) : (pathN n j).Nodup := by
 rw [← path_filter n j h0 h]
 exact List.Nodup.sublist List.filter_sublist (List.pairwise_reverse.2 ((below_nodup 0 n h0).imp fun h => h.symm))
end Go.Proofs.YtnjghcnhcbobhaaGreatDoor
namespace Go.Proofs.YtnjghcnhcbobhaaGreatDoor
open Go.RowKit
set_option linter.unusedVariables false
set_option linter.unusedSimpArgs false
theorem w64 (x : Nat) (h : x ≤ 1048576) : wrap64 (x : Int) = (x : Int) := by unfold wrap64; omega
theorem NdsAt.cells {w : World} {oa : Option Addr} {L : List Nd} {k : Nat} {u : Nd} (h : NdsAt w oa L) (hu : L[k]? = some u) : ∃ g o, oa = some ⟨g, o, none⟩ ∧ g < w.heap.size ∧ cellOf (objAt w g) (o + k * 2) = some (.int .i64 u.f) ∧ cellOf (objAt w g) (o + k * 2 + 1) = some (.int .i64 u.s) := by
 rcases h with h0 | ⟨g, o, rfl, hg, hl⟩
 ·subst h0; simp at hu
 ·obtain ⟨l1, l2⟩ := hl k u hu
  rw [Nat.mul_comm] at l1 l2
  exact ⟨g, o, rfl, hg, l1, l2⟩
end Go.Proofs.YtnjghcnhcbobhaaGreatDoor
namespace Go.Proofs.YtnjghcnhcbobhaaGreatDoor
open Go.RowKit
set_option linter.unusedVariables false
set_option linter.unusedSimpArgs false
def RetNdsC (w : World) (L : List Nd) (e : Ending) (w' : World) : Prop := ∃ oa c, e = .returned (.slice oa L.length c) ∧ L.length ≤ c ∧ NdsAt w' oa L ∧ Below w.heap.size w w'
theorem NdsAt.drop {w : World} {g o : Nat} {L : List Nd} (h : NdsAt w (some ⟨g, o, none⟩) L) (i : Nat) : NdsAt w (some ⟨g, o + i * 2, none⟩) (L.drop i) := by
 rcases h with h | ⟨g', o', e, hg, hl⟩
 ·exact .inl (by rw [h]; exact List.drop_nil)
 ·cases e
  refine .inr ⟨g, _, rfl, hg, fun k v hv => ?_⟩
  rw [List.getElem?_drop] at hv
  obtain ⟨l1, l2⟩ := hl _ _ hv
  rw [show o + i * 2 + 2 * k = o + 2 * (i + k) by omega]
  exact ⟨l1, l2⟩
end Go.Proofs.YtnjghcnhcbobhaaGreatDoor
