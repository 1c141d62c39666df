/- L11 -/
import Derived.Test.YtdoolhbmekahdaaGreatDoorR11
import Derived.Test.YtdoolhbmekahdaaGreatDoorOw
import Derived.Test.YtdoolhbmekahdaaGreatDoorR9
import Derived.Deep.RegionHeld3
set_option maxRecDepth 100000
set_option maxHeartbeats 4000000
namespace Go.Proofs.YtdoolhbmekahdaaGreatDoor
open Go.RowKit
set_option linter.unusedVariables false
set_option linter.unusedSimpArgs false
end Go.Proofs.YtdoolhbmekahdaaGreatDoor
namespace Go.Proofs.YtdoolhbmekahdaaGreatDoor
open Go.RowKit
set_option linter.unusedVariables false
set_option linter.unusedSimpArgs false
theorem Awake10_any (aw : ∀ W : World, Tabs W → Calls Tryz.prog 418 #[] W fun e w' => e = .returned (.bool true) ∧ Below W.heap.size W w') (w : World) (hT : Tabs w) :
  Calls Tryz.prog 416 #[] w fun e w' => e = .returned (.bool true) ∧ Below w.heap.size w w' := by
 have hG := Grew.refl w
 go_enter Tryz.func416, Tryz.ntmps416
 go_wp2_with fail
 (refine (aw _ hT).mono ?_; rintro e w1 ⟨rfl, hb⟩; replace hG : Below w.heap.size w w1 := Grew.trans (by exact grew_auto) hb; clear hb)
 go_wp2
 go_ret
 exact ⟨rfl, by exact grew_auto⟩
end Go.Proofs.YtdoolhbmekahdaaGreatDoor
namespace Go.Proofs.YtdoolhbmekahdaaGreatDoor
open Go.RowKit
set_option linter.unusedVariables false
set_option linter.unusedSimpArgs false
end Go.Proofs.YtdoolhbmekahdaaGreatDoor
namespace Go.Proofs.YtdoolhbmekahdaaGreatDoor
open Go.RowKit
set_option linter.unusedVariables false
set_option linter.unusedSimpArgs false
end Go.Proofs.YtdoolhbmekahdaaGreatDoor
namespace Go.Proofs.YtdoolhbmekahdaaGreatDoor
open Go.RowKit
set_option linter.unusedVariables false
set_option linter.unusedSimpArgs false
theorem w64 (x : Nat) (h : x ≤ 1048576) : wrap64 (x : Int) = (x : Int) := by unfold wrap64; omega
theorem made_ints (n : Nat) : madeCells (Value.int .i64 0).cells n = ints .i64 n nought := by
 have hc : (Value.int .i64 0).cells = #[Value.int .i64 0] := rfl
 unfold madeCells ints
 rw [hc]
 apply Array.ext (by simp)
 intro i h1 h2
 simp [Nat.mod_one, nought]
@[go_sem high] theorem make_seen (w : World) : (Instr.makeSlice 44 (.int .i64 1024) (.int .i64 1024)).run Tryz.prog w = .ok (.slice (some ⟨w.heap.size, 0, none⟩) 1024 1024) (w.alloc (.cells (ints .i64 1024 nought) 3)) := by
 obtain ⟨i, hi, hz, hs, hb⟩ : ∃ i, Tryz.prog.info? 3 = some i ∧ i.zero = some (.int .i64 0) ∧ i.size = 1 ∧ i.bytes = 8 := ⟨(Tryz.prog.info? 3).get (by kernel_rfl), by kernel_rfl, by kernel_rfl, by kernel_rfl, by kernel_rfl⟩
 have h := run_make (P := Tryz.prog) w 44 3 i _ Tryz.underlying44 hi hz .i64 .i64 1024 1024 (by decide) (by decide) (by rw [hb]; decide) (by decide)
 rw [hs, made_ints] at h
 exact h
theorem NdsAt.cells {w : World} {oa : Option Addr} {L : List Nd} {k : Nat} {u : Nd} (h : NdsAt w oa L) (hu : L[k]? = some u) : ∃ g o, oa = some ⟨g, o, none⟩ ∧ g < w.heap.size ∧ cellOf (objAt w g) (o + k * 2) = some (.int .i64 u.f) ∧ cellOf (objAt w g) (o + k * 2 + 1) = some (.int .i64 u.s) := by
 rcases h with h0 | ⟨g, o, rfl, hg, hl⟩
 ·subst h0; simp at hu
 ·obtain ⟨l1, l2⟩ := hl k u hu
  rw [Nat.mul_comm] at l1 l2
  exact ⟨g, o, rfl, hg, l1, l2⟩
end Go.Proofs.YtdoolhbmekahdaaGreatDoor
namespace Go.Proofs.YtdoolhbmekahdaaGreatDoor
open Go.RowKit
set_option linter.unusedVariables false
set_option linter.unusedSimpArgs false
theorem NdsAt.drop {w : World} {g o : Nat} {L : List Nd} (h : NdsAt w (some ⟨g, o, none⟩) L) (i : Nat) : NdsAt w (some ⟨g, o + i * 2, none⟩) (L.drop i) := by
 rcases h with h | ⟨g', o', e, hg, hl⟩
 ·exact .inl (by rw [h]; exact List.drop_nil)
 ·cases e
  refine .inr ⟨g, _, rfl, hg, fun k v hv => ?_⟩
  rw [List.getElem?_drop] at hv
  obtain ⟨l1, l2⟩ := hl _ _ hv
  rw [show o + i * 2 + 2 * k = o + 2 * (i + k) by omega]
  exact ⟨l1, l2⟩
end Go.Proofs.YtdoolhbmekahdaaGreatDoor
