/- Qy -/
import Derived.Test.YteadkbgghidibaaGreatDoorQx
import Derived.Test.YteadkbgghidibaaGreatDoorXx
namespace Go.Proofs.YteadkbgghidibaaGreatDoor
namespace Mc
open Go.RowKit
set_option linter.unusedVariables false
set_option linter.unusedSimpArgs false
set_option maxRecDepth 1000000
noncomputable def n7 : Nm := ⟨7, fun _ => false⟩
noncomputable def callS (l : List FuncId) : Caller := runFn Tryz.prog (orBoth (awL l) (orBoth orcY orcs)) (drawR Tryz.prog) 5000 60
theorem callS_ok {w0 : World} (hT : Tabs w0) (hE : EtAt w0) {l : List FuncId} (hl : ∀ f ∈ l, KT f) : CallOk Tryz.prog (From w0) (callS l) :=
 runFn_ok (from_stab w0) (orBoth_ok (awL_ok hT hE hl) (orBoth_ok (orcY_ok hT) (orcs_ok hT hE))) (fun call C hc N => drawR_ok (by kernel_rfl) hc N) 60
noncomputable def litF (f : Nat → Int) : Nat := litN ((List.range 32).map fun j => (f j).toNat)
theorem litF_get {f : Nat → Int} (h : Bytes 32 f) (j : Nat) (hj : j < 32) : ((litF f / 256 ^ j % 256 : Nat) : Int) = f j := by
 unfold litF
 have hb : ∀ b ∈ (List.range 32).map fun j => (f j).toNat, b < 256 := fun b hb => by
  obtain ⟨i, hi, rfl⟩ := List.mem_map.1 hb
  have := h i (List.mem_range.1 hi)
  omega
 have e := litN_get _ hb j
 rw [List.getD_eq_getElem?_getD, List.getElem?_map, List.getElem?_range hj] at e
 have := h j hj
 simp only [Option.map_some, Option.getD_some] at e
 omega
attribute [irreducible] litF
noncomputable def sgK (w : World) (ks : Nat → Nat → Int) : Sg := ⟨fun _ => w.heap.size, fun i => litF (ks i)⟩
theorem keyS_at (w : World) (ks : Nat → Nat → Int) (i : Nat) (hi : i < 7) (h : Bytes 32 (ks i)) : (keyS (.key i)).den (sgK w ks) = .agg (ints .u8 32 (ks i)) := by
 have e : ints .u8 32 (kV (sgK w ks).k (.key i)) = ints .u8 32 (ks i) := ints_congr fun j hj => by
  have e1 : (sgK w ks).k i = litF (ks i) := by simp only [sgK]
  rw [kV_key, Nat.mod_eq_of_lt hi, e1]
  have e2 := litF_get h j hj
  rw [e2]
 rw [keyS_den, e]
theorem run_keys {l : List FuncId} {f : FuncId} {xs : List A} (hl : ∀ f ∈ l, KT f) (h : isT (callS l (.f f) xs .l n7) = true) (hx : xs.all (A.lt n7 dp) = true) (ks : Nat → Nat → Int) {w : World} (hT : Tabs w) (hE : EtAt w) :
  Calls Tryz.prog f (xs.map (A.den (sgK w ks))).toArray w fun e w' => e = .returned (.bool true) ∧ Below w.heap.size w w' := by
 cases hr : callS l (.f f) xs .l n7 with
 | none => rw [hr] at h; cases h
 | some r =>
  rw [hr] at h
  obtain ⟨a, H, n⟩ := r
  unfold isT at h
  split at h
  ·rename_i ob b e
   cases e
   subst h
   have hn : ∀ {k o}, (Tr.l : Tr O).get k = some o → False := fun {k o} h => by rw [Tr.get_l] at h; cases h
   have hI : Inv Tryz.prog (sgK w ks) w .l n7 := ⟨fun k o hk => (hn hk).elim, fun k o hk => (hn hk).elim, fun j k o o' hj => (hn hj).elim, fun _ _ => rfl⟩
   refine Calls.mono (callS_ok hT hE hl (.f f) xs .l n7 _ hr hx (sgK w ks) w ⟨Below.refl _ _, fun k hk => Nat.le_refl _⟩ hI) ?_
   rintro e w' ⟨s', rfl, k⟩
   exact ⟨by simp only [A.den], k.below (Nat.le_refl _) fun j o hj => (hn hj).elim⟩
  ·cases h
end Mc
end Go.Proofs.YteadkbgghidibaaGreatDoor
