/- Mr -/
import Derived.Test.YtdoolhbmekahdaaGreatDoorOw
import Derived.Test.YtdoolhbmekahdaaGreatDoorMo
import Derived.Test.YtdoolhbmekahdaaGreatDoorMq
set_option maxRecDepth 100000
set_option maxHeartbeats 4000000
namespace Go.Proofs.YtdoolhbmekahdaaGreatDoor
open Go.ChangeShapes Go.WideShapes Go.ChangeAt Go.RowKit
open Go.ChangeMaps (open_string shut_string)
set_option linter.unusedVariables false
set_option linter.unusedSimpArgs false
theorem machineSeeds_any (word : ByteArray) (a b : Int) (w : World) (hT : Tabs w) (hE : EtAt w) (hN : NmAt w) (h1 : word.size ≤ 9223372036854775807) (a0 : 0 ≤ a) (a1 : a ≤ 255) (b0 : 0 ≤ b) (b1 : b ≤ 255) :
  Calls Tryz.prog 3 #[.string word, .int .u8 a, .int .u8 b] w fun e w' => e = .returned (.bool true) ∧ Below w.heap.size w w' :=
 seeds_any word a b w hT hE hN h1 a0 a1 b0 b1 fun W hT hE hN => Mc.aw28_KN W hT hE hN
theorem machineSeeds_lifted (os : Os) (started : os.Started) (H : Type) (enc : TypeId × Value → H) :
  ReturnsInHanded {} Tryz.checked os 3 .any (fun w args => (Rows.machineSeedsSpec.pre enc Tryz.prog Tryz.f3 [] false w args ∧ laidMetH Tryz.prog Rows.machineSeedsRow.laid w) ∧ sizedMet enc Tryz.prog Tryz.f3 (OpenSpec.ofChange Rows.machineSeedsSpec) false w args)
   (Rows.machineSeedsSpec.post enc Tryz.prog Tryz.f3 false true false false) := by
 refine returnsInHanded_of_change_and (C := Tryz.checked) (X := fun w _ => laidMetH Tryz.prog Rows.machineSeedsRow.laid w) (fun _ _ _ hh h => h.of_heap hh) own started (by kernel_rfl) Tryz.func3
  (ChangeSpec.witness_shaped (enc := enc) (C := Tryz.checked) (os := os) (X := fun w _ => laidMetH Tryz.prog Rows.machineSeedsRow.laid w) false (hw11L os) #[.string ⟨#[]⟩, .int .u8 0, .int .u8 0] 8 (hw11L_os os)
   (World.shaped_of_ZipB (by kernel_rfl) (by kernel_rfl)) (by kernel_rfl) (by kernel_rfl) (by kernel_rfl)
   (hw11L_met os _)) ?_
 intro W base args ds gs before hval0 hW _ _ hL _
 have hval : ∀ (j : Nat) t v, Tryz.f3.params[j]? = some t → args[j]? = some v → Value.okWide Tryz.prog W .any base t v := hval0
 have hW' := hW
 obtain ⟨p, q, hA0, hV, rfl, hfz, hnd⟩ := hW
 have hA : DataW.TrodAll enc Tryz.prog W 0 (fun _ => true) true Tryz.f3.params.toList args.toList ds p := hA0
 rw [Tryz.params3] at hA hval
 obtain ⟨v0, vs0, d0, ds0, p0, q0, hargs, rfl, rfl, h0, r0⟩ := trodAll_cons hA
 obtain ⟨v1, vs1, d1, ds1, p1, q1, rfl, rfl, rfl, h1, r1⟩ := trodAll_cons r0
 obtain ⟨v2, vs2, d2, ds2, p2, q2, rfl, rfl, rfl, h2, r2⟩ := trodAll_cons r1
 obtain ⟨rfl, rfl, rfl⟩ := trodAll_nil r2
 obtain rfl : args = #[v0, v1, v2] := by cases args; simp_all
 obtain ⟨rfl, rfl⟩ := trodVars_none hV
 have k0 := h0
 have lt0 : ∀ x ∈ p0, x.block < W.heap.size := by obtain ⟨m, hm⟩ := k0; exact DataW.trod_lt m _ _ _ hm
 have k1 := h1
 have lt1 : ∀ x ∈ p1, x.block < W.heap.size := by obtain ⟨m, hm⟩ := k1; exact DataW.trod_lt m _ _ _ hm
 have k2 := h2
 have lt2 : ∀ x ∈ p2, x.block < W.heap.size := by obtain ⟨m, hm⟩ := k2; exact DataW.trod_lt m _ _ _ hm
 obtain ⟨a0, rfl, _, _, w0⟩ := open_string Tryz.underlying9 (hval 0 9 v0 rfl rfl) h0
 obtain ⟨a1, rfl, _, _, w1⟩ := open_int Tryz.underlying5 (hval 1 5 v1 rfl rfl) h1
 obtain ⟨a2, rfl, _, _, w2⟩ := open_int Tryz.underlying5 (hval 2 5 v2 rfl rfl) h2
 clear hA0 hval0
 obtain ⟨hT, hE, hN⟩ := laid11_of hL
 refine (machineSeeds_any a0 a1 a2 W hT hE hN (by unfold maxLen at w0; omega) (bounds_u8 w1).1 (bounds_u8 w1).2 (bounds_u8 w2).1 (bounds_u8 w2).2).mono fun e W' ⟨he, bel⟩ => ?_
 subst he
 exact ⟨_, rfl, _, _, _, [], _, [], hW', trodAll_mk1 (shut_bool Tryz.underlying4 _), (trodAll_cons_mk (Below.trod laidOut (by kernel_rfl) (of_decide_eq_true (by kernel_rfl)) k0 bel lt0) (trodAll_cons_mk (Below.trod laidOut (by kernel_rfl) (of_decide_eq_true (by kernel_rfl)) k1 bel lt1) (trodAll_cons_mk (Below.trod laidOut (by kernel_rfl) (of_decide_eq_true (by kernel_rfl)) k2 bel lt2) trodAll_mk0))), rfl, bel.frame _, fun h => by cases h⟩
theorem machineSeeds_la : laidOutB Tryz.prog = true := by kernel_rfl
theorem machineSeeds_ma : mapsRowed Tryz.prog = true := by kernel_rfl
theorem machineSeeds_inp : Tryz.prog.inPlace 3 = Rows.machineSeedsRow.inPlace := by kernel_rfl
theorem machineSeeds_unf : Tryz.prog.unfollowed 3 = Rows.machineSeedsRow.unfollowed := by kernel_rfl
theorem machineSeeds_nam : Tryz.prog.varsNamed 3 = Rows.machineSeedsRow.named := by kernel_rfl
theorem machineSeeds_rec : Tryz.prog.recurses 3 = Rows.machineSeedsRow.recurses := by
 first
 | (unfold Program.recurses; rw [machineSeeds_unf]; rfl)
 | (rw [norec 3 (by decide), machineSeeds_unf]; rfl)
theorem machineSeeds_gf : Tryz.prog.funcs.any Func.goes = false := by kernel_rfl
theorem machineSeeds_fn : Tryz.prog.funcNamed "sapwood/sapwoodlaw28.MachineSeeds" = some 3 := by kernel_rfl
theorem machineSeeds_goes : false = Rows.machineSeedsRow.goesBy Tryz.prog := by
 have h : ∀ f, Tryz.prog.goes f = false := fun f => by
  unfold Program.goes
  rw [machineSeeds_gf, Bool.and_false, Bool.or_false, List.any_eq_false]
  intro g _
  cases hg : Tryz.prog.funcs[g]? with
  | none => simp
  | some fn =>
   have := Array.any_eq_false.1 machineSeeds_gf
   obtain ⟨hi, rfl⟩ := Array.getElem?_eq_some_iff.1 hg
   simpa using this g hi
 show false = ((Tryz.prog.funcNamed Rows.machineSeedsRow.func).any Tryz.prog.goes || false)
 cases Tryz.prog.funcNamed Rows.machineSeedsRow.func with
 | none => rfl
 | some f => simp [h]
theorem machineSeeds_closed : joinedFacts Tryz.prog 3 Tryz.f3 (Rows.machineSeedsSpec) Rows.machineSeedsRow = true := by
 unfold joinedFacts
 rw [may_enter, make_is, lifts_is, machineSeeds_rec, machineSeeds_la, machineSeeds_ma, machineSeeds_inp, machineSeeds_unf, machineSeeds_nam]
 kernel_rfl
theorem machineSeeds_said : Rows.MachineSeedsSaid :=
 OpenClaim.holds_of_wide 3 Tryz.f3 rfl rfl rfl rfl rfl rfl rfl ⟨rfl, rfl, rfl, rfl, rfl⟩ rfl rfl rfl rfl rfl (by kernel_rfl) Tryz.func3 (by first | exact machineSeeds_closed | kernel_rfl)
  (of_decide_eq_true (by kernel_rfl)) (by unfold Func.isWrapper; first | (rw [if_pos (by decide +kernel)]; kernel_rfl) | (rw [if_neg (by decide +kernel)]; exact ⟨rfl, rfl⟩))
  (fun os started H enc _ => machineSeeds_lifted os started H enc)
end Go.Proofs.YtdoolhbmekahdaaGreatDoor
