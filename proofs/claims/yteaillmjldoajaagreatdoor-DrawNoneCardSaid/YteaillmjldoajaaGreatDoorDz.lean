/- Dz -/
import Derived.Test.YteaillmjldoajaaGreatDoorOw
import Derived.Test.YteaillmjldoajaaGreatDoorE15
import Derived.Test.YteaillmjldoajaaGreatDoorXt
set_option maxRecDepth 100000
set_option maxHeartbeats 4000000
namespace Go.Proofs.YteaillmjldoajaaGreatDoor
open Go.ChangeShapes Go.WideShapes Go.ChangeAt Go.RowKit
open Go.ChangeMaps (open_string shut_string)
set_option linter.unusedVariables false
set_option linter.unusedSimpArgs false
set_option maxRecDepth 1000000 in
theorem drawNone_run : Mc.KT 4 := Mc.run_true Mc.aw24_KT.one (by decide +kernel)
theorem drawNone_lifted (os : Os) (started : os.Started) (H : Type) (enc : TypeId × Value → H) :
  ReturnsInHanded {} Tryz.checked os 4 .any (fun w args => (Rows.drawNoneSpec.pre enc Tryz.prog Tryz.f4 [] false w args ∧ laidMetH Tryz.prog Rows.drawNoneRow.laid w) ∧ sizedMet enc Tryz.prog Tryz.f4 (OpenSpec.ofChange Rows.drawNoneSpec) false w args)
   (Rows.drawNoneSpec.post enc Tryz.prog Tryz.f4 false true false false) := by
 refine returnsInHanded_of_change_and (C := Tryz.checked) (X := fun w _ => laidMetH Tryz.prog Rows.drawNoneRow.laid w) (fun _ _ _ hh h => h.of_heap hh) own started (by kernel_rfl) Tryz.func4
  (ChangeSpec.witness_shaped (enc := enc) (C := Tryz.checked) (os := os) (X := fun w _ => laidMetH Tryz.prog Rows.drawNoneRow.laid w) false (hw6L os) #[] 8 (hw6L_os os)
   (World.shaped_of_ZipB (by kernel_rfl) (by kernel_rfl)) (by kernel_rfl) (by kernel_rfl) (by kernel_rfl)
   (hw6L_met os _)) ?_
 intro W base args ds gs before hval0 hW _ _ hL _
 have hval : ∀ (j : Nat) t v, Tryz.f4.params[j]? = some t → args[j]? = some v → Value.okWide Tryz.prog W .any base t v := hval0
 have hW' := hW
 obtain ⟨p, q, hA0, hV, rfl, hfz, hnd⟩ := hW
 have hA : DataW.TrodAll enc Tryz.prog W 0 (fun _ => true) true Tryz.f4.params.toList args.toList ds p := hA0
 rw [Tryz.params4] at hA hval
 obtain ⟨hargs, rfl, rfl⟩ := trodAll_nil hA
 obtain rfl : args = #[] := by cases args; simp_all
 obtain ⟨rfl, rfl⟩ := trodVars_none hV
 clear hA0 hval0
 obtain ⟨hT, hE⟩ := laid6_of hL
 refine (drawNone_run W hT hE).mono fun e W' ⟨he, bel⟩ => ?_
 subst he
 exact ⟨_, rfl, _, _, _, [], _, [], hW', trodAll_mk1 (shut_bool Tryz.underlying4 _), trodAll_mk0, rfl, bel.frame _, fun h => by cases h⟩
theorem drawNone_la : laidOutB Tryz.prog = true := by kernel_rfl
theorem drawNone_ma : mapsRowed Tryz.prog = true := by kernel_rfl
theorem drawNone_inp : Tryz.prog.inPlace 4 = Rows.drawNoneRow.inPlace := by kernel_rfl
theorem drawNone_unf : Tryz.prog.unfollowed 4 = Rows.drawNoneRow.unfollowed := by kernel_rfl
theorem drawNone_nam : Tryz.prog.varsNamed 4 = Rows.drawNoneRow.named := by kernel_rfl
theorem drawNone_rec : Tryz.prog.recurses 4 = Rows.drawNoneRow.recurses := by
 first
 | (unfold Program.recurses; rw [drawNone_unf]; rfl)
 | (rw [norec 4 (by decide), drawNone_unf]; rfl)
theorem drawNone_gf : Tryz.prog.funcs.any Func.goes = false := by kernel_rfl
theorem drawNone_fn : Tryz.prog.funcNamed "sapwood/sapwoodlaw24.DrawNone" = some 4 := by kernel_rfl
theorem drawNone_goes : false = Rows.drawNoneRow.goesBy Tryz.prog := by
 have h : ∀ f, Tryz.prog.goes f = false := fun f => by
  unfold Program.goes
  rw [drawNone_gf, Bool.and_false, Bool.or_false, List.any_eq_false]
  intro g _
  cases hg : Tryz.prog.funcs[g]? with
  | none => simp
  | some fn =>
   have := Array.any_eq_false.1 drawNone_gf
   obtain ⟨hi, rfl⟩ := Array.getElem?_eq_some_iff.1 hg
   simpa using this g hi
 show false = ((Tryz.prog.funcNamed Rows.drawNoneRow.func).any Tryz.prog.goes || false)
 cases Tryz.prog.funcNamed Rows.drawNoneRow.func with
 | none => rfl
 | some f => simp [h]
theorem drawNone_closed : joinedFacts Tryz.prog 4 Tryz.f4 (Rows.drawNoneSpec) Rows.drawNoneRow = true := by
 unfold joinedFacts
 rw [may_enter, make_is, lifts_is, drawNone_rec, drawNone_la, drawNone_ma, drawNone_inp, drawNone_unf, drawNone_nam]
 kernel_rfl
theorem drawNone_said : Rows.DrawNoneSaid :=
 OpenClaim.holds_of_wide 4 Tryz.f4 rfl rfl rfl rfl rfl rfl rfl ⟨rfl, rfl, rfl, rfl, rfl⟩ rfl rfl rfl rfl rfl (by kernel_rfl) Tryz.func4 (by first | exact drawNone_closed | kernel_rfl)
  (of_decide_eq_true (by kernel_rfl)) (by unfold Func.isWrapper; first | (rw [if_pos (by decide +kernel)]; kernel_rfl) | (rw [if_neg (by decide +kernel)]; exact ⟨rfl, rfl⟩))
  (fun os started H enc _ => drawNone_lifted os started H enc)
end Go.Proofs.YteaillmjldoajaaGreatDoor
