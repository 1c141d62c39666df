/- Pz -/
import Derived.Test.YthnehnmdcbgjmaaGreatDoorOw
import Derived.Test.YthnehnmdcbgjmaaGreatDoorE15
import Derived.Test.YthnehnmdcbgjmaaGreatDoorXy
set_option maxRecDepth 100000
set_option maxHeartbeats 4000000
namespace Go.Proofs.YthnehnmdcbgjmaaGreatDoor
open Go.ChangeShapes Go.WideShapes Go.ChangeAt Go.RowKit
open Go.ChangeMaps (open_string shut_string)
set_option linter.unusedVariables false
set_option linter.unusedSimpArgs false
set_option maxRecDepth 1000000 in
theorem memberNone_run : Mc.KT 7 := Mc.run_true Mc.aw22_KT.one (by decide +kernel)
theorem memberNone_lifted (os : Os) (started : os.Started) (H : Type) (enc : TypeId × Value → H) :
  ReturnsInHanded {} Tryz.checked os 7 .any (fun w args => (Rows.memberNoneSpec.pre enc Tryz.prog Tryz.f7 [] false w args ∧ laidMetH Tryz.prog Rows.memberNoneRow.laid w) ∧ sizedMet enc Tryz.prog Tryz.f7 (OpenSpec.ofChange Rows.memberNoneSpec) false w args)
   (Rows.memberNoneSpec.post enc Tryz.prog Tryz.f7 false true false false) := by
 refine returnsInHanded_of_change_and (C := Tryz.checked) (X := fun w _ => laidMetH Tryz.prog Rows.memberNoneRow.laid w) (fun _ _ _ hh h => h.of_heap hh) own started (by kernel_rfl) Tryz.func7
  (ChangeSpec.witness_shaped (enc := enc) (C := Tryz.checked) (os := os) (X := fun w _ => laidMetH Tryz.prog Rows.memberNoneRow.laid w) false (hwL os) #[] 8 (hwL_os os)
   (World.shaped_of_ZipB (by kernel_rfl) (by kernel_rfl)) (by kernel_rfl) (by kernel_rfl) (by kernel_rfl)
   (hwL_met os _)) ?_
 intro W base args ds gs before hval0 hW _ _ hL _
 have hval : ∀ (j : Nat) t v, Tryz.f7.params[j]? = some t → args[j]? = some v → Value.okWide Tryz.prog W .any base t v := hval0
 have hW' := hW
 obtain ⟨p, q, hA0, hV, rfl, hfz, hnd⟩ := hW
 have hA : DataW.TrodAll enc Tryz.prog W 0 (fun _ => true) true Tryz.f7.params.toList args.toList ds p := hA0
 rw [Tryz.params7] at hA hval
 obtain ⟨hargs, rfl, rfl⟩ := trodAll_nil hA
 obtain rfl : args = #[] := by cases args; simp_all
 obtain ⟨rfl, rfl⟩ := trodVars_none hV
 clear hA0 hval0
 obtain ⟨hT, hE⟩ := laid3_of hL
 refine (memberNone_run W hT hE).mono fun e W' ⟨he, bel⟩ => ?_
 subst he
 exact ⟨_, rfl, _, _, _, [], _, [], hW', trodAll_mk1 (shut_bool Tryz.underlying4 _), trodAll_mk0, rfl, bel.frame _, fun h => by cases h⟩
theorem memberNone_la : laidOutB Tryz.prog = true := by kernel_rfl
theorem memberNone_ma : mapsRowed Tryz.prog = true := by kernel_rfl
theorem memberNone_inp : Tryz.prog.inPlace 7 = Rows.memberNoneRow.inPlace := by kernel_rfl
theorem memberNone_unf : Tryz.prog.unfollowed 7 = Rows.memberNoneRow.unfollowed := by kernel_rfl
theorem memberNone_nam : Tryz.prog.varsNamed 7 = Rows.memberNoneRow.named := by kernel_rfl
theorem memberNone_rec : Tryz.prog.recurses 7 = Rows.memberNoneRow.recurses := by
 first
 | (unfold Program.recurses; rw [memberNone_unf]; rfl)
 | (rw [norec 7 (by decide), memberNone_unf]; rfl)
theorem memberNone_gf : Tryz.prog.funcs.any Func.goes = false := by kernel_rfl
theorem memberNone_fn : Tryz.prog.funcNamed "sapwood/sapwoodlaw22.MemberNone" = some 7 := by kernel_rfl
theorem memberNone_goes : false = Rows.memberNoneRow.goesBy Tryz.prog := by
 have h : ∀ f, Tryz.prog.goes f = false := fun f => by
  unfold Program.goes
  rw [memberNone_gf, Bool.and_false, Bool.or_false, List.any_eq_false]
  intro g _
  cases hg : Tryz.prog.funcs[g]? with
  | none => simp
  | some fn =>
   have := Array.any_eq_false.1 memberNone_gf
   obtain ⟨hi, rfl⟩ := Array.getElem?_eq_some_iff.1 hg
   simpa using this g hi
 show false = ((Tryz.prog.funcNamed Rows.memberNoneRow.func).any Tryz.prog.goes || false)
 cases Tryz.prog.funcNamed Rows.memberNoneRow.func with
 | none => rfl
 | some f => simp [h]
theorem memberNone_closed : joinedFacts Tryz.prog 7 Tryz.f7 (Rows.memberNoneSpec) Rows.memberNoneRow = true := by
 unfold joinedFacts
 rw [may_enter, make_is, lifts_is, memberNone_rec, memberNone_la, memberNone_ma, memberNone_inp, memberNone_unf, memberNone_nam]
 kernel_rfl
theorem memberNone_said : Rows.MemberNoneSaid :=
 OpenClaim.holds_of_wide 7 Tryz.f7 rfl rfl rfl rfl rfl rfl rfl ⟨rfl, rfl, rfl, rfl, rfl⟩ rfl rfl rfl rfl rfl (by kernel_rfl) Tryz.func7 (by first | exact memberNone_closed | kernel_rfl)
  (of_decide_eq_true (by kernel_rfl)) (by unfold Func.isWrapper; first | (rw [if_pos (by decide +kernel)]; kernel_rfl) | (rw [if_neg (by decide +kernel)]; exact ⟨rfl, rfl⟩))
  (fun os started H enc _ => memberNone_lifted os started H enc)
end Go.Proofs.YthnehnmdcbgjmaaGreatDoor
