/- Zg -/
import Derived.Test.YtnnnljcnnapnnaaGreatDoorOw
import Derived.Test.YtnnnljcnnapnnaaGreatDoorE15
import Derived.Test.YtnnnljcnnapnnaaGreatDoorZe
set_option linter.unusedVariables false
set_option linter.unusedSimpArgs false
set_option maxRecDepth 100000
set_option maxHeartbeats 4000000
namespace Go.Proofs.YtnnnljcnnapnnaaGreatDoor
open Go.ChangeShapes Go.WideShapes Go.ChangeAt Go.RowKit
open Go.ChangeMaps (open_string shut_string)
set_option maxRecDepth 1000000 in
theorem zql : Mc.KT 5 := Mc.run_trueG Mc.aw26_KT.one (by decide +kernel)
theorem groupNone_lifted (os : Os) (started : os.Started) (H : Type) (enc : TypeId × Value -> H) :
  ReturnsInHanded {} Tryz.checked os 5 .any (fun w args => (Rows.groupNoneSpec.pre enc Tryz.prog Tryz.f5 [] false w args /\ laidMetH Tryz.prog Rows.groupNoneRow.laid w) /\ sizedMet enc Tryz.prog Tryz.f5 (OpenSpec.ofChange Rows.groupNoneSpec) false w args)
   (Rows.groupNoneSpec.post enc Tryz.prog Tryz.f5 false true false false) := by
 refine returnsInHanded_of_change_and (C := Tryz.checked) (X := fun w _ => laidMetH Tryz.prog Rows.groupNoneRow.laid w) (fun _ _ _ hh h => h.of_heap hh) own started zqa Tryz.func5
  (ChangeSpec.witness_shaped (enc := enc) (C := Tryz.checked) (os := os) (X := fun w _ => laidMetH Tryz.prog Rows.groupNoneRow.laid w) false (hw6L os) #[] 8 (zqat os)
   (World.shaped_of_ZipB zqa zqa) zqa zqa zqa
   (zqai os _)) ?_
 intro W base args ds gs before hval0 hW _ _ hL _;have hval : ∀ (j : Nat) t v, Tryz.f5.params[j]? = some t -> args[j]? = some v -> Value.okWide Tryz.prog W .any base t v := hval0;have hW' := hW;obtain ⟨p, q, hA0, hV, rfl, hfz, hnd⟩ := hW;have hA : DataW.TrodAll enc Tryz.prog W 0 (fun _ => true) true Tryz.f5.params.toList args.toList ds p := hA0;rw [Tryz.params5] at hA hval;obtain ⟨hargs, rfl, rfl⟩ := trodAll_nil hA;obtain rfl : args = #[] := by cases args; simp_all
 obtain ⟨rfl, rfl⟩ := trodVars_none hV;clear hA0 hval0;obtain ⟨hT, hE⟩ := zqae hL;refine (zql W hT hE).mono fun e W' ⟨he, bel⟩ => ?_
 subst he;exact ⟨_, rfl, _, _, _, [], _, [], hW', trodAll_mk1 (shut_bool Tryz.underlying4 _), trodAll_mk0, rfl, bel.frame _, fun h => by cases h⟩
theorem zqv : laidOutB Tryz.prog = true := by kernel_rfl
theorem zqt : mapsRowed Tryz.prog = true := by kernel_rfl
theorem zqo : Tryz.prog.inPlace 5 = Rows.groupNoneRow.inPlace := by kernel_rfl
theorem zqd : Tryz.prog.unfollowed 5 = Rows.groupNoneRow.unfollowed := by kernel_rfl
theorem zqp : Tryz.prog.varsNamed 5 = Rows.groupNoneRow.named := by kernel_rfl
theorem zqm : Tryz.prog.recurses 5 = Rows.groupNoneRow.recurses := by
 first
 | (unfold Program.recurses; rw [zqd]; rfl)
 | (rw [norec 5 (by decide), zqd]; rfl)
theorem zqf : Tryz.prog.funcs.any Func.goes = false := by kernel_rfl
theorem zqq : Tryz.prog.funcNamed "sapwood/sapwoodlaw26.GroupNone" = some 5 := by kernel_rfl
theorem zqj : false = Rows.groupNoneRow.goesBy Tryz.prog := by
 have h : ∀ f, Tryz.prog.goes f = false := fun f => by
  unfold Program.goes;rw [zqf, Bool.and_false, Bool.or_false, List.any_eq_false];intro g _
  cases hg : Tryz.prog.funcs[g]? with
  | none => simp
  | some fn =>
   have := Array.any_eq_false.1 zqf;obtain ⟨hi, rfl⟩ := Array.getElem?_eq_some_iff.1 hg
   simpa using this g hi
 show false = ((Tryz.prog.funcNamed Rows.groupNoneRow.func).any Tryz.prog.goes || false)
 cases Tryz.prog.funcNamed Rows.groupNoneRow.func with
 | none => rfl
 | some f => simp [h]
theorem zqg : joinedFacts Tryz.prog 5 Tryz.f5 (Rows.groupNoneSpec) Rows.groupNoneRow = true := by
 unfold joinedFacts;rw [may_enter, make_is, lifts_is, zqm, zqv, zqt, zqo, zqd, zqp]
 kernel_rfl
theorem groupNone_said : Rows.GroupNoneSaid :=
 OpenClaim.holds_of_wide 5 Tryz.f5 rfl rfl rfl rfl rfl rfl rfl ⟨rfl, rfl, rfl, rfl, rfl⟩ rfl rfl rfl rfl rfl zqa Tryz.func5 (by first | exact zqg | kernel_rfl)
  (of_decide_eq_true zqa) (by unfold Func.isWrapper; first | (rw [if_pos (by decide +kernel)]; kernel_rfl) | (rw [if_neg (by decide +kernel)]; exact ⟨rfl, rfl⟩))
  (fun os started H enc _ => groupNone_lifted os started H enc)
end Go.Proofs.YtnnnljcnnapnnaaGreatDoor
