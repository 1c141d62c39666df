/- Zr -/
import Derived.Test.YtnnnljcnnapnnaaGreatDoorOw
import Derived.Test.YtnnnljcnnapnnaaGreatDoorE15
import Derived.Test.YtnnnljcnnapnnaaGreatDoorZc
set_option linter.unusedVariables false
set_option linter.unusedSimpArgs false
set_option maxRecDepth 100000
set_option maxHeartbeats 4000000
namespace Go.Proofs.YtnnnljcnnapnnaaGreatDoor
open Go.ChangeShapes Go.WideShapes Go.ChangeAt Go.RowKit
open Go.ChangeMaps (open_string shut_string)
theorem mailFull_lifted (os : Os) (started : os.Started) (H : Type) (enc : TypeId × Value -> H) :
  ReturnsInHanded {} Tryz.checked os 3 .any (fun w args => (Rows.mailFullSpec.pre enc Tryz.prog Tryz.f3 [] false w args /\ laidMetH Tryz.prog Rows.mailFullRow.laid w) /\ sizedMet enc Tryz.prog Tryz.f3 (OpenSpec.ofChange Rows.mailFullSpec) false w args)
   (Rows.mailFullSpec.post enc Tryz.prog Tryz.f3 false true false false) := by
 refine returnsInHanded_of_change_and (C := Tryz.checked) (X := fun w _ => laidMetH Tryz.prog Rows.mailFullRow.laid w) (fun _ _ _ hh h => h.of_heap hh) own started zqa Tryz.func3
  (ChangeSpec.witness_shaped (enc := enc) (C := Tryz.checked) (os := os) (X := fun w _ => laidMetH Tryz.prog Rows.mailFullRow.laid w) false (hw6L os) #[] 8 (zqa7 os)
   (World.shaped_of_ZipB zqa zqa) zqa zqa zqa
   (zqar os _)) ?_
 intro W base args ds gs before hval0 hW _ _ hL _;have hval : ∀ (j : Nat) t v, Tryz.f3.params[j]? = some t -> args[j]? = some v -> Value.okWide Tryz.prog W .any base t v := hval0;have hW' := hW;obtain ⟨p, q, hA0, hV, rfl, hfz, hnd⟩ := hW;have hA : DataW.TrodAll enc Tryz.prog W 0 (fun _ => true) true Tryz.f3.params.toList args.toList ds p := hA0;rw [Tryz.params3] at hA hval;obtain ⟨hargs, rfl, rfl⟩ := trodAll_nil hA;obtain rfl : args = #[] := by cases args; simp_all
 obtain ⟨rfl, rfl⟩ := trodVars_none hV;clear hA0 hval0;obtain ⟨hT, hE⟩ := zqaw hL;refine (zqw W hT hE).mono fun e W' ⟨he, bel⟩ => ?_
 subst he;exact ⟨_, rfl, _, _, _, [], _, [], hW', trodAll_mk1 (shut_bool Tryz.underlying4 _), trodAll_mk0, rfl, bel.frame _, fun h => by cases h⟩
theorem zq3 : laidOutB Tryz.prog = true := by kernel_rfl
theorem zq5 : mapsRowed Tryz.prog = true := by kernel_rfl
theorem zqy : Tryz.prog.inPlace 3 = Rows.mailFullRow.inPlace := by kernel_rfl
theorem zqd : Tryz.prog.unfollowed 3 = Rows.mailFullRow.unfollowed := by kernel_rfl
theorem zqs : Tryz.prog.varsNamed 3 = Rows.mailFullRow.named := by kernel_rfl
theorem zqu : Tryz.prog.recurses 3 = Rows.mailFullRow.recurses := by
 first
 | (unfold Program.recurses; rw [zqd]; rfl)
 | (rw [norec 3 (by decide), zqd]; rfl)
theorem zqi : Tryz.prog.funcs.any Func.goes = false := by kernel_rfl
theorem zq7 : Tryz.prog.funcNamed "sapwood/sapwoodlaw25.MailFull" = some 3 := by kernel_rfl
theorem zql : false = Rows.mailFullRow.goesBy Tryz.prog := by
 have h : ∀ f, Tryz.prog.goes f = false := fun f => by
  unfold Program.goes;rw [zqi, Bool.and_false, Bool.or_false, List.any_eq_false];intro g _
  cases hg : Tryz.prog.funcs[g]? with
  | none => simp
  | some fn =>
   have := Array.any_eq_false.1 zqi;obtain ⟨hi, rfl⟩ := Array.getElem?_eq_some_iff.1 hg
   simpa using this g hi
 show false = ((Tryz.prog.funcNamed Rows.mailFullRow.func).any Tryz.prog.goes || false)
 cases Tryz.prog.funcNamed Rows.mailFullRow.func with
 | none => rfl
 | some f => simp [h]
theorem zqg : joinedFacts Tryz.prog 3 Tryz.f3 (Rows.mailFullSpec) Rows.mailFullRow = true := by
 unfold joinedFacts;rw [may_enter, make_is, lifts_is, zqu, zq3, zq5, zqy, zqd, zqs]
 kernel_rfl
theorem mailFull_said : Rows.MailFullSaid :=
 OpenClaim.holds_of_wide 3 Tryz.f3 rfl rfl rfl rfl rfl rfl rfl ⟨rfl, rfl, rfl, rfl, rfl⟩ rfl rfl rfl rfl rfl zqa Tryz.func3 (by first | exact zqg | kernel_rfl)
  (of_decide_eq_true zqa) (by unfold Func.isWrapper; first | (rw [if_pos (by decide +kernel)]; kernel_rfl) | (rw [if_neg (by decide +kernel)]; exact ⟨rfl, rfl⟩))
  (fun os started H enc _ => mailFull_lifted os started H enc)
end Go.Proofs.YtnnnljcnnapnnaaGreatDoor
