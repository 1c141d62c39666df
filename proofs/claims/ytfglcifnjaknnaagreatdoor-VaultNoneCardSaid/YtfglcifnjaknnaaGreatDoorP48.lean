/-
The law VaultNone of layer 21 returns true; the listed tables of package sha and the listed handle of errors' type are tied to the program's text.
-/
import Derived.Test.YtfglcifnjaknnaaGreatDoorOw
import Derived.Test.YtfglcifnjaknnaaGreatDoorL13
import Derived.Test.YtfglcifnjaknnaaGreatDoorV14
import Derived.Test.YtfglcifnjaknnaaGreatDoorE15
import Derived.Test.YtfglcifnjaknnaaGreatDoorC16
import Derived.Test.YtfglcifnjaknnaaGreatDoorB17
import Derived.Test.YtfglcifnjaknnaaGreatDoorU19
import Derived.Test.YtfglcifnjaknnaaGreatDoorU20
import Derived.Test.YtfglcifnjaknnaaGreatDoorW21
set_option linter.unusedVariables false
set_option linter.unusedSimpArgs false
set_option maxRecDepth 100000
set_option maxHeartbeats 4000000
namespace Go.Proofs.YtfglcifnjaknnaaGreatDoor
open Go.ChangeShapes Go.WideShapes Go.ChangeAt Go.RowKit
open Go.ChangeMaps (open_string shut_string)
theorem vaultNone_lifted (os : Os) (started : os.Started) (H : Type) (enc : TypeId × Value -> H) :
  ReturnsInHanded {} Tryz.checked os 5 .any (fun w args => (Rows.vaultNoneSpec.pre enc Tryz.prog Tryz.f5 [] false w args /\ laidMetH Tryz.prog Rows.vaultNoneRow.laid w) /\ sizedMet enc Tryz.prog Tryz.f5 (OpenSpec.ofChange Rows.vaultNoneSpec) false w args)
   (Rows.vaultNoneSpec.post enc Tryz.prog Tryz.f5 false true false false) := by
 refine returnsInHanded_of_change_and (C := Tryz.checked) (X := fun w _ => laidMetH Tryz.prog Rows.vaultNoneRow.laid w) (fun _ _ _ hh h => h.of_heap hh) own started zqb Tryz.func5
  (ChangeSpec.witness_shaped (enc := enc) (C := Tryz.checked) (os := os) (X := fun w _ => laidMetH Tryz.prog Rows.vaultNoneRow.laid w) false (hwL os) #[] 8 (zrgk os)
   (World.shaped_of_ZipB zqb zqb) zqb zqb zqb
   (zq93 os _)) ?_
 intro W base args ds gs before hval0 hW _ _ hL _;have hval : ∀ (j : Nat) t v, Tryz.f5.params[j]? = some t -> args[j]? = some v -> Value.okWide Tryz.prog W .any base t v := hval0;have hW' := hW;obtain ⟨p, q, hA0, hV, rfl, hfz, hnd⟩ := hW;have hA : DataW.TrodAll enc Tryz.prog W 0 (fun _ => true) true Tryz.f5.params.toList args.toList ds p := hA0;rw [Tryz.params5] at hA hval;obtain ⟨hargs, rfl, rfl⟩ := trodAll_nil hA;obtain rfl : args = #[] := by cases args; simp_all
 obtain ⟨rfl, rfl⟩ := trodVars_none hV;clear hA0 hval0;obtain ⟨hT, hE⟩ := zq31 hL;refine (zqod (fun W h hE => zqsz (fun W h hE => zqta (fun W h hE => zqtk (fun W h hE => zqsd (fun W h hE => zqsc (fun W h hE => zqsv (fun W h hE => zqs1 (fun W h hE => zqru (fun W h hE => zqtb (fun W h hE => zqsp (fun W h hE => zqr3 (fun W h hE => zqrx (fun W h hE => zqtx (fun W h => zqr8 (fun W h => zqrl (fun W h => zqrt (fun W h => zqs0 (fun W h => zqsy aw12 W h) W h) W h) W h) W h) W h hE) W h hE) W h hE) W h hE) W h hE) W h hE) W h hE) W h hE) W h hE) W h hE) W h hE) W h hE) W h hE) W hT hE).mono fun e W' ⟨he, bel⟩ => ?_
 subst he;exact ⟨_, rfl, _, _, _, [], _, [], hW', trodAll_mk1 (shut_bool Tryz.underlying4 _), trodAll_mk0, rfl, bel.frame _, fun h => by cases h⟩
theorem zqki : joinedFacts Tryz.prog 5 Tryz.f5 (Rows.vaultNoneSpec) Rows.vaultNoneRow = true := by
 first
 | (unfold joinedFacts; rw [may_enter, make_is, zq6r]; first | (rw [zrkp 5 (by decide)]; kernel_rfl) | kernel_rfl)
 | kernel_rfl
theorem vaultNone_said : Rows.VaultNoneSaid :=
 OpenClaim.holds_of_wide 5 Tryz.f5 rfl rfl rfl rfl rfl rfl rfl ⟨rfl, rfl, rfl, rfl, rfl⟩ rfl rfl rfl rfl rfl zqb Tryz.func5 (by first | exact zqki | kernel_rfl)
  (of_decide_eq_true zqb) (by unfold Func.isWrapper; first | (rw [if_pos (by decide +kernel)]; kernel_rfl) | (rw [if_neg (by decide +kernel)]; exact ⟨rfl, rfl⟩))
  (fun os started H enc _ => vaultNone_lifted os started H enc)
theorem vaultNone_card : Rows.VaultNoneCardSaid :=
 Claim7.holds_tied_plain_at .later [] _ _ _ _ vaultNone_said (fun _ h => by cases h) zqb (fun _ h => by cases h) vaultNone_row_tie rfl ⟨rfl, rfl⟩ zqb rfl
  (fun f fn hf hfn => by
   obtain rfl : f = 5 := Option.some.inj ((show Tryz.prog.funcNamed "sapwood/sapwoodlaw21.VaultNone" = some 5 by kernel_rfl).symm.trans hf) |>.symm
   obtain rfl : fn = Tryz.f5 := (Option.some.inj (Tryz.func5.symm.trans hfn)).symm;exact ⟨by kernel_rfl, fun j t ht => by
    rw [Tryz.params5] at ht
    simp at ht⟩)
  zqb
end Go.Proofs.YtfglcifnjaknnaaGreatDoor
